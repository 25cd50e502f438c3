/- nat's add. -/
import Derived.Test.YtffbmkobholmhaaDoorTwo
import Derived.Deep.RegionLaw
import Derived.Deep.RegionHeld3
import Derived.StillTailTactics
import Derived.IntWalk
namespace Go.Proofs.YtffbmkobholmhaaDoor
open Go.RowKit
set_option linter.unusedVariables false

theorem Ub.cell_far {w : World} {g t o k p : Nat} {M L : List UInt32} (hu : Ub w g t M) (hf : far M L o k) (hp : p < L.length) (hd : p < o ∨ o + k ≤ p) : w.cell? ⟨g, p, none⟩ = some (.int .u32 ((L[p]).toNat : Int)) := by
  rw [hu.cell (i := p) (by rw [hf.1]; exact hp), far_get hf hp hd]
def AddP (g o n cb : Nat) (A : Option Addr) (L m : List UInt32) (w w' : World) (e : Ending) : Prop :=
  ∃ (M : List UInt32) (k : Nat), e = .returned (.int .u32 k) ∧ k ≤ 1 ∧ far M L o n ∧ val (seg M o n) + bp n * k = val (seg L o n) + val m ∧ Ub w' g 45 M ∧ w.grownBy w' (some g)

theorem add_step {M L m : List UInt32} {o k cr x : Nat} (hf : far M L o k) (hv : val (seg M o k) + bp k * cr = val (seg L o k) + val (m.take k)) (hkl : o + k < L.length) (hx : x = (L[o + k]).toNat) :
    far (M.set (o + k) (UInt32.ofNat ((x + lat m k + cr) % 4294967296))) L o (k + 1) ∧
    val (seg (M.set (o + k) (UInt32.ofNat ((x + lat m k + cr) % 4294967296))) o (k + 1)) + bp (k + 1) * ((x + lat m k + cr) / 4294967296) = val (seg L o (k + 1)) + val (m.take (k + 1)) := by
  refine ⟨far_set hf _, ?_⟩
  rw [val_seg_set (by rw [hf.1]; exact hkl), val_seg_snoc hkl, val_take_lat, u32_of _ (by omega), ← hx, bp_succ]
  exact add_round hv (by omega)
set_option maxRecDepth 100000 in
set_option maxHeartbeats 1000000 in
theorem add_any (g o n c cb B : Nat) (A : Option Addr) (L m : List UInt32) (w : World) (hu : Ub w g 45 L) (hon : o + n ≤ L.length) (hnc : n ≤ c) (hl : L.length ≤ 1000000) (hr : Rf uv w B A cb m) (hB : B ≤ w.heap.size) (hne : 0 < m.length → blk A ≠ some g) (hm : m.length ≤ n) :
    Calls Tryd.prog 47 #[.slice (some ⟨g, o, none⟩) n c, .slice A m.length cb] w fun e w' => AddP g o n cb A L m w w' e := by
  go_enter Tryd.func47, Tryd.ntmps47
  go_wp2_with fail
  go_loopw [5, 9] (fun x i wr => ∃ k cr : Nat, ∃ M : List UInt32, k ≤ n ∧ cr ≤ 1 ∧ i = .int .i64 k ∧ x = .int .u32 cr ∧ Hid (far M L o k) ∧ Hid (val (seg M o k) + bp k * cr = val (seg L o k) + val (m.take k)) ∧ Hid (Ub wr g 45 M) ∧ Hid (w.grownBy wr (some g))) (fun _ i _ => n - (intOf i).toNat)
  case atStart => exact ⟨0, 0, L, Nat.zero_le _, by omega, rfl, rfl, far_refl _ _ _, (by simp [seg_zero, val_nil, Hid]), hu, grown_refl _ _⟩
  case round =>
    obtain ⟨k, cr, M, hk, hcr, rfl, rfl, hf, hv, hub, hg⟩ := hrel
    by_cases hlt : k < n
    · have hkl : o + k < L.length := by omega
      have hcell := Ub.cell_far hub.out hf.out hkl (.inr (Nat.le_refl _))
      have hxlt := u32_lt L[o + k]
      have hfz := Ub.frozen hub.out (o + k)
      have hrr := hr.grown hg.out hB hne
      have hylt := lat_lt m k
      obtain ⟨x, hx⟩ : ∃ x, x = (L[o + k]).toNat := ⟨_, rfl⟩
      rw [← hx] at hcell hxlt
      have HX := Lib.hid hx
      have HS := Lib.hid (add_step (m := m) hf.out hv.out hkl hx)
      clear hx
      have hk0 : (0 : Int) ≤ (k : Int) := by omega
      have hk1 : (k : Int) < (n : Int) := by omega
      go_wp2_with fail
      go_region_law (first | (go_simp; go_at_call 39; (with_reducible refine (limbAt_any _ _ _ _ _ _ hrr.drew (by omega)).mono ?_); rintro e w' ⟨rfl, rfl⟩) | (go_simp; go_at_call 64; (with_reducible refine (add32_any _ _ _ _ hxlt hylt (by omega)).mono ?_); rintro e w' ⟨rfl, rfl⟩))
      all_goals
        go_wp2_with fail
        go_roundw
        case rel => exact ⟨k + 1, (x + lat m k + cr) / 4294967296, _, by omega, by omega, by go_num, by go_num, HS.out.1, HS.out.2, Ub.set_ (Ub.drew hub.out) _ _ _ (by rw [u32_of _ (by omega)]; simp), grown_setCell (grown_drew hg.out) _ _⟩
        case measure => simp [intOf]; omega
    · obtain rfl : k = n := by omega
      go_wp2_with fail
      go_ret
      refine ⟨M, cr, rfl, hcr, hf.out, ?_, hub.out, hg.out⟩
      have e := hv.out
      rwa [val_take_ge hm] at e
end Go.Proofs.YtffbmkobholmhaaDoor
