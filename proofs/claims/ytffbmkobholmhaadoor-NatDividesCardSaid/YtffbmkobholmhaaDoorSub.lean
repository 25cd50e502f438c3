/- nat's subtract and addProduct. -/
import Derived.Test.YtffbmkobholmhaaDoorAdd
namespace Go.Proofs.YtffbmkobholmhaaDoor
open Go.RowKit
set_option linter.unusedVariables false

def SubP (g o n t : Nat) (L m : List UInt32) (w w' : World) (e : Ending) : Prop :=
  ∃ (M : List UInt32) (k : Nat), e = .returned (.int .u32 k) ∧ k < 4294967296 ∧ far M L o n ∧ val (seg M o n) + val m * t = val (seg L o n) + bp n * k ∧ Ub w' g 45 M ∧ w.grownBy w' (some g)
theorem sub_step {M L m : List UInt32} {o k ow x t T s b : Nat} (hf : far M L o k) (hv : val (seg M o k) + val (m.take k) * t = val (seg L o k) + bp k * ow) (hkl : o + k < L.length) (hx : x = (L[o + k]).toNat)
    (hT : T = ow + lat m k * t) (how : ow < 4294967296) (ht : t < 4294967296) (hs : s = (x + 4294967296 - T % 4294967296) % 4294967296) (hb : b = brw x (T % 4294967296)) :
    far (M.set (o + k) (UInt32.ofNat s)) L o (k + 1) ∧ val (seg (M.set (o + k) (UInt32.ofNat s)) o (k + 1)) + val (m.take (k + 1)) * t = val (seg L o (k + 1)) + bp (k + 1) * (T / 4294967296 + b) ∧ T / 4294967296 + b < 4294967296 := by
  have hxl : x < 4294967296 := by rw [hx]; exact u32_lt _
  have hml := mul_le_max (lat_lt m k) ht
  have h1 := sub_owed (T := T) (l := x) (by omega) hxl
  have hb2 : (if x < T % 4294967296 then 1 else 0) = b := by rw [hb]; rfl
  rw [hb2, ← hs] at h1
  refine ⟨far_set hf _, ?_, h1.2⟩
  rw [val_seg_set (by rw [hf.1]; exact hkl), val_seg_snoc hkl, val_take_lat, u32_of _ (by omega), ← hx, bp_succ]
  refine sub_round hv ?_
  rw [← h1.1, hT]
  omega

set_option maxRecDepth 100000 in
set_option maxHeartbeats 1000000 in
theorem subtract_any (g o n c cb B t : Nat) (A : Option Addr) (L m : List UInt32) (w : World) (hu : Ub w g 45 L) (hon : o + n ≤ L.length) (hnc : n ≤ c) (hl : L.length ≤ 1000000) (hr : Rf uv w B A cb m) (hB : B ≤ w.heap.size) (hne : 0 < m.length → blk A ≠ some g) (hm : m.length ≤ n) (ht : t < 4294967296) :
    Calls Tryd.prog 50 #[.slice (some ⟨g, o, none⟩) n c, .slice A m.length cb, .int .u32 t] w fun e w' => SubP g o n t L m w w' e := by
  go_enter Tryd.func50, Tryd.ntmps50
  go_wp2_with fail
  go_loopw [7, 13] (fun x i wr => ∃ k ow : Nat, ∃ M : List UInt32, k ≤ n ∧ ow < 4294967296 ∧ i = .int .i64 k ∧ x = .int .u64 ow ∧ Hid (far M L o k) ∧ Hid (val (seg M o k) + val (m.take k) * t = val (seg L o k) + bp k * ow) ∧ Hid (Ub wr g 45 M) ∧ Hid (w.grownBy wr (some g))) (fun _ i _ => n - (intOf i).toNat)
  case atStart => exact ⟨0, 0, L, Nat.zero_le _, by omega, rfl, rfl, far_refl _ _ _, (by simp [seg_zero, val_nil, Hid]), hu, grown_refl _ _⟩
  case round =>
    obtain ⟨k, ow, M, hk, how, rfl, rfl, hf, hv, hub, hg⟩ := hrel
    by_cases hlt : k < n
    · have hkl : o + k < L.length := by omega
      have hcell := Ub.cell_far hub.out hf.out hkl (.inr (Nat.le_refl _))
      have hxlt := u32_lt L[o + k]
      have hfz := Ub.frozen hub.out (o + k)
      have hrr := hr.grown hg.out hB hne
      have hylt := lat_lt m k
      have hpl := mul_le_max hylt ht
      obtain ⟨x, hx⟩ : ∃ x, x = (L[o + k]).toNat := ⟨_, rfl⟩
      rw [← hx] at hcell hxlt
      obtain ⟨p, hp⟩ : ∃ p, p = lat m k * t := ⟨_, rfl⟩
      rw [← hp] at hpl
      obtain ⟨s, hs⟩ : ∃ s, s = (x + 4294967296 - (ow + p) % 4294967296) % 4294967296 := ⟨_, rfl⟩
      obtain ⟨b, hb⟩ : ∃ b, b = brw x ((ow + p) % 4294967296) := ⟨_, rfl⟩
      have HS := Lib.hid (sub_step (m := m) hf.out hv.out hkl hx (by rw [← hp]) how ht hs hb)
      have hs3 := HS.out.2.2
      have hsl : s < 4294967296 := by omega
      have hbl : b ≤ 1 := by rw [hb]; exact brw_le _ _
      have hsub : ∀ (W : World) (v : Int), v = (((ow + p) % 4294967296 : Nat) : Int) → Calls Tryd.prog 66 #[.int .u32 x, .int .u32 v, .int .u32 0] W fun e w' => e = .returned (.tuple #[.int .u32 s, .int .u32 b]) ∧ W = w' := by
        intro W v hv
        subst hv
        rw [hs, hb]
        exact sub32_any _ _ _ hxlt (by omega)
      have HSUB := Lib.hid hsub
      have HP : ((lat m k : Nat) : Int) * (t : Int) = (p : Int) := by rw [hp]; simp
      have hk0 : (0 : Int) ≤ (k : Int) := by omega
      have hk1 : (k : Int) < (n : Int) := by omega
      clear hx hs hb hsub hp
      go_wp2_with (first | (go_at_call 39; (with_reducible refine (limbAt_any _ _ _ _ _ _ hrr (by omega)).mono ?_); rintro e w' ⟨rfl, rfl⟩) | (go_at_call 66; (with_reducible refine (HSUB.out _ _ (by simp)).mono ?_); rintro e w' ⟨rfl, rfl⟩))
      go_roundw
      case rel => exact ⟨k + 1, (ow + p) / 4294967296 + b, _, by omega, by omega, by go_num, by go_num, HS.out.1, HS.out.2.1, Ub.set_ hub.out _ _ _ (by rw [u32_of _ (by omega)]), grown_setCell hg.out _ _⟩
      case measure => simp [intOf]; omega
    · obtain rfl : k = n := by omega
      go_wp2_with fail
      go_ret
      refine ⟨M, ow, by simp, how, hf.out, ?_, hub.out, hg.out⟩
      have e := hv.out
      rwa [val_take_ge hm] at e
end Go.Proofs.YtffbmkobholmhaaDoor
