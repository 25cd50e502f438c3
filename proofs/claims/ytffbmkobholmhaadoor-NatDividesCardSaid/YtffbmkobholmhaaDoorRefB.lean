/- The reference's Trim, plus, minus, Of, Word, Cmp. -/
import Derived.Test.YtffbmkobholmhaaDoorRefA
namespace Go.Proofs.YtffbmkobholmhaaDoor
open Go.RowKit
set_option linter.unusedVariables false

theorem rat_n (A : Option Addr) (n c B : Nat) (xs : List UInt32) (i v : Nat) (w : World) (hr : Rf uv w B A c xs) (hn : n = xs.length) (hi : i ≤ 4000000000) (hv : lat xs i = v) : Calls Tryd.prog 65 #[.slice A n c, .int .i64 i] w fun e w' => e = .returned (.int .u64 v) ∧ w = w' := by
  subst hn hv
  exact rat_any A c B xs i w hr hi
/-- A limb behind a list that the call owns. -/
theorem ro_one (w : World) (x : UInt32) (v : Int) (hv : v = (x.toNat : Int)) : Rf uv (w.alloc (.cells #[.int .u32 v] 45)) (w.heap.size + 1) (some ⟨w.heap.size, 0, none⟩) 1 [x] := by
  subst hv
  exact rf_one (f := uv) w x 45
theorem ow_below {w w' : World} {base c : Nat} {A : Option Addr} {l : List UInt32} (h : Ow uv w base 45 A c l) (hw : Below base w w') : True := trivial
/-- What stands behind an append of one limb. -/
theorem push_grown {w wr w2 : World} {A A2 : Option Addr} {o : Obj} (hg1 : w.grownBy wr none) (hb1 : ∀ g, blk A = some g → w.heap.size ≤ g) (hg2 : (wr.alloc o).grownBy w2 (blk A)) (hb2 : blk A2 = blk A ∨ blk A2 = some (wr.alloc o).heap.size) :
    w.grownBy w2 none ∧ ∀ g, blk A2 = some g → w.heap.size ≤ g := by
  refine ⟨grown_step' (hg1.trans (World.grownBy_alloc _ _ _)) hg2 (fun g hg => .inr (hb1 g hg)), fun g hg => ?_⟩
  rcases hb2 with e | e
  · exact hb1 g (e ▸ hg)
  · rw [e] at hg
    have h1 := Option.some.inj hg
    have := hg1.size
    simp at h1
    omega
theorem below_of_none {w w2 : World} (h : w.grownBy w2 none) : Below w.heap.size w w2 := below_of_grown h (Nat.le_refl _) (by simp)

set_option maxRecDepth 100000 in
set_option maxHeartbeats 1000000 in
theorem rtrim_any (A : Option Addr) (c n : Nat) (L : List UInt32) (w : World) (hr : Rf uv w w.heap.size A c L) (hl : L.length ≤ 1000000) (hn : L.length = n) :
    Calls Tryd.prog 54 #[.slice A n c] w fun e w' => NumP w w' (limbs (val L)) e := by
  subst hn
  obtain ⟨i0, hi, hz0, hz1, hz2⟩ := info_parts uInfo
  have hro := (hr.alloc (Nat.le_refl _) (.cells #[] 45))
  have hoz := ow_zero (f := uv) w 45 w.heap.size (Nat.le_refl _)
  go_enter Tryd.func54, Tryd.ntmps54
  go_wp2_with (at_builtin; refine wpList_append_f _ uv_one rfl _ _ 22 rfl w.heap.size 45 4 i0 _ Tryd.underlying22 hi hz0 hz1 hz2 (by decide) rfl [] L rfl rfl hoz hro (by simp; omega) (by simp) ?_; intro A2 c2 w2 r2 hr2 hown2 hg2 hb2)
  have e2 : r2 = L := by have := hr2.out; simpa using this
  subst e2
  have hBL : Below w.heap.size w w2 := (below_new w _).trans (below_of_grown hg2 (by simp) (by simp [blk]))
  have HBL := Lib.hid hBL
  have hrd := hown2.rd
  have hcap := hrd.cap
  have hcm := hrd.capm
  unfold maxLen at hcm
  have HRD := Lib.hid hrd
  clear hr2 hg2 hb2 hBL hro hoz
  go_loop [3] (fun v => ∃ k : Nat, k ≤ r2.length ∧ v = .slice A2 k c2 ∧ Hid (val r2 = val (r2.take k))) (fun v => match v with | .slice _ n _ => n | _ => 0)
  case atStart => exact ⟨r2.length, Nat.le_refl _, rfl, (val_take_len r2).symm⟩
  case round =>
    obtain ⟨k, hk, rfl, hv⟩ := hrel
    by_cases h0 : k = 0
    · subst h0
      have HZ := Lib.hid (show limbs (val r2) = [] by rw [hv.out]; exact limbs_zero)
      go_wp2_with fail
      go_ret
      rw [HZ.out]
      refine ⟨A2, c2, rfl, ?_, HBL.out⟩
      exact ⟨by simp, HRD.out.capm, HRD.out.nil, fun ad e j hj => by simp at hj⟩
    · obtain ⟨j, rfl⟩ : ∃ j, k = j + 1 := ⟨k - 1, by omega⟩
      have hj : j < r2.length := by omega
      obtain ⟨b, o, rfl, hb, hc⟩ := HRD.out.at_ hj
      have hcj := hc j hj
      unfold uv at hcj
      have HV := val_take_succ hj
      by_cases hx : r2[j] = 0
      · have HN : Hid (val r2 = val (r2.take j)) := by
          show val r2 = _
          rw [hv.out, HV, hx]; simp
        have HX : ((r2[j]).toNat : Int) = 0 := by rw [hx]; rfl
        rw [HX] at hcj
        clear HV hx hc HX
        go_wp2_with fail
        go_round
        case rel => exact ⟨j, by omega, by simp, HN⟩
        case measure => simp
      · have hx2 : (r2[j]).toNat ≠ 0 := fun e => hx (u32_eq (by rw [e]; rfl))
        have HP := Lib.hid (limbs_prefix r2 (j + 1) hv.out (.inr ⟨j, rfl, hj, hx⟩))
        have HX : (((r2[j]).toNat : Int) == 0) = false := by rw [beq_eq_false_iff_ne]; omega
        clear HV hx hc hx2
        go_wp2_with fail
        go_ret
        rw [HP.out]
        have hlen : (r2.take (j + 1)).length = j + 1 := by rw [List.length_take]; omega
        refine ⟨some ⟨b, o, none⟩, c2, by rw [hlen]; rfl, ?_, HBL.out⟩
        have e3 := HRD.out.trim
        rw [HP.out] at e3
        exact ⟨by rw [hlen]; omega, HRD.out.capm, HRD.out.nil, e3.cell⟩
end Go.Proofs.YtffbmkobholmhaaDoor
