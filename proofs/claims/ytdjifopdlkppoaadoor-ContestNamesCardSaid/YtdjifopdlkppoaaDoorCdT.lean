/- contest's Same. -/
import Derived.Test.YtdjifopdlkppoaaDoorCdC
namespace Go.Proofs.YtdjifopdlkppoaaDoor
open Go.RowKit
set_option linter.unusedVariables false

set_option maxRecDepth 100000 in
set_option maxHeartbeats 1000000 in
theorem same_any (x y : Ct) (A A2 : Option Addr) (c c2 : Nat) (w : World) (hx : CtOk w A c x) (hy : CtOk w A2 c2 y) :
    Calls Tryd.prog 31 #[cv A c x, cv A2 c2 y] w fun e w' => e = .returned (.bool (decide (x = y))) ∧ Below w.heap.size w w' := by
  have hbw := fun (o o2 : Obj) => (below_new w o).trans ((below_new (w.alloc o) o2).mono (by simp))
  have HN := Lib.hid (fun (h : x ≠ y) => show decide (x = y) = false by simpa using h)
  have HEQ := Lib.hid (fun wx (hb : Below w.heap.size w wx) => equal_any x.cands y.cands A A2 c c2 wx (hx.below hb).rd (hy.below hb).rd)
  clear hx hy
  obtain ⟨n, l, s, r⟩ := x
  obtain ⟨n2, l2, s2, r2⟩ := y
  unfold cv cvs
  simp only at HEQ ⊢
  by_cases h1 : n = n2
  case neg =>
    have h1d : (n == n2) = false := by rw [beq_eq_false_iff_ne]; exact h1
    have HB := Lib.hid (HN.out (fun e => h1 (Ct.mk.inj e).1))
    clear HN
    go_enter Tryd.func31, Tryd.ntmps31
    go_wp2_with fail
    go_ret
    exact ⟨by rw [HB.out] <;> rfl, hbw _ _⟩
  subst h1
  by_cases h4 : l = l2
  case neg =>
    have h4d := Lib.hid (decide_eq_false h4)
    have HB := Lib.hid (HN.out (fun e => h4 (Ct.mk.inj e).2.1))
    clear h4 HN
    go_enter Tryd.func31, Tryd.ntmps31
    go_wp2_with fail
    refine (HEQ.out _ (hbw _ _)).mono ?_
    rintro e w1 ⟨rfl, q, rfl⟩
    rw [h4d.out]
    go_wp2_with fail
    go_ret
    exact ⟨by rw [HB.out] <;> rfl, (hbw _ _).trans (below_drewN _ _ _)⟩
  subst h4
  have h4d := Lib.hid (decide_eq_true (rfl : l = l))
  by_cases h2 : s = s2
  case neg =>
    have h2d : (s == s2) = false := by rw [beq_eq_false_iff_ne]; exact h2
    have HB := Lib.hid (HN.out (fun e => h2 (Ct.mk.inj e).2.2.1))
    clear HN
    go_enter Tryd.func31, Tryd.ntmps31
    go_wp2_with fail
    refine (HEQ.out _ (hbw _ _)).mono ?_
    rintro e w1 ⟨rfl, q, rfl⟩
    rw [h4d.out]
    go_wp2_with fail
    go_ret
    exact ⟨by rw [HB.out] <;> rfl, (hbw _ _).trans (below_drewN _ _ _)⟩
  subst h2
  by_cases h3 : r = r2
  case neg =>
    have h3d : ((r : Int) == (r2 : Int)) = false := by rw [beq_eq_false_iff_ne]; omega
    have HB := Lib.hid (HN.out (fun e => h3 (Ct.mk.inj e).2.2.2))
    have h3p : ¬ (r : Int) = (r2 : Int) := by omega
    clear h3 HN
    go_enter Tryd.func31, Tryd.ntmps31
    go_wp2_with fail
    refine (HEQ.out _ (hbw _ _)).mono ?_
    rintro e w1 ⟨rfl, q, rfl⟩
    rw [h4d.out]
    go_wp2_with fail
    go_ret
    exact ⟨by rw [HB.out] <;> rfl, (hbw _ _).trans (below_drewN _ _ _)⟩
  subst h3
  have HD := Lib.hid (show decide ((⟨n, l, s, r⟩ : Ct) = ⟨n, l, s, r⟩) = true from decide_eq_true rfl)
  go_enter Tryd.func31, Tryd.ntmps31
  go_wp2_with fail
  refine (HEQ.out _ (hbw _ _)).mono ?_
  rintro e w1 ⟨rfl, q, rfl⟩
  rw [h4d.out]
  go_wp2_with fail
  go_ret
  exact ⟨by rw [HD.out] <;> rfl, (hbw _ _).trans (below_drewN _ _ _)⟩
end Go.Proofs.YtdjifopdlkppoaaDoor
