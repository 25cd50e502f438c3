/- The reference's Is, One, Lists, KindOf, Kind, Marks, Most. -/
import Derived.Test.YtdjifopdlkppoaaDoorRefN
namespace Go.Proofs.YtdjifopdlkppoaaDoor
open Go.RowKit
set_option linter.unusedVariables false

theorem refIs_any (r : Nat) (w : World) (hr : r ≤ 255) :
    Calls Tryd.prog 51 #[.int .u8 r] w fun e w' => e = .returned (.bool (ruleB r)) ∧ w = w' := by
  by_cases h1 : 1 ≤ r
  · have h1d : decide ((1 : Int) ≤ (r : Int)) = true := by simp; omega
    have h1e : decide (1 ≤ r) = true := by simp; omega
    by_cases h2 : r ≤ 16
    · have h2d : decide ((r : Int) ≤ 16) = true := by simp; omega
      have HB := Lib.hid (show ruleB r = true by simp [ruleB]; omega)
      clear h1 h2 h1e
      go_enter Tryd.func51, Tryd.ntmps51
      go_wp2_with fail
      go_ret
      exact ⟨by rw [HB.out]; rfl, rfl⟩
    · have h2d : decide ((r : Int) ≤ 16) = false := by simp; omega
      have HB := Lib.hid (show ruleB r = false by simp [ruleB]; omega)
      clear h1 h2 h1e
      go_enter Tryd.func51, Tryd.ntmps51
      go_wp2_with fail
      go_ret
      exact ⟨by rw [HB.out]; rfl, rfl⟩
  · have h1d : decide ((1 : Int) ≤ (r : Int)) = false := by simp; omega
    have HB := Lib.hid (show ruleB r = false by simp [ruleB]; omega)
    clear h1
    go_enter Tryd.func51, Tryd.ntmps51
    go_wp2_with fail
    go_ret
    exact ⟨by rw [HB.out]; rfl, rfl⟩

theorem refOne_any (r : Nat) (w : World) (hr : r ≤ 255) :
    Calls Tryd.prog 64 #[.int .u8 r] w fun e w' => e = .returned (.bool (oneB r)) ∧ w = w' := by
  by_cases h1 : 5 ≤ r
  · have h1d : decide ((5 : Int) ≤ (r : Int)) = true := by simp; omega
    have h1e : decide (5 ≤ r) = true := by simp; omega
    by_cases h2 : r ≤ 10
    · have h2d : decide ((r : Int) ≤ 10) = true := by simp; omega
      have HB := Lib.hid (show oneB r = true by simp [oneB]; omega)
      clear h1 h2 h1e
      go_enter Tryd.func64, Tryd.ntmps64
      go_wp2_with fail
      go_ret
      exact ⟨by rw [HB.out]; rfl, rfl⟩
    · have h2d : decide ((r : Int) ≤ 10) = false := by simp; omega
      have HB := Lib.hid (show oneB r = false by simp [oneB]; omega)
      clear h1 h2 h1e
      go_enter Tryd.func64, Tryd.ntmps64
      go_wp2_with fail
      go_ret
      exact ⟨by rw [HB.out]; rfl, rfl⟩
  · have h1d : decide ((5 : Int) ≤ (r : Int)) = false := by simp; omega
    have HB := Lib.hid (show oneB r = false by simp [oneB]; omega)
    clear h1
    go_enter Tryd.func64, Tryd.ntmps64
    go_wp2_with fail
    go_ret
    exact ⟨by rw [HB.out]; rfl, rfl⟩

theorem refLists_any (r : Nat) (w : World) (hr : r ≤ 255) :
    Calls Tryd.prog 65 #[.int .u8 r] w fun e w' => e = .returned (.bool (listsB r)) ∧ w = w' := by
  by_cases h1 : 14 ≤ r
  · have h1d : decide ((14 : Int) ≤ (r : Int)) = true := by simp; omega
    have h1e : decide (14 ≤ r) = true := by simp; omega
    by_cases h2 : r ≤ 16
    · have h2d : decide ((r : Int) ≤ 16) = true := by simp; omega
      have HB := Lib.hid (show listsB r = true by simp [listsB]; omega)
      clear h1 h2 h1e
      go_enter Tryd.func65, Tryd.ntmps65
      go_wp2_with fail
      go_ret
      exact ⟨by rw [HB.out]; rfl, rfl⟩
    · have h2d : decide ((r : Int) ≤ 16) = false := by simp; omega
      have HB := Lib.hid (show listsB r = false by simp [listsB]; omega)
      clear h1 h2 h1e
      go_enter Tryd.func65, Tryd.ntmps65
      go_wp2_with fail
      go_ret
      exact ⟨by rw [HB.out]; rfl, rfl⟩
  · have h1d : decide ((14 : Int) ≤ (r : Int)) = false := by simp; omega
    have HB := Lib.hid (show listsB r = false by simp [listsB]; omega)
    clear h1
    go_enter Tryd.func65, Tryd.ntmps65
    go_wp2_with fail
    go_ret
    exact ⟨by rw [HB.out]; rfl, rfl⟩

set_option maxHeartbeats 400000 in
theorem refKindOf_any (r : Nat) (w : World) (hr : r ≤ 255) :
    Calls Tryd.prog 52 #[.int .u8 r] w fun e w' => e = .returned (.int .u8 (kindM r)) ∧ w = w' := by
  by_cases h1 : r = 1
  · subst h1
    go_enter Tryd.func52, Tryd.ntmps52
    go_wp2_with fail
    go_ret
    exact ⟨rfl, rfl⟩
  by_cases h2 : r = 2
  · subst h2
    go_enter Tryd.func52, Tryd.ntmps52
    go_wp2_with fail
    go_ret
    exact ⟨rfl, rfl⟩
  by_cases h13 : r = 13
  · subst h13
    go_enter Tryd.func52, Tryd.ntmps52
    go_wp2_with fail
    go_ret
    exact ⟨rfl, rfl⟩
  by_cases h14 : r = 14
  · subst h14
    go_enter Tryd.func52, Tryd.ntmps52
    go_wp2_with fail
    go_ret
    exact ⟨rfl, rfl⟩
  by_cases h15 : r = 15
  · subst h15
    go_enter Tryd.func52, Tryd.ntmps52
    go_wp2_with fail
    go_ret
    exact ⟨rfl, rfl⟩
  by_cases h16 : r = 16
  · subst h16
    go_enter Tryd.func52, Tryd.ntmps52
    go_wp2_with fail
    go_ret
    exact ⟨rfl, rfl⟩
  by_cases h3 : r = 3
  · subst h3
    go_enter Tryd.func52, Tryd.ntmps52
    go_wp2_with fail
    go_ret
    exact ⟨rfl, rfl⟩
  have d1 : ((r : Int) == 1) = false := by simp; omega
  have d2 : ((r : Int) == 2) = false := by simp; omega
  have d13 : ((r : Int) == 13) = false := by simp; omega
  have d14 : ((r : Int) == 14) = false := by simp; omega
  have d15 : ((r : Int) == 15) = false := by simp; omega
  have d16 : ((r : Int) == 16) = false := by simp; omega
  have d3 : ((r : Int) == 3) = false := by simp; omega
  have HB := Lib.hid (show kindM r = 1 by unfold kindM; rw [if_neg (by omega), if_neg (by omega)])
  clear h1 h2 h13 h14 h15 h16 h3
  go_enter Tryd.func52, Tryd.ntmps52
  go_wp2_with fail
  go_ret
  exact ⟨by rw [HB.out]; rfl, rfl⟩

set_option maxHeartbeats 400000 in
theorem refKind_any (r : Nat) (w : World) (hr : r ≤ 255) :
    Calls Tryd.prog 34 #[.int .u8 r] w fun e w' => e = .returned (.tuple #[.int .u8 ((kindE r).1 : Nat), .int .i64 (kindE r).2]) ∧ w = w' := by
  go_enter Tryd.func34, Tryd.ntmps34
  go_wp2_with fail
  refine (refIs_any r _ hr).mono ?_
  rintro e w1 ⟨rfl, rfl⟩
  cases hb : ruleB r with
  | false =>
    have HB := Lib.hid (show kindE r = (0, 2) by unfold kindE; rw [hb]; rfl)
    clear hb
    go_wp2_with fail
    go_ret2
    exact ⟨by rw [HB.out] <;> rfl, rfl⟩
  | true =>
    have HB := Lib.hid (show kindE r = (kindM r, 0) by unfold kindE; rw [hb]; rfl)
    clear hb
    go_wp2_with fail
    refine (refKindOf_any r _ hr).mono ?_
    rintro e w1 ⟨rfl, rfl⟩
    go_wp2_with fail
    go_ret2
    exact ⟨by rw [HB.out] <;> rfl, rfl⟩

set_option maxHeartbeats 400000 in
theorem refMarks_any (r : Nat) (n : Int) (w : World) (hr : r ≤ 16) (hn : 1 ≤ n ∧ n ≤ 10) :
    Calls Tryd.prog 53 #[.int .u8 r, .int .i64 n] w fun e w' => e = .returned (.int .i64 (marksM r n)) ∧ w = w' := by
  by_cases h1 : r = 1
  · subst h1
    go_enter Tryd.func53, Tryd.ntmps53
    go_wp2_with fail
    go_ret
    exact ⟨rfl, rfl⟩
  · have h1d : decide ((r : Int) = 1) = false := by simp; omega
    have h1i : ¬ (r : Int) = 1 := by omega
    cases hl : listsB r with
    | true =>
      have HL := Lib.hid hl
      have HB := Lib.hid (show marksM r n = 1 by unfold marksM; simp [listsB] at hl; rw [if_pos (by omega)])
      clear hl h1
      go_enter Tryd.func53, Tryd.ntmps53
      go_wp2_with fail
      refine (refLists_any r _ (by omega)).mono ?_
      rintro e w1 ⟨rfl, rfl⟩
      rw [HL.out]
      go_wp2_with fail
      go_ret
      exact ⟨by rw [HB.out] <;> rfl, rfl⟩
    | false =>
      have HL := Lib.hid hl
      have HB := Lib.hid (show marksM r n = n by unfold marksM; simp [listsB] at hl; rw [if_neg (by omega)])
      clear hl h1
      go_enter Tryd.func53, Tryd.ntmps53
      go_wp2_with fail
      refine (refLists_any r _ (by omega)).mono ?_
      rintro e w1 ⟨rfl, rfl⟩
      rw [HL.out]
      go_wp2_with fail
      go_ret
      exact ⟨by rw [HB.out] <;> rfl, rfl⟩

set_option maxHeartbeats 400000 in
theorem refMost_any (r : Nat) (n : Int) (w : World) (hr : r ≤ 255) (hn : (Lit.int .i64 n).wf = true) :
    Calls Tryd.prog 36 #[.int .u8 r, .int .i64 n] w fun e w' => e = .returned (.tuple #[.int .i64 (mostM r n).1, .int .i64 (mostM r n).2]) ∧ w = w' := by
  cases hb : ruleB r with
  | false =>
    have HR := Lib.hid hb
    have HB := Lib.hid (show mostM r n = (0, 2) by unfold mostM; rw [hb]; rfl)
    clear hb
    go_enter Tryd.func36, Tryd.ntmps36
    go_wp2_with fail
    refine (refIs_any r _ hr).mono ?_
    rintro e w1 ⟨rfl, rfl⟩
    rw [HR.out]
    go_wp2_with fail
    go_ret2
    exact ⟨by rw [HB.out] <;> rfl, rfl⟩
  | true =>
    have HR := Lib.hid hb
    by_cases h1 : n < 1
    · have h1d : decide (n < 1) = true := by simp; omega
      have HB := Lib.hid (show mostM r n = (0, 2) by unfold mostM; rw [hb, show decide (1 ≤ n) = false by simp; omega]; rfl)
      clear hb h1
      go_enter Tryd.func36, Tryd.ntmps36
      go_wp2_with fail
      refine (refIs_any r _ hr).mono ?_
      rintro e w1 ⟨rfl, rfl⟩
      rw [HR.out]
      go_wp2_with fail
      go_ret2
      exact ⟨by rw [HB.out] <;> rfl, rfl⟩
    · have h1d : decide (n < 1) = false := by simp; omega
      by_cases h2 : 10 < n
      · have h2d : decide (10 < n) = true := by simp; omega
        have HB := Lib.hid (show mostM r n = (0, 2) by unfold mostM; rw [hb, show decide (n ≤ 10) = false by simp; omega]; simp)
        clear hb h1 h2
        go_enter Tryd.func36, Tryd.ntmps36
        go_wp2_with fail
        refine (refIs_any r _ hr).mono ?_
        rintro e w1 ⟨rfl, rfl⟩
        rw [HR.out]
        go_wp2_with fail
        go_ret2
        exact ⟨by rw [HB.out] <;> rfl, rfl⟩
      · have h2d : decide (10 < n) = false := by simp; omega
        have HB := Lib.hid (show mostM r n = (marksM r n, 0) by unfold mostM; rw [hb, show decide (1 ≤ n) = true by simp; omega, show decide (n ≤ 10) = true by simp; omega]; rfl)
        have HM := Lib.hid (show 1 ≤ n ∧ n ≤ 10 from ⟨by omega, by omega⟩)
        have h16 := ((ruleB_iff r).1 hb).2
        clear hb h1 h2
        go_enter Tryd.func36, Tryd.ntmps36
        go_wp2_with fail
        refine (refIs_any r _ hr).mono ?_
        rintro e w1 ⟨rfl, rfl⟩
        rw [HR.out]
        go_wp2_with fail
        refine (refMarks_any r n _ h16 HM.out).mono ?_
        rintro e w1 ⟨rfl, rfl⟩
        go_wp2_with fail
        go_ret2
        exact ⟨by rw [HB.out] <;> rfl, rfl⟩
end Go.Proofs.YtdjifopdlkppoaaDoor
