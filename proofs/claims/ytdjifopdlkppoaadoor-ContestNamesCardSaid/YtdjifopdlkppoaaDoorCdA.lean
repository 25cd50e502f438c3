/- contest's isRule, mostSeats, Kind, Most, Word, Rule. -/
import Derived.Test.YtdjifopdlkppoaaDoorTabC
namespace Go.Proofs.YtdjifopdlkppoaaDoor
open Go.RowKit
set_option linter.unusedVariables false

theorem isRule_any (r : Nat) (w : World) (hr : r ≤ 255) :
    Calls Tryd.prog 50 #[.int .u8 r] w fun e w' => e = .returned (.bool (ruleB r)) ∧ w = w' := by
  by_cases h1 : 1 ≤ r
  · have h1d : decide ((1 : Int) ≤ (r : Int)) = true := by simp; omega
    by_cases h2 : r ≤ 16
    · have h2d : decide ((r : Int) < 17) = true := by simp; omega
      have HB := Lib.hid ((ruleB_iff r).2 ⟨h1, h2⟩)
      clear h1 h2
      go_enter Tryd.func50, Tryd.ntmps50
      go_wp2_with fail
      go_ret
      exact ⟨by rw [HB.out] <;> rfl, rfl⟩
    · have h2d : decide ((r : Int) < 17) = false := by simp; omega
      have HB := Lib.hid (Bool.eq_false_iff.2 (fun e => h2 ((ruleB_iff r).1 e).2))
      clear h1 h2
      go_enter Tryd.func50, Tryd.ntmps50
      go_wp2_with fail
      go_ret
      exact ⟨by rw [HB.out] <;> rfl, rfl⟩
  · have h1d : decide ((1 : Int) ≤ (r : Int)) = false := by simp; omega
    have HB := Lib.hid (Bool.eq_false_iff.2 (fun e => h1 ((ruleB_iff r).1 e).1))
    clear h1
    go_enter Tryd.func50, Tryd.ntmps50
    go_wp2_with fail
    go_ret
    exact ⟨by rw [HB.out] <;> rfl, rfl⟩

/-- The most seats that a contest of a rule with n candidates fills. -/
def mostSeatsM (r : Nat) (n : Int) : Int := if oneB r then 1 else if listsB r then 10 else min n 10

set_option maxHeartbeats 400000 in
theorem mostSeats_any (r : Nat) (n : Int) (w : World) (hr : ruleB r = true) (hn : (Lit.int .i64 n).wf = true) (hT : Tab w) :
    Calls Tryd.prog 60 #[.int .u8 r, .int .i64 n] w fun e w' => e = .returned (.int .i64 (mostSeatsM r n)) ∧ w = w' := by
  have hb := (ruleB_iff r).1 hr
  have hc := hT.seats (r := r) (by omega)
  cases h1 : oneB r with
  | true =>
    have HB := Lib.hid (show mostSeatsM r n = 1 by unfold mostSeatsM; rw [h1]; rfl)
    rw [show seatsT r = 0 by unfold seatsT; rw [if_neg (by omega), h1]; rfl] at hc
    clear h1 hr
    go_enter Tryd.func60, Tryd.ntmps60
    go_wp2_with fail
    go_ret
    exact ⟨by rw [HB.out] <;> rfl, rfl⟩
  | false =>
    cases h2 : listsB r with
    | true =>
      have HB := Lib.hid (show mostSeatsM r n = 10 by unfold mostSeatsM; rw [h1, h2]; rfl)
      rw [show seatsT r = 2 by unfold seatsT; rw [if_neg (by omega), h1, h2]; rfl] at hc
      clear h1 h2 hr
      go_enter Tryd.func60, Tryd.ntmps60
      go_wp2_with fail
      go_ret
      exact ⟨by rw [HB.out] <;> rfl, rfl⟩
    | false =>
      have HB := Lib.hid (show mostSeatsM r n = min n 10 by unfold mostSeatsM; rw [h1, h2]; rfl)
      rw [show seatsT r = 1 by unfold seatsT; rw [if_neg (by omega), h1, h2]; rfl] at hc
      clear h1 h2 hr
      go_enter Tryd.func60, Tryd.ntmps60
      go_wp2_with fail
      go_ret
      exact ⟨by rw [HB.out] <;> rfl, rfl⟩

set_option maxHeartbeats 400000 in
theorem kind_any (r : Nat) (w : World) (hr : r ≤ 255) (hT : Tab w) :
    Calls Tryd.prog 33 #[.int .u8 r] w fun e w' => e = .returned (.tuple #[.int .u8 ((kindE r).1 : Nat), .int .i64 (kindE r).2]) ∧ w = w' := by
  go_enter Tryd.func33, Tryd.ntmps33
  go_wp2_with fail
  refine (isRule_any r _ hr).mono ?_
  rintro e w1 ⟨rfl, rfl⟩
  cases hb : ruleB r with
  | false =>
    have HB := Lib.hid (show kindE r = (0, 2) by unfold kindE; rw [hb]; rfl)
    clear hb
    go_wp2_with fail
    go_ret2
    exact ⟨by rw [HB.out] <;> rfl, rfl⟩
  | true =>
    have HB := Lib.hid (show kindE r = (kindM r, 0) by unfold kindE; rw [hb]; rfl)
    have hb2 := (ruleB_iff r).1 hb
    have hc := hT.kind (r := r) (by omega)
    rw [show kindT r = kindM r by unfold kindT; rw [if_neg (by omega)]] at hc
    clear hb
    go_wp2_with fail
    go_ret2
    exact ⟨by rw [HB.out] <;> rfl, rfl⟩

set_option maxHeartbeats 400000 in
theorem most_any (r : Nat) (n : Int) (w : World) (hr : r ≤ 255) (hn : (Lit.int .i64 n).wf = true) (hT : Tab w) :
    Calls Tryd.prog 35 #[.int .u8 r, .int .i64 n] w fun e w' => e = .returned (.tuple #[.int .i64 (mostM r n).1, .int .i64 (mostM r n).2]) ∧ w = w' := by
  cases hb : ruleB r with
  | false =>
    have HR := Lib.hid hb
    have HB := Lib.hid (show mostM r n = (0, 2) by unfold mostM; rw [hb]; rfl)
    clear hb
    go_enter Tryd.func35, Tryd.ntmps35
    go_wp2_with fail
    refine (isRule_any r _ hr).mono ?_
    rintro e w1 ⟨rfl, rfl⟩
    rw [HR.out]
    go_wp2_with fail
    go_ret2
    exact ⟨by rw [HB.out] <;> rfl, rfl⟩
  | true =>
    have HR := Lib.hid hb
    by_cases h1 : n < 1
    · have h1d : decide (n < 1) = true := by simp; omega
      have HB := Lib.hid (show mostM r n = (0, 2) by unfold mostM; rw [hb, show decide (1 ≤ n) = false by simp; omega]; rfl)
      clear hb h1
      go_enter Tryd.func35, Tryd.ntmps35
      go_wp2_with fail
      refine (isRule_any r _ hr).mono ?_
      rintro e w1 ⟨rfl, rfl⟩
      rw [HR.out]
      go_wp2_with fail
      go_ret2
      exact ⟨by rw [HB.out] <;> rfl, rfl⟩
    · have h1d : decide (n < 1) = false := by simp; omega
      by_cases h2 : 10 < n
      · have h2d : decide (10 < n) = true := by simp; omega
        have HB := Lib.hid (show mostM r n = (0, 2) by unfold mostM; rw [hb, show decide (n ≤ 10) = false by simp; omega]; simp)
        clear hb h1 h2
        go_enter Tryd.func35, Tryd.ntmps35
        go_wp2_with fail
        refine (isRule_any r _ hr).mono ?_
        rintro e w1 ⟨rfl, rfl⟩
        rw [HR.out]
        go_wp2_with fail
        go_ret2
        exact ⟨by rw [HB.out] <;> rfl, rfl⟩
      · have h2d : decide (10 < n) = false := by simp; omega
        have HB := Lib.hid (show mostM r n = (marksM r n, 0) by unfold mostM; rw [hb, show decide (1 ≤ n) = true by simp; omega, show decide (n ≤ 10) = true by simp; omega]; rfl)
        have hb2 := (ruleB_iff r).1 hb
        have hc := hT.mark (r := r) (by omega)
        clear hb h1 h2
        cases ho : oneMarkT r with
        | true =>
          have HM := Lib.hid (show marksM r n = 1 by unfold oneMarkT at ho; simp at ho; unfold marksM; rw [if_pos ho])
          rw [ho] at hc
          clear ho
          go_enter Tryd.func35, Tryd.ntmps35
          go_wp2_with fail
          refine (isRule_any r _ hr).mono ?_
          rintro e w1 ⟨rfl, rfl⟩
          rw [HR.out]
          go_wp2_with fail
          go_ret2
          exact ⟨by rw [HB.out, HM.out] <;> rfl, rfl⟩
        | false =>
          have HM := Lib.hid (show marksM r n = n by unfold oneMarkT at ho; simp at ho; unfold marksM; rw [if_neg (by omega)])
          rw [ho] at hc
          clear ho
          go_enter Tryd.func35, Tryd.ntmps35
          go_wp2_with fail
          refine (isRule_any r _ hr).mono ?_
          rintro e w1 ⟨rfl, rfl⟩
          rw [HR.out]
          go_wp2_with fail
          go_ret2
          exact ⟨by rw [HB.out, HM.out] <;> rfl, rfl⟩

set_option maxHeartbeats 400000 in
theorem word_any (r : Nat) (w : World) (hr : r ≤ 255) (hT : Tab w) :
    Calls Tryd.prog 37 #[.int .u8 r] w fun e w' => e = .returned (.tuple #[.string ⟨(wordM r).1.toArray⟩, .int .i64 (wordM r).2]) ∧ w = w' := by
  go_enter Tryd.func37, Tryd.ntmps37
  go_wp2_with fail
  refine (isRule_any r _ hr).mono ?_
  rintro e w1 ⟨rfl, rfl⟩
  cases hb : ruleB r with
  | false =>
    have HB := Lib.hid (show wordM r = ([], 2) by unfold wordM; rw [hb]; rfl)
    clear hb
    go_wp2_with fail
    go_ret2
    exact ⟨by rw [HB.out] <;> rfl, rfl⟩
  | true =>
    have hb2 := (ruleB_iff r).1 hb
    have hc := hT.word (r := r) (by omega)
    obtain ⟨x, hx⟩ : ∃ x, x = wordsM.getD r [] := ⟨_, rfl⟩
    have HB := Lib.hid (show wordM r = (x, 0) by unfold wordM; rw [hb, hx]; rfl)
    rw [← hx] at hc
    unfold sv at hc
    clear hb hx
    go_wp2_with fail
    go_ret2
    exact ⟨by rw [HB.out] <;> rfl, rfl⟩

set_option maxHeartbeats 400000 in
theorem rule_any (y : List UInt8) (w : World) (hy : y.length ≤ 140737488351232) (hT : Tab w) :
    Calls Tryd.prog 23 #[.string ⟨y.toArray⟩] w fun e w' => e = .returned (.tuple #[.int .u8 ((ruleM y).1 : Nat), .int .i64 (ruleM y).2]) ∧ w = w' := by
  have HT := Lib.hid hT
  clear hT
  go_enter Tryd.func23, Tryd.ntmps23
  go_wp2_with fail
  go_loop [4] (fun i => ∃ k : Nat, 1 ≤ k ∧ k ≤ 17 ∧ i = .int .u8 k ∧ Hid (∀ j, 1 ≤ j → j < k → wordsM[j]? ≠ some y)) (fun i => 17 - (intOf i).toNat)
  case atStart => exact ⟨1, by omega, by omega, rfl, fun j h1 h2 => by omega⟩
  case round =>
    obtain ⟨k, hk1, hk, rfl, hpre⟩ := hrel
    by_cases hlt : k < 17
    · have hc := HT.out.word (r := k) hlt
      obtain ⟨x, hx⟩ : ∃ x, x = wordsM.getD k [] := ⟨_, rfl⟩
      have HX := Lib.hid (show wordsM[k]? = some x by rw [hx, List.getD_eq_getElem?_getD, List.getElem?_eq_getElem (by rw [wordsM_len]; omega)]; rfl)
      rw [← hx] at hc
      unfold sv at hc
      clear hx
      have hltd : decide ((k : Int) < 17) = true := by simp; omega
      by_cases he : x = y
      · have hbe : (x == y) = true := by rw [beq_iff_eq]; exact he
        have HB := Lib.hid (show ruleM y = (k, 0) by
          have hxy := HX.out
          rw [he] at hxy
          unfold ruleM
          rw [if_pos (by
            have : (wordsM.drop 1)[k - 1]? = some y := by rw [List.getElem?_drop, show 1 + (k - 1) = k by omega]; exact hxy
            exact List.mem_of_getElem? this)]
          by_cases hy0 : y = []
          · exfalso
            subst hy0
            have : ∀ j, j < 17 → 1 ≤ j → wordsM[j]? ≠ some [] := by decide +kernel
            exact this k hlt hk1 hxy
          · rw [idxOf_at wordsM k (by rw [wordsM_len]; omega) y (by rw [List.getElem?_eq_getElem (by rw [wordsM_len]; omega)] at hxy; exact Option.some.inj hxy) (fun j hj => by
              by_cases hj0 : j = 0
              · subst hj0
                intro e
                exact hy0 (Option.some.inj e).symm
              · exact hpre.out j (by omega) hj)])
        clear he hpre
        go_wp2_with fail
        go_ret2
        exact ⟨by rw [HB.out] <;> rfl, rfl⟩
      · have hbe : (x == y) = false := by rw [beq_eq_false_iff_ne]; exact he
        have HN := Lib.hid (show ∀ j, 1 ≤ j → j < k + 1 → wordsM[j]? ≠ some y from fun j h1 h2 => by
          by_cases e : j = k
          · subst e; rw [HX.out]; intro e; exact he (Option.some.inj e)
          · exact hpre.out j h1 (by omega))
        clear he hpre
        go_wp2_with fail
        go_round
        case rel => exact ⟨k + 1, by omega, by omega, by go_num, HN⟩
        case measure => simp [intOf]; omega
    · obtain rfl : k = 17 := by omega
      have HB := Lib.hid (show ruleM y = (0, 6) by
        unfold ruleM
        rw [if_neg]
        intro hm
        obtain ⟨j, hj, e⟩ := List.getElem_of_mem hm
        have hj' : j < 16 := by simpa [wordsM_len] using hj
        refine hpre.out (j + 1) (by omega) (by omega) ?_
        have h2 : (wordsM.drop 1)[j]? = some y := by rw [← e]; exact List.getElem?_eq_getElem hj
        rw [List.getElem?_drop, Nat.add_comm 1 j] at h2
        exact h2)
      clear hpre
      go_wp2_with fail
      go_ret2
      exact ⟨by rw [HB.out] <;> rfl, rfl⟩
end Go.Proofs.YtdjifopdlkppoaaDoor
