/- The reference's words, Word, Rule. -/
import Derived.Test.YtdjifopdlkppoaaDoorRefN2
namespace Go.Proofs.YtdjifopdlkppoaaDoor
open Go.RowKit
set_option linter.unusedVariables false

theorem words_any (w : World) :
    Calls Tryd.prog 54 #[] w fun e w' => e = .returned (.slice (some ⟨w.heap.size, 0, none⟩) 17 17) ∧ Hb sv w' w.heap.size 9 wordsM ∧ Below w.heap.size w w' := by
  go_enter Tryd.func54, Tryd.ntmps54
  go_wp2_with fail
  go_ret
  exact ⟨rfl, show Blk _ _ _ (wordsM.map sv).toArray from Blk.new w _ _, below_new w _⟩

set_option maxHeartbeats 400000 in
theorem refWord_any (r : Nat) (w : World) (hr : r ≤ 255) :
    Calls Tryd.prog 38 #[.int .u8 r] w fun e w' => e = .returned (.tuple #[.string ⟨(wordM r).1.toArray⟩, .int .i64 (wordM r).2]) ∧ Below w.heap.size w w' := by
  cases hb : ruleB r with
  | false =>
    have HR := Lib.hid hb
    have HB := Lib.hid (show wordM r = ([], 2) by unfold wordM; rw [hb]; rfl)
    clear hb
    go_enter Tryd.func38, Tryd.ntmps38
    go_wp2_with fail
    refine (refIs_any r _ hr).mono ?_
    rintro e w1 ⟨rfl, rfl⟩
    rw [HR.out]
    go_wp2_with fail
    go_ret2
    exact ⟨by rw [HB.out] <;> rfl, Below.refl _ _⟩
  | true =>
    have HR := Lib.hid hb
    have h16 := ((ruleB_iff r).1 hb).2
    obtain ⟨x, hx⟩ : ∃ x, x = wordsM[r]'(by rw [wordsM_len]; omega) := ⟨_, rfl⟩
    have HX := Lib.hid hx
    have HB := Lib.hid (show wordM r = (x, 0) by unfold wordM; rw [hb, hx, List.getD_eq_getElem?_getD, List.getElem?_eq_getElem (by rw [wordsM_len]; omega)]; rfl)
    clear hb hx
    go_enter Tryd.func38, Tryd.ntmps38
    go_wp2_with fail
    refine (refIs_any r _ hr).mono ?_
    rintro e w1 ⟨rfl, rfl⟩
    rw [HR.out]
    go_wp2_with fail
    refine (words_any _).mono ?_
    rintro e w1 ⟨rfl, hh, hbw⟩
    have hc := hh.cell (i := r) (by rw [wordsM_len]; omega)
    rw [← HX.out] at hc
    unfold sv at hc
    clear hh
    go_wp2_with fail
    go_ret2
    exact ⟨by rw [HB.out] <;> rfl, hbw⟩

theorem idxOf_at : ∀ (l : List (List UInt8)) (k : Nat) (h : k < l.length) (y : List UInt8), l[k] = y → (∀ j, j < k → l[j]? ≠ some y) → l.idxOf y = k
  | a :: l, 0, _, y, e, _ => by simp at e; subst e; simp
  | a :: l, k + 1, h, y, e, hn => by
    have h0 : a ≠ y := by have := hn 0 (by omega); simpa using this
    have := idxOf_at l k (by simpa using h) y (by simpa using e) (fun j hj => by have := hn (j + 1) (by omega); simpa using this)
    rw [List.idxOf_cons, this, show (a == y) = false by rw [beq_eq_false_iff_ne]; exact h0]
    rfl

set_option maxHeartbeats 400000 in
theorem refRule_any (y : List UInt8) (w : World) (hy : y.length ≤ 4000000000) :
    Calls Tryd.prog 39 #[.string ⟨y.toArray⟩] w fun e w' => e = .returned (.tuple #[.int .u8 ((ruleM y).1 : Nat), .int .i64 (ruleM y).2]) ∧ Below w.heap.size w w' := by
  go_enter Tryd.func39, Tryd.ntmps39
  go_wp2_with fail
  refine (words_any _).mono ?_
  rintro e w1 ⟨rfl, hh, hbw⟩
  go_wp2_with fail
  go_loop [5] (fun i => ∃ k : Nat, 1 ≤ k ∧ k ≤ 17 ∧ i = .int .i64 k ∧ Hid (∀ j, 1 ≤ j → j < k → wordsM[j]? ≠ some y)) (fun i => 17 - (intOf i).toNat)
  case atStart => exact ⟨1, by omega, by omega, rfl, fun j h1 h2 => by omega⟩
  case round =>
    obtain ⟨k, hk1, hk, rfl, hpre⟩ := hrel
    by_cases hlt : k < 17
    · have hc := hh.cell (i := k) (by rw [wordsM_len]; omega)
      obtain ⟨x, hx⟩ : ∃ x, x = wordsM[k]'(by rw [wordsM_len]; omega) := ⟨_, rfl⟩
      have HX := Lib.hid (show wordsM[k]? = some x by rw [List.getElem?_eq_getElem (by rw [wordsM_len]; omega), hx])
      rw [← hx] at hc
      unfold sv at hc
      have HHH := Lib.hid hh
      clear hx hh
      by_cases he : x = y
      · have hbe : (x == y) = true := by rw [beq_iff_eq]; exact he
        have HB := Lib.hid (show ruleM y = (k, 0) by
          have hxy := HX.out
          rw [he] at hxy
          unfold ruleM
          rw [if_pos (by
            have : (wordsM.drop 1)[k - 1]? = some y := by rw [List.getElem?_drop, show 1 + (k - 1) = k by omega]; exact hxy
            exact List.mem_of_getElem? this)]
          by_cases hy0 : y = []
          · exfalso
            subst hy0
            have : ∀ j, j < 17 → 1 ≤ j → wordsM[j]? ≠ some [] := by decide +kernel
            exact this k hlt hk1 hxy
          · rw [idxOf_at wordsM k (by rw [wordsM_len]; omega) y (by rw [List.getElem?_eq_getElem (by rw [wordsM_len]; omega)] at hxy; exact Option.some.inj hxy) (fun j hj => by
              by_cases hj0 : j = 0
              · subst hj0
                intro e
                exact hy0 (Option.some.inj e).symm
              · exact hpre.out j (by omega) hj)])
        clear he hpre
        go_wp2_with fail
        go_ret2
        exact ⟨by rw [HB.out] <;> rfl, hbw⟩
      · have hbe : (x == y) = false := by rw [beq_eq_false_iff_ne]; exact he
        have HN := Lib.hid (show ∀ j, 1 ≤ j → j < k + 1 → wordsM[j]? ≠ some y from fun j h1 h2 => by
          by_cases e : j = k
          · subst e; rw [HX.out]; intro e; exact he (Option.some.inj e)
          · exact hpre.out j h1 (by omega))
        clear he hpre
        go_wp2_with fail
        go_round
        case rel => exact ⟨k + 1, by omega, by omega, by go_num, HN⟩
        case measure => simp [intOf]; omega
    · obtain rfl : k = 17 := by omega
      have HB := Lib.hid (show ruleM y = (0, 6) by
        unfold ruleM
        rw [if_neg]
        intro hm
        obtain ⟨j, hj, e⟩ := List.getElem_of_mem hm
        have hj' : j < 16 := by simpa [wordsM_len] using hj
        refine hpre.out (j + 1) (by omega) (by omega) ?_
        have h2 : (wordsM.drop 1)[j]? = some y := by rw [← e]; exact List.getElem?_eq_getElem hj
        rw [List.getElem?_drop, Nat.add_comm 1 j] at h2
        exact h2)
      clear hpre
      go_wp2_with fail
      go_ret2
      exact ⟨by rw [HB.out] <;> rfl, hbw⟩
end Go.Proofs.YtdjifopdlkppoaaDoor
