/- Words of rules, and what the laws say of them; contests with one seat, with one candidate more. No program named. -/
import Derived.Test.YtdjifopdlkppoaaDoorCt
namespace Go.Proofs.YtdjifopdlkppoaaDoor
open Go.RowKit
set_option linter.unusedVariables false

def wordM (r : Nat) : List UInt8 × Int := if ruleB r then (wordsM.getD r [], 0) else ([], 2)
def ruleM (x : List UInt8) : Nat × Int := if x ∈ wordsM.drop 1 then (wordsM.idxOf x, 0) else (0, 6)
def kindE (r : Nat) : Nat × Int := if ruleB r then (kindM r, 0) else (0, 2)
def mostM (r : Nat) (n : Int) : Int × Int := if ruleB r && (decide (1 ≤ n) && decide (n ≤ 10)) then (marksM r n, 0) else (0, 2)

theorem ruleB_iff (r : Nat) : ruleB r = true ↔ 1 ≤ r ∧ r ≤ 16 := by simp [ruleB]
theorem rule_lt {P : Nat → Prop} (h : ∀ r, r < 17 → (1 ≤ r → P r)) {r : Nat} (hr : ruleB r = true) : P r := by
  have := (ruleB_iff r).1 hr
  exact h r (by omega) this.1
theorem rule_word {r : Nat} (hr : ruleB r = true) : ruleM (wordM r).1 = (r, 0) := by
  refine rule_lt (P := fun r => ruleM (wordM r).1 = (r, 0)) ?_ hr
  decide +kernel
theorem word_ne {r : Nat} (hr : ruleB r = true) : (wordM r).1 ≠ [] := by
  refine rule_lt (P := fun r => (wordM r).1 ≠ []) ?_ hr
  decide +kernel
theorem word_inj {r s : Nat} (hr : ruleB r = true) (hs : ruleB s = true) (h : (wordM r).1 = (wordM s).1) : r = s := by
  have h1 := rule_word hr
  rw [h, rule_word hs] at h1
  exact (Prod.mk.inj h1).1.symm
theorem word_rule {x : List UInt8} (h : (ruleM x).2 = 0) : wordM (ruleM x).1 = (x, 0) ∧ ruleB (ruleM x).1 = true := by
  unfold ruleM at h ⊢
  by_cases hx : x ∈ wordsM.drop 1
  · rw [if_pos hx]
    have hall : ∀ y ∈ wordsM.drop 1, wordM (wordsM.idxOf y) = (y, 0) ∧ ruleB (wordsM.idxOf y) = true := by decide +kernel
    exact hall x hx
  · rw [if_neg hx] at h
    cases h
theorem ruleM_err {x : List UInt8} (h : (ruleM x).2 ≠ 0) : ruleM x = (0, 6) := by
  unfold ruleM at h ⊢
  split
  · rename_i hx; rw [if_pos hx] at h; exact absurd rfl h
  · rfl
theorem wordM_len (r : Nat) : (wordM r).1.length ≤ 9 := by
  unfold wordM
  split
  · rename_i h
    refine rule_lt (P := fun r => (wordsM.getD r []).length ≤ 9) ?_ h
    decide +kernel
  · simp
theorem kindM_range (r : Nat) : 1 ≤ kindM r ∧ kindM r ≤ 3 := by unfold kindM; split <;> (try split) <;> omega
/-- Only a rule of marks limits them to one. -/
theorem marksM_kind {r : Nat} (hr : ruleB r = true) (n : Int) (h : marksM r n ≠ n) : kindM r = 2 := by
  have hb := (ruleB_iff r).1 hr
  unfold marksM at h
  split at h
  · rename_i h1
    unfold kindM
    rw [if_pos (by omega)]
  · exact absurd rfl h

theorem one_seat {c : Ct} (h : checkM c = 0) : checkM { c with seats := 1 } = 0 := by
  rw [checkM_ok] at h ⊢
  obtain ⟨h1, h2, h3, h4, h5, h6, h7, h8, h9⟩ := (mayB_iff c).1 h
  refine (mayB_iff _).2 ⟨h1, h2, h3, h4, by simp, by simp, h7, h8, ?_⟩
  unfold seatsB
  split
  · simp
  · simp; exact .inr (by omega)
theorem more_ok {c : Ct} (x : List UInt8) (h : checkM c = 0) : checkM { c with cands := c.cands ++ [x] } = 0 ↔ nameB x = true ∧ x ∉ c.cands ∧ c.cands.length < 10 := by
  rw [checkM_ok] at h
  obtain ⟨h1, h2, h3, h4, h5, h6, h7, h8, h9⟩ := (mayB_iff c).1 h
  rw [checkM_ok, mayB_iff]
  constructor
  · rintro ⟨g1, g2, g3, g4, g5, g6, g7, g8, g9⟩
    refine ⟨g7 x (by simp), ?_, by simp at g3; omega⟩
    have := List.nodup_append.1 g8
    intro hm
    exact this.2.2 x hm x (by simp) rfl
  · rintro ⟨g1, g2, g3⟩
    refine ⟨h1, by simp, by simp; omega, h4, h5, h6, ?_, ?_, ?_⟩
    · intro y hy
      rcases List.mem_append.1 hy with hy | hy
      · exact h7 y hy
      · obtain rfl := List.mem_singleton.1 hy; exact g1
    · refine List.nodup_append.2 ⟨h8, by simp, ?_⟩
      intro a ha b hb e
      obtain rfl := List.mem_singleton.1 hb
      subst e
      exact g2 ha
    · unfold seatsB at h9 ⊢
      split
      · rename_i h; rw [if_pos h] at h9; exact h9
      · rename_i h
        rw [if_neg h] at h9
        simp at h9 ⊢
        rcases h9 with h9 | h9
        · exact .inl h9
        · exact .inr (by omega)
theorem idx_last {x : List UInt8} : ∀ {l : List (List UInt8)}, x ∉ l → (l ++ [x]).idxOf x = l.length
  | l, h => by
    rw [List.idxOf_append, if_neg h]
    simp
/-- What ContestSeats says of Place. -/
theorem more_place {c : Ct} (x : List UInt8) (h : checkM c = 0) :
    placeM { c with cands := c.cands ++ [x] } x = if nameB x = true ∧ x ∉ c.cands ∧ c.cands.length < 10 then (((c.cands.length : Nat) : Int), 0) else (0, checkM { c with cands := c.cands ++ [x] }) := by
  unfold placeM
  by_cases hm : checkM { c with cands := c.cands ++ [x] } = 0
  · have hq := (more_ok x h).1 hm
    rw [if_neg (by omega), if_pos (by simp), if_pos hq, idx_last hq.2.1]
  · rw [if_pos hm, if_neg (fun e => hm ((more_ok x h).2 e))]
theorem place_ok {c : Ct} (x : List UInt8) (h : checkM c = 0) : placeM c x = if x ∈ c.cands then (((c.cands.idxOf x : Nat) : Int), 0) else (0, 6) := by
  unfold placeM
  rw [if_neg (by omega)]
end Go.Proofs.YtdjifopdlkppoaaDoor
