/- DigestFolds. -/
import Derived.Test.YtipclieldokfnaaDoorFold
namespace Go.Proofs.YtipclieldokfnaaDoor
open Go.RowKit
set_option linter.unusedVariables false

theorem bytesOf_four : ∀ (S : List UInt32) (i : Nat) (h : i < S.length), ∃ a b c d : UInt8, num [a, b, c, d] = (S[i]).toNat ∧ (bytesOf S)[4 * i]? = some a ∧ (bytesOf S)[4 * i + 1]? = some b ∧ (bytesOf S)[4 * i + 2]? = some c ∧ (bytesOf S)[4 * i + 3]? = some d
  | [], i, h => by simp at h
  | x :: S, 0, h => by
    refine ⟨UInt8.ofNat (x.toNat / 2 ^ 24), UInt8.ofNat (x.toNat / 2 ^ 16), UInt8.ofNat (x.toNat / 2 ^ 8), UInt8.ofNat (x.toNat / 2 ^ 0), ?_, rfl, rfl, rfl, rfl⟩
    have := u32_lt x
    rw [num_four, u8_mod, u8_mod, u8_mod, u8_mod]
    simp only [List.getElem_cons_zero]
    omega
  | x :: S, i + 1, h => by
    obtain ⟨a, b, c, d, h0, h1, h2, h3, h4⟩ := bytesOf_four S i (by simpa using h)
    refine ⟨a, b, c, d, by simpa using h0, ?_⟩
    simp only [bytesOf]
    have hl : (beN 4 x.toNat).length = 4 := beN_len _ _
    refine ⟨?_, ?_, ?_, ?_⟩ <;> (rw [List.getElem?_append_right (by omega), hl])
    · rw [show 4 * (i + 1) - 4 = 4 * i by omega]; exact h1
    · rw [show 4 * (i + 1) + 1 - 4 = 4 * i + 1 by omega]; exact h2
    · rw [show 4 * (i + 1) + 2 - 4 = 4 * i + 2 by omega]; exact h3
    · rw [show 4 * (i + 1) + 3 - 4 = 4 * i + 3 by omega]; exact h4
theorem Hb.cellq {α : Type} {f : α → Value} {w : World} {g t : Nat} {L : List α} (h : Hb f w g t L) {i : Nat} {x : α} (hi : L[i]? = some x) : w.cell? ⟨g, i, none⟩ = some (f x) := by
  obtain ⟨hl, rfl⟩ := List.getElem?_eq_some_iff.1 hi
  exact h.cell hl

end Go.Proofs.YtipclieldokfnaaDoor
