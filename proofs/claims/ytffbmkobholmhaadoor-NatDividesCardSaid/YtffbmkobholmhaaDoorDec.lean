/- Decimal digits, as plain functions. -/
import Derived.Test.YtffbmkobholmhaaDoorPure
import Derived.Lib.ItoaNum
namespace Go.Proofs.YtffbmkobholmhaaDoor
open Go.RowKit
set_option linter.unusedVariables false

/-- Not empty, and of bytes from lo to hi. -/
def isOfB (lo hi : Nat) (l : List UInt8) : Bool := !l.isEmpty && l.all fun b => decide (lo ≤ b.toNat) && decide (b.toNat ≤ hi)
theorem isOfB_iff (lo hi : Nat) (l : List UInt8) : isOfB lo hi l = true ↔ l ≠ [] ∧ ∀ b ∈ l, lo ≤ b.toNat ∧ b.toNat ≤ hi := by
  unfold isOfB
  cases l <;> simp
theorem isOfB_bad {lo hi : Nat} {l : List UInt8} {b : UInt8} (hb : b ∈ l) (h : b.toNat < lo ∨ hi < b.toNat) : isOfB lo hi l = false := by
  cases e : isOfB lo hi l with
  | false => rfl
  | true => have := ((isOfB_iff lo hi l).1 e).2 b hb; omega
/-- The value of digits. -/
def valD (l : List UInt8) : Nat := l.foldl (fun n b => 10 * n + (b.toNat - 48)) 0
theorem valD_snoc (l : List UInt8) (b : UInt8) : valD (l ++ [b]) = 10 * valD l + (b.toNat - 48) := by
  unfold valD
  rw [List.foldl_append]
  rfl
theorem valD_mono (l m : List UInt8) : valD l ≤ valD (l ++ m) := by
  have h : ∀ (m : List UInt8) (l : List UInt8), valD l ≤ valD (l ++ m) := by
    intro m
    induction m with
    | nil => intro l; rw [List.append_nil]; exact Nat.le_refl _
    | cons b r ih =>
      intro l
      have h1 := ih (l ++ [b])
      rw [List.append_assoc, valD_snoc] at h1
      have e : l ++ ([b] ++ r) = l ++ b :: r := rfl
      rw [e] at h1
      omega
  exact h m l
theorem valD_take (l : List UInt8) (k : Nat) (h : k < l.length) : valD (l.take (k + 1)) = 10 * valD (l.take k) + (l[k].toNat - 48) := by
  rw [List.take_succ_eq_append_getElem h, valD_snoc]
theorem valD_take_le (l : List UInt8) (k : Nat) : valD (l.take k) ≤ valD l := by
  have := valD_mono (l.take k) (l.drop k)
  rwa [List.take_append_drop] at this
theorem valD_over (l : List UInt8) (k : Nat) (h : k < l.length) (hb : 461168601842738790 < valD (l.take k)) : 4611686018427387904 < valD l := by
  have h1 := valD_take l k h
  have h2 := valD_take_le l (k + 1)
  omega

/-- The decimal form of a natural number. -/
def isNatB (l : List UInt8) : Bool := l == [48] || (isOfB 48 57 l && l.head? != some 48)
theorem isNatB_zero : isNatB [48] = true := rfl
theorem isNatB_not {l : List UInt8} (h1 : l ≠ [48]) (h2 : isOfB 48 57 l = false ∨ l.head? = some 48) : isNatB l = false := by
  unfold isNatB
  have e : (l == [48]) = false := by simpa using h1
  rw [e]
  rcases h2 with h | h
  · rw [h]; rfl
  · rw [h]; simp
theorem isNatB_yes {l : List UInt8} (h1 : isOfB 48 57 l = true) (h2 : l.head? ≠ some 48) : isNatB l = true := by
  unfold isNatB
  have e : (l.head? != some 48) = true := by simpa using h2
  rw [h1, e]
  simp
theorem isNatB_digits {l : List UInt8} (h : isNatB l = true) : isOfB 48 57 l = true := by
  unfold isNatB at h
  simp only [Bool.or_eq_true, Bool.and_eq_true] at h
  rcases h with h | h
  · have : l = [48] := by simpa using h
    rw [this]; decide
  · exact h.1

theorem decDigits_small {u : Nat} (h : u < 10) : Lib.decDigits u = [UInt8.ofNat (48 + u)] := by rw [Lib.decDigits, dif_pos h]
theorem decDigits_big {u : Nat} (h : ¬ u < 10) : Lib.decDigits u = Lib.decDigits (u / 10) ++ [UInt8.ofNat (48 + u % 10)] := by rw [Lib.decDigits, dif_neg h]
theorem dig_toNat {u : Nat} (h : u < 10) : (UInt8.ofNat (48 + u)).toNat = 48 + u := by rw [UInt8.toNat_ofNat']; omega
theorem decDigits_ne (u : Nat) : Lib.decDigits u ≠ [] := by
  by_cases h : u < 10
  · rw [decDigits_small h]; simp
  · rw [decDigits_big h]; simp
theorem valD_dec (u : Nat) : valD (Lib.decDigits u) = u := by
  induction u using Nat.strongRecOn with
  | _ u ih =>
    by_cases h : u < 10
    · rw [decDigits_small h]
      show 10 * 0 + ((UInt8.ofNat (48 + u)).toNat - 48) = u
      rw [dig_toNat h]
      omega
    · rw [decDigits_big h, valD_snoc, ih (u / 10) (by omega), dig_toNat (by omega)]
      omega
theorem isOf_dec (u : Nat) : ∀ b ∈ Lib.decDigits u, 48 ≤ b.toNat ∧ b.toNat ≤ 57 := by
  induction u using Nat.strongRecOn with
  | _ u ih =>
    by_cases h : u < 10
    · rw [decDigits_small h]
      intro b hb
      simp only [List.mem_singleton] at hb
      rw [hb, dig_toNat h]
      omega
    · rw [decDigits_big h]
      intro b hb
      rcases List.mem_append.1 hb with hb | hb
      · exact ih (u / 10) (by omega) b hb
      · simp only [List.mem_singleton] at hb
        rw [hb, dig_toNat (show u % 10 < 10 by omega)]
        omega
theorem head_app {l : List UInt8} (m : List UInt8) (h : l ≠ []) : (l ++ m).head? = l.head? := by
  cases l with
  | nil => exact absurd rfl h
  | cons a t => rfl
theorem head_dec (u : Nat) (hu : u ≠ 0) : (Lib.decDigits u).head? ≠ some 48 := by
  induction u using Nat.strongRecOn with
  | _ u ih =>
    by_cases h : u < 10
    · rw [decDigits_small h]
      intro e
      have e2 := congrArg UInt8.toNat (Option.some.inj e)
      rw [dig_toNat h] at e2
      have : (48 : UInt8).toNat = 48 := rfl
      omega
    · rw [decDigits_big h, head_app _ (decDigits_ne _)]
      exact ih (u / 10) (by omega) (by omega)
theorem isNatB_dec (u : Nat) : isNatB (Lib.decDigits u) = true := by
  by_cases hu : u = 0
  · subst hu
    rw [decDigits_small (by decide)]
    decide
  · exact isNatB_yes ((isOfB_iff 48 57 _).2 ⟨decDigits_ne u, isOf_dec u⟩) (head_dec u hu)
/-- The digits of a value are the digits. -/
theorem dec_valD : ∀ (n : Nat) (l : List UInt8), l.length = n → isNatB l = true → Lib.decDigits (valD l) = l := by
  intro n
  induction n with
  | zero =>
    intro l hl h
    have := List.eq_nil_of_length_eq_zero hl
    subst this
    exact absurd h (by decide)
  | succ n ih =>
    intro l hl h
    have hd := ((isOfB_iff 48 57 l).1 (isNatB_digits h)).2
    have hne : l ≠ [] := by intro e; rw [e] at hl; simp at hl
    obtain ⟨m, b, rfl⟩ : ∃ m b, l = m ++ [b] := ⟨l.dropLast, l.getLast hne, (List.dropLast_concat_getLast hne).symm⟩
    have hb := hd b (by simp)
    have eb : UInt8.ofNat (48 + (b.toNat - 48)) = b := by
      apply UInt8.toNat_inj.1
      rw [UInt8.toNat_ofNat']
      omega
    rw [valD_snoc]
    by_cases hm : m = []
    · subst hm
      have e0 : valD [] = 0 := rfl
      rw [e0, Nat.mul_zero, Nat.zero_add, decDigits_small (by omega), eb]
      rfl
    · have h48 : (m ++ [b]) ≠ [48] := by
        intro e
        cases m with
        | nil => exact hm rfl
        | cons x xs => simp at e
      have hnat : isNatB m = true := by
        unfold isNatB at h
        have e1 : ((m ++ [b]) == [48]) = false := by simpa using h48
        rw [e1] at h
        simp only [Bool.false_or, Bool.and_eq_true] at h
        rw [head_app _ hm] at h
        refine isNatB_yes ((isOfB_iff 48 57 m).2 ⟨hm, fun x hx => hd x (List.mem_append_left _ hx)⟩) (by simpa using h.2)
      have ihm := ih m (by simp at hl; omega) hnat
      have hpos : 1 ≤ valD m := by
        rcases Nat.eq_zero_or_pos (valD m) with e | e
        · exfalso
          rw [e, decDigits_small (by decide)] at ihm
          have hh : m.head? = some 48 := by rw [← ihm]; rfl
          unfold isNatB at h
          have e1 : ((m ++ [b]) == [48]) = false := by simpa using h48
          rw [e1] at h
          simp only [Bool.false_or, Bool.and_eq_true] at h
          rw [head_app _ hm, hh] at h
          simp at h
        · exact e
      rw [decDigits_big (by omega)]
      have e2 : (10 * valD m + (b.toNat - 48)) / 10 = valD m := by omega
      have e3 : (10 * valD m + (b.toNat - 48)) % 10 = b.toNat - 48 := by omega
      rw [e2, e3, ihm, eb]

end Go.Proofs.YtffbmkobholmhaaDoor
