/- What a long division does to values. No program is named here. -/
import Derived.Test.YtffbmkobholmhaaDoorArith
namespace Go.Proofs.YtffbmkobholmhaaDoor
open Go.RowKit
set_option linter.unusedVariables false

theorem limbs_ge {n j : Nat} (h : (limbs n).length = j + 1) : bp j ≤ n := limbs_len_lt.1 (by omega)
theorem limbs_lt {n j : Nat} (h : (limbs n).length = j) : n < bp j := limbs_len_le.1 (by omega)
/-- A divisor that is shifted so far that its last limb stays one. -/
theorem shifted_len {n j s : Nat} (h : (limbs n).length = j + 1) (hs : s ≤ 31) (ht : ((limbs n)[j]).toNat * 2 ^ s < 4294967296) : (limbs (n * 2 ^ s)).length = j + 1 := by
  have hp : 0 < 2 ^ s := Nat.pow_pos (by decide)
  have h1 := limbs_ge h
  have h2 : bp j ≤ n * 2 ^ s := Nat.le_trans h1 (Nat.le_mul_of_pos_right n hp)
  have e1 : val (limbs n) = val ((limbs n).take j) + bp j * ((limbs n)[j]).toNat := by
    have := val_take_succ (l := limbs n) (k := j) (by omega)
    rwa [List.take_of_length_le (by omega)] at this
  rw [val_limbs] at e1
  have e2 : val ((limbs n).take j) < bp j := val_take_lt _ _ (by omega)
  generalize ((limbs n)[j]).toNat = x at *
  have e3 : (4294967296 : Nat) = 2 ^ (32 - s) * 2 ^ s := by rw [← Nat.pow_add, show 32 - s + s = 32 by omega]
  have e4 : (x + 1) * 2 ^ s ≤ 4294967296 := by
    rw [e3] at ht ⊢
    have := Nat.lt_of_mul_lt_mul_right ht
    exact Nat.mul_le_mul_right _ this
  have e5 : n < bp j * (x + 1) := by rw [Nat.mul_add]; omega
  have e6 : n * 2 ^ s < bp (j + 1) := by
    have h3 : n * 2 ^ s < bp j * (x + 1) * 2 ^ s := Nat.mul_lt_mul_of_pos_right e5 hp
    have h4 : bp j * ((x + 1) * 2 ^ s) ≤ bp j * 4294967296 := Nat.mul_le_mul_left _ e4
    rw [Nat.mul_assoc] at h3
    rw [bp_succ, Nat.mul_comm 4294967296]
    omega
  have := limbs_len_le.2 e6
  have := limbs_len_lt.2 h2
  omega

theorem val_drop_eq (l : List UInt32) (i k : Nat) (h : i + k ≤ l.length) : val (l.drop i) = val (seg l i k) + bp k * val (l.drop (i + k)) := by
  have e : l.drop i = seg l i k ++ l.drop (i + k) := by
    unfold seg
    rw [← List.drop_drop, List.take_append_drop]
  rw [e, val_append, seg_len h]
theorem val_drop_lt' (l : List UInt32) (i : Nat) : val (l.drop i) < bp (l.length - i) := by
  have := val_lt (l.drop i)
  rwa [List.length_drop] at this
theorem val_drop_div (l : List UInt32) (i : Nat) (h : i ≤ l.length) : val l = val (l.take i) + bp i * val (l.drop i) := by
  have := val_append (l.take i) (l.drop i)
  rwa [List.take_append_drop, List.length_take, Nat.min_eq_left h] at this

/-- The first remainder is less than the divisor. -/
theorem long_start {R : List UInt32} {m n la j s : Nat} (hl : R.length = la + 1) (hv : val R = m * 2 ^ s) (hm : m < bp la) (hn : bp j ≤ n) (hj : j + 1 ≤ la) : val (R.drop (la - j)) < n * 2 ^ s := by
  have hp : 0 < 2 ^ s := Nat.pow_pos (by decide)
  have h1 := val_drop_div R (la - j) (by omega)
  have h2 : m * 2 ^ s < bp la * 2 ^ s := Nat.mul_lt_mul_of_pos_right hm hp
  have h3 : bp la = bp (la - j) * bp j := by rw [← bp_add]; congr 1; omega
  have h4 : bp (la - j) * (bp j * 2 ^ s) ≤ bp (la - j) * (n * 2 ^ s) := Nat.mul_le_mul_left _ (Nat.mul_le_mul_right _ hn)
  rw [h3, Nat.mul_assoc] at h2
  have h5 : bp (la - j) * val (R.drop (la - j)) < bp (la - j) * (n * 2 ^ s) := by omega
  exact Nat.lt_of_mul_lt_mul_left h5

/-- What a round asks. -/
theorem long_ask {R : List UInt32} {i j D : Nat} (hl : i + (j + 2) ≤ R.length) (hh : val (R.drop (i + 1)) < D) : val (seg R i (j + 2)) < D * 4294967296 := by
  have h1 := val_drop_eq R i (j + 2) hl
  have h2 := val_drop_cons (l := R) (k := i) (by omega)
  have h3 := u32_lt (R[i]'(by omega))
  rw [Nat.mul_comm D]
  have : 4294967296 * (val (R.drop (i + 1)) + 1) ≤ 4294967296 * D := Nat.mul_le_mul_left _ hh
  omega
/-- A round. -/
theorem long_step {R R' Q : List UInt32} {i j D M : Nat} (hl : i + (j + 2) ≤ R.length) (hD : D < bp (j + 1)) (hD0 : 0 < D) (hh : val (R.drop (i + 1)) < D) (hf : far R' R i (j + 2)) (hs : val (seg R' i (j + 2)) = val (seg R i (j + 2)) % D) (hi : i < Q.length)
    (hv : M = val R + D * (bp (i + 1) * val (Q.drop (i + 1)))) :
    val (R'.drop i) < D ∧ M = val R' + D * (bp i * val ((Q.set i (UInt32.ofNat (val (seg R i (j + 2)) / D))).drop i)) := by
  have hask := long_ask hl hh
  have h1 := val_drop_eq R i (j + 2) hl
  have h2 := val_drop_cons (l := R) (k := i) (by omega)
  have h3 := u32_lt (R[i]'(by omega))
  have h0 : val (R.drop (i + (j + 2))) = 0 := by
    have h4 : val (R.drop i) < bp (j + 2) := by
      have e : bp (j + 2) = 4294967296 * bp (j + 1) := bp_succ (j + 1)
      have : 4294967296 * (val (R.drop (i + 1)) + 1) ≤ 4294967296 * bp (j + 1) := Nat.mul_le_mul_left _ (by omega)
      omega
    rcases Nat.eq_zero_or_pos (val (R.drop (i + (j + 2)))) with e | e
    · exact e
    · have : bp (j + 2) * 1 ≤ bp (j + 2) * val (R.drop (i + (j + 2))) := Nat.mul_le_mul_left _ e
      omega
  have h5 : R'.drop (i + (j + 2)) = R.drop (i + (j + 2)) := by
    apply List.ext_getElem?
    intro k
    rw [List.getElem?_drop, List.getElem?_drop]
    exact hf.2 _ (by omega)
  have h6 := val_drop_eq R' i (j + 2) (by rw [hf.1]; exact hl)
  rw [h5, h0, hs, Nat.mul_zero, Nat.add_zero] at h6
  have hlt : val (seg R i (j + 2)) / D < 4294967296 := by rw [Nat.div_lt_iff_lt_mul hD0, Nat.mul_comm]; exact hask
  refine ⟨by rw [h6]; exact Nat.mod_lt _ hD0, ?_⟩
  have h7 := far_val hf hl
  rw [hs] at h7
  rw [val_drop_set hi, u32_of _ hlt, hv, bp_succ]
  generalize val (seg R i (j + 2)) = S at *
  generalize val (Q.drop (i + 1)) = q at *
  have h8 := Nat.div_add_mod S D
  have e1 : bp i * S = bp i * (D * (S / D)) + bp i * (S % D) := by rw [← Nat.mul_add, h8]
  have e2 : bp i * (S / D + 4294967296 * q) = bp i * (S / D) + 4294967296 * bp i * q := by
    rw [Nat.mul_add, ← Nat.mul_assoc, Nat.mul_comm (bp i) 4294967296]
  rw [e2, Nat.mul_add]
  have e3 : D * (bp i * (S / D)) = bp i * (D * (S / D)) := by rw [← Nat.mul_assoc, ← Nat.mul_assoc, Nat.mul_comm D]
  omega
/-- The end. -/
theorem long_end {m n s R Q : Nat} (hn : 0 < n) (h : m * 2 ^ s = R + n * 2 ^ s * Q) (hR : R < n * 2 ^ s) : Q = m / n ∧ R / 2 ^ s = m % n := by
  have hp : 0 < 2 ^ s := Nat.pow_pos (by decide)
  generalize 2 ^ s = p at *
  have h1 : n * Q ≤ m := by
    have : n * Q * p ≤ m * p := by
      have e : n * p * Q = n * Q * p := by rw [Nat.mul_assoc, Nat.mul_comm p, Nat.mul_assoc]
      omega
    exact Nat.le_of_mul_le_mul_right this hp
  obtain ⟨r, rfl⟩ : ∃ r, m = n * Q + r := ⟨m - n * Q, by omega⟩
  have h2 : R = r * p := by
    rw [Nat.add_mul] at h
    have e : n * p * Q = n * Q * p := by rw [Nat.mul_assoc, Nat.mul_comm p, Nat.mul_assoc]
    omega
  subst h2
  have h3 : r < n := Nat.lt_of_mul_lt_mul_right hR
  rw [Nat.mul_add_div hn, Nat.mul_add_mod, Nat.div_eq_of_lt h3, Nat.mod_eq_of_lt h3, Nat.mul_div_cancel _ hp]
  exact ⟨by omega, rfl⟩
end Go.Proofs.YtffbmkobholmhaaDoor
