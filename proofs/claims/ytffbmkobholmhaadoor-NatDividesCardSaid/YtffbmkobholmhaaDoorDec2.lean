/- Digits from below. No program is named here. -/
import Derived.Test.YtffbmkobholmhaaDoorDec
namespace Go.Proofs.YtffbmkobholmhaaDoor
open Go.RowKit
set_option linter.unusedVariables false

/-- k digits of n, the last one first. -/
def led (k n : Nat) : List UInt8 := (List.range k).map fun i => UInt8.ofNat (48 + n / 10 ^ i % 10)
theorem led_len (k n : Nat) : (led k n).length = k := by simp [led]
theorem led_zero (n : Nat) : led 0 n = [] := rfl
theorem led_succ (k n : Nat) : led (k + 1) n = led k n ++ [UInt8.ofNat (48 + n / 10 ^ k % 10)] := by simp [led, List.range_succ]
theorem led_add (k j n : Nat) : led (k + j) n = led k n ++ led j (n / 10 ^ k) := by
  induction j with
  | zero => simp [led_zero]
  | succ j ih => rw [← Nat.add_assoc, led_succ, ih, led_succ, Nat.div_div_eq_div_mul, ← Nat.pow_add, List.append_assoc]
theorem led_mod (n : Nat) : led 9 (n % 1000000000) = led 9 n := by
  unfold led
  apply List.map_congr_left
  intro i hi
  have hi9 : i < 9 := List.mem_range.1 hi
  congr 2
  have e : (1000000000 : Nat) = 10 ^ i * (10 * 10 ^ (8 - i)) := by
    rw [← Nat.mul_assoc, Nat.mul_comm (10 ^ i) 10, Nat.mul_assoc, ← Nat.pow_add, show i + (8 - i) = 8 by omega]
  rw [e, Nat.mod_mul_right_div_self, Nat.mod_mul_right_mod]
theorem led_cons (k n : Nat) : led (k + 1) n = UInt8.ofNat (48 + n % 10) :: led k (n / 10) := by
  have h := led_add 1 k n
  rw [Nat.add_comm, h, Nat.pow_one]
  simp [led]
theorem led_of_zero (k : Nat) : led k 0 = List.replicate k 48 := by
  induction k with
  | zero => rfl
  | succ k ih => rw [led_cons, Nat.zero_div, ih, List.replicate_succ]; rfl
theorem led_dec : ∀ (k V : Nat), 0 < V → V < 10 ^ k → led k V = (Lib.decDigits V).reverse ++ List.replicate (k - (Lib.decDigits V).length) 48
  | 0, V, h1, h2 => by simp at h2; omega
  | k + 1, V, h1, h2 => by
    rw [led_cons]
    by_cases h : V < 10
    · rw [decDigits_small h, Nat.div_eq_of_lt h, led_of_zero, Nat.mod_eq_of_lt h]
      simp
    · have ih := led_dec k (V / 10) (by omega) (by rw [Nat.pow_succ] at h2; omega)
      rw [ih, decDigits_big h, List.reverse_append, List.length_append]
      simp only [List.reverse_cons, List.reverse_nil, List.nil_append, List.cons_append, List.length_cons, List.length_nil]
      congr 3
      omega

/-- Without the zeros at the end. -/
def trimR (l : List UInt8) : List UInt8 := (l.reverse.dropWhile (· == 48)).reverse
theorem trimR_snoc (l : List UInt8) (b : UInt8) : trimR (l ++ [b]) = if b = 48 then trimR l else l ++ [b] := by
  unfold trimR
  rw [List.reverse_append, List.reverse_cons, List.reverse_nil, List.nil_append, List.cons_append, List.nil_append, List.dropWhile_cons]
  by_cases h : b = 48
  · simp [h]
  · simp [h]
theorem trimR_nil : trimR [] = [] := rfl
theorem trimR_zeros (l : List UInt8) (n : Nat) : trimR (l ++ List.replicate n 48) = trimR l := by
  induction n with
  | zero => simp
  | succ n ih =>
    rw [List.replicate_succ', ← List.append_assoc, trimR_snoc, if_pos rfl, ih]
theorem trimR_head {l : List UInt8} (h : l ≠ []) (h2 : l.head? ≠ some 48) : trimR l.reverse = l.reverse := by
  cases l with
  | nil => exact absurd rfl h
  | cons b l =>
    rw [List.reverse_cons, trimR_snoc, if_neg (fun e => h2 (by rw [e]; rfl))]
theorem trimR_led {k V : Nat} (h1 : 0 < V) (h2 : V < 10 ^ k) : trimR (led k V) = (Lib.decDigits V).reverse := by
  rw [led_dec k V h1 h2, trimR_zeros, trimR_head (decDigits_ne V) (head_dec V (by omega))]
theorem trimR_take (l : List UInt8) : ∀ k, k ≤ l.length → ∃ m, m ≤ k ∧ trimR (l.take k) = l.take m := by
  intro k
  induction k with
  | zero => intro _; exact ⟨0, Nat.le_refl _, rfl⟩
  | succ k ih =>
    intro hk
    rw [List.take_succ_eq_append_getElem (by omega), trimR_snoc]
    split
    · obtain ⟨m, hm, e⟩ := ih (by omega)
      exact ⟨m, by omega, e⟩
    · exact ⟨k + 1, Nat.le_refl _, by rw [List.take_succ_eq_append_getElem (by omega)]⟩
theorem trimR_eq_take (l : List UInt8) : trimR l = l.take (trimR l).length ∧ (trimR l).length ≤ l.length := by
  obtain ⟨m, hm, e⟩ := trimR_take l l.length (Nat.le_refl _)
  rw [List.take_of_length_le (Nat.le_refl _)] at e
  have hl : (trimR l).length = m := by rw [e, List.length_take]; omega
  exact ⟨by rw [hl]; exact e, by omega⟩

theorem isNatB_iff (l : List UInt8) : isNatB l = true ↔ (l = [48] ∨ (isOfB 48 57 l = true ∧ l.head? ≠ some 48)) := by
  unfold isNatB
  simp
end Go.Proofs.YtffbmkobholmhaaDoor
