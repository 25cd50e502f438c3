/- Natural numbers as lists of limbs of 32 bits, the least significant one first: values, the shortest list of a number, pieces, comparison. No program is named here. -/
import Derived.WalkKit
namespace Go.Proofs.YtffbmkobholmhaaDoor
open Go.RowKit
set_option linter.unusedVariables false

/-- The powers of 2^32. -/
def bp (n : Nat) : Nat := 4294967296 ^ n
theorem bp_zero : bp 0 = 1 := rfl
theorem bp_one : bp 1 = 4294967296 := rfl
theorem bp_succ (n : Nat) : bp (n + 1) = 4294967296 * bp n := by unfold bp; rw [Nat.pow_succ, Nat.mul_comm]
theorem bp_pos (n : Nat) : 0 < bp n := Nat.pow_pos (by decide)
theorem bp_add (m n : Nat) : bp (m + n) = bp m * bp n := by unfold bp; rw [Nat.pow_add]
theorem bp_mono {m n : Nat} (h : m ≤ n) : bp m ≤ bp n := Nat.pow_le_pow_right (by decide) h
theorem bp_lt {m n : Nat} (h : m < n) : bp m < bp n := Nat.pow_lt_pow_right (by decide) h

/-- The value of a list of limbs. -/
def val : List UInt32 → Nat
  | [] => 0
  | x :: xs => x.toNat + 4294967296 * val xs

theorem u32_lt (x : UInt32) : x.toNat < 4294967296 := x.toNat_lt
theorem u32_of (n : Nat) (h : n < 4294967296) : (UInt32.ofNat n).toNat = n := by rw [UInt32.toNat_ofNat']; exact Nat.mod_eq_of_lt h
theorem u32_mod (n : Nat) : (UInt32.ofNat n).toNat = n % 4294967296 := UInt32.toNat_ofNat'
theorem u32_eq {x y : UInt32} (h : x.toNat = y.toNat) : x = y := UInt32.toNat_inj.1 h
theorem u32_ofNat_toNat (x : UInt32) : UInt32.ofNat x.toNat = x := u32_eq (by rw [u32_of _ (u32_lt x)])
theorem u32_zero : (0 : UInt32).toNat = 0 := rfl

theorem val_nil : val [] = 0 := rfl
theorem val_cons (x : UInt32) (l : List UInt32) : val (x :: l) = x.toNat + 4294967296 * val l := rfl
theorem val_one (x : UInt32) : val [x] = x.toNat := by simp [val]
theorem val_append : ∀ l m : List UInt32, val (l ++ m) = val l + bp l.length * val m
  | [], m => by simp [val, bp_zero]
  | x :: l, m => by
    have := val_append l m
    simp only [List.cons_append, val_cons, this, List.length_cons, bp_succ, Nat.mul_add, Nat.mul_assoc, Nat.add_assoc]
theorem val_lt : ∀ l : List UInt32, val l < bp l.length
  | [] => by simp [val, bp_zero]
  | x :: l => by
    have := val_lt l
    have := u32_lt x
    simp only [val_cons, List.length_cons, bp_succ]
    omega
theorem val_snoc (l : List UInt32) (x : UInt32) : val (l ++ [x]) = val l + bp l.length * x.toNat := by rw [val_append, val_one]
theorem val_zeros (n : Nat) : val (List.replicate n 0) = 0 := by
  induction n with
  | zero => rfl
  | succ n ih => rw [List.replicate_succ, val_cons, ih]; rfl
theorem val_inj : ∀ l m : List UInt32, l.length = m.length → val l = val m → l = m
  | [], [], _, _ => rfl
  | x :: l, y :: m, h1, h2 => by
    have hx := u32_lt x
    have hy := u32_lt y
    simp only [val_cons] at h2
    have e1 : x.toNat = y.toNat := by omega
    have e2 : val l = val m := by omega
    rw [u32_eq e1, val_inj l m (by simpa using h1) e2]

/-- The shortest list of limbs of a number. -/
def limbs (n : Nat) : List UInt32 := if h : n = 0 then [] else UInt32.ofNat (n % 4294967296) :: limbs (n / 4294967296)
decreasing_by omega
theorem limbs_zero : limbs 0 = [] := by rw [limbs]; simp
theorem limbs_pos {n : Nat} (h : n ≠ 0) : limbs n = UInt32.ofNat (n % 4294967296) :: limbs (n / 4294967296) := by rw [limbs]; simp [h]
theorem val_limbs (n : Nat) : val (limbs n) = n := by
  induction n using Nat.strongRecOn with
  | ind n ih =>
    by_cases h : n = 0
    · subst h; rw [limbs_zero]; rfl
    · rw [limbs_pos h, val_cons, ih _ (by omega), u32_of _ (by omega)]; omega
theorem limbs_inj {m n : Nat} (h : limbs m = limbs n) : m = n := by rw [← val_limbs m, h, val_limbs]
theorem limbs_nil {n : Nat} : limbs n = [] ↔ n = 0 := ⟨fun h => by rw [← val_limbs n, h]; rfl, fun h => by rw [h, limbs_zero]⟩
theorem limbs_len_le {n k : Nat} : (limbs n).length ≤ k ↔ n < bp k := by
  induction k generalizing n with
  | zero => rw [bp_zero]; constructor
            · intro h
              have := (limbs_nil (n := n)).1 (List.eq_nil_of_length_eq_zero (by omega)); omega
            · intro h
              rw [limbs_nil.2 (by omega)]; simp
  | succ k ih =>
    by_cases h : n = 0
    · subst h; rw [limbs_zero]; simp [bp_pos]
    · rw [limbs_pos h, List.length_cons, bp_succ]
      have := ih (n := n / 4294967296)
      have := bp_pos k
      constructor
      · intro h2
        have : n / 4294967296 < bp k := (ih).1 (by omega)
        omega
      · intro h2
        have : (limbs (n / 4294967296)).length ≤ k := ih.2 (by omega)
        omega
theorem limbs_len_lt {n k : Nat} : k < (limbs n).length ↔ bp k ≤ n := by
  have := @limbs_len_le n k
  omega
theorem limbs_mono {m n : Nat} (h : m ≤ n) : (limbs m).length ≤ (limbs n).length := limbs_len_le.2 (Nat.lt_of_le_of_lt h (limbs_len_le.1 (Nat.le_refl _)))
theorem limbs_len_eq_zero {n : Nat} : (limbs n).length = 0 ↔ n = 0 := by rw [List.length_eq_zero_iff, limbs_nil]

theorem limbs_cons {x : UInt32} {l : List UInt32} (h : val (x :: l) ≠ 0) : limbs (val (x :: l)) = x :: limbs (val l) := by
  rw [limbs_pos h]
  have hx := u32_lt x
  have e1 : val (x :: l) % 4294967296 = x.toNat := by rw [val_cons]; omega
  have e2 : val (x :: l) / 4294967296 = val l := by rw [val_cons]; omega
  rw [e1, e2, u32_ofNat_toNat]
/-- A list whose last limb isn't 0 is the shortest one. -/
theorem limbs_val_snoc : ∀ (l : List UInt32) (x : UInt32), x ≠ 0 → limbs (val (l ++ [x])) = l ++ [x]
  | [], x, h => by
    have hx : x.toNat ≠ 0 := fun e => h (u32_eq (by rw [e]; rfl))
    rw [List.nil_append, limbs_cons (by rw [val_one]; exact hx), val_nil, limbs_zero]
  | y :: l, x, h => by
    have ih := limbs_val_snoc l x h
    have hne : val (l ++ [x]) ≠ 0 := fun e => by rw [e, limbs_zero] at ih; simp at ih
    rw [List.cons_append, limbs_cons (by rw [val_cons]; omega), ih]
theorem snoc_of {l : List UInt32} {n : Nat} (h : l.length = n + 1) : l = l.take n ++ [l[n]] := by
  have := List.take_succ_eq_append_getElem (l := l) (i := n) (by omega)
  rw [← this, List.take_of_length_le (by omega)]
theorem limbs_val_last {l : List UInt32} {n : Nat} (h : l.length = n + 1) (hx : l[n] ≠ 0) : limbs (val l) = l := by
  rw [snoc_of h]
  exact limbs_val_snoc _ _ hx
theorem last_of_limbs {l : List UInt32} {n : Nat} (h : l.length = n + 1) (hn : limbs (val l) = l) : l[n] ≠ 0 := by
  intro hx
  have e : val l = val (l.take n) := by
    have := congrArg val (snoc_of h)
    rw [this, val_snoc, hx]; simp
  have h2 : val l < bp n := by
    rw [e]
    have := val_lt (l.take n)
    rwa [List.length_take, Nat.min_eq_left (by omega)] at this
  have := limbs_len_le.2 h2
  rw [hn] at this
  omega
theorem limbs_last {n k : Nat} (h : (limbs n).length = k + 1) : (limbs n)[k] ≠ 0 := last_of_limbs h (by rw [val_limbs])

/-- Pieces. -/
def seg (l : List UInt32) (o n : Nat) : List UInt32 := (l.drop o).take n
theorem seg_len {l : List UInt32} {o n : Nat} (h : o + n ≤ l.length) : (seg l o n).length = n := by unfold seg; simp; omega
theorem seg_get {l : List UInt32} {o n j : Nat} (h : o + n ≤ l.length) (hj : j < n) : (seg l o n)[j]'(by rw [seg_len h]; exact hj) = l[o + j] := by unfold seg; simp
theorem seg_zero (l : List UInt32) (o : Nat) : seg l o 0 = [] := by unfold seg; simp
theorem seg_all (l : List UInt32) : seg l 0 l.length = l := by unfold seg; simp
theorem seg_take (l : List UInt32) (n : Nat) : seg l 0 n = l.take n := by unfold seg; simp
theorem seg_snoc {l : List UInt32} {o n : Nat} (h : o + n < l.length) : seg l o (n + 1) = seg l o n ++ [l[o + n]] := by
  unfold seg
  rw [List.take_succ_eq_append_getElem (by simp; omega)]
  simp
theorem seg_cons {l : List UInt32} {o n : Nat} (h : o < l.length) : seg l o (n + 1) = l[o] :: seg l (o + 1) n := by
  unfold seg
  rw [List.drop_eq_getElem_cons h, List.take_succ_cons]
theorem seg_add (l : List UInt32) (o m n : Nat) (h : o + m ≤ l.length) : seg l o (m + n) = seg l o m ++ seg l (o + m) n := by
  unfold seg
  rw [List.take_add, List.drop_drop]
theorem seg_congr {l m : List UInt32} {o n : Nat} (hl : o + n ≤ l.length) (hm : o + n ≤ m.length) (h : ∀ j (h1 : o ≤ j) (h2 : j < o + n), l[j]'(by omega) = m[j]'(by omega)) : seg l o n = seg m o n := by
  apply List.ext_getElem
  · rw [seg_len hl, seg_len hm]
  · intro i h1 h2
    rw [seg_len hl] at h1
    rw [seg_get hl h1, seg_get hm h1]
    exact h _ (by omega) (by omega)
theorem val_seg_snoc {l : List UInt32} {o n : Nat} (h : o + n < l.length) : val (seg l o (n + 1)) = val (seg l o n) + bp n * (l[o + n]).toNat := by
  rw [seg_snoc h, val_snoc, seg_len (by omega)]
theorem val_seg_cons {l : List UInt32} {o n : Nat} (h : o < l.length) : val (seg l o (n + 1)) = (l[o]).toNat + 4294967296 * val (seg l (o + 1) n) := by
  rw [seg_cons h, val_cons]
theorem val_seg_add (l : List UInt32) (o m n : Nat) (h : o + m ≤ l.length) : val (seg l o (m + n)) = val (seg l o m) + bp m * val (seg l (o + m) n) := by
  rw [seg_add l o m n h, val_append, seg_len h]
theorem val_seg_lt (l : List UInt32) (o n : Nat) (h : o + n ≤ l.length) : val (seg l o n) < bp n := by
  have := val_lt (seg l o n)
  rwa [seg_len h] at this
/-- A list in three pieces. -/
theorem val_three (l : List UInt32) (o n r : Nat) (h : o + n + r = l.length) : val l = val (seg l 0 o) + bp o * (val (seg l o n) + bp n * val (seg l (o + n) r)) := by
  have e : l = seg l 0 (o + (n + r)) := by rw [← Nat.add_assoc, h, seg_all]
  have h1 := val_seg_add l 0 o (n + r) (by omega)
  have h2 := val_seg_add l o n r (by omega)
  rw [Nat.zero_add] at h1
  rw [← e] at h1
  rw [h1, h2]

/-- The limb of a sum, of a product. -/
theorem val_take_succ {l : List UInt32} {k : Nat} (h : k < l.length) : val (l.take (k + 1)) = val (l.take k) + bp k * (l[k]).toNat := by
  have := val_seg_snoc (l := l) (o := 0) (n := k) (by omega)
  simpa [seg_take] using this
theorem val_take_lt (l : List UInt32) (k : Nat) (h : k ≤ l.length) : val (l.take k) < bp k := by
  have := val_seg_lt l 0 k (by omega)
  rwa [seg_take] at this
theorem val_take_len (l : List UInt32) : val (l.take l.length) = val l := by rw [List.take_of_length_le (Nat.le_refl _)]

/-- Comparison from above. -/
theorem val_drop_lt {l m : List UInt32} {k : Nat} (hl : k < l.length) (hlm : l.length = m.length) (hd : l.drop (k + 1) = m.drop (k + 1)) (hx : (l[k]).toNat < (m[k]'(by omega)).toNat) : val l < val m := by
  have e1 : val l = val (l.take (k + 1)) + bp (k + 1) * val (l.drop (k + 1)) := by
    have := val_append (l.take (k + 1)) (l.drop (k + 1))
    rwa [List.take_append_drop, List.length_take, Nat.min_eq_left (by omega)] at this
  have e2 : val m = val (m.take (k + 1)) + bp (k + 1) * val (m.drop (k + 1)) := by
    have := val_append (m.take (k + 1)) (m.drop (k + 1))
    rwa [List.take_append_drop, List.length_take, Nat.min_eq_left (by omega)] at this
  have h1 := val_take_succ hl
  have h2 := val_take_succ (l := m) (k := k) (by omega)
  have h3 := val_take_lt l k (by omega)
  rw [e1, e2, hd, h1, h2]
  have h4 : bp k * ((l[k]).toNat + 1) ≤ bp k * (m[k]'(by omega)).toNat := Nat.mul_le_mul_left _ hx
  rw [Nat.mul_add, Nat.mul_one] at h4
  omega
theorem val_lt_of_len {m n : Nat} (h : (limbs m).length < (limbs n).length) : m < n := by
  rcases Nat.lt_or_ge m n with h1 | h1
  · exact h1
  · have := limbs_mono h1; omega
end Go.Proofs.YtffbmkobholmhaaDoor
