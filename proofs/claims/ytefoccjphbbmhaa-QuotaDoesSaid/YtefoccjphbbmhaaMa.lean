/- Numbers as lists of limbs, their arithmetic, decimal strings, division; what nat's functions answer. No program is named here. -/
import Derived.WalkKit
import Derived.Lib.ItoaNum
namespace Go.Proofs.Ytefoccjphbbmhaa
open Go.RowKit
set_option linter.unusedVariables false

/-- The powers of 2^32. -/
def bp (n : Nat) : Nat := 4294967296 ^ n
theorem bp_zero : bp 0 = 1 := rfl
theorem bp_one : bp 1 = 4294967296 := rfl
theorem bp_succ (n : Nat) : bp (n + 1) = 4294967296 * bp n := by unfold bp; rw [Nat.pow_succ, Nat.mul_comm]
theorem bp_pos (n : Nat) : 0 < bp n := Nat.pow_pos (by decide)
theorem bp_add (m n : Nat) : bp (m + n) = bp m * bp n := by unfold bp; rw [Nat.pow_add]
theorem bp_mono {m n : Nat} (h : m ≤ n) : bp m ≤ bp n := Nat.pow_le_pow_right (by decide) h
theorem bp_lt {m n : Nat} (h : m < n) : bp m < bp n := Nat.pow_lt_pow_right (by decide) h

/-- The value of a list of limbs. -/
def val : List UInt32 → Nat
  | [] => 0
  | x :: xs => x.toNat + 4294967296 * val xs

theorem u32_lt (x : UInt32) : x.toNat < 4294967296 := x.toNat_lt
theorem u32_of (n : Nat) (h : n < 4294967296) : (UInt32.ofNat n).toNat = n := by rw [UInt32.toNat_ofNat']; exact Nat.mod_eq_of_lt h
theorem u32_mod (n : Nat) : (UInt32.ofNat n).toNat = n % 4294967296 := UInt32.toNat_ofNat'
theorem u32_eq {x y : UInt32} (h : x.toNat = y.toNat) : x = y := UInt32.toNat_inj.1 h
theorem u32_ofNat_toNat (x : UInt32) : UInt32.ofNat x.toNat = x := u32_eq (by rw [u32_of _ (u32_lt x)])
theorem u32_zero : (0 : UInt32).toNat = 0 := rfl

theorem val_nil : val [] = 0 := rfl
theorem val_cons (x : UInt32) (l : List UInt32) : val (x :: l) = x.toNat + 4294967296 * val l := rfl
theorem val_one (x : UInt32) : val [x] = x.toNat := by simp [val]
theorem val_append : ∀ l m : List UInt32, val (l ++ m) = val l + bp l.length * val m
  | [], m => by simp [val, bp_zero]
  | x :: l, m => by
    have := val_append l m
    simp only [List.cons_append, val_cons, this, List.length_cons, bp_succ, Nat.mul_add, Nat.mul_assoc, Nat.add_assoc]
theorem val_lt : ∀ l : List UInt32, val l < bp l.length
  | [] => by simp [val, bp_zero]
  | x :: l => by
    have := val_lt l
    have := u32_lt x
    simp only [val_cons, List.length_cons, bp_succ]
    omega
theorem val_snoc (l : List UInt32) (x : UInt32) : val (l ++ [x]) = val l + bp l.length * x.toNat := by rw [val_append, val_one]
theorem val_zeros (n : Nat) : val (List.replicate n 0) = 0 := by
  induction n with
  | zero => rfl
  | succ n ih => rw [List.replicate_succ, val_cons, ih]; rfl
theorem val_inj : ∀ l m : List UInt32, l.length = m.length → val l = val m → l = m
  | [], [], _, _ => rfl
  | x :: l, y :: m, h1, h2 => by
    have hx := u32_lt x
    have hy := u32_lt y
    simp only [val_cons] at h2
    have e1 : x.toNat = y.toNat := by omega
    have e2 : val l = val m := by omega
    rw [u32_eq e1, val_inj l m (by simpa using h1) e2]

/-- The shortest list of limbs of a number. -/
def limbs (n : Nat) : List UInt32 := if h : n = 0 then [] else UInt32.ofNat (n % 4294967296) :: limbs (n / 4294967296)
decreasing_by omega
theorem limbs_zero : limbs 0 = [] := by rw [limbs]; simp
theorem limbs_pos {n : Nat} (h : n ≠ 0) : limbs n = UInt32.ofNat (n % 4294967296) :: limbs (n / 4294967296) := by rw [limbs]; simp [h]
theorem val_limbs (n : Nat) : val (limbs n) = n := by
  induction n using Nat.strongRecOn with
  | ind n ih =>
    by_cases h : n = 0
    · subst h; rw [limbs_zero]; rfl
    · rw [limbs_pos h, val_cons, ih _ (by omega), u32_of _ (by omega)]; omega
theorem limbs_inj {m n : Nat} (h : limbs m = limbs n) : m = n := by rw [← val_limbs m, h, val_limbs]
theorem limbs_nil {n : Nat} : limbs n = [] ↔ n = 0 := ⟨fun h => by rw [← val_limbs n, h]; rfl, fun h => by rw [h, limbs_zero]⟩
theorem limbs_len_le {n k : Nat} : (limbs n).length ≤ k ↔ n < bp k := by
  induction k generalizing n with
  | zero => rw [bp_zero]; constructor
            · intro h
              have := (limbs_nil (n := n)).1 (List.eq_nil_of_length_eq_zero (by omega)); omega
            · intro h
              rw [limbs_nil.2 (by omega)]; simp
  | succ k ih =>
    by_cases h : n = 0
    · subst h; rw [limbs_zero]; simp [bp_pos]
    · rw [limbs_pos h, List.length_cons, bp_succ]
      have := ih (n := n / 4294967296)
      have := bp_pos k
      constructor
      · intro h2
        have : n / 4294967296 < bp k := (ih).1 (by omega)
        omega
      · intro h2
        have : (limbs (n / 4294967296)).length ≤ k := ih.2 (by omega)
        omega
theorem limbs_len_lt {n k : Nat} : k < (limbs n).length ↔ bp k ≤ n := by
  have := @limbs_len_le n k
  omega
theorem limbs_mono {m n : Nat} (h : m ≤ n) : (limbs m).length ≤ (limbs n).length := limbs_len_le.2 (Nat.lt_of_le_of_lt h (limbs_len_le.1 (Nat.le_refl _)))
theorem limbs_len_eq_zero {n : Nat} : (limbs n).length = 0 ↔ n = 0 := by rw [List.length_eq_zero_iff, limbs_nil]

theorem limbs_cons {x : UInt32} {l : List UInt32} (h : val (x :: l) ≠ 0) : limbs (val (x :: l)) = x :: limbs (val l) := by
  rw [limbs_pos h]
  have hx := u32_lt x
  have e1 : val (x :: l) % 4294967296 = x.toNat := by rw [val_cons]; omega
  have e2 : val (x :: l) / 4294967296 = val l := by rw [val_cons]; omega
  rw [e1, e2, u32_ofNat_toNat]
/-- A list whose last limb isn't 0 is the shortest one. -/
theorem limbs_val_snoc : ∀ (l : List UInt32) (x : UInt32), x ≠ 0 → limbs (val (l ++ [x])) = l ++ [x]
  | [], x, h => by
    have hx : x.toNat ≠ 0 := fun e => h (u32_eq (by rw [e]; rfl))
    rw [List.nil_append, limbs_cons (by rw [val_one]; exact hx), val_nil, limbs_zero]
  | y :: l, x, h => by
    have ih := limbs_val_snoc l x h
    have hne : val (l ++ [x]) ≠ 0 := fun e => by rw [e, limbs_zero] at ih; simp at ih
    rw [List.cons_append, limbs_cons (by rw [val_cons]; omega), ih]
theorem snoc_of {l : List UInt32} {n : Nat} (h : l.length = n + 1) : l = l.take n ++ [l[n]] := by
  have := List.take_succ_eq_append_getElem (l := l) (i := n) (by omega)
  rw [← this, List.take_of_length_le (by omega)]
theorem limbs_val_last {l : List UInt32} {n : Nat} (h : l.length = n + 1) (hx : l[n] ≠ 0) : limbs (val l) = l := by
  rw [snoc_of h]
  exact limbs_val_snoc _ _ hx
theorem last_of_limbs {l : List UInt32} {n : Nat} (h : l.length = n + 1) (hn : limbs (val l) = l) : l[n] ≠ 0 := by
  intro hx
  have e : val l = val (l.take n) := by
    have := congrArg val (snoc_of h)
    rw [this, val_snoc, hx]; simp
  have h2 : val l < bp n := by
    rw [e]
    have := val_lt (l.take n)
    rwa [List.length_take, Nat.min_eq_left (by omega)] at this
  have := limbs_len_le.2 h2
  rw [hn] at this
  omega
theorem limbs_last {n k : Nat} (h : (limbs n).length = k + 1) : (limbs n)[k] ≠ 0 := last_of_limbs h (by rw [val_limbs])

/-- Pieces. -/
def seg (l : List UInt32) (o n : Nat) : List UInt32 := (l.drop o).take n
theorem seg_len {l : List UInt32} {o n : Nat} (h : o + n ≤ l.length) : (seg l o n).length = n := by unfold seg; simp; omega
theorem seg_get {l : List UInt32} {o n j : Nat} (h : o + n ≤ l.length) (hj : j < n) : (seg l o n)[j]'(by rw [seg_len h]; exact hj) = l[o + j] := by unfold seg; simp
theorem seg_zero (l : List UInt32) (o : Nat) : seg l o 0 = [] := by unfold seg; simp
theorem seg_all (l : List UInt32) : seg l 0 l.length = l := by unfold seg; simp
theorem seg_take (l : List UInt32) (n : Nat) : seg l 0 n = l.take n := by unfold seg; simp
theorem seg_snoc {l : List UInt32} {o n : Nat} (h : o + n < l.length) : seg l o (n + 1) = seg l o n ++ [l[o + n]] := by
  unfold seg
  rw [List.take_succ_eq_append_getElem (by simp; omega)]
  simp
theorem seg_cons {l : List UInt32} {o n : Nat} (h : o < l.length) : seg l o (n + 1) = l[o] :: seg l (o + 1) n := by
  unfold seg
  rw [List.drop_eq_getElem_cons h, List.take_succ_cons]
theorem seg_add (l : List UInt32) (o m n : Nat) (h : o + m ≤ l.length) : seg l o (m + n) = seg l o m ++ seg l (o + m) n := by
  unfold seg
  rw [List.take_add, List.drop_drop]
theorem seg_congr {l m : List UInt32} {o n : Nat} (hl : o + n ≤ l.length) (hm : o + n ≤ m.length) (h : ∀ j (h1 : o ≤ j) (h2 : j < o + n), l[j]'(by omega) = m[j]'(by omega)) : seg l o n = seg m o n := by
  apply List.ext_getElem
  · rw [seg_len hl, seg_len hm]
  · intro i h1 h2
    rw [seg_len hl] at h1
    rw [seg_get hl h1, seg_get hm h1]
    exact h _ (by omega) (by omega)
theorem val_seg_snoc {l : List UInt32} {o n : Nat} (h : o + n < l.length) : val (seg l o (n + 1)) = val (seg l o n) + bp n * (l[o + n]).toNat := by
  rw [seg_snoc h, val_snoc, seg_len (by omega)]
theorem val_seg_cons {l : List UInt32} {o n : Nat} (h : o < l.length) : val (seg l o (n + 1)) = (l[o]).toNat + 4294967296 * val (seg l (o + 1) n) := by
  rw [seg_cons h, val_cons]
theorem val_seg_add (l : List UInt32) (o m n : Nat) (h : o + m ≤ l.length) : val (seg l o (m + n)) = val (seg l o m) + bp m * val (seg l (o + m) n) := by
  rw [seg_add l o m n h, val_append, seg_len h]
theorem val_seg_lt (l : List UInt32) (o n : Nat) (h : o + n ≤ l.length) : val (seg l o n) < bp n := by
  have := val_lt (seg l o n)
  rwa [seg_len h] at this
/-- A list in three pieces. -/
theorem val_three (l : List UInt32) (o n r : Nat) (h : o + n + r = l.length) : val l = val (seg l 0 o) + bp o * (val (seg l o n) + bp n * val (seg l (o + n) r)) := by
  have e : l = seg l 0 (o + (n + r)) := by rw [← Nat.add_assoc, h, seg_all]
  have h1 := val_seg_add l 0 o (n + r) (by omega)
  have h2 := val_seg_add l o n r (by omega)
  rw [Nat.zero_add] at h1
  rw [← e] at h1
  rw [h1, h2]

/-- The limb of a sum, of a product. -/
theorem val_take_succ {l : List UInt32} {k : Nat} (h : k < l.length) : val (l.take (k + 1)) = val (l.take k) + bp k * (l[k]).toNat := by
  have := val_seg_snoc (l := l) (o := 0) (n := k) (by omega)
  simpa [seg_take] using this
theorem val_take_lt (l : List UInt32) (k : Nat) (h : k ≤ l.length) : val (l.take k) < bp k := by
  have := val_seg_lt l 0 k (by omega)
  rwa [seg_take] at this
theorem val_take_len (l : List UInt32) : val (l.take l.length) = val l := by rw [List.take_of_length_le (Nat.le_refl _)]

/-- Comparison from above. -/
theorem val_drop_lt {l m : List UInt32} {k : Nat} (hl : k < l.length) (hlm : l.length = m.length) (hd : l.drop (k + 1) = m.drop (k + 1)) (hx : (l[k]).toNat < (m[k]'(by omega)).toNat) : val l < val m := by
  have e1 : val l = val (l.take (k + 1)) + bp (k + 1) * val (l.drop (k + 1)) := by
    have := val_append (l.take (k + 1)) (l.drop (k + 1))
    rwa [List.take_append_drop, List.length_take, Nat.min_eq_left (by omega)] at this
  have e2 : val m = val (m.take (k + 1)) + bp (k + 1) * val (m.drop (k + 1)) := by
    have := val_append (m.take (k + 1)) (m.drop (k + 1))
    rwa [List.take_append_drop, List.length_take, Nat.min_eq_left (by omega)] at this
  have h1 := val_take_succ hl
  have h2 := val_take_succ (l := m) (k := k) (by omega)
  have h3 := val_take_lt l k (by omega)
  rw [e1, e2, hd, h1, h2]
  have h4 : bp k * ((l[k]).toNat + 1) ≤ bp k * (m[k]'(by omega)).toNat := Nat.mul_le_mul_left _ hx
  rw [Nat.mul_add, Nat.mul_one] at h4
  omega
theorem val_lt_of_len {m n : Nat} (h : (limbs m).length < (limbs n).length) : m < n := by
  rcases Nat.lt_or_ge m n with h1 | h1
  · exact h1
  · have := limbs_mono h1; omega

/-- M is L but for the places from o to o + k. -/
def far (M L : List UInt32) (o k : Nat) : Prop := M.length = L.length ∧ ∀ j, (j < o ∨ o + k ≤ j) → M[j]? = L[j]?
theorem far_refl (L : List UInt32) (o k : Nat) : far L L o k := ⟨rfl, fun _ _ => rfl⟩
theorem far_more {M L : List UInt32} {o k o' k' : Nat} (h : far M L o k) (h1 : o' ≤ o) (h2 : o + k ≤ o' + k') : far M L o' k' := ⟨h.1, fun j hj => h.2 j (by omega)⟩
theorem far_trans {M N L : List UInt32} {o k : Nat} (h : far M N o k) (h2 : far N L o k) : far M L o k := ⟨h.1.trans h2.1, fun j hj => (h.2 j hj).trans (h2.2 j hj)⟩
theorem far_get {M L : List UInt32} {o k j : Nat} (h : far M L o k) (hj : j < L.length) (hf : j < o ∨ o + k ≤ j) : M[j]'(by rw [h.1]; exact hj) = L[j] := by
  have := h.2 j hf
  rw [List.getElem?_eq_getElem hj, List.getElem?_eq_getElem (by rw [h.1]; exact hj)] at this
  exact Option.some.inj this
theorem far_set {M L : List UInt32} {o k : Nat} (h : far M L o k) (x : UInt32) : far (M.set (o + k) x) L o (k + 1) :=
  ⟨by rw [List.length_set]; exact h.1, fun j hj => by rw [List.getElem?_set_ne (by omega)]; exact h.2 j (by omega)⟩
theorem far_set_in {M L : List UInt32} {o k p : Nat} (h : far M L o k) (hp : o ≤ p ∧ p < o + k) (x : UInt32) : far (M.set p x) L o k :=
  ⟨by rw [List.length_set]; exact h.1, fun j hj => by rw [List.getElem?_set_ne (by omega)]; exact h.2 j (by omega)⟩
theorem far_set0 {M L : List UInt32} {k : Nat} (h : far M L 0 k) (x : UInt32) : far (M.set k x) L 0 (k + 1) := by have := far_set h x; rwa [Nat.zero_add] at this
theorem seg_set {M : List UInt32} {o k : Nat} (h : o + k < M.length) (x : UInt32) : seg (M.set (o + k) x) o (k + 1) = seg M o k ++ [x] := by
  rw [seg_snoc (by rw [List.length_set]; exact h)]
  congr 1
  · refine seg_congr (by rw [List.length_set]; omega) (by omega) fun j h1 h2 => ?_
    rw [List.getElem_set_ne (by omega)]
  · rw [List.getElem_set_self]
theorem val_seg_set {M : List UInt32} {o k : Nat} (h : o + k < M.length) (x : UInt32) : val (seg (M.set (o + k) x) o (k + 1)) = val (seg M o k) + bp k * x.toNat := by
  rw [seg_set h, val_snoc, seg_len (by omega)]
theorem seg_far {M L : List UInt32} {o k p n : Nat} (h : far M L o k) (hp : p + n ≤ L.length) (hd : p + n ≤ o ∨ o + k ≤ p) : seg M p n = seg L p n :=
  seg_congr (by rw [h.1]; exact hp) hp fun j h1 h2 => far_get h (by omega) (by omega)
theorem far_val {M L : List UInt32} {o n : Nat} (h : far M L o n) (hl : o + n ≤ L.length) : val M + bp o * val (seg L o n) = val L + bp o * val (seg M o n) := by
  obtain ⟨r, hr⟩ : ∃ r, o + n + r = L.length := ⟨L.length - (o + n), by omega⟩
  have e1 := val_three L o n r hr
  have e2 := val_three M o n r (by rw [h.1]; exact hr)
  have e3 : seg M 0 o = seg L 0 o := seg_far h (by omega) (.inl (by omega))
  have e4 : seg M (o + n) r = seg L (o + n) r := seg_far h (by omega) (.inr (by omega))
  rw [e3, e4] at e2
  rw [e1, e2, Nat.mul_add, Nat.mul_add]
  omega
theorem far_eq {M L : List UInt32} {o : Nat} (h : far M L o 0) : M = L := List.ext_getElem? fun j => h.2 j (by omega)

/-- Limb i of a number, 0 beyond its limbs. -/
def lat (m : List UInt32) (i : Nat) : Nat := if h : i < m.length then (m[i]).toNat else 0
theorem lat_in {m : List UInt32} {i : Nat} (h : i < m.length) : lat m i = (m[i]).toNat := by unfold lat; rw [dif_pos h]
theorem lat_out {m : List UInt32} {i : Nat} (h : m.length ≤ i) : lat m i = 0 := by unfold lat; rw [dif_neg (by omega)]
theorem lat_lt (m : List UInt32) (i : Nat) : lat m i < 4294967296 := by
  unfold lat
  split
  · exact u32_lt _
  · decide
theorem val_take_lat (m : List UInt32) (k : Nat) : val (m.take (k + 1)) = val (m.take k) + bp k * lat m k := by
  by_cases h : k < m.length
  · rw [val_take_succ h, lat_in h]
  · rw [lat_out (by omega), List.take_of_length_le (by omega), List.take_of_length_le (by omega)]; omega
theorem val_take_ge {m : List UInt32} {k : Nat} (h : m.length ≤ k) : val (m.take k) = val m := by rw [List.take_of_length_le h]

/-- A round of an addition: s and c' are what a limb, another one and the carry give. -/
theorem add_round {v b1 b2 p l m s c c' : Nat} (h : v + p * c = b1 + b2) (hs : s + 4294967296 * c' = l + m + c) : (v + p * s) + (4294967296 * p) * c' = (b1 + p * l) + (b2 + p * m) := by
  have e : p * (s + 4294967296 * c') = p * (l + m + c) := by rw [hs]
  rw [Nat.mul_add, Nat.mul_add, Nat.mul_add] at e
  have e2 : p * (4294967296 * c') = (4294967296 * p) * c' := by rw [← Nat.mul_assoc, Nat.mul_comm p 4294967296]
  omega
/-- A round of 'subtract'. v: what the rest has become so far; b1: what it was; b2: so much of the other number; t: times; o, o': what is owed. -/
theorem sub_round {v b1 b2 p l m t s o o' : Nat} (h : v + b2 * t = b1 + p * o) (hs : s + (m * t + o) = l + 4294967296 * o') : (v + p * s) + (b2 + p * m) * t = (b1 + p * l) + (4294967296 * p) * o' := by
  have e : p * (s + (m * t + o)) = p * (l + 4294967296 * o') := by rw [hs]
  rw [Nat.mul_add, Nat.mul_add, Nat.mul_add] at e
  have e2 : p * (4294967296 * o') = (4294967296 * p) * o' := by rw [← Nat.mul_assoc, Nat.mul_comm p 4294967296]
  have e3 : (b2 + p * m) * t = b2 * t + p * (m * t) := by rw [Nat.add_mul, Nat.mul_assoc]
  omega
theorem mul_le_max {m t : Nat} (hm : m < 4294967296) (ht : t < 4294967296) : m * t ≤ 18446744065119617025 := Nat.le_trans (Nat.mul_le_mul (Nat.le_of_lt_succ hm) (Nat.le_of_lt_succ ht)) (by decide)
/-- The limb and the debt of a round of 'subtract': T is the product and what was owed. -/
theorem sub_owed {T l : Nat} (hT : T ≤ 18446744069414584320) (hl : l < 4294967296) :
    (l + 4294967296 - T % 4294967296) % 4294967296 + T = l + 4294967296 * (T / 4294967296 + if l < T % 4294967296 then 1 else 0) ∧ T / 4294967296 + (if l < T % 4294967296 then 1 else 0) < 4294967296 := by
  split <;> omega
/-- A round of 'addProduct', 'lengthen'. -/
theorem prod_round {v b1 b2 p l m t s c c' : Nat} (h : v + p * c = b1 + b2 * t) (hs : s + 4294967296 * c' = l + m * t + c) : (v + p * s) + (4294967296 * p) * c' = (b1 + p * l) + (b2 + p * m) * t := by
  have e : p * (s + 4294967296 * c') = p * (l + m * t + c) := by rw [hs]
  rw [Nat.mul_add, Nat.mul_add, Nat.mul_add] at e
  have e2 : p * (4294967296 * c') = (4294967296 * p) * c' := by rw [← Nat.mul_assoc, Nat.mul_comm p 4294967296]
  have e3 : (b2 + p * m) * t = b2 * t + p * (m * t) := by rw [Nat.add_mul, Nat.mul_assoc]
  omega
/-- A round of 'shorten', from above. H: the part of the old number so far, K: of the new one. -/
theorem short_round {H K r x b : Nat} (hb : 0 < b) (h : K * b + r = H) (hr : r < b) : (((4294967296 * r + x) / b + 4294967296 * K) * b + (4294967296 * r + x) % b = x + 4294967296 * H) := by
  have h1 := Nat.div_add_mod (4294967296 * r + x) b
  have e1 : ((4294967296 * r + x) / b + 4294967296 * K) * b = b * ((4294967296 * r + x) / b) + 4294967296 * (K * b) := by rw [Nat.add_mul, Nat.mul_comm _ b, Nat.mul_assoc]
  omega
theorem short_lt {r x b : Nat} (hb : b ≤ 4294967295) (hx : x < 4294967296) (hr : r < b) : (4294967296 * r + x) / b < 4294967296 := by
  rw [Nat.div_lt_iff_lt_mul (by omega)]
  have : 4294967296 * (r + 1) ≤ 4294967296 * b := Nat.mul_le_mul_left _ hr
  omega
theorem val_drop_cons {l : List UInt32} {k : Nat} (h : k < l.length) : val (l.drop k) = (l[k]).toNat + 4294967296 * val (l.drop (k + 1)) := by
  rw [List.drop_eq_getElem_cons h, val_cons]
theorem val_drop_set {l : List UInt32} {k : Nat} (h : k < l.length) (x : UInt32) : val ((l.set k x).drop k) = x.toNat + 4294967296 * val (l.drop (k + 1)) := by
  rw [val_drop_cons (by rw [List.length_set]; exact h), List.getElem_set_self, List.drop_set_of_lt (by omega)]

/-- The first guess at a digit is not less than the digit. -/
theorem guess_ge {S T D d n : Nat} (hd : 0 < d) (hT : S < (T + 1) * bp n) (hD : d * bp n ≤ D) (hq : S < D * 4294967296) : S / D ≤ min (T / d) 4294967295 := by
  have hD0 : 0 < D := Nat.lt_of_lt_of_le (Nat.mul_pos hd (bp_pos n)) hD
  have h1 : S / D < 4294967296 := by rw [Nat.div_lt_iff_lt_mul hD0, Nat.mul_comm]; exact hq
  have h2 : S / D ≤ T / d := by
    rw [Nat.le_div_iff_mul_le hd]
    have h3 : S / D * D ≤ S := Nat.div_mul_le_self S D
    have h4 : S / D * (d * bp n) ≤ S / D * D := Nat.mul_le_mul_left _ hD
    have h5 : (S / D * d) * bp n < (T + 1) * bp n := by rw [Nat.mul_assoc]; omega
    have h6 := Nat.lt_of_mul_lt_mul_right h5
    omega
  omega
/-- While something is owed the guess is too great. -/
theorem guess_high {S D R g o P : Nat} (hD : 0 < D) (h : R + g * D = S + P * o) (hR : R < P) (ho : 0 < o) (hg : S / D ≤ g) : S / D ≤ g - 1 ∧ 1 ≤ g := by
  have h1 : P * 1 ≤ P * o := Nat.mul_le_mul_left _ ho
  have h2 : S < g * D := by omega
  have h3 : S / D < g := by rw [Nat.div_lt_iff_lt_mul hD]; exact h2
  generalize S / D = q at h3
  omega
theorem guess_step {S D R R' g o c P : Nat} (h : R + g * D = S + P * o) (hg : 1 ≤ g) (hc : c ≤ o) (h2 : R' + P * c = R + D) : R' + (g - 1) * D = S + P * (o - c) := by
  have e1 : g * D = (g - 1) * D + D := by
    have h3 := Nat.add_mul (g - 1) 1 D
    rwa [Nat.sub_add_cancel hg, Nat.one_mul] at h3
  have e2 : P * o = P * (o - c) + P * c := by rw [← Nat.mul_add]; congr 1; omega
  omega
theorem guess_end {S D R g : Nat} (hD : 0 < D) (h : R + g * D = S) (hg : S / D ≤ g) : g = S / D ∧ R = S % D := by
  have h1 : g ≤ S / D := by rw [Nat.le_div_iff_mul_le hD]; omega
  have h2 : g = S / D := by omega
  have h3 := Nat.div_add_mod S D
  rw [Nat.mul_comm, ← h2] at h3
  exact ⟨h2, by omega⟩

/-- Not empty, and of bytes from lo to hi. -/
def isOfB (lo hi : Nat) (l : List UInt8) : Bool := !l.isEmpty && l.all fun b => decide (lo ≤ b.toNat) && decide (b.toNat ≤ hi)
theorem isOfB_iff (lo hi : Nat) (l : List UInt8) : isOfB lo hi l = true ↔ l ≠ [] ∧ ∀ b ∈ l, lo ≤ b.toNat ∧ b.toNat ≤ hi := by
  unfold isOfB
  cases l <;> simp
theorem isOfB_bad {lo hi : Nat} {l : List UInt8} {b : UInt8} (hb : b ∈ l) (h : b.toNat < lo ∨ hi < b.toNat) : isOfB lo hi l = false := by
  cases e : isOfB lo hi l with
  | false => rfl
  | true => have := ((isOfB_iff lo hi l).1 e).2 b hb; omega
/-- The value of digits. -/
def valD (l : List UInt8) : Nat := l.foldl (fun n b => 10 * n + (b.toNat - 48)) 0
theorem valD_snoc (l : List UInt8) (b : UInt8) : valD (l ++ [b]) = 10 * valD l + (b.toNat - 48) := by
  unfold valD
  rw [List.foldl_append]
  rfl
theorem valD_mono (l m : List UInt8) : valD l ≤ valD (l ++ m) := by
  have h : ∀ (m : List UInt8) (l : List UInt8), valD l ≤ valD (l ++ m) := by
    intro m
    induction m with
    | nil => intro l; rw [List.append_nil]; exact Nat.le_refl _
    | cons b r ih =>
      intro l
      have h1 := ih (l ++ [b])
      rw [List.append_assoc, valD_snoc] at h1
      have e : l ++ ([b] ++ r) = l ++ b :: r := rfl
      rw [e] at h1
      omega
  exact h m l
theorem valD_take (l : List UInt8) (k : Nat) (h : k < l.length) : valD (l.take (k + 1)) = 10 * valD (l.take k) + (l[k].toNat - 48) := by
  rw [List.take_succ_eq_append_getElem h, valD_snoc]
theorem valD_take_le (l : List UInt8) (k : Nat) : valD (l.take k) ≤ valD l := by
  have := valD_mono (l.take k) (l.drop k)
  rwa [List.take_append_drop] at this
theorem valD_over (l : List UInt8) (k : Nat) (h : k < l.length) (hb : 461168601842738790 < valD (l.take k)) : 4611686018427387904 < valD l := by
  have h1 := valD_take l k h
  have h2 := valD_take_le l (k + 1)
  omega

/-- The decimal form of a natural number. -/
def isNatB (l : List UInt8) : Bool := l == [48] || (isOfB 48 57 l && l.head? != some 48)
theorem isNatB_zero : isNatB [48] = true := rfl
theorem isNatB_not {l : List UInt8} (h1 : l ≠ [48]) (h2 : isOfB 48 57 l = false ∨ l.head? = some 48) : isNatB l = false := by
  unfold isNatB
  have e : (l == [48]) = false := by simpa using h1
  rw [e]
  rcases h2 with h | h
  · rw [h]; rfl
  · rw [h]; simp
theorem isNatB_yes {l : List UInt8} (h1 : isOfB 48 57 l = true) (h2 : l.head? ≠ some 48) : isNatB l = true := by
  unfold isNatB
  have e : (l.head? != some 48) = true := by simpa using h2
  rw [h1, e]
  simp
theorem isNatB_digits {l : List UInt8} (h : isNatB l = true) : isOfB 48 57 l = true := by
  unfold isNatB at h
  simp only [Bool.or_eq_true, Bool.and_eq_true] at h
  rcases h with h | h
  · have : l = [48] := by simpa using h
    rw [this]; decide
  · exact h.1

theorem decDigits_small {u : Nat} (h : u < 10) : Lib.decDigits u = [UInt8.ofNat (48 + u)] := by rw [Lib.decDigits, dif_pos h]
theorem decDigits_big {u : Nat} (h : ¬ u < 10) : Lib.decDigits u = Lib.decDigits (u / 10) ++ [UInt8.ofNat (48 + u % 10)] := by rw [Lib.decDigits, dif_neg h]
theorem dig_toNat {u : Nat} (h : u < 10) : (UInt8.ofNat (48 + u)).toNat = 48 + u := by rw [UInt8.toNat_ofNat']; omega
theorem decDigits_ne (u : Nat) : Lib.decDigits u ≠ [] := by
  by_cases h : u < 10
  · rw [decDigits_small h]; simp
  · rw [decDigits_big h]; simp
theorem valD_dec (u : Nat) : valD (Lib.decDigits u) = u := by
  induction u using Nat.strongRecOn with
  | _ u ih =>
    by_cases h : u < 10
    · rw [decDigits_small h]
      show 10 * 0 + ((UInt8.ofNat (48 + u)).toNat - 48) = u
      rw [dig_toNat h]
      omega
    · rw [decDigits_big h, valD_snoc, ih (u / 10) (by omega), dig_toNat (by omega)]
      omega
theorem isOf_dec (u : Nat) : ∀ b ∈ Lib.decDigits u, 48 ≤ b.toNat ∧ b.toNat ≤ 57 := by
  induction u using Nat.strongRecOn with
  | _ u ih =>
    by_cases h : u < 10
    · rw [decDigits_small h]
      intro b hb
      simp only [List.mem_singleton] at hb
      rw [hb, dig_toNat h]
      omega
    · rw [decDigits_big h]
      intro b hb
      rcases List.mem_append.1 hb with hb | hb
      · exact ih (u / 10) (by omega) b hb
      · simp only [List.mem_singleton] at hb
        rw [hb, dig_toNat (show u % 10 < 10 by omega)]
        omega
theorem head_app {l : List UInt8} (m : List UInt8) (h : l ≠ []) : (l ++ m).head? = l.head? := by
  cases l with
  | nil => exact absurd rfl h
  | cons a t => rfl
theorem head_dec (u : Nat) (hu : u ≠ 0) : (Lib.decDigits u).head? ≠ some 48 := by
  induction u using Nat.strongRecOn with
  | _ u ih =>
    by_cases h : u < 10
    · rw [decDigits_small h]
      intro e
      have e2 := congrArg UInt8.toNat (Option.some.inj e)
      rw [dig_toNat h] at e2
      have : (48 : UInt8).toNat = 48 := rfl
      omega
    · rw [decDigits_big h, head_app _ (decDigits_ne _)]
      exact ih (u / 10) (by omega) (by omega)
theorem isNatB_dec (u : Nat) : isNatB (Lib.decDigits u) = true := by
  by_cases hu : u = 0
  · subst hu
    rw [decDigits_small (by decide)]
    decide
  · exact isNatB_yes ((isOfB_iff 48 57 _).2 ⟨decDigits_ne u, isOf_dec u⟩) (head_dec u hu)
/-- The digits of a value are the digits. -/
theorem dec_valD : ∀ (n : Nat) (l : List UInt8), l.length = n → isNatB l = true → Lib.decDigits (valD l) = l := by
  intro n
  induction n with
  | zero =>
    intro l hl h
    have := List.eq_nil_of_length_eq_zero hl
    subst this
    exact absurd h (by decide)
  | succ n ih =>
    intro l hl h
    have hd := ((isOfB_iff 48 57 l).1 (isNatB_digits h)).2
    have hne : l ≠ [] := by intro e; rw [e] at hl; simp at hl
    obtain ⟨m, b, rfl⟩ : ∃ m b, l = m ++ [b] := ⟨l.dropLast, l.getLast hne, (List.dropLast_concat_getLast hne).symm⟩
    have hb := hd b (by simp)
    have eb : UInt8.ofNat (48 + (b.toNat - 48)) = b := by
      apply UInt8.toNat_inj.1
      rw [UInt8.toNat_ofNat']
      omega
    rw [valD_snoc]
    by_cases hm : m = []
    · subst hm
      have e0 : valD [] = 0 := rfl
      rw [e0, Nat.mul_zero, Nat.zero_add, decDigits_small (by omega), eb]
      rfl
    · have h48 : (m ++ [b]) ≠ [48] := by
        intro e
        cases m with
        | nil => exact hm rfl
        | cons x xs => simp at e
      have hnat : isNatB m = true := by
        unfold isNatB at h
        have e1 : ((m ++ [b]) == [48]) = false := by simpa using h48
        rw [e1] at h
        simp only [Bool.false_or, Bool.and_eq_true] at h
        rw [head_app _ hm] at h
        refine isNatB_yes ((isOfB_iff 48 57 m).2 ⟨hm, fun x hx => hd x (List.mem_append_left _ hx)⟩) (by simpa using h.2)
      have ihm := ih m (by simp at hl; omega) hnat
      have hpos : 1 ≤ valD m := by
        rcases Nat.eq_zero_or_pos (valD m) with e | e
        · exfalso
          rw [e, decDigits_small (by decide)] at ihm
          have hh : m.head? = some 48 := by rw [← ihm]; rfl
          unfold isNatB at h
          have e1 : ((m ++ [b]) == [48]) = false := by simpa using h48
          rw [e1] at h
          simp only [Bool.false_or, Bool.and_eq_true] at h
          rw [head_app _ hm, hh] at h
          simp at h
        · exact e
      rw [decDigits_big (by omega)]
      have e2 : (10 * valD m + (b.toNat - 48)) / 10 = valD m := by omega
      have e3 : (10 * valD m + (b.toNat - 48)) % 10 = b.toNat - 48 := by omega
      rw [e2, e3, ihm, eb]

/-- k digits of n, the last one first. -/
def led (k n : Nat) : List UInt8 := (List.range k).map fun i => UInt8.ofNat (48 + n / 10 ^ i % 10)
theorem led_len (k n : Nat) : (led k n).length = k := by simp [led]
theorem led_zero (n : Nat) : led 0 n = [] := rfl
theorem led_succ (k n : Nat) : led (k + 1) n = led k n ++ [UInt8.ofNat (48 + n / 10 ^ k % 10)] := by simp [led, List.range_succ]
theorem led_add (k j n : Nat) : led (k + j) n = led k n ++ led j (n / 10 ^ k) := by
  induction j with
  | zero => simp [led_zero]
  | succ j ih => rw [← Nat.add_assoc, led_succ, ih, led_succ, Nat.div_div_eq_div_mul, ← Nat.pow_add, List.append_assoc]
theorem led_mod (n : Nat) : led 9 (n % 1000000000) = led 9 n := by
  unfold led
  apply List.map_congr_left
  intro i hi
  have hi9 : i < 9 := List.mem_range.1 hi
  congr 2
  have e : (1000000000 : Nat) = 10 ^ i * (10 * 10 ^ (8 - i)) := by
    rw [← Nat.mul_assoc, Nat.mul_comm (10 ^ i) 10, Nat.mul_assoc, ← Nat.pow_add, show i + (8 - i) = 8 by omega]
  rw [e, Nat.mod_mul_right_div_self, Nat.mod_mul_right_mod]
theorem led_cons (k n : Nat) : led (k + 1) n = UInt8.ofNat (48 + n % 10) :: led k (n / 10) := by
  have h := led_add 1 k n
  rw [Nat.add_comm, h, Nat.pow_one]
  simp [led]
theorem led_of_zero (k : Nat) : led k 0 = List.replicate k 48 := by
  induction k with
  | zero => rfl
  | succ k ih => rw [led_cons, Nat.zero_div, ih, List.replicate_succ]; rfl
theorem led_dec : ∀ (k V : Nat), 0 < V → V < 10 ^ k → led k V = (Lib.decDigits V).reverse ++ List.replicate (k - (Lib.decDigits V).length) 48
  | 0, V, h1, h2 => by simp at h2; omega
  | k + 1, V, h1, h2 => by
    rw [led_cons]
    by_cases h : V < 10
    · rw [decDigits_small h, Nat.div_eq_of_lt h, led_of_zero, Nat.mod_eq_of_lt h]
      simp
    · have ih := led_dec k (V / 10) (by omega) (by rw [Nat.pow_succ] at h2; omega)
      rw [ih, decDigits_big h, List.reverse_append, List.length_append]
      simp only [List.reverse_cons, List.reverse_nil, List.nil_append, List.cons_append, List.length_cons, List.length_nil]
      congr 3
      omega

/-- Without the zeros at the end. -/
def trimR (l : List UInt8) : List UInt8 := (l.reverse.dropWhile (· == 48)).reverse
theorem trimR_snoc (l : List UInt8) (b : UInt8) : trimR (l ++ [b]) = if b = 48 then trimR l else l ++ [b] := by
  unfold trimR
  rw [List.reverse_append, List.reverse_cons, List.reverse_nil, List.nil_append, List.cons_append, List.nil_append, List.dropWhile_cons]
  by_cases h : b = 48
  · simp [h]
  · simp [h]
theorem trimR_nil : trimR [] = [] := rfl
theorem trimR_zeros (l : List UInt8) (n : Nat) : trimR (l ++ List.replicate n 48) = trimR l := by
  induction n with
  | zero => simp
  | succ n ih =>
    rw [List.replicate_succ', ← List.append_assoc, trimR_snoc, if_pos rfl, ih]
theorem trimR_head {l : List UInt8} (h : l ≠ []) (h2 : l.head? ≠ some 48) : trimR l.reverse = l.reverse := by
  cases l with
  | nil => exact absurd rfl h
  | cons b l =>
    rw [List.reverse_cons, trimR_snoc, if_neg (fun e => h2 (by rw [e]; rfl))]
theorem trimR_led {k V : Nat} (h1 : 0 < V) (h2 : V < 10 ^ k) : trimR (led k V) = (Lib.decDigits V).reverse := by
  rw [led_dec k V h1 h2, trimR_zeros, trimR_head (decDigits_ne V) (head_dec V (by omega))]
theorem trimR_take (l : List UInt8) : ∀ k, k ≤ l.length → ∃ m, m ≤ k ∧ trimR (l.take k) = l.take m := by
  intro k
  induction k with
  | zero => intro _; exact ⟨0, Nat.le_refl _, rfl⟩
  | succ k ih =>
    intro hk
    rw [List.take_succ_eq_append_getElem (by omega), trimR_snoc]
    split
    · obtain ⟨m, hm, e⟩ := ih (by omega)
      exact ⟨m, by omega, e⟩
    · exact ⟨k + 1, Nat.le_refl _, by rw [List.take_succ_eq_append_getElem (by omega)]⟩
theorem trimR_eq_take (l : List UInt8) : trimR l = l.take (trimR l).length ∧ (trimR l).length ≤ l.length := by
  obtain ⟨m, hm, e⟩ := trimR_take l l.length (Nat.le_refl _)
  rw [List.take_of_length_le (Nat.le_refl _)] at e
  have hl : (trimR l).length = m := by rw [e, List.length_take]; omega
  exact ⟨by rw [hl]; exact e, by omega⟩

theorem isNatB_iff (l : List UInt8) : isNatB l = true ↔ (l = [48] ∨ (isOfB 48 57 l = true ∧ l.head? ≠ some 48)) := by
  unfold isNatB
  simp

/-- P3.1: Check. -/
def chk (l : List UInt32) : Int := if 96 < l.length then 4 else if limbs (val l) = l then 0 else 8
def chk2 (a b : List UInt32) : Int := if chk a = 0 then chk b else chk a
theorem chk_many {l : List UInt32} (h : 96 < l.length) : chk l = 4 := by unfold chk; rw [if_pos h]
theorem chk_ok {l : List UInt32} (h : ¬ 96 < l.length) (h2 : limbs (val l) = l) : chk l = 0 := by unfold chk; rw [if_neg h, if_pos h2]
theorem chk_bad {l : List UInt32} (h : ¬ 96 < l.length) (h2 : limbs (val l) ≠ l) : chk l = 8 := by unfold chk; rw [if_neg h, if_neg h2]
theorem chk_zero {l : List UInt32} (h : chk l = 0) : l.length ≤ 96 ∧ limbs (val l) = l := by
  unfold chk at h
  split at h
  · simp at h
  · split at h
    · exact ⟨by omega, by assumption⟩
    · simp at h
theorem chk_range (l : List UInt32) : chk l = 0 ∨ chk l = 4 ∨ chk l = 8 := by
  unfold chk
  split
  · simp
  · split <;> simp
theorem chk2_zero {a b : List UInt32} (h : chk2 a b = 0) : chk a = 0 ∧ chk b = 0 := by
  unfold chk2 at h
  split at h
  · exact ⟨by assumption, h⟩
  · exact absurd h (by assumption)
theorem chk2_ok {a b : List UInt32} (h1 : chk a = 0) (h2 : chk b = 0) : chk2 a b = 0 := by unfold chk2; rw [if_pos h1, h2]
theorem chk_limbs {n : Nat} (h : (limbs n).length ≤ 96) : chk (limbs n) = 0 := chk_ok (by omega) (by rw [val_limbs])
theorem chk_nil : chk [] = 0 := chk_ok (by simp) (by simp [val_nil, limbs_zero])

def cmpI (a b : Nat) : Int := if a < b then -1 else if a = b then 0 else 1
def numM (n : Nat) : List UInt32 × Int := if (limbs n).length ≤ 96 then (limbs n, 0) else ([], 30)
def wordM (a : List UInt32) : Nat × Int := if chk a = 0 then (if a.length ≤ 2 then (val a, 0) else (0, 30)) else (0, chk a)
def cmpM (a b : List UInt32) : Int × Int := if chk2 a b = 0 then (cmpI (val a) (val b), 0) else (0, chk2 a b)
def addM (a b : List UInt32) : List UInt32 × Int := if chk2 a b = 0 then numM (val a + val b) else ([], chk2 a b)
def subM (a b : List UInt32) : List UInt32 × Int := if chk2 a b = 0 then (if val a < val b then ([], 6) else (limbs (val a - val b), 0)) else ([], chk2 a b)
def mulM (a b : List UInt32) : List UInt32 × Int := if chk2 a b = 0 then numM (val a * val b) else ([], chk2 a b)
def divM (a b : List UInt32) : (List UInt32 × List UInt32) × Int := if chk2 a b = 0 then (if val b = 0 then (([], []), 40) else ((limbs (val a / val b), limbs (val a % val b)), 0)) else (([], []), chk2 a b)
def gcdM (a b : List UInt32) : List UInt32 × Int := if chk2 a b = 0 then (limbs (Nat.gcd (val a) (val b)), 0) else ([], chk2 a b)
def textM (a : List UInt32) : List UInt8 × Int := if chk a = 0 then (Lib.decDigits (val a), 0) else ([], chk a)
def readM (s : List UInt8) : List UInt32 × Int := if isNatB s = true then numM (valD s) else ([], 11)

theorem numM_ok {n : Nat} (h : (limbs n).length ≤ 96) : numM n = (limbs n, 0) := by unfold numM; rw [if_pos h]
theorem numM_great {n : Nat} (h : ¬ (limbs n).length ≤ 96) : numM n = ([], 30) := by unfold numM; rw [if_neg h]
theorem addM_err {a b : List UInt32} (h : chk2 a b ≠ 0) : addM a b = ([], chk2 a b) := by unfold addM; rw [if_neg h]
theorem addM_ok {a b : List UInt32} (h : chk2 a b = 0) : addM a b = numM (val a + val b) := by unfold addM; rw [if_pos h]
theorem mulM_err {a b : List UInt32} (h : chk2 a b ≠ 0) : mulM a b = ([], chk2 a b) := by unfold mulM; rw [if_neg h]
theorem mulM_ok {a b : List UInt32} (h : chk2 a b = 0) : mulM a b = numM (val a * val b) := by unfold mulM; rw [if_pos h]
theorem subM_err {a b : List UInt32} (h : chk2 a b ≠ 0) : subM a b = ([], chk2 a b) := by unfold subM; rw [if_neg h]
theorem subM_none {a b : List UInt32} (h : chk2 a b = 0) (h2 : val a < val b) : subM a b = ([], 6) := by unfold subM; rw [if_pos h, if_pos h2]
theorem subM_ok {a b : List UInt32} (h : chk2 a b = 0) (h2 : ¬ val a < val b) : subM a b = (limbs (val a - val b), 0) := by unfold subM; rw [if_pos h, if_neg h2]
theorem cmpM_err {a b : List UInt32} (h : chk2 a b ≠ 0) : cmpM a b = (0, chk2 a b) := by unfold cmpM; rw [if_neg h]
theorem cmpM_ok {a b : List UInt32} (h : chk2 a b = 0) : cmpM a b = (cmpI (val a) (val b), 0) := by unfold cmpM; rw [if_pos h]
theorem divM_err {a b : List UInt32} (h : chk2 a b ≠ 0) : divM a b = (([], []), chk2 a b) := by unfold divM; rw [if_neg h]
theorem divM_zero {a b : List UInt32} (h : chk2 a b = 0) (h2 : val b = 0) : divM a b = (([], []), 40) := by unfold divM; rw [if_pos h, if_pos h2]
theorem divM_ok {a b : List UInt32} (h : chk2 a b = 0) (h2 : val b ≠ 0) : divM a b = ((limbs (val a / val b), limbs (val a % val b)), 0) := by unfold divM; rw [if_pos h, if_neg h2]
theorem gcdM_err {a b : List UInt32} (h : chk2 a b ≠ 0) : gcdM a b = ([], chk2 a b) := by unfold gcdM; rw [if_neg h]
theorem gcdM_ok {a b : List UInt32} (h : chk2 a b = 0) : gcdM a b = (limbs (Nat.gcd (val a) (val b)), 0) := by unfold gcdM; rw [if_pos h]
theorem wordM_err {a : List UInt32} (h : chk a ≠ 0) : wordM a = (0, chk a) := by unfold wordM; rw [if_neg h]
theorem wordM_great {a : List UInt32} (h : chk a = 0) (h2 : ¬ a.length ≤ 2) : wordM a = (0, 30) := by unfold wordM; rw [if_pos h, if_neg h2]
theorem wordM_ok {a : List UInt32} (h : chk a = 0) (h2 : a.length ≤ 2) : wordM a = (val a, 0) := by unfold wordM; rw [if_pos h, if_pos h2]
theorem wordM_lt (a : List UInt32) : (wordM a).1 < 18446744073709551616 := by
  unfold wordM
  split
  · split
    · have h := val_lt a
      have h2 := bp_mono (show a.length ≤ 2 by assumption)
      have e : bp 2 = 18446744073709551616 := by decide
      show val a < _
      omega
    · show 0 < _
      decide
  · show 0 < _
    decide
theorem textM_err {a : List UInt32} (h : chk a ≠ 0) : textM a = ([], chk a) := by unfold textM; rw [if_neg h]
theorem textM_ok {a : List UInt32} (h : chk a = 0) : textM a = (Lib.decDigits (val a), 0) := by unfold textM; rw [if_pos h]
theorem readM_form {s : List UInt8} (h : isNatB s ≠ true) : readM s = ([], 11) := by unfold readM; rw [if_neg h]
theorem readM_ok {s : List UInt8} (h : isNatB s = true) : readM s = numM (valD s) := by unfold readM; rw [if_pos h]
theorem numM_len (n : Nat) : (numM n).1.length ≤ 96 := by
  unfold numM
  split
  · assumption
  · simp

theorem limbs_ge {n j : Nat} (h : (limbs n).length = j + 1) : bp j ≤ n := limbs_len_lt.1 (by omega)
theorem limbs_lt {n j : Nat} (h : (limbs n).length = j) : n < bp j := limbs_len_le.1 (by omega)
/-- A divisor that is shifted so far that its last limb stays one. -/
theorem shifted_len {n j s : Nat} (h : (limbs n).length = j + 1) (hs : s ≤ 31) (ht : ((limbs n)[j]).toNat * 2 ^ s < 4294967296) : (limbs (n * 2 ^ s)).length = j + 1 := by
  have hp : 0 < 2 ^ s := Nat.pow_pos (by decide)
  have h1 := limbs_ge h
  have h2 : bp j ≤ n * 2 ^ s := Nat.le_trans h1 (Nat.le_mul_of_pos_right n hp)
  have e1 : val (limbs n) = val ((limbs n).take j) + bp j * ((limbs n)[j]).toNat := by
    have := val_take_succ (l := limbs n) (k := j) (by omega)
    rwa [List.take_of_length_le (by omega)] at this
  rw [val_limbs] at e1
  have e2 : val ((limbs n).take j) < bp j := val_take_lt _ _ (by omega)
  generalize ((limbs n)[j]).toNat = x at *
  have e3 : (4294967296 : Nat) = 2 ^ (32 - s) * 2 ^ s := by rw [← Nat.pow_add, show 32 - s + s = 32 by omega]
  have e4 : (x + 1) * 2 ^ s ≤ 4294967296 := by
    rw [e3] at ht ⊢
    have := Nat.lt_of_mul_lt_mul_right ht
    exact Nat.mul_le_mul_right _ this
  have e5 : n < bp j * (x + 1) := by rw [Nat.mul_add]; omega
  have e6 : n * 2 ^ s < bp (j + 1) := by
    have h3 : n * 2 ^ s < bp j * (x + 1) * 2 ^ s := Nat.mul_lt_mul_of_pos_right e5 hp
    have h4 : bp j * ((x + 1) * 2 ^ s) ≤ bp j * 4294967296 := Nat.mul_le_mul_left _ e4
    rw [Nat.mul_assoc] at h3
    rw [bp_succ, Nat.mul_comm 4294967296]
    omega
  have := limbs_len_le.2 e6
  have := limbs_len_lt.2 h2
  omega

theorem val_drop_eq (l : List UInt32) (i k : Nat) (h : i + k ≤ l.length) : val (l.drop i) = val (seg l i k) + bp k * val (l.drop (i + k)) := by
  have e : l.drop i = seg l i k ++ l.drop (i + k) := by
    unfold seg
    rw [← List.drop_drop, List.take_append_drop]
  rw [e, val_append, seg_len h]
theorem val_drop_lt' (l : List UInt32) (i : Nat) : val (l.drop i) < bp (l.length - i) := by
  have := val_lt (l.drop i)
  rwa [List.length_drop] at this
theorem val_drop_div (l : List UInt32) (i : Nat) (h : i ≤ l.length) : val l = val (l.take i) + bp i * val (l.drop i) := by
  have := val_append (l.take i) (l.drop i)
  rwa [List.take_append_drop, List.length_take, Nat.min_eq_left h] at this

/-- The first remainder is less than the divisor. -/
theorem long_start {R : List UInt32} {m n la j s : Nat} (hl : R.length = la + 1) (hv : val R = m * 2 ^ s) (hm : m < bp la) (hn : bp j ≤ n) (hj : j + 1 ≤ la) : val (R.drop (la - j)) < n * 2 ^ s := by
  have hp : 0 < 2 ^ s := Nat.pow_pos (by decide)
  have h1 := val_drop_div R (la - j) (by omega)
  have h2 : m * 2 ^ s < bp la * 2 ^ s := Nat.mul_lt_mul_of_pos_right hm hp
  have h3 : bp la = bp (la - j) * bp j := by rw [← bp_add]; congr 1; omega
  have h4 : bp (la - j) * (bp j * 2 ^ s) ≤ bp (la - j) * (n * 2 ^ s) := Nat.mul_le_mul_left _ (Nat.mul_le_mul_right _ hn)
  rw [h3, Nat.mul_assoc] at h2
  have h5 : bp (la - j) * val (R.drop (la - j)) < bp (la - j) * (n * 2 ^ s) := by omega
  exact Nat.lt_of_mul_lt_mul_left h5

/-- What a round asks. -/
theorem long_ask {R : List UInt32} {i j D : Nat} (hl : i + (j + 2) ≤ R.length) (hh : val (R.drop (i + 1)) < D) : val (seg R i (j + 2)) < D * 4294967296 := by
  have h1 := val_drop_eq R i (j + 2) hl
  have h2 := val_drop_cons (l := R) (k := i) (by omega)
  have h3 := u32_lt (R[i]'(by omega))
  rw [Nat.mul_comm D]
  have : 4294967296 * (val (R.drop (i + 1)) + 1) ≤ 4294967296 * D := Nat.mul_le_mul_left _ hh
  omega
/-- A round. -/
theorem long_step {R R' Q : List UInt32} {i j D M : Nat} (hl : i + (j + 2) ≤ R.length) (hD : D < bp (j + 1)) (hD0 : 0 < D) (hh : val (R.drop (i + 1)) < D) (hf : far R' R i (j + 2)) (hs : val (seg R' i (j + 2)) = val (seg R i (j + 2)) % D) (hi : i < Q.length)
    (hv : M = val R + D * (bp (i + 1) * val (Q.drop (i + 1)))) :
    val (R'.drop i) < D ∧ M = val R' + D * (bp i * val ((Q.set i (UInt32.ofNat (val (seg R i (j + 2)) / D))).drop i)) := by
  have hask := long_ask hl hh
  have h1 := val_drop_eq R i (j + 2) hl
  have h2 := val_drop_cons (l := R) (k := i) (by omega)
  have h3 := u32_lt (R[i]'(by omega))
  have h0 : val (R.drop (i + (j + 2))) = 0 := by
    have h4 : val (R.drop i) < bp (j + 2) := by
      have e : bp (j + 2) = 4294967296 * bp (j + 1) := bp_succ (j + 1)
      have : 4294967296 * (val (R.drop (i + 1)) + 1) ≤ 4294967296 * bp (j + 1) := Nat.mul_le_mul_left _ (by omega)
      omega
    rcases Nat.eq_zero_or_pos (val (R.drop (i + (j + 2)))) with e | e
    · exact e
    · have : bp (j + 2) * 1 ≤ bp (j + 2) * val (R.drop (i + (j + 2))) := Nat.mul_le_mul_left _ e
      omega
  have h5 : R'.drop (i + (j + 2)) = R.drop (i + (j + 2)) := by
    apply List.ext_getElem?
    intro k
    rw [List.getElem?_drop, List.getElem?_drop]
    exact hf.2 _ (by omega)
  have h6 := val_drop_eq R' i (j + 2) (by rw [hf.1]; exact hl)
  rw [h5, h0, hs, Nat.mul_zero, Nat.add_zero] at h6
  have hlt : val (seg R i (j + 2)) / D < 4294967296 := by rw [Nat.div_lt_iff_lt_mul hD0, Nat.mul_comm]; exact hask
  refine ⟨by rw [h6]; exact Nat.mod_lt _ hD0, ?_⟩
  have h7 := far_val hf hl
  rw [hs] at h7
  rw [val_drop_set hi, u32_of _ hlt, hv, bp_succ]
  generalize val (seg R i (j + 2)) = S at *
  generalize val (Q.drop (i + 1)) = q at *
  have h8 := Nat.div_add_mod S D
  have e1 : bp i * S = bp i * (D * (S / D)) + bp i * (S % D) := by rw [← Nat.mul_add, h8]
  have e2 : bp i * (S / D + 4294967296 * q) = bp i * (S / D) + 4294967296 * bp i * q := by
    rw [Nat.mul_add, ← Nat.mul_assoc, Nat.mul_comm (bp i) 4294967296]
  rw [e2, Nat.mul_add]
  have e3 : D * (bp i * (S / D)) = bp i * (D * (S / D)) := by rw [← Nat.mul_assoc, ← Nat.mul_assoc, Nat.mul_comm D]
  omega
/-- The end. -/
theorem long_end {m n s R Q : Nat} (hn : 0 < n) (h : m * 2 ^ s = R + n * 2 ^ s * Q) (hR : R < n * 2 ^ s) : Q = m / n ∧ R / 2 ^ s = m % n := by
  have hp : 0 < 2 ^ s := Nat.pow_pos (by decide)
  generalize 2 ^ s = p at *
  have h1 : n * Q ≤ m := by
    have : n * Q * p ≤ m * p := by
      have e : n * p * Q = n * Q * p := by rw [Nat.mul_assoc, Nat.mul_comm p, Nat.mul_assoc]
      omega
    exact Nat.le_of_mul_le_mul_right this hp
  obtain ⟨r, rfl⟩ : ∃ r, m = n * Q + r := ⟨m - n * Q, by omega⟩
  have h2 : R = r * p := by
    rw [Nat.add_mul] at h
    have e : n * p * Q = n * Q * p := by rw [Nat.mul_assoc, Nat.mul_comm p, Nat.mul_assoc]
    omega
  subst h2
  have h3 : r < n := Nat.lt_of_mul_lt_mul_right hR
  rw [Nat.mul_add_div hn, Nat.mul_add_mod, Nat.div_eq_of_lt h3, Nat.mod_eq_of_lt h3, Nat.mul_div_cancel _ hp]
  exact ⟨by omega, rfl⟩
end Go.Proofs.Ytefoccjphbbmhaa
