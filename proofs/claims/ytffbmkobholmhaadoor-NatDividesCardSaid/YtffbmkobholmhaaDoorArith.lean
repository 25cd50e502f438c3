/- What the rounds of the loops over limbs do to values; the guess of a digit of a quotient. No program is named here. -/
import Derived.Test.YtffbmkobholmhaaDoorPure
namespace Go.Proofs.YtffbmkobholmhaaDoor
open Go.RowKit
set_option linter.unusedVariables false

/-- M is L but for the places from o to o + k. -/
def far (M L : List UInt32) (o k : Nat) : Prop := M.length = L.length ∧ ∀ j, (j < o ∨ o + k ≤ j) → M[j]? = L[j]?
theorem far_refl (L : List UInt32) (o k : Nat) : far L L o k := ⟨rfl, fun _ _ => rfl⟩
theorem far_more {M L : List UInt32} {o k o' k' : Nat} (h : far M L o k) (h1 : o' ≤ o) (h2 : o + k ≤ o' + k') : far M L o' k' := ⟨h.1, fun j hj => h.2 j (by omega)⟩
theorem far_trans {M N L : List UInt32} {o k : Nat} (h : far M N o k) (h2 : far N L o k) : far M L o k := ⟨h.1.trans h2.1, fun j hj => (h.2 j hj).trans (h2.2 j hj)⟩
theorem far_get {M L : List UInt32} {o k j : Nat} (h : far M L o k) (hj : j < L.length) (hf : j < o ∨ o + k ≤ j) : M[j]'(by rw [h.1]; exact hj) = L[j] := by
  have := h.2 j hf
  rw [List.getElem?_eq_getElem hj, List.getElem?_eq_getElem (by rw [h.1]; exact hj)] at this
  exact Option.some.inj this
theorem far_set {M L : List UInt32} {o k : Nat} (h : far M L o k) (x : UInt32) : far (M.set (o + k) x) L o (k + 1) :=
  ⟨by rw [List.length_set]; exact h.1, fun j hj => by rw [List.getElem?_set_ne (by omega)]; exact h.2 j (by omega)⟩
theorem far_set_in {M L : List UInt32} {o k p : Nat} (h : far M L o k) (hp : o ≤ p ∧ p < o + k) (x : UInt32) : far (M.set p x) L o k :=
  ⟨by rw [List.length_set]; exact h.1, fun j hj => by rw [List.getElem?_set_ne (by omega)]; exact h.2 j (by omega)⟩
theorem far_set0 {M L : List UInt32} {k : Nat} (h : far M L 0 k) (x : UInt32) : far (M.set k x) L 0 (k + 1) := by have := far_set h x; rwa [Nat.zero_add] at this
theorem seg_set {M : List UInt32} {o k : Nat} (h : o + k < M.length) (x : UInt32) : seg (M.set (o + k) x) o (k + 1) = seg M o k ++ [x] := by
  rw [seg_snoc (by rw [List.length_set]; exact h)]
  congr 1
  · refine seg_congr (by rw [List.length_set]; omega) (by omega) fun j h1 h2 => ?_
    rw [List.getElem_set_ne (by omega)]
  · rw [List.getElem_set_self]
theorem val_seg_set {M : List UInt32} {o k : Nat} (h : o + k < M.length) (x : UInt32) : val (seg (M.set (o + k) x) o (k + 1)) = val (seg M o k) + bp k * x.toNat := by
  rw [seg_set h, val_snoc, seg_len (by omega)]
theorem seg_far {M L : List UInt32} {o k p n : Nat} (h : far M L o k) (hp : p + n ≤ L.length) (hd : p + n ≤ o ∨ o + k ≤ p) : seg M p n = seg L p n :=
  seg_congr (by rw [h.1]; exact hp) hp fun j h1 h2 => far_get h (by omega) (by omega)
theorem far_val {M L : List UInt32} {o n : Nat} (h : far M L o n) (hl : o + n ≤ L.length) : val M + bp o * val (seg L o n) = val L + bp o * val (seg M o n) := by
  obtain ⟨r, hr⟩ : ∃ r, o + n + r = L.length := ⟨L.length - (o + n), by omega⟩
  have e1 := val_three L o n r hr
  have e2 := val_three M o n r (by rw [h.1]; exact hr)
  have e3 : seg M 0 o = seg L 0 o := seg_far h (by omega) (.inl (by omega))
  have e4 : seg M (o + n) r = seg L (o + n) r := seg_far h (by omega) (.inr (by omega))
  rw [e3, e4] at e2
  rw [e1, e2, Nat.mul_add, Nat.mul_add]
  omega
theorem far_eq {M L : List UInt32} {o : Nat} (h : far M L o 0) : M = L := List.ext_getElem? fun j => h.2 j (by omega)

/-- Limb i of a number, 0 beyond its limbs. -/
def lat (m : List UInt32) (i : Nat) : Nat := if h : i < m.length then (m[i]).toNat else 0
theorem lat_in {m : List UInt32} {i : Nat} (h : i < m.length) : lat m i = (m[i]).toNat := by unfold lat; rw [dif_pos h]
theorem lat_out {m : List UInt32} {i : Nat} (h : m.length ≤ i) : lat m i = 0 := by unfold lat; rw [dif_neg (by omega)]
theorem lat_lt (m : List UInt32) (i : Nat) : lat m i < 4294967296 := by
  unfold lat
  split
  · exact u32_lt _
  · decide
theorem val_take_lat (m : List UInt32) (k : Nat) : val (m.take (k + 1)) = val (m.take k) + bp k * lat m k := by
  by_cases h : k < m.length
  · rw [val_take_succ h, lat_in h]
  · rw [lat_out (by omega), List.take_of_length_le (by omega), List.take_of_length_le (by omega)]; omega
theorem val_take_ge {m : List UInt32} {k : Nat} (h : m.length ≤ k) : val (m.take k) = val m := by rw [List.take_of_length_le h]

/-- A round of an addition: s and c' are what a limb, another one and the carry give. -/
theorem add_round {v b1 b2 p l m s c c' : Nat} (h : v + p * c = b1 + b2) (hs : s + 4294967296 * c' = l + m + c) : (v + p * s) + (4294967296 * p) * c' = (b1 + p * l) + (b2 + p * m) := by
  have e : p * (s + 4294967296 * c') = p * (l + m + c) := by rw [hs]
  rw [Nat.mul_add, Nat.mul_add, Nat.mul_add] at e
  have e2 : p * (4294967296 * c') = (4294967296 * p) * c' := by rw [← Nat.mul_assoc, Nat.mul_comm p 4294967296]
  omega
/-- A round of 'subtract'. v: what the rest has become so far; b1: what it was; b2: so much of the other number; t: times; o, o': what is owed. -/
theorem sub_round {v b1 b2 p l m t s o o' : Nat} (h : v + b2 * t = b1 + p * o) (hs : s + (m * t + o) = l + 4294967296 * o') : (v + p * s) + (b2 + p * m) * t = (b1 + p * l) + (4294967296 * p) * o' := by
  have e : p * (s + (m * t + o)) = p * (l + 4294967296 * o') := by rw [hs]
  rw [Nat.mul_add, Nat.mul_add, Nat.mul_add] at e
  have e2 : p * (4294967296 * o') = (4294967296 * p) * o' := by rw [← Nat.mul_assoc, Nat.mul_comm p 4294967296]
  have e3 : (b2 + p * m) * t = b2 * t + p * (m * t) := by rw [Nat.add_mul, Nat.mul_assoc]
  omega
theorem mul_le_max {m t : Nat} (hm : m < 4294967296) (ht : t < 4294967296) : m * t ≤ 18446744065119617025 := Nat.le_trans (Nat.mul_le_mul (Nat.le_of_lt_succ hm) (Nat.le_of_lt_succ ht)) (by decide)
/-- The limb and the debt of a round of 'subtract': T is the product and what was owed. -/
theorem sub_owed {T l : Nat} (hT : T ≤ 18446744069414584320) (hl : l < 4294967296) :
    (l + 4294967296 - T % 4294967296) % 4294967296 + T = l + 4294967296 * (T / 4294967296 + if l < T % 4294967296 then 1 else 0) ∧ T / 4294967296 + (if l < T % 4294967296 then 1 else 0) < 4294967296 := by
  split <;> omega
/-- A round of 'addProduct', 'lengthen'. -/
theorem prod_round {v b1 b2 p l m t s c c' : Nat} (h : v + p * c = b1 + b2 * t) (hs : s + 4294967296 * c' = l + m * t + c) : (v + p * s) + (4294967296 * p) * c' = (b1 + p * l) + (b2 + p * m) * t := by
  have e : p * (s + 4294967296 * c') = p * (l + m * t + c) := by rw [hs]
  rw [Nat.mul_add, Nat.mul_add, Nat.mul_add] at e
  have e2 : p * (4294967296 * c') = (4294967296 * p) * c' := by rw [← Nat.mul_assoc, Nat.mul_comm p 4294967296]
  have e3 : (b2 + p * m) * t = b2 * t + p * (m * t) := by rw [Nat.add_mul, Nat.mul_assoc]
  omega
/-- A round of 'shorten', from above. H: the part of the old number so far, K: of the new one. -/
theorem short_round {H K r x b : Nat} (hb : 0 < b) (h : K * b + r = H) (hr : r < b) : (((4294967296 * r + x) / b + 4294967296 * K) * b + (4294967296 * r + x) % b = x + 4294967296 * H) := by
  have h1 := Nat.div_add_mod (4294967296 * r + x) b
  have e1 : ((4294967296 * r + x) / b + 4294967296 * K) * b = b * ((4294967296 * r + x) / b) + 4294967296 * (K * b) := by rw [Nat.add_mul, Nat.mul_comm _ b, Nat.mul_assoc]
  omega
theorem short_lt {r x b : Nat} (hb : b ≤ 4294967295) (hx : x < 4294967296) (hr : r < b) : (4294967296 * r + x) / b < 4294967296 := by
  rw [Nat.div_lt_iff_lt_mul (by omega)]
  have : 4294967296 * (r + 1) ≤ 4294967296 * b := Nat.mul_le_mul_left _ hr
  omega
theorem val_drop_cons {l : List UInt32} {k : Nat} (h : k < l.length) : val (l.drop k) = (l[k]).toNat + 4294967296 * val (l.drop (k + 1)) := by
  rw [List.drop_eq_getElem_cons h, val_cons]
theorem val_drop_set {l : List UInt32} {k : Nat} (h : k < l.length) (x : UInt32) : val ((l.set k x).drop k) = x.toNat + 4294967296 * val (l.drop (k + 1)) := by
  rw [val_drop_cons (by rw [List.length_set]; exact h), List.getElem_set_self, List.drop_set_of_lt (by omega)]

/-- The first guess at a digit is not less than the digit. -/
theorem guess_ge {S T D d n : Nat} (hd : 0 < d) (hT : S < (T + 1) * bp n) (hD : d * bp n ≤ D) (hq : S < D * 4294967296) : S / D ≤ min (T / d) 4294967295 := by
  have hD0 : 0 < D := Nat.lt_of_lt_of_le (Nat.mul_pos hd (bp_pos n)) hD
  have h1 : S / D < 4294967296 := by rw [Nat.div_lt_iff_lt_mul hD0, Nat.mul_comm]; exact hq
  have h2 : S / D ≤ T / d := by
    rw [Nat.le_div_iff_mul_le hd]
    have h3 : S / D * D ≤ S := Nat.div_mul_le_self S D
    have h4 : S / D * (d * bp n) ≤ S / D * D := Nat.mul_le_mul_left _ hD
    have h5 : (S / D * d) * bp n < (T + 1) * bp n := by rw [Nat.mul_assoc]; omega
    have h6 := Nat.lt_of_mul_lt_mul_right h5
    omega
  omega
/-- While something is owed the guess is too great. -/
theorem guess_high {S D R g o P : Nat} (hD : 0 < D) (h : R + g * D = S + P * o) (hR : R < P) (ho : 0 < o) (hg : S / D ≤ g) : S / D ≤ g - 1 ∧ 1 ≤ g := by
  have h1 : P * 1 ≤ P * o := Nat.mul_le_mul_left _ ho
  have h2 : S < g * D := by omega
  have h3 : S / D < g := by rw [Nat.div_lt_iff_lt_mul hD]; exact h2
  generalize S / D = q at h3
  omega
theorem guess_step {S D R R' g o c P : Nat} (h : R + g * D = S + P * o) (hg : 1 ≤ g) (hc : c ≤ o) (h2 : R' + P * c = R + D) : R' + (g - 1) * D = S + P * (o - c) := by
  have e1 : g * D = (g - 1) * D + D := by
    have h3 := Nat.add_mul (g - 1) 1 D
    rwa [Nat.sub_add_cancel hg, Nat.one_mul] at h3
  have e2 : P * o = P * (o - c) + P * c := by rw [← Nat.mul_add]; congr 1; omega
  omega
theorem guess_end {S D R g : Nat} (hD : 0 < D) (h : R + g * D = S) (hg : S / D ≤ g) : g = S / D ∧ R = S % D := by
  have h1 : g ≤ S / D := by rw [Nat.le_div_iff_mul_le hD]; omega
  have h2 : g = S / D := by omega
  have h3 := Nat.div_add_mod S D
  rw [Nat.mul_comm, ← h2] at h3
  exact ⟨h2, by omega⟩
end Go.Proofs.YtffbmkobholmhaaDoor
