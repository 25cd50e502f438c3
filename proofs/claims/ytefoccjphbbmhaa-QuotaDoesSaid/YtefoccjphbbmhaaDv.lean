/- math/bits.Div64: the division of two words by one, half a word at a time. -/
import Derived.Test.YtefoccjphbbmhaaMb
import Derived.Laws.Externs
import Derived.Lib.ItoaNum
import Derived.Laws.Bits64b
namespace Go.Proofs.Ytefoccjphbbmhaa
open Go.RowKit
set_option linter.unusedVariables false

/-- What a guess of half a word holds: q * a + r = u, and q is not below the quotient of u * 2^32 + v by a * 2^32 + b. -/
structure Dq (u v a b q r : Nat) : Prop where
  sum : q * a + r = u
  ge : (u * 4294967296 + v) / (a * 4294967296 + b) ≤ q
  le : q ≤ 4294967297
theorem dq_start {u v a b : Nat} (ha : 2147483648 ≤ a) (hb : b < 4294967296) (hu : u < a * 4294967296 + b) (hv : v < 4294967296) : Dq u v a b (u / a) (u % a) := by
  refine ⟨by rw [Nat.mul_comm]; exact Nat.div_add_mod u a, ?_, ?_⟩
  · rw [Nat.le_div_iff_mul_le (by omega)]
    obtain ⟨q, hq⟩ : ∃ q, q = (u * 4294967296 + v) / (a * 4294967296 + b) := ⟨_, rfl⟩
    have h1 : q * (a * 4294967296 + b) ≤ u * 4294967296 + v := by rw [hq]; exact Nat.div_mul_le_self _ _
    rw [← hq]
    rw [Nat.mul_add, ← Nat.mul_assoc] at h1
    have h2 : q * a * 4294967296 < (u + 1) * 4294967296 := by omega
    have := Nat.lt_of_mul_lt_mul_right h2
    omega
  · have : u / a < 4294967298 := by
      rw [Nat.div_lt_iff_lt_mul (by omega)]
      omega
    omega
theorem dq_next {u v a b q r : Nat} (h : Dq u v a b q r) (ha : 2147483648 ≤ a) (hu : u < a * 4294967296 + b) (hv : v < 4294967296) (hc : 4294967296 ≤ q ∨ 4294967296 * r + v < q * b) : 1 ≤ q ∧ Dq u v a b (q - 1) (r + a) := by
  have hlt : u * 4294967296 + v < q * (a * 4294967296 + b) := by
    rcases hc with hc | hc
    · have h1 : 4294967296 * (a * 4294967296 + b) ≤ q * (a * 4294967296 + b) := Nat.mul_le_mul_right _ hc
      omega
    · have h1 := h.sum
      have h2 : q * (a * 4294967296 + b) = q * a * 4294967296 + q * b := by rw [Nat.mul_add, Nat.mul_assoc]
      rw [h2]
      generalize q * a = z at h1 ⊢
      generalize q * b = x at hc ⊢
      omega
  have h1q : 1 ≤ q := by
    rcases Nat.eq_zero_or_pos q with e | e
    · rw [e] at hlt; simp at hlt
    · exact e
  refine ⟨h1q, ?_, ?_, by have := h.le; omega⟩
  · obtain ⟨k, rfl⟩ : ∃ k, q = k + 1 := ⟨q - 1, by omega⟩
    have := h.sum
    rw [Nat.add_mul] at this
    simp only [Nat.add_sub_cancel]
    omega
  · have : (u * 4294967296 + v) / (a * 4294967296 + b) < q := by
      rw [Nat.div_lt_iff_lt_mul (by omega)]
      exact hlt
    omega
theorem dq_end {u v a b q r : Nat} (h : Dq u v a b q r) (ha : 2147483648 ≤ a) (hb : b < 4294967296) (hc : 4294967296 ≤ r ∨ q * b ≤ 4294967296 * r + v) : (u * 4294967296 + v) / (a * 4294967296 + b) = q := by
  refine Nat.le_antisymm h.ge ?_
  rw [Nat.le_div_iff_mul_le (by omega)]
  have h1 := h.sum
  have h2 : q * (a * 4294967296 + b) = q * a * 4294967296 + q * b := by rw [Nat.mul_add, Nat.mul_assoc]
  have h3 : q * b ≤ 4294967296 * r + v := by
    rcases hc with hc | hc
    · have : q * b ≤ 4294967297 * 4294967295 := Nat.mul_le_mul h.le (by omega)
      omega
    · exact hc
  rw [h2]
  generalize q * a = z at h1 ⊢
  generalize q * b = x at h3 ⊢
  omega
/-- Both halves together. -/
theorem dv_two {u v0 v1 y q1 q0 r1 : Nat} (hy : 0 < y) (h1 : (u * 4294967296 + v1) / y = q1) (hr : (u * 4294967296 + v1) % y = r1) (h0 : (r1 * 4294967296 + v0) / y = q0) : (u * 18446744073709551616 + (v1 * 4294967296 + v0)) / y = q1 * 4294967296 + q0 := by
  have e := Nat.div_add_mod (u * 4294967296 + v1) y
  rw [h1, hr] at e
  have e2 : u * 18446744073709551616 + (v1 * 4294967296 + v0) = (r1 * 4294967296 + v0) + y * (q1 * 4294967296) := by
    rw [← Nat.mul_assoc]
    generalize y * q1 = z at e ⊢
    omega
  rw [e2, Nat.add_mul_div_left _ _ hy, h0, Nat.add_comm]


theorem wrapU (a : Nat) (h : a < 18446744073709551616) : IntKind.u64.wrap (a : Int) = (a : Int) := by rw [IntKind.wrap_u64]; omega
theorem wrapM (a : Nat) : IntKind.u64.wrap (a : Int) = ((a % 18446744073709551616 : Nat) : Int) := by rw [IntKind.wrap_u64]; omega
theorem wrapI {z : Int} (a : Nat) (e : z = (a : Int)) (h : a < 18446744073709551616) : IntKind.u64.wrap z = (a : Int) := by subst e; exact wrapU a h
/-- The words of the dividend moved up. -/
theorem dv_high' {hi lo y S T M : Nat} (hM : 0 < M) (hhi : hi < y) (hlo : lo < M) (hp : S * T = M) :
    lo / T < S ∧ hi * S + lo / T < y * S ∧ (hi * S + lo / T) * M + (lo * S) % M = (hi * M + lo) * S := by
  have ht0 : 0 < T := by rcases Nat.eq_zero_or_pos T with e | e; · { rw [e] at hp; simp at hp; omega }; · exact e
  have h1 : hi * S + S ≤ y * S := by rw [← Nat.succ_mul]; exact Nat.mul_le_mul_right _ hhi
  have h2 : lo / T < S := by rw [Nat.div_lt_iff_lt_mul ht0, hp]; exact hlo
  have h3 : (lo * S) % M = (lo % T) * S := by
    rw [← hp, Nat.mul_comm S T, Nat.mul_mod_mul_right]
  have h4 : lo / T * M = (lo / T * T) * S := by rw [← hp, Nat.mul_assoc, Nat.mul_comm T S]
  have h5 : lo * S = (lo / T * T) * S + lo % T * S := by rw [← Nat.add_mul, Nat.div_add_mod']
  refine ⟨h2, by omega, ?_⟩
  rw [h3, Nat.add_mul, Nat.add_mul, h4, Nat.mul_right_comm hi M S, h5]
  omega
/-- The rest that the code computes modulo 2^64. -/
theorem dv_rest {u v y q r : Nat} (hy : y < 18446744073709551616) (hq : (u * 4294967296 + v) / y = q) (hr : (u * 4294967296 + v) % y = r) (h0 : 0 < y) (n1 n2 n3 : Nat) (h1 : n1 = u * 4294967296 % 18446744073709551616) (h2 : n2 = (n1 + v) % 18446744073709551616) (h3 : n3 = q * y % 18446744073709551616) :
    IntKind.u64.wrap ((n2 : Int) - (n3 : Int)) = (r : Int) := by
  have e := Nat.div_add_mod (u * 4294967296 + v) y
  rw [hq, hr, Nat.mul_comm] at e
  have hlt : r < y := by rw [← hr]; exact Nat.mod_lt _ h0
  generalize q * y = z at e h3
  rw [IntKind.wrap_u64]
  omega

/-- What is known where the loops begin. -/
structure Dn (hi lo y s t y' a b u v v1 v0 : Nat) : Prop where
  s64 : s + t = 64
  s63 : s ≤ 63
  big : 9223372036854775808 ≤ y'
  small : y' < 18446744073709551616
  ha : 2147483648 ≤ a
  ha2 : a < 4294967296
  hb : b < 4294967296
  split : y' = a * 4294967296 + b
  hu : u < y'
  hv1 : v1 < 4294967296
  hv0 : v0 < 4294967296
  hv : v = v1 * 4294967296 + v0
  quo : (u * 18446744073709551616 + v) / y' = (hi * 18446744073709551616 + lo) / y
theorem dn_of {hi lo y : Nat} (hhi : hi < y) (hyl : y < 18446744073709551616) (hlo : lo < 18446744073709551616) :
    ∃ s t y' a b u v v1 v0 h1 l1 : Nat, Lib.bitLen y + s = 64 ∧ y * 2 ^ s = y' ∧ y' / 4294967296 = a ∧ y' % 4294967296 = b ∧ hi * 2 ^ s = h1 ∧ lo / 2 ^ t = l1 ∧ l1 < 2 ^ s ∧ h1 + l1 = u ∧ lo * 2 ^ s % 18446744073709551616 = v ∧ v / 4294967296 = v1 ∧ v % 4294967296 = v0 ∧ Dn hi lo y s t y' a b u v v1 v0 := by
  have hb := Lib.bitLenAux_bounds 64 y (by simpa using hyl) (by omega)
  have hle : Lib.bitLen y ≤ 64 := Lib.bitLenAux_le 64 y 64 (by simpa using hyl)
  change 1 ≤ Lib.bitLen y ∧ 2 ^ (Lib.bitLen y - 1) ≤ y ∧ y < 2 ^ Lib.bitLen y at hb
  obtain ⟨b1, b2, b3⟩ := hb
  obtain ⟨n, hn⟩ : ∃ n, n = Lib.bitLen y := ⟨_, rfl⟩
  rw [← hn] at b1 b2 b3 hle ⊢
  have hp : 2 ^ (64 - n) * 2 ^ n = 18446744073709551616 := by rw [← Nat.pow_add, show 64 - n + n = 64 by omega]
  have hp1 : 2 ^ (n - 1) * 2 ^ (64 - n) = 9223372036854775808 := by rw [← Nat.pow_add, show n - 1 + (64 - n) = 63 by omega]
  have h0 : 0 < 2 ^ (64 - n) := Nat.pow_pos (by decide)
  have hbig := Nat.mul_le_mul_right (2 ^ (64 - n)) b2
  have hsm := Nat.mul_lt_mul_of_pos_right b3 h0
  rw [hp1] at hbig
  rw [Nat.mul_comm (2 ^ n), hp] at hsm
  obtain ⟨k2, k3, k4⟩ := dv_high' (by decide) hhi hlo hp
  have hquo : ((hi * 18446744073709551616 + lo) * 2 ^ (64 - n)) / (y * 2 ^ (64 - n)) = (hi * 18446744073709551616 + lo) / y := Nat.mul_div_mul_right _ _ h0
  rw [← k4] at hquo
  clear hp hp1 k4
  refine ⟨64 - n, n, y * 2 ^ (64 - n), _, _, hi * 2 ^ (64 - n) + lo / 2 ^ n, lo * 2 ^ (64 - n) % 18446744073709551616, _, _, _, _, by omega, rfl, rfl, rfl, rfl, rfl, k2, rfl, rfl, rfl, rfl, ?_⟩
  exact ⟨by omega, by omega, hbig, hsm, by omega, by omega, by omega, by omega, k3, by omega, by omega, by omega, hquo⟩
theorem or_add {s h l : Nat} (hl : l < 2 ^ s) : h * 2 ^ s ||| l = h * 2 ^ s + l := by
  rw [Nat.mul_comm]; exact (Nat.two_pow_add_eq_or_of_lt hl h).symm
end Go.Proofs.Ytefoccjphbbmhaa
