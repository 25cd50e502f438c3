/- Bits of numbers of limbs; a round of a binary division. No program is named here. -/
import Derived.Test.YtffbmkobholmhaaDoorRefE
namespace Go.Proofs.YtffbmkobholmhaaDoor
open Go.RowKit
set_option linter.unusedVariables false

theorem bp_two (j : Nat) : bp j = 2 ^ (32 * j) := by unfold bp; rw [Nat.pow_mul]
theorem two_split (s : Nat) (hs : s ≤ 31) : 4294967296 = 2 ^ s * (2 * 2 ^ (31 - s)) := by
  have e : (2 : Nat) * 2 ^ (31 - s) = 2 ^ (32 - s) := by rw [← Nat.pow_succ']; congr 1; omega
  rw [e, ← Nat.pow_add, show s + (32 - s) = 32 by omega]
theorem bit_of (L : List UInt32) (j s : Nat) (hj : j < L.length) (hs : s ≤ 31) : val L / 2 ^ (32 * j + s) % 2 = (L[j]).toNat / 2 ^ s % 2 := by
  have hpos : 0 < 2 ^ s := Nat.pow_pos (by decide)
  rw [Nat.pow_add, ← Nat.div_div_eq_div_mul, ← bp_two, val_div, val_drop_cons hj]
  obtain ⟨R, hR⟩ : ∃ R, R = val (L.drop (j + 1)) := ⟨_, rfl⟩
  rw [← hR]
  have e : 4294967296 * R = 2 ^ s * (2 * (2 ^ (31 - s) * R)) := by
    rw [← Nat.mul_assoc 2, ← Nat.mul_assoc, ← two_split s hs]
  rw [e, Nat.add_mul_div_left _ _ hpos]
  omega
theorem div_round {V k D R Q b : Nat} (hD : 0 < D) (hQ : Q = V / 2 ^ (k + 1) / D) (hR : R = V / 2 ^ (k + 1) % D) (hb : b = V / 2 ^ k % 2) :
    (2 * R + b < D → V / 2 ^ k / D = 2 * Q ∧ V / 2 ^ k % D = 2 * R + b) ∧ (D ≤ 2 * R + b → V / 2 ^ k / D = 2 * Q + 1 ∧ V / 2 ^ k % D = 2 * R + b - D) := by
  have e1 : V / 2 ^ (k + 1) = V / 2 ^ k / 2 := by rw [Nat.pow_succ, Nat.div_div_eq_div_mul]
  rw [e1] at hQ hR
  obtain ⟨H, hH⟩ : ∃ H, H = V / 2 ^ k := ⟨_, rfl⟩
  rw [← hH] at hQ hR hb ⊢
  have h2 := Nat.div_add_mod (H / 2) D
  rw [← hQ, ← hR] at h2
  have hRl : R < D := by rw [hR]; exact Nat.mod_lt _ hD
  have h3 : H = 2 * R + b + D * (2 * Q) := by rw [Nat.mul_left_comm]; omega
  refine ⟨fun h => ?_, fun h => ?_⟩
  · rw [h3, Nat.add_mul_div_left _ _ hD, Nat.add_mul_mod_self_left, Nat.div_eq_of_lt h, Nat.mod_eq_of_lt h]
    exact ⟨by omega, rfl⟩
  · have h4 : H = (2 * R + b - D) + D * (2 * Q + 1) := by rw [Nat.mul_add]; omega
    rw [h4, Nat.add_mul_div_left _ _ hD, Nat.add_mul_mod_self_left, Nat.div_eq_of_lt (by omega), Nat.mod_eq_of_lt (by omega)]
    exact ⟨by omega, rfl⟩
theorem val_set {M : List UInt32} {j : Nat} (hj : j < M.length) (x : Nat) (hx : x < 4294967296) : val (M.set j (UInt32.ofNat x)) + bp j * (M[j]).toNat = val M + bp j * x := by
  have hf : far (M.set j (UInt32.ofNat x)) M j 1 := by have h := far_set (far_refl M j 0) (UInt32.ofNat x); simpa using h
  have h := far_val hf (by omega)
  have e1 : val (seg M j 1) = (M[j]).toNat := by
    have e := val_seg_snoc (l := M) (o := j) (n := 0) (by omega)
    rw [e, seg_zero, val_nil, bp_zero]; simp
  have e2 : val (seg (M.set j (UInt32.ofNat x)) j 1) = x := by
    have e := val_seg_set (M := M) (o := j) (k := 0) (by omega) (UInt32.ofNat x)
    rw [Nat.add_zero, seg_zero, val_nil, bp_zero, u32_of _ hx, Nat.zero_add, Nat.zero_add, Nat.one_mul] at e
    exact e
  rw [e1, e2] at h
  exact h
theorem quo_room {M : List UInt32} {j s Q : Nat} (hj : j < M.length) (hs : s ≤ 31) (hv : val M = 2 ^ (32 * j + s + 1) * Q) :
    (M[j]).toNat + 2 ^ s < 4294967296 ∧ val (M.set j (UInt32.ofNat ((M[j]).toNat + 2 ^ s))) = val M + 2 ^ (32 * j + s) := by
  have h1 := val_div M j
  have hbpos := bp_pos j
  rw [val_drop_cons hj, hv, show 32 * j + s + 1 = 32 * j + (s + 1) by omega, Nat.pow_add, ← bp_two, Nat.mul_assoc, Nat.mul_div_cancel_left _ hbpos] at h1
  have hx := u32_lt M[j]
  obtain ⟨x, hxe⟩ : ∃ x, x = (M[j]).toNat := ⟨_, rfl⟩
  obtain ⟨R, hR⟩ : ∃ R, R = val (M.drop (j + 1)) := ⟨_, rfl⟩
  rw [← hxe] at hx h1
  rw [← hR] at h1
  have hb := two_split s hs
  have hlt : x + 2 ^ s < 4294967296 := by
    obtain ⟨p, hp⟩ : ∃ p, p = 2 ^ s := ⟨_, rfl⟩
    obtain ⟨W, hW⟩ : ∃ W, W = 2 ^ (31 - s) := ⟨_, rfl⟩
    have hpos : 0 < p := by rw [hp]; exact Nat.pow_pos (by decide)
    rw [Nat.pow_succ, ← hp] at h1
    rw [← hp, ← hW] at hb
    have e : 4294967296 * R = p * 2 * (W * R) := by rw [Nat.mul_assoc p, ← Nat.mul_assoc 2, ← Nat.mul_assoc, ← hb]
    rw [e] at h1
    have e2 : x = p * 2 * (Q - W * R) := by rw [Nat.mul_sub]; omega
    have e3 : p * 2 * (Q - W * R) < p * 2 * W := by rw [← e2, Nat.mul_assoc, ← hb]; exact hx
    have e4 : Q - W * R < W := Nat.lt_of_mul_lt_mul_left e3
    have e5 : p * 2 * (Q - W * R + 1) ≤ p * 2 * W := Nat.mul_le_mul_left _ e4
    rw [Nat.mul_add, ← e2, Nat.mul_assoc p 2 W, ← hb] at e5
    rw [← hp]
    omega
  refine ⟨by rw [← hxe]; exact hlt, ?_⟩
  rw [← hxe]
  have h2 := val_set hj _ hlt
  rw [← hxe, Nat.mul_add] at h2
  rw [Nat.pow_add, ← bp_two]
  omega
end Go.Proofs.YtffbmkobholmhaaDoor
