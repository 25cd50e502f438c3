/- What QuotaShare asks, over the model: products and quotients of fixed-point numbers as rational numbers. No program is named here. -/
import Derived.Test.YtefoccjphbbmhaaQf
namespace Go.Proofs.Ytefoccjphbbmhaa
open Go.RowKit
set_option linter.unusedVariables false

theorem low_short {b : Bool} {n d : Nat} (hn : (limbs n).length ≤ 90) (hd : (limbs d).length ≤ 90) (h0 : d ≠ 0) : okR (low b n d) := by
  rw [← low_enc _ h0]
  have := mkRat_few (n := sgn b n) (d := d) (k := 96) (l := 96) h0 (by rw [sgn_abs]; omega) (by omega)
  exact enc_ok this.1 this.2
/-- Billionths of a quotient of two numbers. -/
theorem bill_low {n d : Nat} (hn : (limbs n).length ≤ 90) (hd : (limbs d).length ≤ 90) (h0 : d ≠ 0) : billM (low false n d) = fixQ (n * 1000000000 / d) := by
  have hg := Nat.gcd_pos_of_pos_right n (show 0 < d by omega)
  have hl1 := Nat.le_trans (limbs_mono (Nat.div_le_self n (Nat.gcd n d))) hn
  have hl2 := Nat.le_trans (limbs_mono (Nat.div_le_self d (Nat.gcd n d))) hd
  rw [billM_ok ⟨low_short hn hd h0, rfl⟩ ⟨hl1, hl2⟩]
  refine congrArg fixQ ?_
  show val (limbs (n / Nat.gcd n d)) * 1000000000 / val (limbs (d / Nat.gcd n d)) = _
  rw [val_limbs, val_limbs]
  have e1 : n / Nat.gcd n d * 1000000000 = n * 1000000000 / Nat.gcd n d := Nat.div_mul_right_comm (Nat.gcd_dvd_left n d) _
  rw [e1]
  exact quo_same hg (Nat.dvd_trans (Nat.gcd_dvd_left _ _) (Nat.dvd_mul_right _ _)) (Nat.gcd_dvd_right _ _)
theorem low_of {n d : Nat} (h0 : d ≠ 0) : low false n d = enc (((n : Int) : Rat) / ((d : Int) : Rat)) := by
  have h := ofR_nat (n := n) h0
  rw [of_ne (by omega)] at h
  exact (Prod.mk.inj h).1.symm
theorem cast_ne {d : Nat} (h : d ≠ 0) : ((d : Int) : Rat) ≠ 0 := by
  intro e
  have := (Rat.intCast_inj (a := (d : Int)) (b := 0)).1 e
  omega
theorem bp_four : (1000000000000000000000000000000 : Nat) < bp 4 := by decide
theorem share_chain {a b c : Nat} (ha : a ≤ 1000000000000000) (hb : b ≤ 1000000000000000) (hc : c ≤ 1000000000000000) (h0 : c ≠ 0) :
    ∃ p ex, mulR (low false a 1000000000) (low false b 1000000000) = (p, 0) ∧ divR p (low false c 1000000000) = (ex, 0) ∧ billM ex = fixQ (a * b / c) := by
  have hN : (1000000000 : Nat) ≠ 0 := by decide
  have ka : okk 2 2 (enc (((a : Int) : Rat) / (((1000000000 : Nat) : Int) : Rat))) := of_okk (by omega) (by omega) (by omega)
  have kb : okk 2 2 (enc (((b : Int) : Rat) / (((1000000000 : Nat) : Int) : Rat))) := of_okk (by omega) (by omega) (by omega)
  have kc : okk 2 2 (enc (((c : Int) : Rat) / (((1000000000 : Nat) : Int) : Rat))) := of_okk (by omega) (by omega) (by omega)
  rw [low_of hN, low_of hN, low_of hN]
  obtain ⟨e1, k1, r1⟩ := mulR_ok ka kb (by omega) (by omega)
  have hz : val (enc (((c : Int) : Rat) / (((1000000000 : Nat) : Int) : Rat))).num ≠ 0 := by
    intro h
    have h2 := (rat_zero_iff kc.1).2 h
    rw [rat_enc] at h2
    have h3 := cast_ne h0
    have h4 := cast_ne hN
    generalize (((1000000000 : Nat) : Int) : Rat) = N at *
    generalize ((c : Int) : Rat) = C at *
    grind
  obtain ⟨e2, k2, r2⟩ := divR_ok k1 kc hz (by omega) (by omega)
  refine ⟨_, _, e1, e2, ?_⟩
  have e3 : (enc ((enc (((a : Int) : Rat) / (((1000000000 : Nat) : Int) : Rat))).rat * (enc (((b : Int) : Rat) / (((1000000000 : Nat) : Int) : Rat))).rat)).rat / (enc (((c : Int) : Rat) / (((1000000000 : Nat) : Int) : Rat))).rat = (((a * b : Nat) : Int) : Rat) / (((c * 1000000000 : Nat) : Int) : Rat) := by
    rw [rat_enc, rat_enc, rat_enc, rat_enc]
    have h3 := cast_ne h0
    have h4 := cast_ne hN
    have c1 : (((a * b : Nat) : Int) : Rat) = ((a : Int) : Rat) * ((b : Int) : Rat) := by rw [Int.natCast_mul, Rat.intCast_mul]
    have c2 : (((c * 1000000000 : Nat) : Int) : Rat) = ((c : Int) : Rat) * (((1000000000 : Nat) : Int) : Rat) := by rw [Int.natCast_mul, Rat.intCast_mul]
    rw [c1, c2]
    generalize (((1000000000 : Nat) : Int) : Rat) = N at *
    generalize ((c : Int) : Rat) = C at *
    generalize ((a : Int) : Rat) = A at *
    generalize ((b : Int) : Rat) = B at *
    grind
  rw [e3, ← low_of (Nat.mul_ne_zero h0 hN)]
  have hab : a * b ≤ 1000000000000000000000000000000 := Nat.le_trans (Nat.mul_le_mul ha hb) (by decide)
  rw [bill_low, Nat.mul_div_mul_right _ _ (by decide : 0 < 1000000000)]
  · have : (limbs (a * b)).length ≤ 4 := limbs_len_le.2 (Nat.lt_of_le_of_lt hab bp_four)
    omega
  · have : (limbs (c * 1000000000)).length ≤ 4 := limbs_len_le.2 (Nat.lt_of_le_of_lt (show c * 1000000000 ≤ 1000000000000000000000000000000 by omega) bp_four)
    omega
  · exact Nat.mul_ne_zero h0 hN
/-- Two shares that make the whole. -/
theorem share_parts {a b c : Nat} (hbc : b ≤ c) (h0 : c ≠ 0) : a * b / c + a * (c - b) / c ≤ a ∧ a ≤ a * b / c + a * (c - b) / c + 1 := by
  have e : a * b + a * (c - b) = a * c := by rw [← Nat.mul_add]; congr 1; omega
  have d1 := Nat.div_add_mod (a * b) c
  have d2 := Nat.div_add_mod (a * (c - b)) c
  have m1 := Nat.mod_lt (a * b) (show 0 < c by omega)
  have m2 := Nat.mod_lt (a * (c - b)) (show 0 < c by omega)
  generalize a * b / c = q1 at *
  generalize a * (c - b) / c = q2 at *
  generalize a * b % c = r1 at *
  generalize a * (c - b) % c = r2 at *
  have e2 : c * (q1 + q2) + (r1 + r2) = c * a := by rw [Nat.mul_add, Nat.mul_comm c a, ← e, ← d1, ← d2]; omega
  constructor
  · have : c * (q1 + q2) ≤ c * a := by omega
    exact Nat.le_of_mul_le_mul_left this (by omega)
  · have : c * a < c * (q1 + q2 + 2) := by rw [Nat.mul_add c (q1 + q2) 2]; omega
    have := Nat.lt_of_mul_lt_mul_left this
    omega
end Go.Proofs.Ytefoccjphbbmhaa
