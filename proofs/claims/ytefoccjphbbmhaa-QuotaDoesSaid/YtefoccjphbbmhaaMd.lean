/- Rational numbers in their one form; what ratio's functions answer. No program is named here. -/
import Derived.Test.YtefoccjphbbmhaaMa
namespace Go.Proofs.Ytefoccjphbbmhaa
open Go.RowKit
set_option linter.unusedVariables false

/-- What an api.Ratio holds. -/
structure Rq where
  neg : Bool
  num : List UInt32
  den : List UInt32
deriving DecidableEq
def Rq.zero : Rq := ⟨false, [], []⟩
/-- A rational number in its one form. -/
def enc (q : Rat) : Rq := ⟨decide (q.num < 0), limbs q.num.natAbs, limbs q.den⟩
def sgn (b : Bool) (n : Nat) : Int := if b then -(n : Int) else (n : Int)
def Rq.rat (x : Rq) : Rat := mkRat (sgn x.neg (val x.num)) (val x.den)
theorem sgn_abs (b : Bool) (n : Nat) : (sgn b n).natAbs = n := by cases b <;> simp [sgn]
theorem sgn_neg (b : Bool) (n : Nat) (h : n ≠ 0) : decide (sgn b n < 0) = b := by cases b <;> simp [sgn] <;> omega
theorem sgn_zero (b : Bool) : sgn b 0 = 0 := by cases b <;> rfl
theorem sgn_of (q : Int) : sgn (decide (q < 0)) q.natAbs = q := by unfold sgn; by_cases h : q < 0 <;> simp [h] <;> omega

/-- P4.1: a valid rational number. -/
def okR (x : Rq) : Prop := chk2 x.num x.den = 0 ∧ val x.den ≠ 0 ∧ (val x.num = 0 → x.neg = false) ∧ Nat.gcd (val x.num) (val x.den) = 1
instance (x : Rq) : Decidable (okR x) := by unfold okR; infer_instance
def chkR (x : Rq) : Int := if okR x then 0 else 8
theorem okR_num {x : Rq} (h : okR x) : x.rat.num = sgn x.neg (val x.num) ∧ x.rat.den = val x.den := by
  obtain ⟨_, h2, _, h4⟩ := h
  unfold Rq.rat
  rw [Rat.num_mkRat, Rat.den_mkRat, if_neg h2, if_neg h2, sgn_abs, Nat.gcd_comm, h4]
  simp
theorem enc_rat {x : Rq} (h : okR x) : enc x.rat = x := by
  obtain ⟨e1, e2⟩ := okR_num h
  obtain ⟨h1, h2, h3, h4⟩ := h
  have hn := (chk_zero (chk2_zero h1).1).2
  have hd := (chk_zero (chk2_zero h1).2).2
  unfold enc
  rw [e1, e2, sgn_abs, hn, hd]
  by_cases h0 : val x.num = 0
  · rw [h0, sgn_zero]
    obtain ⟨ng, nm, dn⟩ := x
    have h5 : ng = false := h3 h0
    rw [h5]; rfl
  · rw [sgn_neg _ _ h0]
theorem rat_enc (q : Rat) : (enc q).rat = q := by
  unfold enc Rq.rat
  simp only [val_limbs]
  rw [sgn_of]
  exact Rat.mkRat_self q
theorem enc_ok {q : Rat} (hn : (limbs q.num.natAbs).length ≤ 96) (hd : (limbs q.den).length ≤ 96) : okR (enc q) := by
  refine ⟨chk2_ok (chk_limbs hn) (chk_limbs hd), ?_, ?_, ?_⟩
  · show val (limbs q.den) ≠ 0
    rw [val_limbs]; exact q.den_nz
  · intro h
    show decide (q.num < 0) = false
    have : val (limbs q.num.natAbs) = 0 := h
    rw [val_limbs] at this
    exact decide_eq_false (by omega)
  · show Nat.gcd (val (limbs q.num.natAbs)) (val (limbs q.den)) = 1
    rw [val_limbs, val_limbs]; exact q.reduced
theorem rat_inj {x y : Rq} (hx : okR x) (hy : okR y) (h : x.rat = y.rat) : x = y := by rw [← enc_rat hx, ← enc_rat hy, h]
/-- n / d in lowest terms. -/
theorem lowest (b : Bool) (n d : Nat) (hd : d ≠ 0) : enc (mkRat (sgn b n) d) = ⟨b && decide (n ≠ 0), limbs (n / Nat.gcd n d), limbs (d / Nat.gcd n d)⟩ := by
  unfold enc
  rw [Rat.num_mkRat, Rat.den_mkRat, if_neg hd, if_neg hd, sgn_abs, Nat.gcd_comm d n]
  have hg : 0 < Nat.gcd n d := Nat.gcd_pos_of_pos_right _ (by omega)
  obtain ⟨k, hk⟩ := Nat.gcd_dvd_left n d
  have hnk : n / Nat.gcd n d = k := by
    exact Nat.div_eq_of_eq_mul_right hg hk
  have e : sgn b n / ((Nat.gcd n d : Nat) : Int) = sgn b k := by
    have e2 : sgn b n = ((Nat.gcd n d : Nat) : Int) * sgn b k := by
      have e3 : (n : Int) = ((Nat.gcd n d : Nat) : Int) * (k : Int) := by rw [← Int.natCast_mul, ← hk]
      cases b <;> simp [sgn, e3, Int.mul_neg] <;> rw [← e3]
    rw [e2, Int.mul_ediv_cancel_left _ (by omega)]
  rw [e, sgn_abs, hnk]
  by_cases h0 : n = 0
  · have hk0 : k = 0 := by
      rw [h0] at hnk; simp at hnk; exact hnk.symm
    subst hk0
    rw [sgn_zero]; simp [h0]
  · have hk0 : k ≠ 0 := fun e3 => h0 (by rw [hk, e3]; simp)
    rw [sgn_neg _ _ hk0]; simp [h0]

/-- The value of a sum, a product, a quotient, over the numbers in between. -/
theorem rat_add {x y : Rq} (hx : okR x) (hy : okR y) : x.rat + y.rat = mkRat (sgn x.neg (val x.num * val y.den) + sgn y.neg (val y.num * val x.den)) (val x.den * val y.den) := by
  unfold Rq.rat
  rw [Rat.mkRat_add_mkRat _ _ hx.2.1 hy.2.1]
  congr 2
  · cases x.neg <;> simp [sgn, Int.neg_mul]
  · cases y.neg <;> simp [sgn, Int.neg_mul]
theorem rat_mul {x y : Rq} : x.rat * y.rat = mkRat (sgn (x.neg != y.neg) (val x.num * val y.num)) (val x.den * val y.den) := by
  unfold Rq.rat
  rw [Rat.mkRat_mul_mkRat]
  congr 1
  cases x.neg <;> cases y.neg <;> simp [sgn, Int.neg_mul, Int.mul_neg]
theorem rat_neg {x : Rq} : -x.rat = mkRat (sgn (!x.neg) (val x.num)) (val x.den) := by
  unfold Rq.rat
  rw [Rat.neg_mkRat]
  congr 1
  cases x.neg <;> simp [sgn]
theorem rat_lt {x y : Rq} (hx : okR x) (hy : okR y) : x.rat < y.rat ↔ sgn x.neg (val x.num) * (val y.den : Int) < sgn y.neg (val y.num) * (val x.den : Int) := by
  obtain ⟨e1, e2⟩ := okR_num hx
  obtain ⟨e3, e4⟩ := okR_num hy
  rw [Rat.lt_iff, e1, e2, e3, e4]

/-- At most MaxLimbs limbs. -/
def fits (n : Nat) : Prop := (limbs n).length ≤ 96
instance (n : Nat) : Decidable (fits n) := by unfold fits; infer_instance
def crossA (x y : Rq) : Nat := val x.num * val y.den
def sumI (x y : Rq) : Int := sgn x.neg (crossA x y) + sgn y.neg (crossA y x)
def difI (x y : Rq) : Int := sgn x.neg (crossA x y) - sgn y.neg (crossA y x)
def addR (x y : Rq) : Rq × Int := if okR x ∧ okR y then (if fits (crossA x y) ∧ fits (crossA y x) ∧ fits (sumI x y).natAbs ∧ fits (val x.den * val y.den) then (enc (x.rat + y.rat), 0) else (Rq.zero, 30)) else (Rq.zero, 8)
def subR (x y : Rq) : Rq × Int := if okR x ∧ okR y then (if fits (crossA x y) ∧ fits (crossA y x) ∧ fits (difI x y).natAbs ∧ fits (val x.den * val y.den) then (enc (x.rat - y.rat), 0) else (Rq.zero, 30)) else (Rq.zero, 8)
def mulR (x y : Rq) : Rq × Int := if okR x ∧ okR y then (if fits (val x.num * val y.num) ∧ fits (val x.den * val y.den) then (enc (x.rat * y.rat), 0) else (Rq.zero, 30)) else (Rq.zero, 8)
def divR (x y : Rq) : Rq × Int := if okR x ∧ okR y then (if val y.num = 0 then (Rq.zero, 40) else if fits (val x.num * val y.den) ∧ fits (val x.den * val y.num) then (enc (x.rat / y.rat), 0) else (Rq.zero, 30)) else (Rq.zero, 8)
def negR (x : Rq) : Rq × Int := if okR x then (enc (-x.rat), 0) else (Rq.zero, 8)
def cmpQ (p q : Rat) : Int := if p < q then -1 else if p = q then 0 else 1
def sideR (x : Rq) : Int := if val x.num = 0 then 0 else if x.neg then -1 else 1
/-- P4.1: ErrGreat only where both are positive or both are negative. -/
def cmpR (x y : Rq) : Int × Int := if okR x ∧ okR y then (if sideR x = sideR y ∧ sideR x ≠ 0 ∧ ¬ (fits (crossA x y) ∧ fits (crossA y x)) then (0, 30) else (cmpQ x.rat y.rat, 0)) else (0, 8)
def floorR (x : Rq) : Int × Int := if okR x then (if -9223372036854775808 ≤ x.rat.floor ∧ x.rat.floor ≤ 9223372036854775807 then (x.rat.floor, 0) else (0, 30)) else (0, 8)
def ofR (n d : Int) : Rq × Int := if d = 0 then (Rq.zero, 40) else (enc ((n : Rat) / (d : Rat)), 0)
def wholeR (n : Int) : Rq := enc (n : Rat)

/-- A number's limbs are few. -/
def fewR (k l : Nat) (q : Rat) : Prop := (limbs q.num.natAbs).length ≤ k ∧ (limbs q.den).length ≤ l
theorem mkRat_few {n : Int} {d k l : Nat} (hd : d ≠ 0) (hn : (limbs n.natAbs).length ≤ k) (hl : (limbs d).length ≤ l) : fewR k l (mkRat n d) := by
  unfold fewR
  rw [Rat.num_mkRat, Rat.den_mkRat, if_neg hd, if_neg hd]
  refine ⟨Nat.le_trans (limbs_mono ?_) hn, Nat.le_trans (limbs_mono (Nat.div_le_self _ _)) hl⟩
  rw [Int.natAbs_ediv_of_dvd (Int.ofNat_dvd_left.2 (Nat.gcd_dvd_right _ _))]
  exact Nat.div_le_self _ _
theorem lenm {m n k l : Nat} (h1 : (limbs m).length ≤ k) (h2 : (limbs n).length ≤ l) : (limbs (m * n)).length ≤ k + l := by
  apply limbs_len_le.2
  rw [bp_add]
  rcases Nat.eq_zero_or_pos n with h | h
  · rw [h, Nat.mul_zero]; exact Nat.mul_pos (bp_pos _) (bp_pos _)
  · exact Nat.lt_of_lt_of_le (Nat.mul_lt_mul_of_pos_right (limbs_len_le.1 h1) h) (Nat.mul_le_mul_left _ (Nat.le_of_lt (limbs_len_le.1 h2)))
theorem lens {m n k : Nat} (h1 : (limbs m).length ≤ k) (h2 : (limbs n).length ≤ k) : (limbs (m + n)).length ≤ k + 1 := by
  apply limbs_len_le.2
  have a := limbs_len_le.1 h1
  have b := limbs_len_le.1 h2
  rw [bp_succ]; omega
theorem sum_abs (b c : Bool) (m n : Nat) : (sgn b m + sgn c n).natAbs ≤ m + n := by cases b <;> cases c <;> simp [sgn] <;> omega
theorem dif_abs (b c : Bool) (m n : Nat) : (sgn b m - sgn c n).natAbs ≤ m + n := by cases b <;> cases c <;> simp [sgn] <;> omega

/-- Valid, with at most k and l limbs: what the identities begin with and what they get. -/
def okk (k l : Nat) (x : Rq) : Prop := okR x ∧ (limbs (val x.num)).length ≤ k ∧ (limbs (val x.den)).length ≤ l
theorem okk_enc {q : Rat} {k l : Nat} (hk : k ≤ 96) (hl : l ≤ 96) (h : fewR k l q) : okk k l (enc q) := by
  refine ⟨enc_ok (Nat.le_trans h.1 hk) (Nat.le_trans h.2 hl), ?_, ?_⟩
  · show (limbs (val (limbs _))).length ≤ k
    rw [val_limbs]; exact h.1
  · show (limbs (val (limbs _))).length ≤ l
    rw [val_limbs]; exact h.2
theorem addR_ok {x y : Rq} {k l m n s : Nat} (hx : okk k l x) (hy : okk m n y) (h1 : k + n ≤ s) (h2 : m + l ≤ s) (hs : s + 1 ≤ 96) (hd : l + n ≤ 96) :
    addR x y = (enc (x.rat + y.rat), 0) ∧ okk (s + 1) (l + n) (enc (x.rat + y.rat)) ∧ (enc (x.rat + y.rat)).rat = x.rat + y.rat := by
  have a1 : (limbs (crossA x y)).length ≤ s := Nat.le_trans (lenm hx.2.1 hy.2.2) h1
  have a2 : (limbs (crossA y x)).length ≤ s := Nat.le_trans (lenm hy.2.1 hx.2.2) h2
  have a3 : (limbs (sumI x y).natAbs).length ≤ s + 1 := Nat.le_trans (limbs_mono (sum_abs _ _ _ _)) (lens a1 a2)
  have a4 := lenm hx.2.2 hy.2.2
  refine ⟨?_, okk_enc hs hd ?_, rat_enc _⟩
  · unfold addR
    rw [if_pos ⟨hx.1, hy.1⟩, if_pos]
    unfold fits
    exact ⟨by omega, by omega, by omega, by omega⟩
  · rw [rat_add hx.1 hy.1]
    exact mkRat_few (Nat.mul_ne_zero hx.1.2.1 hy.1.2.1) a3 a4
theorem mulR_ok {x y : Rq} {k l m n : Nat} (hx : okk k l x) (hy : okk m n y) (hs : k + m ≤ 96) (hd : l + n ≤ 96) :
    mulR x y = (enc (x.rat * y.rat), 0) ∧ okk (k + m) (l + n) (enc (x.rat * y.rat)) ∧ (enc (x.rat * y.rat)).rat = x.rat * y.rat := by
  have a1 := lenm hx.2.1 hy.2.1
  have a2 := lenm hx.2.2 hy.2.2
  refine ⟨?_, okk_enc hs hd ?_, rat_enc _⟩
  · unfold mulR
    rw [if_pos ⟨hx.1, hy.1⟩, if_pos]
    unfold fits
    exact ⟨by omega, by omega⟩
  · rw [rat_mul]
    exact mkRat_few (Nat.mul_ne_zero hx.1.2.1 hy.1.2.1) (by rw [sgn_abs]; exact a1) a2
/-- The theorem of the stage, over the model. -/
theorem field_all {x y z : Rq} (hx : okk 6 6 x) (hy : okk 6 6 y) (hz : okk 6 6 z) :
    ∃ xy yz a p r c u v, addR x y = (xy, 0) ∧ addR y x = (xy, 0) ∧ addR y z = (yz, 0) ∧ addR xy z = (a, 0) ∧ addR x yz = (a, 0) ∧
      mulR x y = (p, 0) ∧ mulR y x = (p, 0) ∧ mulR y z = (r, 0) ∧ mulR p z = (c, 0) ∧ mulR x r = (c, 0) ∧ mulR xy z = (u, 0) ∧ mulR x z = (v, 0) ∧ addR v r = (u, 0) ∧ chkR u = 0 := by
  obtain ⟨h1, o1, e1⟩ := addR_ok (s := 12) hx hy (by omega) (by omega) (by omega) (by omega)
  obtain ⟨h2, o2, e2⟩ := addR_ok (s := 12) hy hx (by omega) (by omega) (by omega) (by omega)
  obtain ⟨h3, o3, e3⟩ := addR_ok (s := 12) hy hz (by omega) (by omega) (by omega) (by omega)
  obtain ⟨h4, o4, e4⟩ := addR_ok (s := 19) o1 hz (by omega) (by omega) (by omega) (by omega)
  obtain ⟨h5, o5, e5⟩ := addR_ok (s := 19) hx o3 (by omega) (by omega) (by omega) (by omega)
  obtain ⟨h6, o6, e6⟩ := mulR_ok hx hy (by omega) (by omega)
  obtain ⟨h7, o7, e7⟩ := mulR_ok hy hx (by omega) (by omega)
  obtain ⟨h8, o8, e8⟩ := mulR_ok hy hz (by omega) (by omega)
  obtain ⟨h9, o9, e9⟩ := mulR_ok o6 hz (by omega) (by omega)
  obtain ⟨h10, o10, e10⟩ := mulR_ok hx o8 (by omega) (by omega)
  obtain ⟨h11, o11, e11⟩ := mulR_ok o1 hz (by omega) (by omega)
  obtain ⟨h12, o12, e12⟩ := mulR_ok hx hz (by omega) (by omega)
  obtain ⟨h13, o13, e13⟩ := addR_ok (s := 24) o12 o8 (by omega) (by omega) (by omega) (by omega)
  rw [e1] at h4; rw [e3] at h5; rw [e6] at h9; rw [e8] at h10; rw [e1] at h11; rw [e12, e8] at h13
  refine ⟨_, _, _, _, _, _, _, _, h1, ?_, h3, h4, ?_, h6, ?_, h8, h9, ?_, h11, h12, ?_, ?_⟩
  · rw [h2, Rat.add_comm]
  · rw [h5, Rat.add_assoc]
  · rw [h7, Rat.mul_comm]
  · rw [h10, Rat.mul_assoc]
  · rw [h13, Rat.add_mul]
  · unfold chkR
    rw [if_pos]
    rw [e1] at o11
    exact o11.1

theorem rat_sub {x y : Rq} (hx : okR x) (hy : okR y) : x.rat - y.rat = mkRat (difI x y) (val x.den * val y.den) := by
  have e : x.rat - y.rat = x.rat + -y.rat := Rat.sub_eq_add_neg _ _
  rw [e, rat_neg]
  unfold Rq.rat difI crossA
  rw [Rat.mkRat_add_mkRat _ _ hx.2.1 hy.2.1]
  congr 1
  cases x.neg <;> cases y.neg <;> simp [sgn, Int.neg_mul] <;> omega
theorem subR_ok {x y : Rq} {k l m n s : Nat} (hx : okk k l x) (hy : okk m n y) (h1 : k + n ≤ s) (h2 : m + l ≤ s) (hs : s + 1 ≤ 96) (hd : l + n ≤ 96) :
    subR x y = (enc (x.rat - y.rat), 0) ∧ okk (s + 1) (l + n) (enc (x.rat - y.rat)) ∧ (enc (x.rat - y.rat)).rat = x.rat - y.rat := by
  have a1 : (limbs (crossA x y)).length ≤ s := Nat.le_trans (lenm hx.2.1 hy.2.2) h1
  have a2 : (limbs (crossA y x)).length ≤ s := Nat.le_trans (lenm hy.2.1 hx.2.2) h2
  have a3 : (limbs (difI x y).natAbs).length ≤ s + 1 := Nat.le_trans (limbs_mono (dif_abs _ _ _ _)) (lens a1 a2)
  have a4 := lenm hx.2.2 hy.2.2
  refine ⟨?_, okk_enc hs hd ?_, rat_enc _⟩
  · unfold subR
    rw [if_pos ⟨hx.1, hy.1⟩, if_pos]
    unfold fits
    exact ⟨by omega, by omega, by omega, by omega⟩
  · rw [rat_sub hx.1 hy.1]
    exact mkRat_few (Nat.mul_ne_zero hx.1.2.1 hy.1.2.1) a3 a4
theorem rat_div {x y : Rq} (hx : okR x) (hy : okR y) (h0 : val y.num ≠ 0) : x.rat / y.rat = mkRat (sgn (x.neg != y.neg) (val x.num * val y.den)) (val x.den * val y.num) := by
  obtain ⟨e1, e2⟩ := okR_num hx
  obtain ⟨e3, e4⟩ := okR_num hy
  have hxe : x.rat = mkRat (sgn x.neg (val x.num)) (val x.den) := rfl
  have hi : y.rat⁻¹ = mkRat (sgn y.neg (val y.den)) (val y.num) := by
    have h := Rat.mkRat_self (y.rat⁻¹)
    rw [Rat.num_inv, Rat.den_inv, e3, e4, if_neg (by cases y.neg <;> simp [sgn] <;> omega), sgn_abs] at h
    rw [← h]
    congr 1
    cases hb : y.neg
    · simp [sgn, Int.sign_eq_one_of_pos (show (0 : Int) < (val y.num : Int) by omega)]
    · simp [sgn, Int.sign_eq_one_of_pos (show (0 : Int) < (val y.num : Int) by omega)]
  rw [Rat.div_def, hi, hxe, Rat.mkRat_mul_mkRat]
  congr 1
  cases x.neg <;> cases y.neg <;> simp [sgn, Int.neg_mul, Int.mul_neg]
theorem divR_ok {x y : Rq} {k l m n : Nat} (hx : okk k l x) (hy : okk m n y) (h0 : val y.num ≠ 0) (hs : k + n ≤ 96) (hd : l + m ≤ 96) :
    divR x y = (enc (x.rat / y.rat), 0) ∧ okk (k + n) (l + m) (enc (x.rat / y.rat)) ∧ (enc (x.rat / y.rat)).rat = x.rat / y.rat := by
  have a1 := lenm hx.2.1 hy.2.2
  have a2 := lenm hx.2.2 hy.2.1
  refine ⟨?_, okk_enc hs hd ?_, rat_enc _⟩
  · unfold divR
    rw [if_pos ⟨hx.1, hy.1⟩, if_neg h0, if_pos]
    unfold fits
    exact ⟨by omega, by omega⟩
  · rw [rat_div hx.1 hy.1 h0]
    exact mkRat_few (Nat.mul_ne_zero hx.1.2.1 h0) (by rw [sgn_abs]; exact a1) a2
theorem divR_zero {x y : Rq} (hx : okR x) (hy : okR y) (h0 : val y.num = 0) : divR x y = (Rq.zero, 40) := by
  unfold divR
  rw [if_pos ⟨hx, hy⟩, if_pos h0]
theorem negR_ok {x : Rq} {k l : Nat} (hx : okk k l x) (hk : k ≤ 96) (hl : l ≤ 96) : negR x = (enc (-x.rat), 0) ∧ okk k l (enc (-x.rat)) ∧ (enc (-x.rat)).rat = -x.rat := by
  refine ⟨?_, okk_enc hk hl ?_, rat_enc _⟩
  · unfold negR
    rw [if_pos hx.1]
  · rw [rat_neg]
    exact mkRat_few hx.1.2.1 (by rw [sgn_abs]; exact hx.2.1) hx.2.2
theorem rat_zero_iff {x : Rq} (hx : okR x) : x.rat = 0 ↔ val x.num = 0 := by
  obtain ⟨e1, e2⟩ := okR_num hx
  rw [← Rat.num_eq_zero, e1]
  cases x.neg <;> simp [sgn]
theorem cmpR_ok {x y : Rq} {k l m n : Nat} (hx : okk k l x) (hy : okk m n y) (h1 : k + n ≤ 96) (h2 : m + l ≤ 96) : cmpR x y = (cmpQ x.rat y.rat, 0) := by
  have a1 := lenm hx.2.1 hy.2.2
  have a2 := lenm hy.2.1 hx.2.2
  unfold cmpR
  rw [if_pos ⟨hx.1, hy.1⟩, if_neg]
  intro h
  apply h.2.2
  unfold fits crossA
  exact ⟨by omega, by omega⟩
theorem cmpQ_flip (p q : Rat) : cmpQ q p = -cmpQ p q := by
  unfold cmpQ
  by_cases h1 : p < q
  · have h2 : ¬ q < p := by rw [Rat.not_lt]; exact Rat.le_of_lt h1
    have h3 : q ≠ p := (Rat.ne_of_lt h1).symm
    rw [if_pos h1, if_neg h2, if_neg h3]; rfl
  · by_cases h3 : p = q
    · subst h3
      rw [if_neg h1, if_pos rfl]; rfl
    · have h2 : q < p := Rat.lt_of_le_of_ne (Rat.not_lt.1 h1) (fun e => h3 e.symm)
      rw [if_pos h2, if_neg h1, if_neg h3] <;> rfl
theorem cmpQ_add (p q r : Rat) : cmpQ (p + r) (q + r) = cmpQ p q := by
  unfold cmpQ
  have h1 : p + r < q + r ↔ p < q := Rat.add_lt_add_right
  have h2 : p + r = q + r ↔ p = q := ⟨fun e => by
    have := congrArg (· - r) e
    simpa [Rat.add_sub_cancel] using this, fun e => by rw [e]⟩
  simp only [h1, h2]
theorem cmpQ_eq_zero (p q : Rat) : cmpQ p q = 0 ↔ p = q := by
  unfold cmpQ
  by_cases h1 : p < q
  · rw [if_pos h1]; exact ⟨fun h => by simp at h, fun h => absurd h (Rat.ne_of_lt h1)⟩
  · rw [if_neg h1]
    by_cases h3 : p = q
    · rw [if_pos h3]; exact ⟨fun _ => h3, fun _ => rfl⟩
    · rw [if_neg h3]; exact ⟨fun h => by simp at h, fun h => absurd h h3⟩
theorem cmpQ_neg (p q : Rat) : cmpQ (-p) (-q) = -cmpQ p q := by
  rw [← cmpQ_flip]
  have e := cmpQ_add (-p) (-q) (p + q)
  have e1 : -p + (p + q) = q := by rw [← Rat.add_assoc, Rat.neg_add_cancel, Rat.zero_add]
  have e2 : -q + (p + q) = p := by rw [Rat.add_comm p q, ← Rat.add_assoc, Rat.neg_add_cancel, Rat.zero_add]
  rw [e1, e2] at e
  exact e.symm
theorem cmpQ_sub (p q : Rat) : cmpQ (p - q) 0 = cmpQ p q := by
  have e := cmpQ_add p q (-q)
  rw [← Rat.sub_eq_add_neg, Rat.add_neg_cancel] at e
  exact e
theorem whole_few (n : Int) (h : n.natAbs < bp 2) : fewR 2 1 (n : Rat) := ⟨limbs_len_le.2 h, limbs_len_le.2 (by show 1 < bp 1; decide)⟩
theorem enc_zero : enc 0 = wholeR 0 := by unfold wholeR; rfl
theorem enc_one : enc 1 = wholeR 1 := by unfold wholeR; rfl

theorem back_all {x y : Rq} (hx : okk 6 6 x) (hy : okk 6 6 y) :
    ∃ s n p, addR x y = (s, 0) ∧ subR s y = (x, 0) ∧ subR x x = (wholeR 0, 0) ∧ negR y = (n, 0) ∧ addR s n = (x, 0) ∧ mulR x y = (p, 0) ∧
      (val y.num = 0 → divR p y = (Rq.zero, 40) ∧ p = wholeR 0) ∧ (val y.num ≠ 0 → divR p y = (x, 0) ∧ divR y y = (wholeR 1, 0)) := by
  obtain ⟨h1, o1, e1⟩ := addR_ok (s := 12) hx hy (by omega) (by omega) (by omega) (by omega)
  obtain ⟨h2, o2, e2⟩ := subR_ok (s := 19) o1 hy (by omega) (by omega) (by omega) (by omega)
  obtain ⟨h3, o3, e3⟩ := subR_ok (s := 12) hx hx (by omega) (by omega) (by omega) (by omega)
  obtain ⟨h4, o4, e4⟩ := negR_ok hy (by omega) (by omega)
  obtain ⟨h5, o5, e5⟩ := addR_ok (s := 19) o1 o4 (by omega) (by omega) (by omega) (by omega)
  obtain ⟨h6, o6, e6⟩ := mulR_ok hx hy (by omega) (by omega)
  refine ⟨_, _, _, h1, ?_, ?_, h4, ?_, h6, fun h0 => ⟨divR_zero o6.1 hy.1 h0, ?_⟩, fun h0 => ⟨?_, ?_⟩⟩
  · rw [h2, e1, Rat.add_sub_cancel, enc_rat hx.1]
  · rw [h3, Rat.sub_self, enc_zero]
  · rw [h5, e1, e4, Rat.add_assoc, Rat.add_neg_cancel, Rat.add_zero, enc_rat hx.1]
  · rw [(rat_zero_iff hy.1).2 h0, Rat.mul_zero, enc_zero]
  · obtain ⟨h7, _, _⟩ := divR_ok o6 hy h0 (by omega) (by omega)
    have hne : y.rat ≠ 0 := fun e => h0 ((rat_zero_iff hy.1).1 e)
    rw [h7, e6, Rat.div_def, Rat.mul_assoc, Rat.mul_inv_cancel _ hne, Rat.mul_one, enc_rat hx.1]
  · obtain ⟨h7, _, _⟩ := divR_ok hy hy h0 (by omega) (by omega)
    have hne : y.rat ≠ 0 := fun e => h0 ((rat_zero_iff hy.1).1 e)
    rw [h7, Rat.div_def, Rat.mul_inv_cancel _ hne, enc_one]

theorem order_all {x y z : Rq} (hx : okk 6 6 x) (hy : okk 6 6 y) (hz : okk 6 6 z) :
    ∃ c xz yz a b l, cmpR x y = (c, 0) ∧ cmpR y x = (-c, 0) ∧ addR x z = (xz, 0) ∧ addR y z = (yz, 0) ∧ cmpR xz yz = (c, 0) ∧ (c = 0 ↔ x = y) ∧
      negR x = (a, 0) ∧ negR y = (b, 0) ∧ cmpR a b = (-c, 0) ∧ subR x y = (l, 0) ∧ cmpR l (wholeR 0) = (c, 0) := by
  obtain ⟨h1, o1, e1⟩ := addR_ok (s := 12) hx hz (by omega) (by omega) (by omega) (by omega)
  obtain ⟨h2, o2, e2⟩ := addR_ok (s := 12) hy hz (by omega) (by omega) (by omega) (by omega)
  obtain ⟨h3, o3, e3⟩ := negR_ok hx (by omega) (by omega)
  obtain ⟨h4, o4, e4⟩ := negR_ok hy (by omega) (by omega)
  obtain ⟨h5, o5, e5⟩ := subR_ok (s := 12) hx hy (by omega) (by omega) (by omega) (by omega)
  have o6 : okk 2 1 (wholeR 0) := okk_enc (by omega) (by omega) (whole_few 0 (by decide))
  have e6 : (wholeR 0).rat = 0 := rat_enc _
  refine ⟨cmpQ x.rat y.rat, _, _, _, _, _, cmpR_ok hx hy (by omega) (by omega), ?_, h1, h2, ?_, ?_, h3, h4, ?_, h5, ?_⟩
  · rw [cmpR_ok hy hx (by omega) (by omega), cmpQ_flip]
  · rw [cmpR_ok o1 o2 (by omega) (by omega), e1, e2, cmpQ_add]
  · rw [cmpQ_eq_zero]; exact ⟨rat_inj hx.1 hy.1, fun e => by rw [e]⟩
  · rw [cmpR_ok o3 o4 (by omega) (by omega), e3, e4, cmpQ_neg]
  · rw [cmpR_ok o5 o6 (by omega) (by omega), e5, e6, cmpQ_sub]

theorem bp_2 : bp 2 = 18446744073709551616 := by decide
theorem whole_okk {n : Int} (h : n.natAbs < 18446744073709551616) : okk 2 1 (wholeR n) := okk_enc (by omega) (by omega) (whole_few n (by rw [bp_2]; exact h))
theorem whole_rat (n : Int) : (wholeR n).rat = (n : Rat) := rat_enc _
theorem floor_whole {n : Int} (h1 : -9223372036854775808 ≤ n) (h2 : n ≤ 9223372036854775807) : floorR (wholeR n) = (n, 0) := by
  unfold floorR
  rw [if_pos (whole_okk (by omega)).1, whole_rat, Rat.floor_intCast, if_pos ⟨h1, h2⟩]
theorem cmpQ_lt {p q : Rat} : cmpQ p q < 0 ↔ p < q := by
  unfold cmpQ
  by_cases h1 : p < q
  · simp [h1]
  · rw [if_neg h1]; split <;> simp [h1]
theorem cmpQ_ge {p q : Rat} : 0 ≤ cmpQ p q ↔ q ≤ p := by
  rw [← Int.not_lt, cmpQ_lt, Rat.not_lt]
theorem cmpQ_le {p q : Rat} : cmpQ p q ≤ 0 ↔ p ≤ q := by
  have e := cmpQ_flip q p
  have e2 := cmpQ_ge (p := q) (q := p)
  rw [← e2]; omega
theorem cmpQ_gt {p q : Rat} : 0 < cmpQ p q ↔ q < p := by
  have e := cmpQ_flip q p
  have e2 := cmpQ_lt (p := q) (q := p)
  rw [← e2]; omega
theorem floor_all {x : Rq} (hx : okk 6 6 x) :
    ∃ low past high, cmpR x (wholeR (-9223372036854775808)) = (low, 0) ∧ addR (wholeR 9223372036854775807) (wholeR 1) = (past, 0) ∧ cmpR x past = (high, 0) ∧
      ((low < 0 ∨ 0 ≤ high) → floorR x = (0, 30)) ∧
      (¬ (low < 0 ∨ 0 ≤ high) → ∃ k «at» next above, floorR x = (k, 0) ∧ -9223372036854775808 ≤ k ∧ k ≤ 9223372036854775807 ∧ cmpR (wholeR k) x = («at», 0) ∧ addR (wholeR k) (wholeR 1) = (next, 0) ∧ cmpR next x = (above, 0) ∧ «at» ≤ 0 ∧ 0 < above) := by
  have o1 : okk 2 1 (wholeR (-9223372036854775808)) := whole_okk (by decide)
  have o2 : okk 2 1 (wholeR 9223372036854775807) := whole_okk (by decide)
  have o3 : okk 2 1 (wholeR 1) := whole_okk (by decide)
  obtain ⟨h4, o4, e4⟩ := addR_ok (s := 3) o2 o3 (by omega) (by omega) (by omega) (by omega)
  rw [whole_rat, whole_rat] at e4
  have e5 : ((9223372036854775807 : Int) : Rat) + ((1 : Int) : Rat) = ((9223372036854775808 : Int) : Rat) := by rw [← Rat.intCast_add]; rfl
  refine ⟨_, _, _, cmpR_ok hx o1 (by omega) (by omega), h4, cmpR_ok hx o4 (by omega) (by omega), ?_, ?_⟩
  · intro h
    unfold floorR
    rw [if_pos hx.1, if_neg]
    intro ⟨h1, h2⟩
    rw [whole_rat, cmpQ_lt] at h
    rcases h with h | h
    · have := Rat.le_floor_iff.1 h1
      exact absurd h (Rat.not_lt.2 this)
    · rw [whole_rat, whole_rat] at h
      rw [e4, e5, cmpQ_ge] at h
      have := Rat.le_floor_iff.2 h
      omega
  · intro h
    rw [not_or, whole_rat, whole_rat, whole_rat, e4, e5, cmpQ_lt, cmpQ_ge, Rat.not_lt, ← Rat.le_floor_iff, ← Rat.le_floor_iff] at h
    obtain ⟨k, hk⟩ : ∃ k, k = x.rat.floor := ⟨_, rfl⟩
    rw [← hk] at h
    have h1 : -9223372036854775808 ≤ k := h.1
    have h2 : k ≤ 9223372036854775807 := by omega
    have o6 : okk 2 1 (wholeR k) := whole_okk (by omega)
    obtain ⟨h7, o7, e7⟩ := addR_ok (s := 3) o6 o3 (by omega) (by omega) (by omega) (by omega)
    refine ⟨k, _, _, _, ?_, h1, h2, cmpR_ok o6 hx (by omega) (by omega), h7, cmpR_ok o7 hx (by omega) (by omega), ?_, ?_⟩
    · unfold floorR
      rw [if_pos hx.1, ← hk, if_pos ⟨h1, h2⟩]
    · rw [whole_rat, cmpQ_le, hk]; exact Rat.floor_le _
    · rw [e7, whole_rat, whole_rat, cmpQ_gt, ← Rat.intCast_add, hk]; exact Rat.lt_floor_add_one _

theorem of_mk (n d : Int) (hd : d ≠ 0) : (n : Rat) / (d : Rat) = mkRat (sgn (decide (n < 0) != decide (d < 0)) n.natAbs) d.natAbs := by
  rw [← Rat.divInt_eq_div]
  rcases Int.eq_nat_or_neg d with ⟨k, rfl | rfl⟩
  · rw [Rat.divInt_ofNat]
    have e : decide ((k : Int) < 0) = false := by simp
    rw [e, Bool.bne_false, sgn_of, Int.natAbs_natCast]
  · rw [Rat.divInt_neg', Rat.divInt_ofNat]
    have e : decide (-(k : Int) < 0) = true := by simp; omega
    rw [e, Bool.bne_true, Int.natAbs_neg, Int.natAbs_natCast]
    congr 1
    by_cases h : n < 0 <;> simp [sgn, h] <;> try omega
theorem of_okk {n d : Int} (hd : d ≠ 0) (h1 : n.natAbs < 18446744073709551616) (h2 : d.natAbs < 18446744073709551616) : okk 2 2 (enc ((n : Rat) / (d : Rat))) := by
  refine okk_enc (by omega) (by omega) ?_
  rw [of_mk n d hd]
  exact mkRat_few (by omega) (by rw [sgn_abs]; exact limbs_len_le.2 (by rw [bp_2]; exact h1)) (limbs_len_le.2 (by rw [bp_2]; exact h2))
theorem of_zero (n : Int) : ofR n 0 = (Rq.zero, 40) := rfl
theorem of_ne {n d : Int} (hd : d ≠ 0) : ofR n d = (enc ((n : Rat) / (d : Rat)), 0) := by unfold ofR; rw [if_neg hd]
theorem of_whole (n : Int) : ofR n 1 = (wholeR n, 0) := by
  rw [of_ne (by decide)]
  unfold wholeR
  rw [Rat.intCast_one, Rat.div_def, Rat.inv_eq_of_mul_eq_one (Rat.mul_one 1), Rat.mul_one]
theorem of_all {n d : Int} (hd : d ≠ 0) (h1 : n.natAbs < 18446744073709551616) (h2 : d.natAbs < 18446744073709551616) :
    ∃ x, ofR n d = (x, 0) ∧ mulR x (wholeR d) = (wholeR n, 0) ∧ chkR x = 0 ∧ ∀ k : Int, k ≠ 0 → ofR (n * k) (d * k) = (x, 0) := by
  have o := of_okk hd h1 h2
  have ow := whole_okk h2
  obtain ⟨h3, _, _⟩ := mulR_ok o ow (by omega) (by omega)
  have hdq : (d : Rat) ≠ 0 := fun e => hd (Rat.intCast_eq_zero_iff.1 e)
  refine ⟨_, of_ne hd, ?_, ?_, ?_⟩
  · rw [h3, rat_enc, whole_rat, Rat.div_mul_cancel hdq]; rfl
  · unfold chkR; rw [if_pos o.1]
  · intro k hk
    have hdk : d * k ≠ 0 := Int.mul_ne_zero hd hk
    rw [of_ne hdk]
    congr 2
    rw [← Rat.divInt_eq_div, ← Rat.divInt_eq_div, Rat.divInt_eq_divInt_iff hdk hd]
    rw [Int.mul_right_comm, Int.mul_assoc n d k]

def textQ (x : Rq) : List UInt8 := (if x.neg then [45] else []) ++ Lib.decDigits (val x.num) ++ (if val x.den = 1 then [] else 47 :: Lib.decDigits (val x.den))
def textR (x : Rq) : List UInt8 × Int := if okR x then (textQ x, 0) else ([], 8)
/-- Behind an optional "-". -/
def isNeg (s : List UInt8) : Bool := s.head? == some 45
def body (s : List UInt8) : List UInt8 := if isNeg s then s.tail else s
def front (s : List UInt8) : List UInt8 := s.takeWhile (· != 47)
def back (s : List UInt8) : List UInt8 := s.dropWhile (· != 47)
/-- The second decimal string, or "1". -/
def under (s : List UInt8) : List UInt8 := if back s = [] then [49] else (back s).tail
def readR (s : List UInt8) : Rq × Int :=
  if isNatB (front (body s)) = true ∧ isNatB (under (body s)) = true then
    (if fits (valD (front (body s))) ∧ fits (valD (under (body s))) then
      (if (back (body s) ≠ [] ∧ under (body s) = [49]) ∨ ¬ okR ⟨isNeg s, limbs (valD (front (body s))), limbs (valD (under (body s)))⟩ then (Rq.zero, 11)
       else (⟨isNeg s, limbs (valD (front (body s))), limbs (valD (under (body s)))⟩, 0))
     else (Rq.zero, 30))
  else (Rq.zero, 11)
theorem digits_not {n : Nat} {c : UInt8} (hc : c.toNat < 48) : ∀ b ∈ Lib.decDigits n, b ≠ c := by
  intro b hb e
  have := isOf_dec n b hb
  rw [e] at this; omega
theorem front_app (n : Nat) (m : List UInt8) (hm : m = [] ∨ m.head? = some 47) : front (Lib.decDigits n ++ m) = Lib.decDigits n ∧ back (Lib.decDigits n ++ m) = m := by
  have h : ∀ b ∈ Lib.decDigits n, (b != 47) = true := fun b hb => by simpa using digits_not (c := 47) (by decide) b hb
  unfold front back
  rw [List.takeWhile_append_of_pos h, List.dropWhile_append_of_pos h]
  cases m with
  | nil => simp
  | cons a t =>
    have : a = 47 := by rcases hm with h | h <;> simp at h; exact h
    subst this
    simp
theorem body_text (b : Bool) (n : Nat) (m : List UInt8) : isNeg ((if b then [45] else []) ++ Lib.decDigits n ++ m) = b ∧ body ((if b then [45] else []) ++ Lib.decDigits n ++ m) = Lib.decDigits n ++ m := by
  cases b with
  | true => simp [isNeg, body]
  | false =>
    have h : isNeg (Lib.decDigits n ++ m) = false := by
      unfold isNeg
      rw [head_app _ (decDigits_ne n)]
      cases hd : Lib.decDigits n with
      | nil => exact absurd hd (decDigits_ne n)
      | cons a t =>
        have := digits_not (n := n) (c := 45) (by decide) a (by rw [hd]; simp)
        simpa using this
    simp [body, h]
theorem dec_one : Lib.decDigits 1 = [49] := by rw [decDigits_small (by decide)]; rfl
theorem fits_val {l : List UInt32} (h : chk l = 0) : fits (val l) := by
  unfold fits
  rw [(chk_zero h).2]; exact (chk_zero h).1
theorem read_text {x : Rq} (hx : okR x) : readR (textQ x) = (x, 0) := by
  obtain ⟨hn, hb⟩ := body_text x.neg (val x.num) (if val x.den = 1 then [] else 47 :: Lib.decDigits (val x.den))
  obtain ⟨hf, hk⟩ := front_app (val x.num) (if val x.den = 1 then [] else 47 :: Lib.decDigits (val x.den)) (by by_cases h : val x.den = 1 <;> simp [h])
  have hu : under (body (textQ x)) = Lib.decDigits (val x.den) := by
    unfold textQ
    rw [hb]
    unfold under
    rw [hk]
    by_cases h : val x.den = 1
    · simp [h, dec_one]
    · simp [h]
  have hb2 : back (body (textQ x)) ≠ [] → val x.den ≠ 1 := by
    unfold textQ
    rw [hb, hk]
    intro h e
    simp [e] at h
  have hf2 : front (body (textQ x)) = Lib.decDigits (val x.num) := by unfold textQ; rw [hb, hf]
  have hn2 : isNeg (textQ x) = x.neg := hn
  have h1 := (chk2_zero hx.1).1
  have h2 := (chk2_zero hx.1).2
  have e : (⟨x.neg, limbs (val x.num), limbs (val x.den)⟩ : Rq) = x := by rw [(chk_zero h1).2, (chk_zero h2).2]
  unfold readR
  rw [hf2, hu, hn2, if_pos ⟨isNatB_dec _, isNatB_dec _⟩, valD_dec, valD_dec, if_pos ⟨fits_val h1, fits_val h2⟩, e, if_neg]
  intro h
  rcases h with ⟨h3, h4⟩ | h3
  · have h5 := hb2 h3
    have h6 := congrArg valD h4
    rw [valD_dec] at h6
    exact h5 h6
  · exact h3 hx
theorem nat_dec {l : List UInt8} (h : isNatB l = true) : Lib.decDigits (valD l) = l := dec_valD l.length l rfl h
theorem text_read {s : List UInt8} {x : Rq} (h : readR s = (x, 0)) : okR x ∧ textQ x = s := by
  unfold readR at h
  by_cases h1 : isNatB (front (body s)) = true ∧ isNatB (under (body s)) = true
  · rw [if_pos h1] at h
    by_cases h2 : fits (valD (front (body s))) ∧ fits (valD (under (body s)))
    · rw [if_pos h2] at h
      split at h
      · simp at h
      · rename_i h3
        have h4 : ¬ (back (body s) ≠ [] ∧ under (body s) = [49]) := fun e => h3 (.inl e)
        have h5 : okR ⟨isNeg s, limbs (valD (front (body s))), limbs (valD (under (body s)))⟩ := Decidable.byContradiction fun e => h3 (.inr e)
        have e := congrArg Prod.fst h
        simp only at e
        subst e
        refine ⟨h5, ?_⟩
        unfold textQ
        simp only [val_limbs]
        rw [nat_dec h1.1, nat_dec h1.2]
        have hfb : front (body s) ++ back (body s) = body s := by unfold front back; exact List.takeWhile_append_dropWhile
        have hs : (if isNeg s then [45] else []) ++ body s = s := by
          unfold body
          by_cases hn : isNeg s = true
          · rw [if_pos hn, if_pos hn]
            unfold isNeg at hn
            cases s with
            | nil => simp at hn
            | cons a t => simp at hn; simp [hn]
          · rw [if_neg hn, if_neg hn]; rfl
        have hd : (if valD (under (body s)) = 1 then [] else 47 :: under (body s)) = back (body s) := by
          by_cases hb : back (body s) = []
          · have : under (body s) = [49] := by unfold under; rw [if_pos hb]
            rw [this, hb]; rfl
          · have h6 : under (body s) ≠ [49] := fun e => h4 ⟨hb, e⟩
            have h7 : valD (under (body s)) ≠ 1 := fun e => h6 (by rw [← nat_dec h1.2, e, dec_one])
            rw [if_neg h7]
            unfold under
            rw [if_neg hb]
            have hh : (back (body s)).head? = some 47 := by
              unfold back
              cases hq : (body s).dropWhile (· != 47) with
              | nil => exact absurd hq hb
              | cons a t =>
                have := List.head?_dropWhile_not (· != 47) (body s)
                rw [hq] at this
                simp at this
                simp [this]
            cases hq : back (body s) with
            | nil => exact absurd hq hb
            | cons a t => rw [hq] at hh; simp at hh; rw [hh]; rfl
        rw [hd, List.append_assoc, hfb, hs]
    · rw [if_neg h2] at h; simp at h
  · rw [if_neg h1] at h; simp at h

/-- The sign and the size of a sum, as both compute it. -/
def ssum (b : Bool) (m : Nat) (c : Bool) (n : Nat) : Bool × Nat := if b = c then (b, m + n) else if m < n then (c, n - m) else (b, m - n)
theorem ssum_same {b : Bool} {m n : Nat} : ssum b m b n = (b, m + n) := by unfold ssum; rw [if_pos rfl]
theorem ssum_lt {b c : Bool} {m n : Nat} (h : b ≠ c) (h2 : m < n) : ssum b m c n = (c, n - m) := by unfold ssum; rw [if_neg h, if_pos h2]
theorem ssum_ge {b c : Bool} {m n : Nat} (h : b ≠ c) (h2 : ¬ m < n) : ssum b m c n = (b, m - n) := by unfold ssum; rw [if_neg h, if_neg h2]
theorem ssum_sgn (b : Bool) (m : Nat) (c : Bool) (n : Nat) : sgn (ssum b m c n).1 (ssum b m c n).2 = sgn b m + sgn c n := by
  by_cases h : b = c
  · subst h; rw [ssum_same]; cases b <;> simp [sgn] <;> omega
  · by_cases h2 : m < n
    · rw [ssum_lt h h2]; cases b <;> cases c <;> simp [sgn] at h ⊢ <;> omega
    · rw [ssum_ge h h2]; cases b <;> cases c <;> simp [sgn] at h ⊢ <;> omega
theorem ssum_abs (b : Bool) (m : Nat) (c : Bool) (n : Nat) : (sgn b m + sgn c n).natAbs = (ssum b m c n).2 := by rw [← ssum_sgn, sgn_abs]
theorem ssum_le (b : Bool) (m : Nat) (c : Bool) (n : Nat) : (ssum b m c n).2 ≤ m + n := by rw [← ssum_abs]; exact sum_abs _ _ _ _

/-- n / d in lowest terms, as both compute it. -/
def low (b : Bool) (n d : Nat) : Rq := ⟨b && decide (n ≠ 0), limbs (n / Nat.gcd n d), limbs (d / Nat.gcd n d)⟩
theorem low_enc (b : Bool) {n d : Nat} (hd : d ≠ 0) : enc (mkRat (sgn b n) d) = low b n d := lowest b n d hd

theorem addR_bad {x y : Rq} (h : ¬ (okR x ∧ okR y)) : addR x y = (Rq.zero, 8) := by unfold addR; rw [if_neg h]
theorem subR_bad {x y : Rq} (h : ¬ (okR x ∧ okR y)) : subR x y = (Rq.zero, 8) := by unfold subR; rw [if_neg h]
theorem mulR_bad {x y : Rq} (h : ¬ (okR x ∧ okR y)) : mulR x y = (Rq.zero, 8) := by unfold mulR; rw [if_neg h]
theorem divR_bad {x y : Rq} (h : ¬ (okR x ∧ okR y)) : divR x y = (Rq.zero, 8) := by unfold divR; rw [if_neg h]
theorem cmpR_bad {x y : Rq} (h : ¬ (okR x ∧ okR y)) : cmpR x y = (0, 8) := by unfold cmpR; rw [if_neg h]
theorem negR_bad {x : Rq} (h : ¬ okR x) : negR x = (Rq.zero, 8) := by unfold negR; rw [if_neg h]
theorem floorR_bad {x : Rq} (h : ¬ okR x) : floorR x = (0, 8) := by unfold floorR; rw [if_neg h]
theorem textR_bad {x : Rq} (h : ¬ okR x) : textR x = ([], 8) := by unfold textR; rw [if_neg h]

/-- The sum of two signed fractions with four given numbers. -/
theorem addR_some {x y : Rq} (hx : okR x) (hy : okR y) (h1 : fits (crossA x y)) (h2 : fits (crossA y x)) (h3 : fits (ssum x.neg (crossA x y) y.neg (crossA y x)).2) (h4 : fits (val x.den * val y.den)) :
    addR x y = (low (ssum x.neg (crossA x y) y.neg (crossA y x)).1 (ssum x.neg (crossA x y) y.neg (crossA y x)).2 (val x.den * val y.den), 0) := by
  unfold addR
  rw [if_pos ⟨hx, hy⟩, if_pos ⟨h1, h2, by unfold sumI; rw [ssum_abs]; exact h3, h4⟩, rat_add hx hy]
  congr 1
  have e : val x.num * val y.den = crossA x y := rfl
  have e2 : val y.num * val x.den = crossA y x := rfl
  rw [e, e2, ← ssum_sgn, low_enc _ (Nat.mul_ne_zero hx.2.1 hy.2.1)]
theorem addR_none {x y : Rq} (hx : okR x) (hy : okR y) (h : ¬ (fits (crossA x y) ∧ fits (crossA y x) ∧ fits (ssum x.neg (crossA x y) y.neg (crossA y x)).2 ∧ fits (val x.den * val y.den))) :
    addR x y = (Rq.zero, 30) := by
  unfold addR
  rw [if_pos ⟨hx, hy⟩, if_neg]
  unfold sumI
  rw [ssum_abs]
  exact h
/-- -y's own parts. -/
def flip (y : Rq) : Rq := ⟨!y.neg && decide (val y.num ≠ 0), y.num, y.den⟩
theorem sgn_flip {y : Rq} (hy : okR y) (k : Nat) : sgn (flip y).neg (val y.num * k) = -sgn y.neg (val y.num * k) := by
  unfold flip
  by_cases h : val y.num = 0
  · rw [h, Nat.zero_mul, sgn_zero, sgn_zero]; rfl
  · cases y.neg <;> simp [sgn, h]
theorem flip_ok {y : Rq} (hy : okR y) : okR (flip y) := by
  refine ⟨hy.1, hy.2.1, fun h => ?_, hy.2.2.2⟩
  have h0 : val y.num = 0 := h
  unfold flip
  simp [h0]
theorem flip_rat {y : Rq} (hy : okR y) : (flip y).rat = -y.rat := by
  rw [rat_neg]
  unfold Rq.rat flip
  by_cases h : val y.num = 0
  · simp only [h, sgn_zero]
  · simp [h]
theorem negR_some {y : Rq} (hy : okR y) : negR y = (flip y, 0) := by
  unfold negR
  rw [if_pos hy, ← flip_rat hy, enc_rat (flip_ok hy)]
theorem subR_flip {x y : Rq} (hx : okR x) (hy : okR y) : subR x y = addR x (flip y) := by
  have e1 : crossA x (flip y) = crossA x y := rfl
  have e2 : crossA (flip y) x = crossA y x := rfl
  have e3 : sumI x (flip y) = difI x y := by
    unfold sumI difI
    rw [e1, e2]
    have := sgn_flip hy (val x.den)
    unfold crossA
    rw [this]; omega
  have h1 : okR x ∧ okR y := ⟨hx, hy⟩
  have h2 : okR x ∧ okR (flip y) := ⟨hx, flip_ok hy⟩
  have e4 : (flip y).den = y.den := rfl
  unfold subR addR
  simp only [if_pos h1, if_pos h2, e1, e2, e3, e4, flip_rat hy, Rat.sub_eq_add_neg]
theorem mulR_some {x y : Rq} (hx : okR x) (hy : okR y) (h1 : fits (val x.num * val y.num)) (h2 : fits (val x.den * val y.den)) : mulR x y = (low (x.neg != y.neg) (val x.num * val y.num) (val x.den * val y.den), 0) := by
  unfold mulR
  rw [if_pos ⟨hx, hy⟩, if_pos ⟨h1, h2⟩, rat_mul, low_enc _ (Nat.mul_ne_zero hx.2.1 hy.2.1)]
theorem mulR_none {x y : Rq} (hx : okR x) (hy : okR y) (h : ¬ (fits (val x.num * val y.num) ∧ fits (val x.den * val y.den))) : mulR x y = (Rq.zero, 30) := by
  unfold mulR
  rw [if_pos ⟨hx, hy⟩, if_neg h]
theorem divR_some {x y : Rq} (hx : okR x) (hy : okR y) (h0 : val y.num ≠ 0) (h1 : fits (val x.num * val y.den)) (h2 : fits (val x.den * val y.num)) : divR x y = (low (x.neg != y.neg) (val x.num * val y.den) (val x.den * val y.num), 0) := by
  unfold divR
  rw [if_pos ⟨hx, hy⟩, if_neg h0, if_pos ⟨h1, h2⟩, rat_div hx hy h0, low_enc _ (Nat.mul_ne_zero hx.2.1 h0)]
theorem divR_none {x y : Rq} (hx : okR x) (hy : okR y) (h0 : val y.num ≠ 0) (h : ¬ (fits (val x.num * val y.den) ∧ fits (val x.den * val y.num))) : divR x y = (Rq.zero, 30) := by
  unfold divR
  rw [if_pos ⟨hx, hy⟩, if_neg h0, if_neg h]

theorem den_of_zero {x : Rq} (hx : okR x) (h : val x.num = 0) : val x.den = 1 := by
  have := hx.2.2.2
  rwa [h, Nat.gcd_zero_left] at this
theorem fits_num {x : Rq} (hx : okR x) : fits (val x.num) := fits_val (chk2_zero hx.1).1
theorem fits_den {x : Rq} (hx : okR x) : fits (val x.den) := fits_val (chk2_zero hx.1).2
theorem fits_zero : fits 0 := by unfold fits; rw [limbs_zero]; simp
/-- Where one of two numbers is 0 their cross products are short. -/
theorem cross_zero {x y : Rq} (hx : okR x) (hy : okR y) (h : val x.num = 0 ∨ val y.num = 0) : fits (crossA x y) ∧ fits (crossA y x) := by
  unfold crossA
  rcases h with h | h
  · rw [h, Nat.zero_mul, den_of_zero hx h, Nat.mul_one]; exact ⟨fits_zero, fits_num hy⟩
  · rw [h, Nat.zero_mul, den_of_zero hy h, Nat.mul_one]; exact ⟨fits_num hx, fits_zero⟩
theorem cmpQ_cross {x y : Rq} (hx : okR x) (hy : okR y) : cmpQ x.rat y.rat = if sgn x.neg (val x.num) * (val y.den : Int) < sgn y.neg (val y.num) * (val x.den : Int) then -1 else if sgn x.neg (val x.num) * (val y.den : Int) = sgn y.neg (val y.num) * (val x.den : Int) then 0 else 1 := by
  have h1 := rat_lt hx hy
  have h2 := rat_lt hy hx
  unfold cmpQ
  by_cases h : x.rat < y.rat
  · rw [if_pos h, if_pos (h1.1 h)]
  · rw [if_neg h, if_neg (fun e => h (h1.2 e))]
    by_cases h3 : x.rat = y.rat
    · have h4 : ¬ y.rat < x.rat := by rw [h3]; exact Rat.lt_irrefl
      have h5 := mt h1.2 h
      have h6 := mt h2.2 h4
      rw [if_pos h3, if_pos (by omega)]
    · have h4 : y.rat < x.rat := Rat.lt_of_le_of_ne (Rat.not_lt.1 h) (fun e => h3 e.symm)
      have h5 := h2.1 h4
      rw [if_neg h3, if_neg (by omega)]
theorem sgn_mul (b : Bool) (m n : Nat) : sgn b m * (n : Int) = sgn b (m * n) := by cases b <;> simp [sgn, Int.neg_mul]
theorem cmpQ_pos {x y : Rq} (hx : okR x) (hy : okR y) (h1 : x.neg = false) (h2 : y.neg = false) : cmpQ x.rat y.rat = cmpI (crossA x y) (crossA y x) := by
  rw [cmpQ_cross hx hy, sgn_mul, sgn_mul, h1, h2]
  unfold cmpI crossA sgn
  simp only [Bool.false_eq_true, if_false]
  by_cases h : val x.num * val y.den < val y.num * val x.den
  · rw [if_pos h, if_pos (by omega)]
  · rw [if_neg h, if_neg (by omega)]
    by_cases h3 : val x.num * val y.den = val y.num * val x.den
    · rw [if_pos h3, if_pos (by omega)]
    · rw [if_neg h3, if_neg (by omega)]
theorem cmpQ_negs {x y : Rq} (hx : okR x) (hy : okR y) (h1 : x.neg = true) (h2 : y.neg = true) : cmpQ x.rat y.rat = cmpI (crossA y x) (crossA x y) := by
  rw [cmpQ_cross hx hy, sgn_mul, sgn_mul, h1, h2]
  unfold cmpI crossA sgn
  simp only [if_true]
  by_cases h : val y.num * val x.den < val x.num * val y.den
  · rw [if_pos h, if_pos (by omega)]
  · rw [if_neg h, if_neg (by omega)]
    by_cases h3 : val y.num * val x.den = val x.num * val y.den
    · rw [if_pos h3, if_pos (by omega)]
    · rw [if_neg h3, if_neg (by omega)]
theorem num_pos {x : Rq} (hx : okR x) (h : x.neg = true) : val x.num ≠ 0 := fun e => by rw [hx.2.2.1 e] at h; cases h
theorem cmpR_np {x y : Rq} (hx : okR x) (hy : okR y) (h1 : x.neg = true) (h2 : y.neg = false) : cmpR x y = (-1, 0) := by
  have hp := num_pos hx h1
  have hd := hy.2.1
  unfold cmpR
  rw [if_pos ⟨hx, hy⟩, if_neg, cmpQ_cross hx hy, if_pos]
  · rw [sgn_mul, sgn_mul, h1, h2]
    have : 0 < val x.num * val y.den := Nat.mul_pos (by omega) (by omega)
    simp only [sgn, if_true, Bool.false_eq_true, if_false]
    omega
  · rintro ⟨h, _⟩
    unfold sideR at h
    rw [if_neg hp, h1, if_pos rfl, h2] at h
    split at h <;> simp at h
theorem cmpR_pn {x y : Rq} (hx : okR x) (hy : okR y) (h1 : x.neg = false) (h2 : y.neg = true) : cmpR x y = (1, 0) := by
  have hp := num_pos hy h2
  have hd := hx.2.1
  unfold cmpR
  rw [if_pos ⟨hx, hy⟩, if_neg, cmpQ_cross hx hy, if_neg, if_neg]
  · rw [sgn_mul, sgn_mul, h1, h2]
    have : 0 < val y.num * val x.den := Nat.mul_pos (by omega) (by omega)
    simp only [sgn, if_true, Bool.false_eq_true, if_false]
    omega
  · rw [sgn_mul, sgn_mul, h1, h2]
    have : 0 < val y.num * val x.den := Nat.mul_pos (by omega) (by omega)
    simp only [sgn, if_true, Bool.false_eq_true, if_false]
    omega
  · rintro ⟨h, _⟩
    unfold sideR at h
    rw [if_neg hp, h2, if_pos rfl, h1] at h
    split at h <;> simp at h
theorem cmpR_pp {x y : Rq} (hx : okR x) (hy : okR y) (h1 : x.neg = false) (h2 : y.neg = false) : cmpR x y = if fits (crossA x y) ∧ fits (crossA y x) then (cmpI (crossA x y) (crossA y x), 0) else (0, 30) := by
  unfold cmpR
  rw [if_pos ⟨hx, hy⟩, cmpQ_pos hx hy h1 h2]
  by_cases h : fits (crossA x y) ∧ fits (crossA y x)
  · rw [if_pos h, if_neg (fun e => e.2.2 h)]
  · have h3 : val x.num ≠ 0 := fun e => h (cross_zero hx hy (.inl e))
    have h4 : val y.num ≠ 0 := fun e => h (cross_zero hx hy (.inr e))
    rw [if_neg h, if_pos]
    unfold sideR
    rw [if_neg h3, if_neg h4, h1, h2]
    exact ⟨rfl, by simp, h⟩
theorem cmpR_nn {x y : Rq} (hx : okR x) (hy : okR y) (h1 : x.neg = true) (h2 : y.neg = true) : cmpR x y = if fits (crossA y x) ∧ fits (crossA x y) then (cmpI (crossA y x) (crossA x y), 0) else (0, 30) := by
  have h3 := num_pos hx h1
  have h4 := num_pos hy h2
  unfold cmpR
  rw [if_pos ⟨hx, hy⟩, cmpQ_negs hx hy h1 h2]
  by_cases h : fits (crossA y x) ∧ fits (crossA x y)
  · rw [if_pos h, if_neg (fun e => e.2.2 ⟨h.2, h.1⟩)]
  · rw [if_neg h, if_pos]
    unfold sideR
    rw [if_neg h3, if_neg h4, h1, h2]
    exact ⟨rfl, by simp, fun e => h ⟨e.2, e.1⟩⟩
theorem cmpI_flip (m n : Nat) : cmpI n m = -cmpI m n := by unfold cmpI; split <;> split <;> (try split) <;> omega
/-- The reference's way: by the signs first. -/
theorem cmpR_side {x y : Rq} (hx : okR x) (hy : okR y) : cmpR x y =
    if sideR x < sideR y then (-1, 0) else if sideR y < sideR x then (1, 0) else if sideR x = 0 then (0, 0) else
      if fits (crossA x y) ∧ fits (crossA y x) then (sideR x * cmpI (crossA x y) (crossA y x), 0) else (0, 30) := by
  have ex : ∀ b, x.neg = b → sideR x = if val x.num = 0 then 0 else if b then -1 else 1 := fun b h => by unfold sideR; rw [h]
  have ey : ∀ b, y.neg = b → sideR y = if val y.num = 0 then 0 else if b then -1 else 1 := fun b h => by unfold sideR; rw [h]
  cases h1 : x.neg <;> cases h2 : y.neg <;> rw [ex _ h1, ey _ h2]
  · by_cases h3 : val x.num = 0
    · obtain ⟨f1, f2⟩ := cross_zero hx hy (.inl h3)
      rw [cmpR_pp hx hy h1 h2, if_pos ⟨f1, f2⟩, if_pos h3]
      have e1 : crossA x y = 0 := by unfold crossA; rw [h3, Nat.zero_mul]
      by_cases h4 : val y.num = 0
      · have e2 : crossA y x = 0 := by unfold crossA; rw [h4, Nat.zero_mul]
        rw [if_pos h4, e1, e2]; simp [cmpI]
      · have e2 : 0 < crossA y x := Nat.mul_pos (by omega) (by have := hx.2.1; omega)
        rw [if_neg h4, e1]; simp [cmpI, e2]
    · rw [if_neg h3]
      by_cases h4 : val y.num = 0
      · obtain ⟨f1, f2⟩ := cross_zero hx hy (.inr h4)
        have e2 : crossA y x = 0 := by unfold crossA; rw [h4, Nat.zero_mul]
        have e1 : 0 < crossA x y := Nat.mul_pos (by omega) (by have := hy.2.1; omega)
        rw [cmpR_pp hx hy h1 h2, if_pos ⟨f1, f2⟩, if_pos h4, e2]; simp [cmpI]; omega
      · rw [cmpR_pp hx hy h1 h2, if_neg h4]; simp
  · have h4 := num_pos hy h2
    rw [cmpR_pn hx hy h1 h2, if_neg h4]
    by_cases h3 : val x.num = 0 <;> simp [h3]
  · have h3 := num_pos hx h1
    rw [cmpR_np hx hy h1 h2, if_neg h3]
    by_cases h4 : val y.num = 0 <;> simp [h4]
  · have h3 := num_pos hx h1
    have h4 := num_pos hy h2
    rw [cmpR_nn hx hy h1 h2, if_neg h3, if_neg h4, cmpI_flip]
    by_cases h : fits (crossA x y) ∧ fits (crossA y x)
    · rw [if_pos ⟨h.2, h.1⟩]; simp [h.1, h.2]
    · rw [if_neg (fun e => h ⟨e.2, e.1⟩)]
      have : ¬ (fits (crossA x y) ∧ fits (crossA y x)) := h
      simp [this]

/-- Check, as both ask it. -/
theorem chkR_ok {x : Rq} (h : okR x) : chkR x = 0 := by unfold chkR; rw [if_pos h]
theorem chkR_no {x : Rq} (h : ¬ okR x) : chkR x = 8 := by unfold chkR; rw [if_neg h]
theorem limbs_one : limbs 1 = [1] := limbs_val_last (l := [1]) rfl (by decide)
theorem okR_iff {x : Rq} (h : chk2 x.num x.den = 0) : okR x ↔ limbs (Nat.gcd (val x.num) (val x.den)) = [1] ∧ x.den.length ≠ 0 ∧ ¬ (x.num.length = 0 ∧ x.neg = true) := by
  have hn := (chk_zero (chk2_zero h).1).2
  have hd := (chk_zero (chk2_zero h).2).2
  have en : val x.num = 0 ↔ x.num.length = 0 := by
    constructor
    · intro e; rw [← hn, e, limbs_zero]; rfl
    · intro e; rw [List.eq_nil_of_length_eq_zero e]; rfl
  have ed : val x.den = 0 ↔ x.den.length = 0 := by
    constructor
    · intro e; rw [← hd, e, limbs_zero]; rfl
    · intro e; rw [List.eq_nil_of_length_eq_zero e]; rfl
  have eg : limbs (Nat.gcd (val x.num) (val x.den)) = [1] ↔ Nat.gcd (val x.num) (val x.den) = 1 := by
    rw [← limbs_one]
    exact ⟨fun e => limbs_inj e, fun e => by rw [e]⟩
  unfold okR
  rw [eg, Ne, Ne, ed, ← en]
  constructor
  · rintro ⟨_, h2, h3, h4⟩
    exact ⟨h4, h2, fun e => by rw [h3 e.1] at e; cases e.2⟩
  · rintro ⟨h4, h2, h3⟩
    refine ⟨h, h2, fun e => ?_, h4⟩
    cases hb : x.neg with
    | false => rfl
    | true => exact absurd ⟨e, hb⟩ h3

/-- floor's size: n / d, one more if below 0 and not whole. -/
def flr (b : Bool) (n d : Nat) : Nat := if b = true ∧ n % d ≠ 0 then n / d + 1 else n / d
theorem floor_sgn {x : Rq} (hx : okR x) : x.rat.floor = sgn x.neg (flr x.neg (val x.num) (val x.den)) := by
  obtain ⟨e1, e2⟩ := okR_num hx
  have hd := hx.2.1
  rw [Rat.floor_def, e1, e2]
  obtain ⟨d, hdd⟩ : ∃ d, d = val x.den := ⟨_, rfl⟩
  obtain ⟨n, hnn⟩ : ∃ n, n = val x.num := ⟨_, rfl⟩
  rw [← hdd, ← hnn]
  rw [← hdd] at hd
  have hdm := Nat.div_add_mod n d
  have hlt := Nat.mod_lt n (show d > 0 by omega)
  cases hb : x.neg with
  | false => unfold flr sgn; simp
  | true =>
    unfold flr
    simp only [sgn, if_true]
    by_cases h : n % d = 0
    · rw [if_neg (by simp [h])]
      have : (d : Int) ∣ (n : Int) := Int.natCast_dvd_natCast.2 (Nat.dvd_of_mod_eq_zero h)
      rw [Int.neg_ediv_of_dvd this]; simp
    · rw [if_pos (by simp [h])]
      have h1 : (n : Int) = (d : Int) * ((n / d : Nat) : Int) + ((n % d : Nat) : Int) := by
        rw [← Int.natCast_mul, ← Int.natCast_add, hdm]
      have hmul : (d : Int) * (((n / d : Nat) : Int) + 1) = (d : Int) * ((n / d : Nat) : Int) + (d : Int) := by rw [Int.mul_add, Int.mul_one]
      have e : -(n : Int) = ((d : Int) - ((n % d : Nat) : Int)) + (d : Int) * (-(((n / d : Nat) : Int) + 1)) := by
        rw [Int.mul_neg, hmul]; omega
      rw [e, Int.add_mul_ediv_left _ _ (by omega), Int.ediv_eq_zero_of_lt (by omega) (by omega)]
      omega
theorem flr_fits {x : Rq} (hx : okR x) : fits (flr x.neg (val x.num) (val x.den)) := by
  have hn := fits_num hx
  have hd := hx.2.1
  unfold fits at hn ⊢
  refine Nat.le_trans (limbs_mono ?_) hn
  unfold flr
  split
  · rename_i h
    have hm := Nat.div_add_mod (val x.num) (val x.den)
    obtain ⟨q, hq⟩ : ∃ q, q = val x.num / val x.den := ⟨_, rfl⟩
    rw [← hq] at hm ⊢
    have : q ≤ val x.den * q := Nat.le_mul_of_pos_left _ (by omega)
    omega
  · exact Nat.div_le_self _ _
theorem floorR_some {x : Rq} (hx : okR x) (v : Int) (hv : sgn x.neg (flr x.neg (val x.num) (val x.den)) = v) (h1 : -9223372036854775808 ≤ v) (h2 : v ≤ 9223372036854775807) : floorR x = (v, 0) := by
  unfold floorR
  rw [if_pos hx, floor_sgn hx, hv, if_pos ⟨h1, h2⟩]
theorem floorR_none {x : Rq} (hx : okR x) (v : Int) (hv : sgn x.neg (flr x.neg (val x.num) (val x.den)) = v) (h : ¬ (-9223372036854775808 ≤ v ∧ v ≤ 9223372036854775807)) : floorR x = (0, 30) := by
  unfold floorR
  rw [if_pos hx, floor_sgn hx, hv, if_neg h]

/-- Of, as both compute it. -/
theorem ofR_low {n d : Int} (hd : d ≠ 0) : ofR n d = (low (decide (n < 0) != decide (d < 0)) n.natAbs d.natAbs, 0) := by
  rw [of_ne hd, of_mk n d hd, low_enc _ (by omega)]
theorem wholeR_is (n : Int) : wholeR n = ⟨decide (n < 0), limbs n.natAbs, [1]⟩ := by
  unfold wholeR enc
  rw [Rat.num_intCast, Rat.den_intCast, limbs_one]
end Go.Proofs.Ytefoccjphbbmhaa
