/- The law's of; the reference's Same, May; what the examples come to. -/
import Derived.Test.YtefoccjphbbmhaaQe
namespace Go.Proofs.Ytefoccjphbbmhaa
open Go.RowKit
set_option linter.unusedVariables false

theorem ofR_nat {n d : Nat} (h : d ≠ 0) : ofR (n : Int) (d : Int) = (low false n d, 0) := by
  have h1 : decide ((n : Int) < 0) = false := decide_eq_false (by omega)
  have h2 : decide ((d : Int) < 0) = false := decide_eq_false (by omega)
  rw [ofR_low (by omega), Int.natAbs_natCast, Int.natAbs_natCast, h1, h2]
  rfl
theorem low_ok {b : Bool} {n d : Nat} (hn : n < 18446744073709551616) (hd : d < 18446744073709551616) (h0 : d ≠ 0) : okR (low b n d) := by
  rw [← low_enc _ h0]
  have := mkRat_few (n := sgn b n) (d := d) (k := 96) (l := 96) h0 (by rw [sgn_abs]; exact limbs_few hn) (limbs_few hd)
  exact enc_ok this.1 this.2
theorem len_word {n : Nat} (h : n < 18446744073709551616) : (limbs n).length ≤ 2 := by
  rw [limbs_len_le]; exact Nat.lt_of_lt_of_le h (by decide)
/-- Billionths of a quotient of two small numbers. -/
theorem bill_of {n d : Nat} (hn : n < 18446744073709551616) (hd : d < 18446744073709551616) (h0 : d ≠ 0) : billM (low false n d) = fixQ (n * 1000000000 / d) := by
  have hg := Nat.gcd_pos_of_pos_right n (show 0 < d by omega)
  have hl1 := len_word (n := n / Nat.gcd n d) (Nat.lt_of_le_of_lt (Nat.div_le_self _ _) hn)
  have hl2 := len_word (n := d / Nat.gcd n d) (Nat.lt_of_le_of_lt (Nat.div_le_self _ _) hd)
  rw [billM_ok ⟨low_ok hn hd h0, rfl⟩ ⟨by show (limbs _).length ≤ 90; omega, by show (limbs _).length ≤ 90; omega⟩]
  refine congrArg fixQ ?_
  show val (limbs (n / Nat.gcd n d)) * 1000000000 / val (limbs (d / Nat.gcd n d)) = _
  rw [val_limbs, val_limbs]
  have e1 : n / Nat.gcd n d * 1000000000 = n * 1000000000 / Nat.gcd n d := Nat.div_mul_right_comm (Nat.gcd_dvd_left n d) _
  rw [e1]
  exact quo_same hg (Nat.dvd_trans (Nat.gcd_dvd_left _ _) (Nat.dvd_mul_right _ _)) (Nat.gcd_dvd_right _ _)
theorem bill_neg {n d : Nat} (hn : n ≠ 0) (h0 : d ≠ 0) : billM (low true n d) = (0, 2) := by
  apply billM_arg
  rintro ⟨_, h⟩
  simp [low, hn] at h
theorem ofR_neg {n d : Nat} (h : d ≠ 0) (hn : n ≠ 0) : ofR (-(n : Int)) (d : Int) = (low true n d, 0) := by
  have h1 : decide (-(n : Int) < 0) = true := decide_eq_true (by omega)
  have h2 : decide ((d : Int) < 0) = false := decide_eq_false (by omega)
  rw [ofR_low (by omega), Int.natAbs_neg, Int.natAbs_natCast, Int.natAbs_natCast, h1, h2]
  rfl

set_option maxRecDepth 100000 in
set_option maxHeartbeats 1000000 in
theorem lawOf_any (n d : Int) (x : Rq) (er : Int) (hn1 : -9223372036854775808 ≤ n) (hn2 : n ≤ 9223372036854775807) (hd1 : -9223372036854775808 ≤ d) (hd2 : d ≤ 9223372036854775807) (hM : Hid (ofR n d = (x, er))) (w : World) :
    Calls Try.prog 32 #[.int .i64 n, .int .i64 d] w (RqR w x) := by
  have HO := Lib.hid (fun wx => qOf_any n d x er hn1 hn2 hd1 hd2 hM wx)
  have hK := (Kp.refl w).alloc #[.bool false, .slice none 0 0, .slice none 0 0] 27 _ rfl
  have HK := Lib.hid hK
  clear hK hM
  unfold RqE rqv rqs at HO
  go_enter Try.func32, Try.ntmps32
  go_wp2_with fail
  refine (HO.out _).mono ?_
  rintro e w1 ⟨A1, c1, A2, c2, rfl, hs, hb⟩
  have HK1 := Lib.hid (HK.out.next hb)
  have HS := Lib.hid hs
  have HK2 := Lib.hid (HK1.out.alloc #[.bool x.neg, .slice A1 x.num.length c1, .slice A2 x.den.length c2] 27 _ rfl)
  have HB := Lib.hid HK2.out.blk1
  clear hb hs
  go_wp2_with (first
    | (with_reducible refine wpList_store_rq rfl (.tmp 4) (.tmp 13) rfl w.heap.size rfl HB.out rfl (A := A1) (c := c1) (B := A2) (d := c2) (x := x) rfl ?_; intro w6 hb6 hg6))
  refine rq_ret rfl rfl hb6 rfl rfl ⟨A1, c1, A2, c2, rfl, (HS.out.to (below_new _ _)).off HB.out (noU_rq _ _ _ _ _ _ _) hg6, below_own HK2.out.1 hg6 (by omega)⟩

set_option maxRecDepth 100000 in
set_option maxHeartbeats 2000000 in
theorem rsame4_any (x y : Rq) (A1 A2 A3 A4 : Option Addr) (c1 c2 c3 c4 k1 k2 k3 k4 : Nat) (n1 n2 : Bool) (v : Bool) (w : World) (hx : RqS w A1 c1 A2 c2 x) (hy : RqS w A3 c3 A4 c4 y)
    (e1 : x.neg = n1) (e2 : y.neg = n2) (h1 : x.num.length = k1) (h2 : x.den.length = k2) (h3 : y.num.length = k3) (h4 : y.den.length = k4) (hv : Hid (decide (x = y) = v)) :
    Calls Try.prog 13 #[.agg #[.bool n1, .slice A1 k1 c1, .slice A2 k2 c2], .agg #[.bool n2, .slice A3 k3 c3, .slice A4 k4 c4]] w fun e w' => e = .returned (.bool v) ∧ Below w.heap.size w w' := by
  have HV := Lib.hid (show v = (x.neg == y.neg && (sameB x.num y.num && sameB x.den y.den)) by
    rw [← hv.out, Bool.eq_iff_iff]
    simp only [decide_eq_true_eq, Bool.and_eq_true, beq_iff_eq, sameB_iff]
    obtain ⟨a, b, c⟩ := x
    obtain ⟨a', b', c'⟩ := y
    simp)
  have HN := Lib.hid (fun wx bs (hk : Kp w bs wx) u (hu : sameB x.num y.num = u) => rsame_c A1 A3 c1 c3 k1 k3 x.num y.num wx u (hk.sl hx.1) (hk.sl hy.1) h1 h3 hu)
  have HD := Lib.hid (fun wx bs (hk : Kp w bs wx) u (hu : sameB x.den y.den = u) => rsame_c A2 A4 c2 c4 k2 k4 x.den y.den wx u (hk.sl hx.2) (hk.sl hy.2) h2 h4 hu)
  rw [e1, e2] at HV
  obtain ⟨p, hp⟩ : ∃ p, sameB x.num y.num = p := ⟨_, rfl⟩
  obtain ⟨q, hq⟩ : ∃ p, sameB x.den y.den = p := ⟨_, rfl⟩
  rw [hp, hq] at HV
  have HP := Lib.hid hp
  have HQ := Lib.hid hq
  have hK := ((Kp.refl w).alloc #[.bool n1, .slice A1 k1 c1, .slice A2 k2 c2] 27 _ rfl).alloc #[.bool n2, .slice A3 k3 c3, .slice A4 k4 c4] 27 (w.heap.size + 1) (by simp)
  have HK := Lib.hid hK
  clear hK hp hq hx hy e1 e2 h1 h2 h3 h4 hv
  obtain ⟨s, hs⟩ : ∃ s, (n1 == n2) = s := ⟨_, rfl⟩
  rw [hs] at HV
  cases s with
  | false =>
    go_enter Try.func13, Try.ntmps13
    go_wp2_with fail
    go_ret
    exact ⟨by rw [HV.out] <;> rfl, HK.out.1⟩
  | true =>
    cases p with
    | false =>
      go_enter Try.func13, Try.ntmps13
      go_wp2_with fail
      refine (HN.out _ _ HK.out _ HP.out).mono ?_
      rintro e w1 ⟨rfl, hb1⟩
      have HK1 := Lib.hid (HK.out.next hb1)
      clear hb1
      go_wp2_with fail
      go_ret
      exact ⟨by rw [HV.out] <;> rfl, HK1.out.1⟩
    | true =>
      go_enter Try.func13, Try.ntmps13
      go_wp2_with fail
      refine (HN.out _ _ HK.out _ HP.out).mono ?_
      rintro e w1 ⟨rfl, hb1⟩
      have HK1 := Lib.hid (HK.out.next hb1)
      have x2 := HK1.out.blk1.at_ 2 rfl
      have y2 := HK1.out.blk0.at_ 2 rfl
      clear hb1
      go_wp2_with fail
      refine (HD.out _ _ HK1.out _ HQ.out).mono ?_
      rintro e w2 ⟨rfl, hb2⟩
      have HK2 := Lib.hid (HK1.out.next hb2)
      clear hb2
      go_wp2_with fail
      go_ret
      exact ⟨by rw [HV.out] <;> rfl, HK2.out.1⟩

set_option maxRecDepth 100000 in
set_option maxHeartbeats 2000000 in
theorem may_any (a b : Int) (w : World) : Calls Try.prog 25 #[.int .i64 a, .int .i64 b] w fun e w' => e = .returned (.bool (mayQ a b)) ∧ w' = w := by
  have HV := Lib.hid (show mayQ a b = (decide (0 ≤ a) && (decide (a ≤ 1000000) && (decide (1 ≤ b) && decide (b ≤ 10)))) by
    unfold mayQ; rw [Bool.eq_iff_iff]; simp)
  obtain ⟨p, hp⟩ : ∃ p, decide (0 ≤ a) = p := ⟨_, rfl⟩
  obtain ⟨q, hq⟩ : ∃ p, decide (a ≤ 1000000) = p := ⟨_, rfl⟩
  obtain ⟨r, hr⟩ : ∃ p, decide (1 ≤ b) = p := ⟨_, rfl⟩
  obtain ⟨s, hs⟩ : ∃ p, decide (b ≤ 10) = p := ⟨_, rfl⟩
  rw [hp, hq, hr, hs] at HV
  cases p <;> cases q <;> cases r <;> cases s
  all_goals
    go_enter Try.func25, Try.ntmps25
    go_wp2_with fail
    go_ret
    exact ⟨by rw [HV.out] <;> rfl, rfl⟩
end Go.Proofs.Ytefoccjphbbmhaa
