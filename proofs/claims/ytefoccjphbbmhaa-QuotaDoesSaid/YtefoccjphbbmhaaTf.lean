/- The reference's Billionths, digit by digit. -/
import Derived.Test.YtefoccjphbbmhaaTe
namespace Go.Proofs.Ytefoccjphbbmhaa
open Go.RowKit
set_option linter.unusedVariables false

theorem digit_step {m n i N rs : Nat} (hn : 0 < n) (hN : N = m * 10 ^ i / n) (hr : rs = m * 10 ^ i % n) :
    10 * N + 10 * rs / n = m * 10 ^ (i + 1) / n ∧ 10 * rs % n = m * 10 ^ (i + 1) % n := by
  have e := Nat.div_add_mod (m * 10 ^ i) n
  rw [← hN, ← hr] at e
  have e2 : m * 10 ^ (i + 1) = n * (10 * N) + 10 * rs := by
    rw [Nat.pow_succ, ← Nat.mul_assoc, ← e, Nat.add_mul, Nat.mul_comm rs 10, Nat.mul_assoc n N 10, Nat.mul_comm N 10]
  rw [e2, Nat.mul_add_div hn, Nat.mul_add_mod]
  exact ⟨rfl, rfl⟩
theorem digit_bound {m n i : Nat} (hn : 0 < n) (hw : m / n ≤ 1000000) (hi : i ≤ 9) : m * 10 ^ i / n < 1000001000000000 := by
  have h1 : m < 1000001 * n := (Nat.div_lt_iff_lt_mul hn).1 (by omega)
  have h2 : 10 ^ i ≤ 10 ^ 9 := Nat.pow_le_pow_right (by decide) hi
  rw [Nat.div_lt_iff_lt_mul hn]
  have h3 : m * 10 ^ i ≤ m * 10 ^ 9 := Nat.mul_le_mul_left _ h2
  have h4 : (10 : Nat) ^ 9 = 1000000000 := by decide
  rw [h4] at h3
  omega
theorem whole_great {m n : Nat} (hn : 0 < n) (hw : ¬ m / n ≤ 1000000) : ¬ m * 1000000000 / n ≤ 1000000000000000 := by
  have h : 1000001 * n ≤ m := (Nat.le_div_iff_mul_le hn).1 (by omega)
  have : 1000001000000000 ≤ m * 1000000000 / n := by
    rw [Nat.le_div_iff_mul_le hn]; omega
  omega

set_option maxRecDepth 100000 in
set_option maxHeartbeats 4000000 in
theorem rbill_mid (x : Rq) (A B : Option Addr) (c d k1 k2 m n : Nat) (v er : Int) (w : World) (hr : RqS w A c B d x) (ho : okR x) (e1 : x.neg = false) (hm : x.num = limbs m) (hn : x.den = limbs n) (h1 : (limbs m).length = k1) (h2 : (limbs n).length = k2) (l1 : k1 ≤ 90) (l2 : k2 ≤ 90) (n0 : n ≠ 0)
    (hw : m / n ≤ 1000000) (hM : Hid (fixQ (m * 1000000000 / n) = (v, er))) :
    Calls Try.prog 24 #[.agg #[.bool false, .slice A k1 c, .slice B k2 d]] w fun e w' => e = .returned (.tuple #[.int .i64 v, .int .i64 er]) ∧ Below w.heap.size w w' := by
  have HC := Lib.hid (fun wx bs (hk : Kp w bs wx) => rCheck4_any x A B c d k1 k2 0 wx (hr.to hk.1) (by rw [hm]; exact h1) (by rw [hn]; exact h2) (chkR_ok ho))
  rw [e1] at HC
  obtain ⟨wh, hwh⟩ : ∃ z, z = m / n := ⟨_, rfl⟩
  have hF : intM false (val x.num / val x.den) = ((wh : Int), 0) := by rw [hm, hn, val_limbs, val_limbs, ← hwh, intM_f, if_pos (by omega)]
  have HF := Lib.hid (fun wx bs (hk : Kp w bs wx) => rFloor4_any x A B c d k1 k2 (wh : Int) 0 wx (hr.to hk.1) (by rw [hm]; exact h1) (by rw [hn]; exact h2) ho e1 hF)
  have HK := Lib.hid ((Kp.refl w).alloc #[.bool false, .slice A k1 c, .slice B k2 d] 27 _ rfl)
  have hr1 := hr.1
  have hr2 := hr.2
  rw [hm] at hr1
  rw [hn] at hr2
  have hnp : 0 < n := by omega
  obtain ⟨r0, hr0⟩ : ∃ z, z = m % n := ⟨_, rfl⟩
  have hr0l : (limbs r0).length ≤ k2 := by rw [← h2]; exact limbs_mono (by rw [hr0]; exact Nat.le_of_lt (Nat.mod_lt _ hnp))
  obtain ⟨lq, hlq⟩ : ∃ l, l = limbs wh := ⟨_, rfl⟩
  have HD0 := Lib.hid (fun wx bs (hk : Kp w bs wx) => rdiv_c A B c d k1 k2 (limbs m) (limbs n) wx lq (limbs r0) 0 (hk.sl hr1) (hk.sl hr2) h1 h2 (by rw [hlq]; exact divL (by omega) (by omega) n0 hwh.symm hr0.symm))
  have HDV := Lib.hid (fun wx bs (hk : Kp w bs wx) A' c' t q' r' (hs : Sl wx A' c' (limbs t)) (ht : (limbs t).length ≤ 96) (hq : t / n = q') (hr : t % n = r') => rdiv_c A' B c' d (limbs t).length k2 (limbs t) (limbs n) wx (limbs q') (limbs r') 0 hs (hk.sl hr2) rfl h2 (divL ht (by omega) n0 hq hr))
  have d1 : decide (90 < k1) = false := decide_eq_false (by omega)
  have d2 : decide (90 < k2) = false := decide_eq_false (by omega)
  have d3 : decide (90 < (k1 : Int)) = false := decide_eq_false (by omega)
  have d4 : decide (90 < (k2 : Int)) = false := decide_eq_false (by omega)
  have d5 : decide (1000000 < (wh : Int)) = false := decide_eq_false (by omega)
  have d6 : decide (1000000 < wh) = false := decide_eq_false (by omega)
  have hs0 := Lib.hid (show wh = m * 10 ^ 0 / n by rw [hwh]; simp)
  have hs1 := Lib.hid (show r0 = m * 10 ^ 0 % n by rw [hr0]; simp)
  have HW := Lib.hid (fun i (hi : i ≤ 9) => digit_bound (i := i) hnp hw hi)
  have HH2 := Lib.hid h2
  have HH10 : (limbs 10).length ≤ 1 := limbs_len_le.2 (by decide)
  obtain ⟨kr, hkr⟩ : ∃ k, (limbs r0).length = k := ⟨_, rfl⟩
  have HKR := Lib.hid hkr
  have HLQ := Lib.hid hlq
  unfold Res2P at HD0
  rw [hkr] at HD0 hr0l
  clear hr hr1 hr2 ho e1 hm hn h1 h2 hF hwh hr0 hlq hw hkr
  go_enter Try.func24, Try.ntmps24
  go_wp2_with (first | (with_reducible refine wpList_load_rq (by kernel_rfl) (.tmp 1) rfl w.heap.size rfl HK.out.blk0 rfl ?_))
  refine (HC.out _ _ HK.out).mono ?_
  rintro e w1 ⟨rfl, hb1⟩
  have HK1 := Lib.hid (HK.out.next hb1)
  have x0 := HK1.out.blk0.at_ 0 rfl
  clear hb1
  go_wp2_with (first | (with_reducible refine wpList_load_rq (by kernel_rfl) (.tmp 1) rfl w.heap.size rfl HK1.out.blk0 rfl ?_))
  refine (HF.out _ _ HK1.out).mono ?_
  rintro e w2 ⟨rfl, hb2⟩
  have HK2 := Lib.hid (HK1.out.next hb2)
  clear hb2 x0
  have x1 := HK2.out.blk0.at_ 1 rfl
  have x2 := HK2.out.blk0.at_ 2 rfl
  go_wp2_with fail
  refine (HD0.out _ _ HK2.out).mono ?_
  rintro e w3 ⟨A1, A2, c1, c2, rfl, hsq, hsr, hb3⟩
  have HK3 := Lib.hid (HK2.out.next hb3)
  have HS3 := Lib.hid hsr
  clear hb3 hsq hsr x1 x2
  go_wp2_with fail
  go_loopw [7, 9, 10] (fun s7 s9 s10 wr => ∃ (i N rs k : Nat) (A' : Option Addr) (c' : Nat), i ≤ 9 ∧ s10 = .int .i64 i ∧ s7 = .slice A' k c' ∧ s9 = .int .i64 N ∧ k ≤ k2 ∧ Hid ((limbs rs).length = k) ∧ Hid (N = m * 10 ^ i / n) ∧ Hid (rs = m * 10 ^ i % n) ∧ Hid (Sl wr A' c' (limbs rs)) ∧ Hid (Kp w [(w.heap.size, 27, #[.bool false, .slice A k1 c, .slice B k2 d])] wr)) (fun _ _ s10 _ => 9 - (intOf s10).toNat)
  case atStart => exact ⟨0, wh, r0, kr, A2, c2, by omega, rfl, rfl, rfl, hr0l, HKR, hs0, hs1, HS3, HK3⟩
  case round =>
    obtain ⟨i, N, rs, k, A', c', hi, rfl, rfl, rfl, hk, hkl, hN, hrs, hS, hKp⟩ := hrel
    have hNb : N < 1000001000000000 := by rw [hN.out]; exact HW.out i hi
    by_cases hlt : i < 9
    · have hlt' : decide ((i : Int) < 9) = true := decide_eq_true (by omega)
      have hrn : rs < n := by rw [hrs.out]; exact Nat.mod_lt _ hnp
      have HLEN := Lib.hid (show ∀ j, j ≤ 10 → (limbs (j * rs)).length ≤ 91 from fun j hj => by
        have h := len_mul (j := 1) (k := 90) HH10 (show (limbs n).length ≤ 90 by rw [HH2.out]; exact l2)
        have h2 : (limbs (j * rs)).length ≤ (limbs (10 * n)).length := limbs_mono (Nat.mul_le_mul hj (Nat.le_of_lt hrn))
        omega)
      have HAD := Lib.hid (fun wx A1 c1 j kk (hj : j + 1 ≤ 10) (h1 : Sl wx A1 c1 (limbs (j * rs))) (h2 : Sl wx A' c' (limbs rs)) (hkk : (limbs (j * rs)).length = kk) => radd_c A1 A' c1 c' kk k (limbs (j * rs)) (limbs rs) wx (limbs ((j + 1) * rs)) 0 h1 h2 hkk hkl.out (addL (by have := HLEN.out j (by omega); omega) (by have := hkl.out; omega) (by rw [Nat.add_mul, Nat.one_mul]) (by have := HLEN.out (j + 1) hj; omega)))
      obtain ⟨wo, hwo⟩ : ∃ wo, wo = wr := ⟨_, rfl⟩
      subst hwo
      go_wp2_with fail
      go_loopw [11, 12] (fun s11 s12 wr => ∃ (j kk : Nat) (A1 : Option Addr) (c1 : Nat), j ≤ 9 ∧ s12 = .int .i64 j ∧ s11 = .slice A1 kk c1 ∧ Hid ((limbs ((j + 1) * rs)).length = kk) ∧ Hid (Sl wr A1 c1 (limbs ((j + 1) * rs))) ∧ Hid (Sl wr A' c' (limbs rs)) ∧ Hid (Kp w [(w.heap.size, 27, #[.bool false, .slice A k1 c, .slice B k2 d])] wr)) (fun _ s12 _ => 9 - (intOf s12).toNat)
      case atStart => exact ⟨0, k, A', c', by omega, rfl, rfl, by rw [Nat.zero_add, Nat.one_mul]; exact hkl, by rw [Nat.zero_add, Nat.one_mul]; exact hS, hS, hKp⟩
      case round =>
        obtain ⟨j, kk, A1, c1, hj, rfl, rfl, hkk, hS1, hS2, hKp2⟩ := hrel
        by_cases hjl : j < 9
        · have hjl' : decide ((j : Int) < 9) = true := decide_eq_true (by omega)
          go_wp2_with fail
          refine (HAD.out _ A1 c1 (j + 1) kk (by omega) hS1.out hS2.out hkk.out).mono ?_
          rintro e w5 ⟨A3, c3, rfl, hs5, hb5⟩
          have HK5 := Lib.hid (hKp2.out.next hb5)
          have HS5 := Lib.hid hs5
          have HS2' := Lib.hid (hS2.out.to hb5)
          clear hb5 hs5
          go_wp2_with fail
          go_roundw
          case rel => exact ⟨j + 1, _, A3, c3, by omega, by go_num, rfl, rfl, HS5, HS2', HK5⟩
          case measure => simp [intOf]; omega
        · have hjl' : decide ((j : Int) < 9) = false := decide_eq_false (by omega)
          obtain rfl : j = 9 := by omega
          obtain ⟨q', hq'⟩ : ∃ q, q = 10 * rs / n := ⟨_, rfl⟩
          obtain ⟨r', hr'⟩ : ∃ q, q = 10 * rs % n := ⟨_, rfl⟩
          have hq10 : q' < 10 := by rw [hq', Nat.div_lt_iff_lt_mul hnp]; omega
          obtain ⟨s1, s2⟩ := digit_step hnp hN.out hrs.out
          rw [← hq'] at s1
          rw [← hr'] at s2
          have HN1 := Lib.hid s1
          have HR1 := Lib.hid s2
          have hb10 : 10 * N + q' < 1000001000000000 := by rw [s1]; exact HW.out (i + 1) (by omega)
          have HDX := Lib.hid (HDV.out _ _ hKp2.out A1 c1 (10 * rs) q' r' hS1.out (by have := HLEN.out 10 (by omega); omega) hq'.symm hr'.symm)
          rw [show (limbs (10 * rs)).length = kk from hkk.out] at HDX
          have hql : (limbs q').length ≤ 1 := limbs_len_le.2 (Nat.lt_of_lt_of_le hq10 (by decide))
          have HWO := Lib.hid (fun wx A5 c5 (hs : Sl wx A5 c5 (limbs q')) => rword_c A5 c5 _ (limbs q') wx q' 0 hs rfl (by show _ = _; rw [wordM_ok (chk_limbs (by omega)) (by omega), val_limbs]))
          have hrl : (limbs r').length ≤ k2 := by rw [← HH2.out]; exact limbs_mono (by rw [hr']; exact Nat.le_of_lt (Nat.mod_lt _ hnp))
          have x2 := hKp2.out.blk0.at_ 2 rfl
          have W1 : IntKind.i64.wrap (10 * (N : Int)) = ((10 * N : Nat) : Int) := (i64w (by omega) (by omega)).trans (by omega)
          have W2 : IntKind.i64.wrap (q' : Int) = (q' : Int) := i64w (by omega) (by omega)
          obtain ⟨N10, hN10⟩ : ∃ z, z = 10 * N := ⟨_, rfl⟩
          rw [← hN10] at W1
          obtain ⟨N1, hN1⟩ : ∃ z, z = N10 + q' := ⟨_, rfl⟩
          have W3 : IntKind.i64.wrap ((N10 : Int) + (q' : Int)) = (N1 : Int) := (i64w (by omega) (by omega)).trans (by omega)
          have HN2 := Lib.hid (show N1 = m * 10 ^ (i + 1) / n by rw [hN1, hN10]; exact HN1.out)
          unfold Res2P at HDX
          obtain ⟨kq, hkq⟩ : ∃ k, (limbs q').length = k := ⟨_, rfl⟩
          obtain ⟨kr', hkr'⟩ : ∃ k, (limbs r').length = k := ⟨_, rfl⟩
          rw [hkq] at HDX HWO
          rw [hkr'] at HDX hrl
          have HKR' := Lib.hid hkr'
          clear hq' hr' s1 s2 hN1 hN10 hkq hkr' hql
          go_wp2_with fail
          refine HDX.out.mono ?_
          rintro e w6 ⟨A5, A6, c5, c6, rfl, hs5, hs6, hb6⟩
          have HK6 := Lib.hid (hKp2.out.next hb6)
          have HS5 := Lib.hid hs5
          have HS6 := Lib.hid hs6
          clear hb6 hs5 hs6 x2
          go_wp2_with fail
          refine (HWO.out _ _ _ HS5.out).mono ?_
          rintro e wz ⟨rfl, rfl⟩
          go_wp2_with fail
          go_roundw
          case rel => exact ⟨i + 1, N1, r', kr', A6, c6, by omega, by go_num, rfl, rfl, hrl, HKR', HN2, HR1, HS6, HK6⟩
          case measure => simp [intOf]; omega
    · have hlt' : decide ((i : Int) < 9) = false := decide_eq_false (by omega)
      obtain rfl : i = 9 := by omega
      have hNN : fixQ N = (v, er) := by
        have h := hN.out
        rw [show (10 : Nat) ^ 9 = 1000000000 by decide] at h
        rw [h]; exact hM.out
      by_cases h15 : N ≤ 1000000000000000
      · obtain ⟨rfl, rfl⟩ : (N : Int) = v ∧ 0 = er := by rw [fixQ_ok h15] at hNN; simpa using hNN
        have K1 : decide (1000000000000000 < (N : Int)) = false := decide_eq_false (by omega)
        have K2 : decide (1000000000000000 < N) = false := decide_eq_false (by omega)
        clear hNN hM
        go_wp2_with fail
        go_ret2
        exact ⟨rfl, hKp.out.1⟩
      · obtain ⟨rfl, rfl⟩ : 0 = v ∧ 30 = er := by rw [fixQ_great h15] at hNN; simpa using hNN
        have K1 : decide (1000000000000000 < (N : Int)) = true := decide_eq_true (by omega)
        have K2 : decide (1000000000000000 < N) = true := decide_eq_true (by omega)
        clear hNN hM
        go_wp2_with fail
        go_ret2
        exact ⟨rfl, hKp.out.1⟩
end Go.Proofs.Ytefoccjphbbmhaa
