/- The reference's Floor of a rational number that is not negative. -/
import Derived.Test.YtefoccjphbbmhaaTd
namespace Go.Proofs.Ytefoccjphbbmhaa
open Go.RowKit
set_option linter.unusedVariables false

set_option maxRecDepth 100000 in
set_option maxHeartbeats 4000000 in
theorem rFloor4_any (x : Rq) (A B : Option Addr) (c d k1 k2 : Nat) (v er : Int) (w : World) (hr : RqS w A c B d x) (h1 : x.num.length = k1) (h2 : x.den.length = k2) (ho : okR x) (e1 : x.neg = false) (hM : Hid (intM false (val x.num / val x.den) = (v, er))) :
    Calls Try.prog 45 #[.agg #[.bool false, .slice A k1 c, .slice B k2 d]] w fun e w' => e = .returned (.tuple #[.int .i64 v, .int .i64 er]) ∧ Below w.heap.size w w' := by
  have HC := Lib.hid (fun wx bs (hk : Kp w bs wx) => rCheck4_any x A B c d k1 k2 0 wx (hr.to hk.1) h1 h2 (chkR_ok ho))
  rw [e1] at HC
  have HK := Lib.hid ((Kp.refl w).alloc #[.bool false, .slice A k1 c, .slice B k2 d] 27 _ rfl)
  obtain ⟨m, hm, hml⟩ := limbs_of_chk (chk2_zero ho.1).1
  obtain ⟨n, hn, hnl⟩ := limbs_of_chk (chk2_zero ho.1).2
  have hn0 : n ≠ 0 := by have := ho.2.1; rw [hn, val_limbs] at this; exact this
  have hV := hM.out
  rw [hm, hn, val_limbs, val_limbs, intM_f] at hV
  obtain ⟨q, hq⟩ : ∃ q, q = m / n := ⟨_, rfl⟩
  have hql : (limbs q).length ≤ 96 := len_le hml (by rw [hq]; exact Nat.div_le_self _ _)
  have hr1 := hr.1
  have hr2 := hr.2
  rw [hm] at hr1 h1
  rw [hn] at hr2 h2
  obtain ⟨lr, hlr⟩ : ∃ l, l = limbs (m % n) := ⟨_, rfl⟩
  have HD := Lib.hid (fun wx bs (hk : Kp w bs wx) => rdiv_c A B c d k1 k2 (limbs m) (limbs n) wx (limbs q) lr 0 (hk.sl hr1) (hk.sl hr2) h1 h2 (by rw [hlr]; exact divL hml hnl hn0 hq.symm rfl))
  rw [← hq] at hV
  obtain ⟨kq, hkq⟩ : ∃ k, (limbs q).length = k := ⟨_, rfl⟩
  unfold Res2P at HD
  rw [hkq] at HD hql
  have hck : chk (limbs q) = 0 := chk_limbs (by omega)
  have hlen : kq ≤ 2 ↔ q < 18446744073709551616 := by rw [← hkq, limbs_len_le, bp_2]
  by_cases h9 : q ≤ 9223372036854775807
  · obtain ⟨rfl, rfl⟩ : (q : Int) = v ∧ 0 = er := by rw [if_pos h9] at hV; simpa using hV
    have HW := Lib.hid (fun wx A c (hs : Sl wx A c (limbs q)) => rword_c A c kq (limbs q) wx q 0 hs hkq (by show _ = _; rw [wordM_ok hck (by rw [hkq]; exact hlen.2 (by omega)), val_limbs]))
    have K1 : decide (9223372036854775808 < (q : Int)) = false := decide_eq_false (by omega)
    have K1' : decide (9223372036854775808 < q) = false := decide_eq_false (by omega)
    have K2 : ((q : Int) == 9223372036854775808) = false := by rw [beq_eq_false_iff_ne]; omega
    have W : IntKind.i64.wrap (q : Int) = (q : Int) := i64w (by omega) (by omega)
    clear hM hV hr hr1 hr2 h1 h2 ho e1 hm hn hml hnl hn0 hq hql hlr hkq hck hlen
    go_enter Try.func45, Try.ntmps45
    go_wp2_with fail
    refine (HC.out _ _ HK.out).mono ?_
    rintro e w1 ⟨rfl, hb1⟩
    have HK1 := Lib.hid (HK.out.next hb1)
    have x1 := HK1.out.blk0.at_ 1 rfl
    have x2 := HK1.out.blk0.at_ 2 rfl
    clear hb1
    go_wp2_with fail
    refine (HD.out _ _ HK1.out).mono ?_
    rintro e w2 ⟨A1, A2, c1, c2, rfl, hs1, hs2, hb2⟩
    have HK2 := Lib.hid (HK1.out.next hb2)
    have HS1 := Lib.hid hs1
    clear x1 x2 hb2 hs1 hs2
    have x0 := HK2.out.blk0.at_ 0 rfl
    go_wp2_with fail
    refine (HW.out _ _ _ HS1.out).mono ?_
    rintro e wz ⟨rfl, rfl⟩
    go_wp2_with fail
    go_ret2
    exact ⟨rfl, HK2.out.1⟩
  · obtain ⟨rfl, rfl⟩ : 0 = v ∧ 30 = er := by rw [if_neg h9] at hV; simpa using hV
    by_cases h64 : q < 18446744073709551616
    · have HW := Lib.hid (fun wx A c (hs : Sl wx A c (limbs q)) => rword_c A c kq (limbs q) wx q 0 hs hkq (by show _ = _; rw [wordM_ok hck (by rw [hkq]; exact hlen.2 (by omega)), val_limbs]))
      by_cases h63 : q = 9223372036854775808
      · have K1 : decide (9223372036854775808 < (q : Int)) = false := decide_eq_false (by omega)
        have K1' : decide (9223372036854775808 < q) = false := decide_eq_false (by omega)
        have K2 : ((q : Int) == 9223372036854775808) = true := by rw [beq_iff_eq]; omega
        clear hM hV hr hr1 hr2 h1 h2 ho e1 hm hn hml hnl hn0 hq hql hlr hkq hck hlen h63
        go_enter Try.func45, Try.ntmps45
        go_wp2_with fail
        refine (HC.out _ _ HK.out).mono ?_
        rintro e w1 ⟨rfl, hb1⟩
        have HK1 := Lib.hid (HK.out.next hb1)
        have x1 := HK1.out.blk0.at_ 1 rfl
        have x2 := HK1.out.blk0.at_ 2 rfl
        clear hb1
        go_wp2_with fail
        refine (HD.out _ _ HK1.out).mono ?_
        rintro e w2 ⟨A1, A2, c1, c2, rfl, hs1, hs2, hb2⟩
        have HK2 := Lib.hid (HK1.out.next hb2)
        have HS1 := Lib.hid hs1
        clear x1 x2 hb2 hs1 hs2
        have x0 := HK2.out.blk0.at_ 0 rfl
        go_wp2_with fail
        refine (HW.out _ _ _ HS1.out).mono ?_
        rintro e wz ⟨rfl, rfl⟩
        go_wp2_with fail
        go_ret2
        exact ⟨rfl, HK2.out.1⟩
      · have K1 : decide (9223372036854775808 < (q : Int)) = true := decide_eq_true (by omega)
        have K1' : decide (9223372036854775808 < q) = true := decide_eq_true (by omega)
        clear hM hV hr hr1 hr2 h1 h2 ho e1 hm hn hml hnl hn0 hq hql hlr hkq hck hlen h63
        go_enter Try.func45, Try.ntmps45
        go_wp2_with fail
        refine (HC.out _ _ HK.out).mono ?_
        rintro e w1 ⟨rfl, hb1⟩
        have HK1 := Lib.hid (HK.out.next hb1)
        have x1 := HK1.out.blk0.at_ 1 rfl
        have x2 := HK1.out.blk0.at_ 2 rfl
        clear hb1
        go_wp2_with fail
        refine (HD.out _ _ HK1.out).mono ?_
        rintro e w2 ⟨A1, A2, c1, c2, rfl, hs1, hs2, hb2⟩
        have HK2 := Lib.hid (HK1.out.next hb2)
        have HS1 := Lib.hid hs1
        clear x1 x2 hb2 hs1 hs2
        have x0 := HK2.out.blk0.at_ 0 rfl
        go_wp2_with fail
        refine (HW.out _ _ _ HS1.out).mono ?_
        rintro e wz ⟨rfl, rfl⟩
        go_wp2_with fail
        go_ret2
        exact ⟨rfl, HK2.out.1⟩
    · have HW := Lib.hid (fun wx A c (hs : Sl wx A c (limbs q)) => rword_c A c kq (limbs q) wx 0 30 hs hkq (by show _ = _; rw [wordM_great hck (by rw [hkq]; exact fun h => h64 (hlen.1 h))]))
      clear hM hV hr hr1 hr2 h1 h2 ho e1 hm hn hml hnl hn0 hq hql hlr hkq hck hlen
      go_enter Try.func45, Try.ntmps45
      go_wp2_with fail
      refine (HC.out _ _ HK.out).mono ?_
      rintro e w1 ⟨rfl, hb1⟩
      have HK1 := Lib.hid (HK.out.next hb1)
      have x1 := HK1.out.blk0.at_ 1 rfl
      have x2 := HK1.out.blk0.at_ 2 rfl
      clear hb1
      go_wp2_with fail
      refine (HD.out _ _ HK1.out).mono ?_
      rintro e w2 ⟨A1, A2, c1, c2, rfl, hs1, hs2, hb2⟩
      have HK2 := Lib.hid (HK1.out.next hb2)
      have HS1 := Lib.hid hs1
      clear x1 x2 hb2 hs1 hs2
      have x0 := HK2.out.blk0.at_ 0 rfl
      go_wp2_with fail
      refine (HW.out _ _ _ HS1.out).mono ?_
      rintro e wz ⟨rfl, rfl⟩
      go_wp2_with fail
      go_ret2
      exact ⟨rfl, HK2.out.1⟩
end Go.Proofs.Ytefoccjphbbmhaa
