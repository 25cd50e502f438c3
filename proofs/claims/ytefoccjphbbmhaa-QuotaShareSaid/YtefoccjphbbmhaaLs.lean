/- QuotaShare, walked. Written by tools/share17.py. -/
import Derived.Test.YtefoccjphbbmhaaQw
import Derived.Test.YtefoccjphbbmhaaQs
namespace Go.Proofs.Ytefoccjphbbmhaa
open Go.RowKit
set_option linter.unusedVariables false

theorem ratio_low {n : Nat} (h : n ≤ 1000000000000000) : ratioM (n : Int) = (low false n 1000000000, 0) := (ratioM_yes (inQ_of h)).trans (ofR_nat (d := 1000000000) (by decide))

set_option maxRecDepth 100000 in
set_option maxHeartbeats 4000000 in
theorem share_bad_a (a b c : Int) (hin : inQ a = false) (w : World) :
    Calls Try.prog 6 #[.int .i64 a, .int .i64 b, .int .i64 c] w fun e w' => e = .returned (.bool true) ∧ Below w.heap.size w w' := by
  have HW := Lib.hid (fun wx => wakes_any wx)
  have HS := Lib.hid (fun wx => share_any a b c 0 2 (shareM_bad (fun h => by rw [h.1] at hin; cases hin)) wx)
  obtain ⟨xa, fa, hfa⟩ : ∃ x f, ratioM a = (x, f) := ⟨_, _, rfl⟩
  have HRa := Lib.hid (fun wx => ratio_any a xa fa hfa wx)
  obtain ⟨xb, fb, hfb⟩ : ∃ x f, ratioM b = (x, f) := ⟨_, _, rfl⟩
  have HRb := Lib.hid (fun wx => ratio_any b xb fb hfb wx)
  obtain ⟨xc, fc, hfc⟩ : ∃ x f, ratioM c = (x, f) := ⟨_, _, rfl⟩
  have HRc := Lib.hid (fun wx => ratio_any c xc fc hfc wx)
  have z : fa = 2 := by rw [ratioM_no hin] at hfa; exact (Prod.mk.inj hfa).2.symm
  subst z
  unfold RqE rqv rqs at HRa HRb HRc
  clear hfa hfb hfc hin
  have HK0 := Lib.hid (Kp.refl w)
  go_enter Try.func6, Try.ntmps6
  go_wp2_with fail
  refine (HS.out _).mono ?_
  rintro e w1 ⟨rfl, hb1⟩
  have HK1 := Lib.hid (HK0.out.next hb1)
  clear hb1
  go_wp2_with fail
  refine (HRa.out _).mono ?_
  rintro e w2 ⟨Aa, ca, Ba, da, rfl, hs2, hb2⟩
  have HK2 := Lib.hid (HK1.out.next hb2)
  have HSa := Lib.hid hs2
  clear hb2 hs2
  have HK2a := Lib.hid (HK2.out.alloc #[.bool xa.neg, .slice Aa xa.num.length ca, .slice Ba xa.den.length da] 27 _ rfl)
  have HSa := Lib.hid (HSa.out.to (below_new _ (.cells #[.bool xa.neg, .slice Aa xa.num.length ca, .slice Ba xa.den.length da] 27)))
  go_wp2_with fail
  refine (HRb.out _).mono ?_
  rintro e w3 ⟨Ab, cb, Bb, db, rfl, hs3, hb3⟩
  have HK3 := Lib.hid (HK2a.out.next hb3)
  have HSa := Lib.hid (HSa.out.to hb3)
  have HSb := Lib.hid hs3
  clear hb3 hs3
  have HK3a := Lib.hid (HK3.out.alloc #[.bool xb.neg, .slice Ab xb.num.length cb, .slice Bb xb.den.length db] 27 _ rfl)
  have HSa := Lib.hid (HSa.out.to (below_new _ (.cells #[.bool xb.neg, .slice Ab xb.num.length cb, .slice Bb xb.den.length db] 27)))
  have HSb := Lib.hid (HSb.out.to (below_new _ (.cells #[.bool xb.neg, .slice Ab xb.num.length cb, .slice Bb xb.den.length db] 27)))
  go_wp2_with fail
  refine (HRc.out _).mono ?_
  rintro e w4 ⟨Ac, cc, Bc, dc, rfl, hs4, hb4⟩
  have HK4 := Lib.hid (HK3a.out.next hb4)
  have HSa := Lib.hid (HSa.out.to hb4)
  have HSb := Lib.hid (HSb.out.to hb4)
  have HSc := Lib.hid hs4
  clear hb4 hs4
  have HK4a := Lib.hid (HK4.out.alloc #[.bool xc.neg, .slice Ac xc.num.length cc, .slice Bc xc.den.length dc] 27 _ rfl)
  have HSa := Lib.hid (HSa.out.to (below_new _ (.cells #[.bool xc.neg, .slice Ac xc.num.length cc, .slice Bc xc.den.length dc] 27)))
  have HSb := Lib.hid (HSb.out.to (below_new _ (.cells #[.bool xc.neg, .slice Ac xc.num.length cc, .slice Bc xc.den.length dc] 27)))
  have HSc := Lib.hid (HSc.out.to (below_new _ (.cells #[.bool xc.neg, .slice Ac xc.num.length cc, .slice Bc xc.den.length dc] 27)))
  go_wp2_with fail
  refine (HW.out _).mono ?_
  rintro e w5 ⟨rfl, hb5⟩
  have HK5 := Lib.hid (HK4a.out.next hb5)
  have HSa := Lib.hid (HSa.out.to hb5)
  have HSb := Lib.hid (HSb.out.to hb5)
  have HSc := Lib.hid (HSc.out.to hb5)
  clear hb5
  go_wp2_with fail
  go_ret
  exact ⟨rfl, HK5.out.1⟩

set_option maxRecDepth 100000 in
set_option maxHeartbeats 4000000 in
theorem share_bad_b (a b c : Int) (hin : inQ b = false) (ga : inQ a = true) (w : World) :
    Calls Try.prog 6 #[.int .i64 a, .int .i64 b, .int .i64 c] w fun e w' => e = .returned (.bool true) ∧ Below w.heap.size w w' := by
  have HW := Lib.hid (fun wx => wakes_any wx)
  have HS := Lib.hid (fun wx => share_any a b c 0 2 (shareM_bad (fun h => by rw [h.2.1] at hin; cases hin)) wx)
  obtain ⟨xa, fa, hfa⟩ : ∃ x f, ratioM a = (x, f) := ⟨_, _, rfl⟩
  have HRa := Lib.hid (fun wx => ratio_any a xa fa hfa wx)
  obtain ⟨xb, fb, hfb⟩ : ∃ x f, ratioM b = (x, f) := ⟨_, _, rfl⟩
  have HRb := Lib.hid (fun wx => ratio_any b xb fb hfb wx)
  obtain ⟨xc, fc, hfc⟩ : ∃ x f, ratioM c = (x, f) := ⟨_, _, rfl⟩
  have HRc := Lib.hid (fun wx => ratio_any c xc fc hfc wx)
  have za : fa = 0 := by rw [ratioM_yes ga, of_ne (by decide)] at hfa; exact (Prod.mk.inj hfa).2.symm
  subst za
  have z : fb = 2 := by rw [ratioM_no hin] at hfb; exact (Prod.mk.inj hfb).2.symm
  subst z
  unfold RqE rqv rqs at HRa HRb HRc
  clear hfa hfb hfc hin
  have HK0 := Lib.hid (Kp.refl w)
  go_enter Try.func6, Try.ntmps6
  go_wp2_with fail
  refine (HS.out _).mono ?_
  rintro e w1 ⟨rfl, hb1⟩
  have HK1 := Lib.hid (HK0.out.next hb1)
  clear hb1
  go_wp2_with fail
  refine (HRa.out _).mono ?_
  rintro e w2 ⟨Aa, ca, Ba, da, rfl, hs2, hb2⟩
  have HK2 := Lib.hid (HK1.out.next hb2)
  have HSa := Lib.hid hs2
  clear hb2 hs2
  have HK2a := Lib.hid (HK2.out.alloc #[.bool xa.neg, .slice Aa xa.num.length ca, .slice Ba xa.den.length da] 27 _ rfl)
  have HSa := Lib.hid (HSa.out.to (below_new _ (.cells #[.bool xa.neg, .slice Aa xa.num.length ca, .slice Ba xa.den.length da] 27)))
  go_wp2_with fail
  refine (HRb.out _).mono ?_
  rintro e w3 ⟨Ab, cb, Bb, db, rfl, hs3, hb3⟩
  have HK3 := Lib.hid (HK2a.out.next hb3)
  have HSa := Lib.hid (HSa.out.to hb3)
  have HSb := Lib.hid hs3
  clear hb3 hs3
  have HK3a := Lib.hid (HK3.out.alloc #[.bool xb.neg, .slice Ab xb.num.length cb, .slice Bb xb.den.length db] 27 _ rfl)
  have HSa := Lib.hid (HSa.out.to (below_new _ (.cells #[.bool xb.neg, .slice Ab xb.num.length cb, .slice Bb xb.den.length db] 27)))
  have HSb := Lib.hid (HSb.out.to (below_new _ (.cells #[.bool xb.neg, .slice Ab xb.num.length cb, .slice Bb xb.den.length db] 27)))
  go_wp2_with fail
  refine (HRc.out _).mono ?_
  rintro e w4 ⟨Ac, cc, Bc, dc, rfl, hs4, hb4⟩
  have HK4 := Lib.hid (HK3a.out.next hb4)
  have HSa := Lib.hid (HSa.out.to hb4)
  have HSb := Lib.hid (HSb.out.to hb4)
  have HSc := Lib.hid hs4
  clear hb4 hs4
  have HK4a := Lib.hid (HK4.out.alloc #[.bool xc.neg, .slice Ac xc.num.length cc, .slice Bc xc.den.length dc] 27 _ rfl)
  have HSa := Lib.hid (HSa.out.to (below_new _ (.cells #[.bool xc.neg, .slice Ac xc.num.length cc, .slice Bc xc.den.length dc] 27)))
  have HSb := Lib.hid (HSb.out.to (below_new _ (.cells #[.bool xc.neg, .slice Ac xc.num.length cc, .slice Bc xc.den.length dc] 27)))
  have HSc := Lib.hid (HSc.out.to (below_new _ (.cells #[.bool xc.neg, .slice Ac xc.num.length cc, .slice Bc xc.den.length dc] 27)))
  go_wp2_with fail
  refine (HW.out _).mono ?_
  rintro e w5 ⟨rfl, hb5⟩
  have HK5 := Lib.hid (HK4a.out.next hb5)
  have HSa := Lib.hid (HSa.out.to hb5)
  have HSb := Lib.hid (HSb.out.to hb5)
  have HSc := Lib.hid (HSc.out.to hb5)
  clear hb5
  go_wp2_with fail
  go_ret
  exact ⟨rfl, HK5.out.1⟩

set_option maxRecDepth 100000 in
set_option maxHeartbeats 4000000 in
theorem share_bad_c (a b c : Int) (hin : inQ c = false) (ga : inQ a = true) (gb : inQ b = true) (w : World) :
    Calls Try.prog 6 #[.int .i64 a, .int .i64 b, .int .i64 c] w fun e w' => e = .returned (.bool true) ∧ Below w.heap.size w w' := by
  have HW := Lib.hid (fun wx => wakes_any wx)
  have HS := Lib.hid (fun wx => share_any a b c 0 2 (shareM_bad (fun h => by rw [h.2.2] at hin; cases hin)) wx)
  obtain ⟨xa, fa, hfa⟩ : ∃ x f, ratioM a = (x, f) := ⟨_, _, rfl⟩
  have HRa := Lib.hid (fun wx => ratio_any a xa fa hfa wx)
  obtain ⟨xb, fb, hfb⟩ : ∃ x f, ratioM b = (x, f) := ⟨_, _, rfl⟩
  have HRb := Lib.hid (fun wx => ratio_any b xb fb hfb wx)
  obtain ⟨xc, fc, hfc⟩ : ∃ x f, ratioM c = (x, f) := ⟨_, _, rfl⟩
  have HRc := Lib.hid (fun wx => ratio_any c xc fc hfc wx)
  have za : fa = 0 := by rw [ratioM_yes ga, of_ne (by decide)] at hfa; exact (Prod.mk.inj hfa).2.symm
  subst za
  have zb : fb = 0 := by rw [ratioM_yes gb, of_ne (by decide)] at hfb; exact (Prod.mk.inj hfb).2.symm
  subst zb
  have z : fc = 2 := by rw [ratioM_no hin] at hfc; exact (Prod.mk.inj hfc).2.symm
  subst z
  unfold RqE rqv rqs at HRa HRb HRc
  clear hfa hfb hfc hin
  have HK0 := Lib.hid (Kp.refl w)
  go_enter Try.func6, Try.ntmps6
  go_wp2_with fail
  refine (HS.out _).mono ?_
  rintro e w1 ⟨rfl, hb1⟩
  have HK1 := Lib.hid (HK0.out.next hb1)
  clear hb1
  go_wp2_with fail
  refine (HRa.out _).mono ?_
  rintro e w2 ⟨Aa, ca, Ba, da, rfl, hs2, hb2⟩
  have HK2 := Lib.hid (HK1.out.next hb2)
  have HSa := Lib.hid hs2
  clear hb2 hs2
  have HK2a := Lib.hid (HK2.out.alloc #[.bool xa.neg, .slice Aa xa.num.length ca, .slice Ba xa.den.length da] 27 _ rfl)
  have HSa := Lib.hid (HSa.out.to (below_new _ (.cells #[.bool xa.neg, .slice Aa xa.num.length ca, .slice Ba xa.den.length da] 27)))
  go_wp2_with fail
  refine (HRb.out _).mono ?_
  rintro e w3 ⟨Ab, cb, Bb, db, rfl, hs3, hb3⟩
  have HK3 := Lib.hid (HK2a.out.next hb3)
  have HSa := Lib.hid (HSa.out.to hb3)
  have HSb := Lib.hid hs3
  clear hb3 hs3
  have HK3a := Lib.hid (HK3.out.alloc #[.bool xb.neg, .slice Ab xb.num.length cb, .slice Bb xb.den.length db] 27 _ rfl)
  have HSa := Lib.hid (HSa.out.to (below_new _ (.cells #[.bool xb.neg, .slice Ab xb.num.length cb, .slice Bb xb.den.length db] 27)))
  have HSb := Lib.hid (HSb.out.to (below_new _ (.cells #[.bool xb.neg, .slice Ab xb.num.length cb, .slice Bb xb.den.length db] 27)))
  go_wp2_with fail
  refine (HRc.out _).mono ?_
  rintro e w4 ⟨Ac, cc, Bc, dc, rfl, hs4, hb4⟩
  have HK4 := Lib.hid (HK3a.out.next hb4)
  have HSa := Lib.hid (HSa.out.to hb4)
  have HSb := Lib.hid (HSb.out.to hb4)
  have HSc := Lib.hid hs4
  clear hb4 hs4
  have HK4a := Lib.hid (HK4.out.alloc #[.bool xc.neg, .slice Ac xc.num.length cc, .slice Bc xc.den.length dc] 27 _ rfl)
  have HSa := Lib.hid (HSa.out.to (below_new _ (.cells #[.bool xc.neg, .slice Ac xc.num.length cc, .slice Bc xc.den.length dc] 27)))
  have HSb := Lib.hid (HSb.out.to (below_new _ (.cells #[.bool xc.neg, .slice Ac xc.num.length cc, .slice Bc xc.den.length dc] 27)))
  have HSc := Lib.hid (HSc.out.to (below_new _ (.cells #[.bool xc.neg, .slice Ac xc.num.length cc, .slice Bc xc.den.length dc] 27)))
  go_wp2_with fail
  refine (HW.out _).mono ?_
  rintro e w5 ⟨rfl, hb5⟩
  have HK5 := Lib.hid (HK4a.out.next hb5)
  have HSa := Lib.hid (HSa.out.to hb5)
  have HSb := Lib.hid (HSb.out.to hb5)
  have HSc := Lib.hid (HSc.out.to hb5)
  clear hb5
  go_wp2_with fail
  go_ret
  exact ⟨rfl, HK5.out.1⟩

set_option maxRecDepth 100000 in
set_option maxHeartbeats 4000000 in
theorem share_none (a b c : Nat) (ha : a ≤ 1000000000000000) (hb : b ≤ 1000000000000000) (hc : c ≤ 1000000000000000) (h0 : c = 0) (w : World) :
    Calls Try.prog 6 #[.int .i64 a, .int .i64 b, .int .i64 c] w fun e w' => e = .returned (.bool true) ∧ Below w.heap.size w w' := by
  have HS := Lib.hid (fun wx => share_any (a : Int) (b : Int) (c : Int) 0 40 (by rw [h0]; exact shareM_zero ⟨inQ_of ha, inQ_of hb⟩) wx)
  have K0 : ((c : Int) == 0) = true := by rw [h0]; rfl
  have HW := Lib.hid (fun wx => wakes_any wx)
  have hra := ratio_low ha
  have hrb := ratio_low hb
  have hrc := ratio_low hc
  generalize low false a 1000000000 = xa at *
  generalize low false b 1000000000 = xb at *
  generalize low false c 1000000000 = xc at *
  have HRa := Lib.hid (fun wx => ratio_any (a : Int) xa 0 hra wx)
  have HRb := Lib.hid (fun wx => ratio_any (b : Int) xb 0 hrb wx)
  have HRc := Lib.hid (fun wx => ratio_any (c : Int) xc 0 hrc wx)
  unfold RqE rqv rqs at HRa HRb HRc
  clear hra hrb hrc
  clear h0
  have HK0 := Lib.hid (Kp.refl w)
  go_enter Try.func6, Try.ntmps6
  go_wp2_with fail
  refine (HS.out _).mono ?_
  rintro e w1 ⟨rfl, hb1⟩
  have HK1 := Lib.hid (HK0.out.next hb1)
  clear hb1
  go_wp2_with fail
  refine (HRa.out _).mono ?_
  rintro e w2 ⟨Aa, ca, Ba, da, rfl, hs2, hb2⟩
  have HK2 := Lib.hid (HK1.out.next hb2)
  have HSa := Lib.hid hs2
  clear hb2 hs2
  have HK2a := Lib.hid (HK2.out.alloc #[.bool xa.neg, .slice Aa xa.num.length ca, .slice Ba xa.den.length da] 27 _ rfl)
  have HSa := Lib.hid (HSa.out.to (below_new _ (.cells #[.bool xa.neg, .slice Aa xa.num.length ca, .slice Ba xa.den.length da] 27)))
  go_wp2_with fail
  refine (HRb.out _).mono ?_
  rintro e w3 ⟨Ab, cb, Bb, db, rfl, hs3, hb3⟩
  have HK3 := Lib.hid (HK2a.out.next hb3)
  have HSa := Lib.hid (HSa.out.to hb3)
  have HSb := Lib.hid hs3
  clear hb3 hs3
  have HK3a := Lib.hid (HK3.out.alloc #[.bool xb.neg, .slice Ab xb.num.length cb, .slice Bb xb.den.length db] 27 _ rfl)
  have HSa := Lib.hid (HSa.out.to (below_new _ (.cells #[.bool xb.neg, .slice Ab xb.num.length cb, .slice Bb xb.den.length db] 27)))
  have HSb := Lib.hid (HSb.out.to (below_new _ (.cells #[.bool xb.neg, .slice Ab xb.num.length cb, .slice Bb xb.den.length db] 27)))
  go_wp2_with fail
  refine (HRc.out _).mono ?_
  rintro e w4 ⟨Ac, cc, Bc, dc, rfl, hs4, hb4⟩
  have HK4 := Lib.hid (HK3a.out.next hb4)
  have HSa := Lib.hid (HSa.out.to hb4)
  have HSb := Lib.hid (HSb.out.to hb4)
  have HSc := Lib.hid hs4
  clear hb4 hs4
  have HK4a := Lib.hid (HK4.out.alloc #[.bool xc.neg, .slice Ac xc.num.length cc, .slice Bc xc.den.length dc] 27 _ rfl)
  have HSa := Lib.hid (HSa.out.to (below_new _ (.cells #[.bool xc.neg, .slice Ac xc.num.length cc, .slice Bc xc.den.length dc] 27)))
  have HSb := Lib.hid (HSb.out.to (below_new _ (.cells #[.bool xc.neg, .slice Ac xc.num.length cc, .slice Bc xc.den.length dc] 27)))
  have HSc := Lib.hid (HSc.out.to (below_new _ (.cells #[.bool xc.neg, .slice Ac xc.num.length cc, .slice Bc xc.den.length dc] 27)))
  go_wp2_with fail
  refine (HW.out _).mono ?_
  rintro e w5 ⟨rfl, hb5⟩
  have HK5 := Lib.hid (HK4a.out.next hb5)
  have HSa := Lib.hid (HSa.out.to hb5)
  have HSb := Lib.hid (HSb.out.to hb5)
  have HSc := Lib.hid (HSc.out.to hb5)
  clear hb5
  go_wp2_with fail
  go_ret
  exact ⟨rfl, HK5.out.1⟩

set_option maxRecDepth 100000 in
set_option maxHeartbeats 4000000 in
theorem share_more (a b c : Nat) (ha : a ≤ 1000000000000000) (hb : b ≤ 1000000000000000) (hc : c ≤ 1000000000000000) (h0 : c ≠ 0) (hbc : ¬ b ≤ c) (w : World) :
    Calls Try.prog 6 #[.int .i64 a, .int .i64 b, .int .i64 c] w fun e w' => e = .returned (.bool true) ∧ Below w.heap.size w w' := by
  obtain ⟨p, ex, hm, hd, hx⟩ := share_chain ha hb hc h0
  obtain ⟨s, er, hse⟩ : ∃ s er, fixQ (a * b / c) = (s, er) := ⟨_, _, rfl⟩
  rw [hse] at hx
  have HS := Lib.hid (fun wx => share_any (a : Int) (b : Int) (c : Int) s er ((shareM_ok ha hb hc h0).trans hse) wx)
  have HT := Lib.hid (fun wx => share_any (a : Int) (c : Int) (c : Int) (a : Int) 0 ((shareM_ok ha hc hc h0).trans (by rw [Nat.mul_div_cancel _ (by omega)]; exact fixQ_ok ha)) wx)
  have K0 : ((c : Int) == 0) = false := by rw [beq_eq_false_iff_ne]; omega
  have K1 : decide ((c : Int) < (b : Int)) = true := decide_eq_true (by omega)
  have K1' : decide (c < b) = true := decide_eq_true (by omega)
  have HW := Lib.hid (fun wx => wakes_any wx)
  have hra := ratio_low ha
  have hrb := ratio_low hb
  have hrc := ratio_low hc
  generalize low false a 1000000000 = xa at *
  generalize low false b 1000000000 = xb at *
  generalize low false c 1000000000 = xc at *
  have HRa := Lib.hid (fun wx => ratio_any (a : Int) xa 0 hra wx)
  have HRb := Lib.hid (fun wx => ratio_any (b : Int) xb 0 hrb wx)
  have HRc := Lib.hid (fun wx => ratio_any (c : Int) xc 0 hrc wx)
  unfold RqE rqv rqs at HRa HRb HRc
  clear hra hrb hrc
  have HM := Lib.hid (fun wx A1 c1 A2 c2 A3 c3 A4 c4 (h1 : RqS wx A1 c1 A2 c2 xa) (h2 : RqS wx A3 c3 A4 c4 xb) => qMul_any xa xb p 0 A1 A2 A3 A4 c1 c2 c3 c4 _ _ _ _ _ _ wx h1 h2 rfl rfl rfl rfl rfl rfl hm)
  have HD := Lib.hid (fun wx A1 c1 A2 c2 A3 c3 A4 c4 (h1 : RqS wx A1 c1 A2 c2 p) (h2 : RqS wx A3 c3 A4 c4 xc) => qDiv_any p xc ex 0 A1 A2 A3 A4 c1 c2 c3 c4 _ _ _ _ _ _ wx h1 h2 rfl rfl rfl rfl rfl rfl hd)
  have HB := Lib.hid (fun wx A1 c1 A2 c2 (h1 : RqS wx A1 c1 A2 c2 ex) => bill_any ex A1 A2 c1 c2 _ _ s er wx h1 rfl rfl hx)
  unfold RqE rqv rqs at HM HD
  clear hm hd hx hse
  have HK0 := Lib.hid (Kp.refl w)
  go_enter Try.func6, Try.ntmps6
  go_wp2_with fail
  refine (HS.out _).mono ?_
  rintro e w1 ⟨rfl, hb1⟩
  have HK1 := Lib.hid (HK0.out.next hb1)
  clear hb1
  go_wp2_with fail
  refine (HRa.out _).mono ?_
  rintro e w2 ⟨Aa, ca, Ba, da, rfl, hs2, hb2⟩
  have HK2 := Lib.hid (HK1.out.next hb2)
  have HSa := Lib.hid hs2
  clear hb2 hs2
  have HK2a := Lib.hid (HK2.out.alloc #[.bool xa.neg, .slice Aa xa.num.length ca, .slice Ba xa.den.length da] 27 _ rfl)
  have HSa := Lib.hid (HSa.out.to (below_new _ (.cells #[.bool xa.neg, .slice Aa xa.num.length ca, .slice Ba xa.den.length da] 27)))
  go_wp2_with fail
  refine (HRb.out _).mono ?_
  rintro e w3 ⟨Ab, cb, Bb, db, rfl, hs3, hb3⟩
  have HK3 := Lib.hid (HK2a.out.next hb3)
  have HSa := Lib.hid (HSa.out.to hb3)
  have HSb := Lib.hid hs3
  clear hb3 hs3
  have HK3a := Lib.hid (HK3.out.alloc #[.bool xb.neg, .slice Ab xb.num.length cb, .slice Bb xb.den.length db] 27 _ rfl)
  have HSa := Lib.hid (HSa.out.to (below_new _ (.cells #[.bool xb.neg, .slice Ab xb.num.length cb, .slice Bb xb.den.length db] 27)))
  have HSb := Lib.hid (HSb.out.to (below_new _ (.cells #[.bool xb.neg, .slice Ab xb.num.length cb, .slice Bb xb.den.length db] 27)))
  go_wp2_with fail
  refine (HRc.out _).mono ?_
  rintro e w4 ⟨Ac, cc, Bc, dc, rfl, hs4, hb4⟩
  have HK4 := Lib.hid (HK3a.out.next hb4)
  have HSa := Lib.hid (HSa.out.to hb4)
  have HSb := Lib.hid (HSb.out.to hb4)
  have HSc := Lib.hid hs4
  clear hb4 hs4
  have HK4a := Lib.hid (HK4.out.alloc #[.bool xc.neg, .slice Ac xc.num.length cc, .slice Bc xc.den.length dc] 27 _ rfl)
  have HSa := Lib.hid (HSa.out.to (below_new _ (.cells #[.bool xc.neg, .slice Ac xc.num.length cc, .slice Bc xc.den.length dc] 27)))
  have HSb := Lib.hid (HSb.out.to (below_new _ (.cells #[.bool xc.neg, .slice Ac xc.num.length cc, .slice Bc xc.den.length dc] 27)))
  have HSc := Lib.hid (HSc.out.to (below_new _ (.cells #[.bool xc.neg, .slice Ac xc.num.length cc, .slice Bc xc.den.length dc] 27)))
  go_wp2_with (first | (with_reducible refine wpList_load_rq (by kernel_rfl) (.tmp 9) rfl _ rfl HK4a.out.blk2 rfl ?_) | (with_reducible refine wpList_load_rq (by kernel_rfl) (.tmp 11) rfl _ rfl HK4a.out.blk1 rfl ?_))
  refine (HM.out _ _ _ _ _ _ _ _ _ HSa.out HSb.out).mono ?_
  rintro e w5 ⟨Ap, cp, Bp, dp, rfl, hs5, hb5⟩
  have HK5 := Lib.hid (HK4a.out.next hb5)
  have HSa := Lib.hid (HSa.out.to hb5)
  have HSb := Lib.hid (HSb.out.to hb5)
  have HSc := Lib.hid (HSc.out.to hb5)
  have HSp := Lib.hid hs5
  clear hb5 hs5
  have HK5a := Lib.hid (HK5.out.alloc #[.bool p.neg, .slice Ap p.num.length cp, .slice Bp p.den.length dp] 27 _ rfl)
  have HSa := Lib.hid (HSa.out.to (below_new _ (.cells #[.bool p.neg, .slice Ap p.num.length cp, .slice Bp p.den.length dp] 27)))
  have HSb := Lib.hid (HSb.out.to (below_new _ (.cells #[.bool p.neg, .slice Ap p.num.length cp, .slice Bp p.den.length dp] 27)))
  have HSc := Lib.hid (HSc.out.to (below_new _ (.cells #[.bool p.neg, .slice Ap p.num.length cp, .slice Bp p.den.length dp] 27)))
  have HSp := Lib.hid (HSp.out.to (below_new _ (.cells #[.bool p.neg, .slice Ap p.num.length cp, .slice Bp p.den.length dp] 27)))
  clear HSa
  clear HSb
  go_wp2_with (first | (with_reducible refine wpList_load_rq (by kernel_rfl) (.tmp 15) rfl _ rfl HK5a.out.blk0 rfl ?_) | (with_reducible refine wpList_load_rq (by kernel_rfl) (.tmp 13) rfl _ rfl HK5a.out.blk1 rfl ?_))
  refine (HD.out _ _ _ _ _ _ _ _ _ HSp.out HSc.out).mono ?_
  rintro e w6 ⟨Ae, ce, Be, de, rfl, hs6, hb6⟩
  have HK6 := Lib.hid (HK5a.out.next hb6)
  have HSc := Lib.hid (HSc.out.to hb6)
  have HSp := Lib.hid (HSp.out.to hb6)
  have HSe := Lib.hid hs6
  clear hb6 hs6
  have HK6a := Lib.hid (HK6.out.alloc #[.bool ex.neg, .slice Ae ex.num.length ce, .slice Be ex.den.length de] 27 _ rfl)
  have HSc := Lib.hid (HSc.out.to (below_new _ (.cells #[.bool ex.neg, .slice Ae ex.num.length ce, .slice Be ex.den.length de] 27)))
  have HSp := Lib.hid (HSp.out.to (below_new _ (.cells #[.bool ex.neg, .slice Ae ex.num.length ce, .slice Be ex.den.length de] 27)))
  have HSe := Lib.hid (HSe.out.to (below_new _ (.cells #[.bool ex.neg, .slice Ae ex.num.length ce, .slice Be ex.den.length de] 27)))
  clear HSp
  clear HSc
  go_wp2_with (first | (with_reducible refine wpList_load_rq (by kernel_rfl) (.tmp 17) rfl _ rfl HK6a.out.blk0 rfl ?_))
  refine (HB.out _ _ _ _ _ HSe.out).mono ?_
  rintro e w7 ⟨rfl, hb7⟩
  have HK7 := Lib.hid (HK6a.out.next hb7)
  have HSe := Lib.hid (HSe.out.to hb7)
  clear hb7
  clear HSe
  go_wp2_with fail
  refine (HT.out _).mono ?_
  rintro e w8 ⟨rfl, hb8⟩
  have HK8 := Lib.hid (HK7.out.next hb8)
  clear hb8
  go_wp2_with fail
  refine (HW.out _).mono ?_
  rintro e w9 ⟨rfl, hb9⟩
  have HK9 := Lib.hid (HK8.out.next hb9)
  clear hb9
  go_wp2_with fail
  go_ret
  exact ⟨rfl, HK9.out.1⟩

set_option maxRecDepth 100000 in
set_option maxHeartbeats 4000000 in
theorem share_part (a b c : Nat) (ha : a ≤ 1000000000000000) (hb : b ≤ 1000000000000000) (hc : c ≤ 1000000000000000) (h0 : c ≠ 0) (hbc : b ≤ c) (w : World) :
    Calls Try.prog 6 #[.int .i64 a, .int .i64 b, .int .i64 c] w fun e w' => e = .returned (.bool true) ∧ Below w.heap.size w w' := by
  obtain ⟨p, ex, hm, hd, hx⟩ := share_chain ha hb hc h0
  obtain ⟨s, er, hse⟩ : ∃ s er, fixQ (a * b / c) = (s, er) := ⟨_, _, rfl⟩
  rw [hse] at hx
  have HS := Lib.hid (fun wx => share_any (a : Int) (b : Int) (c : Int) s er ((shareM_ok ha hb hc h0).trans hse) wx)
  have HT := Lib.hid (fun wx => share_any (a : Int) (c : Int) (c : Int) (a : Int) 0 ((shareM_ok ha hc hc h0).trans (by rw [Nat.mul_div_cancel _ (by omega)]; exact fixQ_ok ha)) wx)
  have K0 : ((c : Int) == 0) = false := by rw [beq_eq_false_iff_ne]; omega
  obtain ⟨p1, p2⟩ := share_parts (a := a) hbc h0
  obtain ⟨q1, hq1⟩ : ∃ q, q = a * b / c := ⟨_, rfl⟩
  obtain ⟨q2, hq2⟩ : ∃ q, q = a * (c - b) / c := ⟨_, rfl⟩
  rw [← hq1, ← hq2] at p1 p2
  obtain ⟨rfl, rfl⟩ : (q1 : Int) = s ∧ 0 = er := by rw [← hq1, fixQ_ok (by omega)] at hse; simpa using hse
  have HU := Lib.hid (fun wx => share_any (a : Int) ((c - b : Nat) : Int) (c : Int) (q2 : Int) 0 ((shareM_ok ha (show c - b ≤ 1000000000000000 by omega) hc h0).trans (by rw [← hq2]; exact fixQ_ok (by omega))) wx)
  have W1 : IntKind.i64.wrap ((c : Int) - (b : Int)) = ((c - b : Nat) : Int) := (i64w (by omega) (by omega)).trans (by omega)
  obtain ⟨cb, hcb⟩ : ∃ z, z = c - b := ⟨_, rfl⟩
  rw [← hcb] at W1 HU
  have W2 : IntKind.i64.wrap ((q1 : Int) + (q2 : Int)) = ((q1 + q2 : Nat) : Int) := (i64w (by omega) (by omega)).trans (by omega)
  obtain ⟨qq, hqq⟩ : ∃ z, z = q1 + q2 := ⟨_, rfl⟩
  rw [← hqq] at W2
  have W3 : IntKind.i64.wrap ((a : Int) - 1) = (a : Int) - 1 := i64w (by omega) (by omega)
  have K1 : decide ((c : Int) < (b : Int)) = false := decide_eq_false (by omega)
  have K1' : decide (c < b) = false := decide_eq_false (by omega)
  have K2 : decide ((qq : Int) ≤ (a : Int)) = true := decide_eq_true (by omega)
  have K2' : decide (qq ≤ a) = true := decide_eq_true (by omega)
  have K3 : decide ((a : Int) - 1 ≤ (qq : Int)) = true := decide_eq_true (by omega)
  clear hq1 hq2 hcb hqq
  have HW := Lib.hid (fun wx => wakes_any wx)
  have hra := ratio_low ha
  have hrb := ratio_low hb
  have hrc := ratio_low hc
  generalize low false a 1000000000 = xa at *
  generalize low false b 1000000000 = xb at *
  generalize low false c 1000000000 = xc at *
  have HRa := Lib.hid (fun wx => ratio_any (a : Int) xa 0 hra wx)
  have HRb := Lib.hid (fun wx => ratio_any (b : Int) xb 0 hrb wx)
  have HRc := Lib.hid (fun wx => ratio_any (c : Int) xc 0 hrc wx)
  unfold RqE rqv rqs at HRa HRb HRc
  clear hra hrb hrc
  have HM := Lib.hid (fun wx A1 c1 A2 c2 A3 c3 A4 c4 (h1 : RqS wx A1 c1 A2 c2 xa) (h2 : RqS wx A3 c3 A4 c4 xb) => qMul_any xa xb p 0 A1 A2 A3 A4 c1 c2 c3 c4 _ _ _ _ _ _ wx h1 h2 rfl rfl rfl rfl rfl rfl hm)
  have HD := Lib.hid (fun wx A1 c1 A2 c2 A3 c3 A4 c4 (h1 : RqS wx A1 c1 A2 c2 p) (h2 : RqS wx A3 c3 A4 c4 xc) => qDiv_any p xc ex 0 A1 A2 A3 A4 c1 c2 c3 c4 _ _ _ _ _ _ wx h1 h2 rfl rfl rfl rfl rfl rfl hd)
  have HB := Lib.hid (fun wx A1 c1 A2 c2 (h1 : RqS wx A1 c1 A2 c2 ex) => bill_any ex A1 A2 c1 c2 _ _ (q1 : Int) 0 wx h1 rfl rfl hx)
  unfold RqE rqv rqs at HM HD
  clear hm hd hx hse
  have HK0 := Lib.hid (Kp.refl w)
  go_enter Try.func6, Try.ntmps6
  go_wp2_with fail
  refine (HS.out _).mono ?_
  rintro e w1 ⟨rfl, hb1⟩
  have HK1 := Lib.hid (HK0.out.next hb1)
  clear hb1
  go_wp2_with fail
  refine (HRa.out _).mono ?_
  rintro e w2 ⟨Aa, ca, Ba, da, rfl, hs2, hb2⟩
  have HK2 := Lib.hid (HK1.out.next hb2)
  have HSa := Lib.hid hs2
  clear hb2 hs2
  have HK2a := Lib.hid (HK2.out.alloc #[.bool xa.neg, .slice Aa xa.num.length ca, .slice Ba xa.den.length da] 27 _ rfl)
  have HSa := Lib.hid (HSa.out.to (below_new _ (.cells #[.bool xa.neg, .slice Aa xa.num.length ca, .slice Ba xa.den.length da] 27)))
  go_wp2_with fail
  refine (HRb.out _).mono ?_
  rintro e w3 ⟨Ab, cb, Bb, db, rfl, hs3, hb3⟩
  have HK3 := Lib.hid (HK2a.out.next hb3)
  have HSa := Lib.hid (HSa.out.to hb3)
  have HSb := Lib.hid hs3
  clear hb3 hs3
  have HK3a := Lib.hid (HK3.out.alloc #[.bool xb.neg, .slice Ab xb.num.length cb, .slice Bb xb.den.length db] 27 _ rfl)
  have HSa := Lib.hid (HSa.out.to (below_new _ (.cells #[.bool xb.neg, .slice Ab xb.num.length cb, .slice Bb xb.den.length db] 27)))
  have HSb := Lib.hid (HSb.out.to (below_new _ (.cells #[.bool xb.neg, .slice Ab xb.num.length cb, .slice Bb xb.den.length db] 27)))
  go_wp2_with fail
  refine (HRc.out _).mono ?_
  rintro e w4 ⟨Ac, cc, Bc, dc, rfl, hs4, hb4⟩
  have HK4 := Lib.hid (HK3a.out.next hb4)
  have HSa := Lib.hid (HSa.out.to hb4)
  have HSb := Lib.hid (HSb.out.to hb4)
  have HSc := Lib.hid hs4
  clear hb4 hs4
  have HK4a := Lib.hid (HK4.out.alloc #[.bool xc.neg, .slice Ac xc.num.length cc, .slice Bc xc.den.length dc] 27 _ rfl)
  have HSa := Lib.hid (HSa.out.to (below_new _ (.cells #[.bool xc.neg, .slice Ac xc.num.length cc, .slice Bc xc.den.length dc] 27)))
  have HSb := Lib.hid (HSb.out.to (below_new _ (.cells #[.bool xc.neg, .slice Ac xc.num.length cc, .slice Bc xc.den.length dc] 27)))
  have HSc := Lib.hid (HSc.out.to (below_new _ (.cells #[.bool xc.neg, .slice Ac xc.num.length cc, .slice Bc xc.den.length dc] 27)))
  go_wp2_with (first | (with_reducible refine wpList_load_rq (by kernel_rfl) (.tmp 9) rfl _ rfl HK4a.out.blk2 rfl ?_) | (with_reducible refine wpList_load_rq (by kernel_rfl) (.tmp 11) rfl _ rfl HK4a.out.blk1 rfl ?_))
  refine (HM.out _ _ _ _ _ _ _ _ _ HSa.out HSb.out).mono ?_
  rintro e w5 ⟨Ap, cp, Bp, dp, rfl, hs5, hb5⟩
  have HK5 := Lib.hid (HK4a.out.next hb5)
  have HSa := Lib.hid (HSa.out.to hb5)
  have HSb := Lib.hid (HSb.out.to hb5)
  have HSc := Lib.hid (HSc.out.to hb5)
  have HSp := Lib.hid hs5
  clear hb5 hs5
  have HK5a := Lib.hid (HK5.out.alloc #[.bool p.neg, .slice Ap p.num.length cp, .slice Bp p.den.length dp] 27 _ rfl)
  have HSa := Lib.hid (HSa.out.to (below_new _ (.cells #[.bool p.neg, .slice Ap p.num.length cp, .slice Bp p.den.length dp] 27)))
  have HSb := Lib.hid (HSb.out.to (below_new _ (.cells #[.bool p.neg, .slice Ap p.num.length cp, .slice Bp p.den.length dp] 27)))
  have HSc := Lib.hid (HSc.out.to (below_new _ (.cells #[.bool p.neg, .slice Ap p.num.length cp, .slice Bp p.den.length dp] 27)))
  have HSp := Lib.hid (HSp.out.to (below_new _ (.cells #[.bool p.neg, .slice Ap p.num.length cp, .slice Bp p.den.length dp] 27)))
  clear HSa
  clear HSb
  go_wp2_with (first | (with_reducible refine wpList_load_rq (by kernel_rfl) (.tmp 15) rfl _ rfl HK5a.out.blk0 rfl ?_) | (with_reducible refine wpList_load_rq (by kernel_rfl) (.tmp 13) rfl _ rfl HK5a.out.blk1 rfl ?_))
  refine (HD.out _ _ _ _ _ _ _ _ _ HSp.out HSc.out).mono ?_
  rintro e w6 ⟨Ae, ce, Be, de, rfl, hs6, hb6⟩
  have HK6 := Lib.hid (HK5a.out.next hb6)
  have HSc := Lib.hid (HSc.out.to hb6)
  have HSp := Lib.hid (HSp.out.to hb6)
  have HSe := Lib.hid hs6
  clear hb6 hs6
  have HK6a := Lib.hid (HK6.out.alloc #[.bool ex.neg, .slice Ae ex.num.length ce, .slice Be ex.den.length de] 27 _ rfl)
  have HSc := Lib.hid (HSc.out.to (below_new _ (.cells #[.bool ex.neg, .slice Ae ex.num.length ce, .slice Be ex.den.length de] 27)))
  have HSp := Lib.hid (HSp.out.to (below_new _ (.cells #[.bool ex.neg, .slice Ae ex.num.length ce, .slice Be ex.den.length de] 27)))
  have HSe := Lib.hid (HSe.out.to (below_new _ (.cells #[.bool ex.neg, .slice Ae ex.num.length ce, .slice Be ex.den.length de] 27)))
  clear HSp
  clear HSc
  go_wp2_with (first | (with_reducible refine wpList_load_rq (by kernel_rfl) (.tmp 17) rfl _ rfl HK6a.out.blk0 rfl ?_))
  refine (HB.out _ _ _ _ _ HSe.out).mono ?_
  rintro e w7 ⟨rfl, hb7⟩
  have HK7 := Lib.hid (HK6a.out.next hb7)
  have HSe := Lib.hid (HSe.out.to hb7)
  clear hb7
  clear HSe
  go_wp2_with fail
  refine (HT.out _).mono ?_
  rintro e w8 ⟨rfl, hb8⟩
  have HK8 := Lib.hid (HK7.out.next hb8)
  clear hb8
  go_wp2_with fail
  refine (HU.out _).mono ?_
  rintro e w9 ⟨rfl, hb9⟩
  have HK9 := Lib.hid (HK8.out.next hb9)
  clear hb9
  go_wp2_with fail
  refine (HW.out _).mono ?_
  rintro e w10 ⟨rfl, hb10⟩
  have HK10 := Lib.hid (HK9.out.next hb10)
  clear hb10
  go_wp2_with fail
  go_ret
  exact ⟨rfl, HK10.out.1⟩

set_option maxRecDepth 100000 in
set_option maxHeartbeats 4000000 in
theorem quotaShare_any (a b c : Int) (w : World) :
    Calls Try.prog 6 #[.int .i64 a, .int .i64 b, .int .i64 c] w fun e w' => e = .returned (.bool true) ∧ Below w.heap.size w w' := by
  cases ha : inQ a with
  | false => exact share_bad_a a b c ha w
  | true =>
    cases hb : inQ b with
    | false => exact share_bad_b a b c hb ha w
    | true =>
      cases hc : inQ c with
      | false => exact share_bad_c a b c hc ha hb w
      | true =>
        obtain ⟨x, rfl, hx⟩ := inQ_nat ha
        obtain ⟨y, rfl, hy⟩ := inQ_nat hb
        obtain ⟨z, rfl, hz⟩ := inQ_nat hc
        by_cases h0 : z = 0
        · exact share_none x y z hx hy hz h0 w
        · by_cases h1 : y ≤ z
          · exact share_part x y z hx hy hz h0 h1 w
          · exact share_more x y z hx hy hz h0 h1 w
end Go.Proofs.Ytefoccjphbbmhaa
