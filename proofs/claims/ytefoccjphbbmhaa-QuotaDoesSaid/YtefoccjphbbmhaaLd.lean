/- QuotaDoes, walked. Written by tools/does17.py. -/
import Derived.Test.YtefoccjphbbmhaaQw
import Derived.Test.YtefoccjphbbmhaaTg
namespace Go.Proofs.Ytefoccjphbbmhaa
open Go.RowKit
set_option linter.unusedVariables false

set_option maxRecDepth 100000 in
set_option maxHeartbeats 4000000 in
theorem does_long1 (a b c : Int) (x : Rq) (A B : Option Addr) (ca cb k1 k2 : Nat) (n : Bool) (w : World) (hr : RqS w A ca B cb x) (e1 : x.neg = n) (h1 : x.num.length = k1) (h2 : x.den.length = k2) (hl : 200 < k1) :
    Calls Try.prog 4 #[.int .i64 a, .int .i64 b, .int .i64 c, .agg #[.bool n, .slice A k1 ca, .slice B k2 cb]] w fun e w' => e = .returned (.bool true) ∧ Below w.heap.size w w' := by
  have HW := Lib.hid (fun wx => wakes_any wx)
  have d1 : decide (200 < k1) = true := decide_eq_true (by omega)
  have d1' : decide (200 < (k1 : Int)) = true := decide_eq_true (by omega)
  have HK0 := Lib.hid ((Kp.refl w).alloc #[.bool n, .slice A k1 ca, .slice B k2 cb] 27 _ rfl)
  clear hr e1 h1 h2
  go_enter Try.func4, Try.ntmps4
  go_wp2_with fail
  refine (HW.out _).mono ?_
  rintro e w1 ⟨rfl, hb1⟩
  have HK1 := Lib.hid (HK0.out.next hb1)
  clear hb1
  go_wp2_with fail
  go_ret
  exact ⟨rfl, HK1.out.1⟩
set_option maxRecDepth 100000 in
set_option maxHeartbeats 4000000 in
theorem does_long2 (a b c : Int) (x : Rq) (A B : Option Addr) (ca cb k1 k2 : Nat) (n : Bool) (w : World) (hr : RqS w A ca B cb x) (e1 : x.neg = n) (h1 : x.num.length = k1) (h2 : x.den.length = k2) (hl : ¬ 200 < k1) (hl2 : 200 < k2) :
    Calls Try.prog 4 #[.int .i64 a, .int .i64 b, .int .i64 c, .agg #[.bool n, .slice A k1 ca, .slice B k2 cb]] w fun e w' => e = .returned (.bool true) ∧ Below w.heap.size w w' := by
  have HW := Lib.hid (fun wx => wakes_any wx)
  have d1 : decide (200 < k1) = false := decide_eq_false (by omega)
  have d1' : decide (200 < (k1 : Int)) = false := decide_eq_false (by omega)
  have d2 : decide (200 < k2) = true := decide_eq_true (by omega)
  have d2' : decide (200 < (k2 : Int)) = true := decide_eq_true (by omega)
  have HK0 := Lib.hid ((Kp.refl w).alloc #[.bool n, .slice A k1 ca, .slice B k2 cb] 27 _ rfl)
  clear hr e1 h1 h2
  go_enter Try.func4, Try.ntmps4
  go_wp2_with fail
  refine (HW.out _).mono ?_
  rintro e w1 ⟨rfl, hb1⟩
  have HK1 := Lib.hid (HK0.out.next hb1)
  clear hb1
  go_wp2_with fail
  go_ret
  exact ⟨rfl, HK1.out.1⟩
set_option maxRecDepth 100000 in
set_option maxHeartbeats 4000000 in
theorem does_short (a b c : Int) (x : Rq) (A B : Option Addr) (ca cb k1 k2 : Nat) (n : Bool) (w : World) (hr : RqS w A ca B cb x) (e1 : x.neg = n) (h1 : x.num.length = k1) (h2 : x.den.length = k2) (hl : ¬ 200 < k1) (hl2 : ¬ 200 < k2) :
    Calls Try.prog 4 #[.int .i64 a, .int .i64 b, .int .i64 c, .agg #[.bool n, .slice A k1 ca, .slice B k2 cb]] w fun e w' => e = .returned (.bool true) ∧ Below w.heap.size w w' := by
  have HW := Lib.hid (fun wx => wakes_any wx)
  have d1 : decide (200 < k1) = false := decide_eq_false (by omega)
  have d1' : decide (200 < (k1 : Int)) = false := decide_eq_false (by omega)
  have d2 : decide (200 < k2) = false := decide_eq_false (by omega)
  have d2' : decide (200 < (k2 : Int)) = false := decide_eq_false (by omega)
  obtain ⟨v1, r1, m1⟩ : ∃ v e, shareM a b 1000000000 = (v, e) := ⟨_, _, rfl⟩
  obtain ⟨v2, r2, m2⟩ : ∃ v e, upM a b = (v, e) := ⟨_, _, rfl⟩
  obtain ⟨v3, r3, m3⟩ : ∃ v e, shareM a b c = (v, e) := ⟨_, _, rfl⟩
  obtain ⟨y, r4, m4⟩ : ∃ v e, ratioM a = (v, e) := ⟨_, _, rfl⟩
  obtain ⟨v5, r5, m5⟩ : ∃ v e, billM x = (v, e) := ⟨_, _, rfl⟩
  have C1 := Lib.hid (fun wx => down_any a b v1 r1 m1 wx)
  have C2 := Lib.hid (fun wx => rdown_any a b v1 r1 m1 wx)
  have C3 := Lib.hid (fun wx => up_any a b v2 r2 m2 wx)
  have C4 := Lib.hid (fun wx => rup_any a b v2 r2 m2 wx)
  have C5 := Lib.hid (fun wx => share_any a b c v3 r3 m3 wx)
  have C6 := Lib.hid (fun wx => rshare_any a b c v3 r3 m3 wx)
  have C7 := Lib.hid (fun wx => ratio_any a y r4 m4 wx)
  have C8 := Lib.hid (fun wx => rratio_any a y r4 m4 wx)
  have C9 := Lib.hid (fun wx bs (hk : Kp w bs wx) => bill_any x A B ca cb k1 k2 v5 r5 wx (hr.to hk.1) h1 h2 m5)
  have C10 := Lib.hid (fun wx bs (hk : Kp w bs wx) => rbill_any x A B ca cb k1 k2 v5 r5 wx (hr.to hk.1) h1 h2 m5)
  rw [e1] at C9 C10
  have SY := Lib.hid (fun wx A c B d A' c' B' d' (hs : RqS wx A c B d y) (hs' : RqS wx A' c' B' d' y) => rsame4_any y y A B A' B' c d c' d' _ _ _ _ _ _ true wx hs hs' rfl rfl rfl rfl rfl rfl (decide_eq_true rfl))
  unfold RqE rqv rqs at C7 C8
  have HK0 := Lib.hid ((Kp.refl w).alloc #[.bool n, .slice A k1 ca, .slice B k2 cb] 27 _ rfl)
  clear m1 m2 m3 m4 m5 hr e1 h1 h2
  go_enter Try.func4, Try.ntmps4
  go_wp2_with fail
  refine (C1.out _).mono ?_
  rintro e w1 ⟨rfl, hb1⟩
  have HK1 := Lib.hid (HK0.out.next hb1)
  clear hb1
  go_wp2_with fail
  refine (C2.out _).mono ?_
  rintro e w2 ⟨rfl, hb2⟩
  have HK2 := Lib.hid (HK1.out.next hb2)
  clear hb2
  go_wp2_with fail
  refine (C3.out _).mono ?_
  rintro e w3 ⟨rfl, hb3⟩
  have HK3 := Lib.hid (HK2.out.next hb3)
  clear hb3
  go_wp2_with fail
  refine (C4.out _).mono ?_
  rintro e w4 ⟨rfl, hb4⟩
  have HK4 := Lib.hid (HK3.out.next hb4)
  clear hb4
  go_wp2_with fail
  refine (C5.out _).mono ?_
  rintro e w5 ⟨rfl, hb5⟩
  have HK5 := Lib.hid (HK4.out.next hb5)
  clear hb5
  go_wp2_with fail
  refine (C6.out _).mono ?_
  rintro e w6 ⟨rfl, hb6⟩
  have HK6 := Lib.hid (HK5.out.next hb6)
  clear hb6
  go_wp2_with fail
  refine (C7.out _).mono ?_
  rintro e w7 ⟨Ap, cp, Bp, dp, rfl, hs7, hb7⟩
  have HK7 := Lib.hid (HK6.out.next hb7)
  have HSp := Lib.hid hs7
  clear hb7 hs7
  have HK7a := Lib.hid (HK7.out.alloc #[.bool y.neg, .slice Ap y.num.length cp, .slice Bp y.den.length dp] 27 _ rfl)
  have HSp := Lib.hid (HSp.out.to (below_new _ (.cells #[.bool y.neg, .slice Ap y.num.length cp, .slice Bp y.den.length dp] 27)))
  go_wp2_with fail
  refine (C8.out _).mono ?_
  rintro e w8 ⟨Aq, cq, Bq, dq, rfl, hs8, hb8⟩
  have HK8 := Lib.hid (HK7a.out.next hb8)
  have HSp := Lib.hid (HSp.out.to hb8)
  have HSq := Lib.hid hs8
  clear hb8 hs8
  have HK8a := Lib.hid (HK8.out.alloc #[.bool y.neg, .slice Aq y.num.length cq, .slice Bq y.den.length dq] 27 _ rfl)
  have HSp := Lib.hid (HSp.out.to (below_new _ (.cells #[.bool y.neg, .slice Aq y.num.length cq, .slice Bq y.den.length dq] 27)))
  have HSq := Lib.hid (HSq.out.to (below_new _ (.cells #[.bool y.neg, .slice Aq y.num.length cq, .slice Bq y.den.length dq] 27)))
  go_wp2_with (first | (with_reducible refine wpList_load_rq (by kernel_rfl) (.tmp 7) rfl _ rfl HK8a.out.blk2 rfl ?_))
  refine (C9.out _ _ HK8a.out).mono ?_
  rintro e w9 ⟨rfl, hb9⟩
  have HK9 := Lib.hid (HK8a.out.next hb9)
  have HSp := Lib.hid (HSp.out.to hb9)
  have HSq := Lib.hid (HSq.out.to hb9)
  clear hb9
  go_wp2_with (first | (with_reducible refine wpList_load_rq (by kernel_rfl) (.tmp 7) rfl _ rfl HK9.out.blk2 rfl ?_))
  refine (C10.out _ _ HK9.out).mono ?_
  rintro e w10 ⟨rfl, hb10⟩
  have HK10 := Lib.hid (HK9.out.next hb10)
  have HSp := Lib.hid (HSp.out.to hb10)
  have HSq := Lib.hid (HSq.out.to hb10)
  clear hb10
  go_wp2_with (first | (with_reducible refine wpList_load_rq (by kernel_rfl) (.tmp 21) rfl _ rfl HK10.out.blk1 rfl ?_) | (with_reducible refine wpList_load_rq (by kernel_rfl) (.tmp 23) rfl _ rfl HK10.out.blk0 rfl ?_))
  refine (SY.out _ _ _ _ _ _ _ _ _ HSp.out HSq.out).mono ?_
  rintro e w11 ⟨rfl, hb11⟩
  have HK11 := Lib.hid (HK10.out.next hb11)
  have HSp := Lib.hid (HSp.out.to hb11)
  have HSq := Lib.hid (HSq.out.to hb11)
  clear hb11
  clear HSp
  clear HSq
  go_wp2_with fail
  refine (HW.out _).mono ?_
  rintro e w12 ⟨rfl, hb12⟩
  have HK12 := Lib.hid (HK11.out.next hb12)
  clear hb12
  go_wp2_with fail
  go_ret
  exact ⟨rfl, HK12.out.1⟩
theorem quotaDoes_any (a b c : Int) (x : Rq) (A B : Option Addr) (ca cb k1 k2 : Nat) (n : Bool) (w : World) (hr : RqS w A ca B cb x) (e1 : x.neg = n) (h1 : x.num.length = k1) (h2 : x.den.length = k2) :
    Calls Try.prog 4 #[.int .i64 a, .int .i64 b, .int .i64 c, .agg #[.bool n, .slice A k1 ca, .slice B k2 cb]] w fun e w' => e = .returned (.bool true) ∧ Below w.heap.size w w' := by
  by_cases hl : 200 < k1
  · exact does_long1 a b c x A B ca cb k1 k2 n w hr e1 h1 h2 hl
  · by_cases hl2 : 200 < k2
    · exact does_long2 a b c x A B ca cb k1 k2 n w hr e1 h1 h2 hl hl2
    · exact does_short a b c x A B ca cb k1 k2 n w hr e1 h1 h2 hl hl2
end Go.Proofs.Ytefoccjphbbmhaa
