/- QuotaTells, walked. Written by tools/tells17.py. -/
import Derived.Test.YtefoccjphbbmhaaQw
import Derived.Test.YtefoccjphbbmhaaTb
namespace Go.Proofs.Ytefoccjphbbmhaa
open Go.RowKit
set_option linter.unusedVariables false

set_option maxRecDepth 100000 in
set_option maxHeartbeats 4000000 in
theorem quotaTells_any (a b : Int) (w : World) :
    Calls Try.prog 3 #[.int .i64 a, .int .i64 b] w fun e w' => e = .returned (.bool true) ∧ Below w.heap.size w w' := by
  have HW := Lib.hid (fun wx => wakes_any wx)
  obtain ⟨v, e0, hd⟩ : ∃ v e, droopM a b = (v, e) := ⟨_, _, rfl⟩
  obtain ⟨x, e1, hh⟩ : ∃ v e, hareM a b = (v, e) := ⟨_, _, rfl⟩
  obtain ⟨y, e2, hg⟩ : ∃ v e, hagM a b = (v, e) := ⟨_, _, rfl⟩
  have C1 := Lib.hid (fun wx => droop_any a b v e0 hd wx)
  have C2 := Lib.hid (fun wx => rdroop_any a b v e0 hd wx)
  have C3 := Lib.hid (fun wx => hare_any a b x e1 hh wx)
  have C4 := Lib.hid (fun wx => rhare_any a b x e1 hh wx)
  have C5 := Lib.hid (fun wx => hag_any a b y e2 hg wx)
  have C6 := Lib.hid (fun wx => rhag_any a b y e2 hg wx)
  have SX := Lib.hid (fun wx A c B d A' c' B' d' (hs : RqS wx A c B d x) (hs' : RqS wx A' c' B' d' x) => rsame4_any x x A B A' B' c d c' d' _ _ _ _ _ _ true wx hs hs' rfl rfl rfl rfl rfl rfl (decide_eq_true rfl))
  have SY := Lib.hid (fun wx A c B d A' c' B' d' (hs : RqS wx A c B d y) (hs' : RqS wx A' c' B' d' y) => rsame4_any y y A B A' B' c d c' d' _ _ _ _ _ _ true wx hs hs' rfl rfl rfl rfl rfl rfl (decide_eq_true rfl))
  unfold RqE rqv rqs at C3 C4 C5 C6
  clear hd hh hg
  have HK0 := Lib.hid (Kp.refl w)
  go_enter Try.func3, Try.ntmps3
  go_wp2_with fail
  refine (C1.out _).mono ?_
  rintro e w1 ⟨rfl, hb1⟩
  have HK1 := Lib.hid (HK0.out.next hb1)
  clear hb1
  go_wp2_with fail
  refine (C2.out _).mono ?_
  rintro e w2 ⟨rfl, hb2⟩
  have HK2 := Lib.hid (HK1.out.next hb2)
  clear hb2
  go_wp2_with fail
  refine (C3.out _).mono ?_
  rintro e w3 ⟨Ap, cp, Bp, dp, rfl, hs3, hb3⟩
  have HK3 := Lib.hid (HK2.out.next hb3)
  have HSp := Lib.hid hs3
  clear hb3 hs3
  have HK3a := Lib.hid (HK3.out.alloc #[.bool x.neg, .slice Ap x.num.length cp, .slice Bp x.den.length dp] 27 _ rfl)
  have HSp := Lib.hid (HSp.out.to (below_new _ (.cells #[.bool x.neg, .slice Ap x.num.length cp, .slice Bp x.den.length dp] 27)))
  go_wp2_with fail
  refine (C4.out _).mono ?_
  rintro e w4 ⟨Aq, cq, Bq, dq, rfl, hs4, hb4⟩
  have HK4 := Lib.hid (HK3a.out.next hb4)
  have HSp := Lib.hid (HSp.out.to hb4)
  have HSq := Lib.hid hs4
  clear hb4 hs4
  have HK4a := Lib.hid (HK4.out.alloc #[.bool x.neg, .slice Aq x.num.length cq, .slice Bq x.den.length dq] 27 _ rfl)
  have HSp := Lib.hid (HSp.out.to (below_new _ (.cells #[.bool x.neg, .slice Aq x.num.length cq, .slice Bq x.den.length dq] 27)))
  have HSq := Lib.hid (HSq.out.to (below_new _ (.cells #[.bool x.neg, .slice Aq x.num.length cq, .slice Bq x.den.length dq] 27)))
  go_wp2_with fail
  refine (C5.out _).mono ?_
  rintro e w5 ⟨Ar, cr, Br, dr, rfl, hs5, hb5⟩
  have HK5 := Lib.hid (HK4a.out.next hb5)
  have HSp := Lib.hid (HSp.out.to hb5)
  have HSq := Lib.hid (HSq.out.to hb5)
  have HSr := Lib.hid hs5
  clear hb5 hs5
  have HK5a := Lib.hid (HK5.out.alloc #[.bool y.neg, .slice Ar y.num.length cr, .slice Br y.den.length dr] 27 _ rfl)
  have HSp := Lib.hid (HSp.out.to (below_new _ (.cells #[.bool y.neg, .slice Ar y.num.length cr, .slice Br y.den.length dr] 27)))
  have HSq := Lib.hid (HSq.out.to (below_new _ (.cells #[.bool y.neg, .slice Ar y.num.length cr, .slice Br y.den.length dr] 27)))
  have HSr := Lib.hid (HSr.out.to (below_new _ (.cells #[.bool y.neg, .slice Ar y.num.length cr, .slice Br y.den.length dr] 27)))
  go_wp2_with fail
  refine (C6.out _).mono ?_
  rintro e w6 ⟨As, cs, Bs, ds, rfl, hs6, hb6⟩
  have HK6 := Lib.hid (HK5a.out.next hb6)
  have HSp := Lib.hid (HSp.out.to hb6)
  have HSq := Lib.hid (HSq.out.to hb6)
  have HSr := Lib.hid (HSr.out.to hb6)
  have HSs := Lib.hid hs6
  clear hb6 hs6
  have HK6a := Lib.hid (HK6.out.alloc #[.bool y.neg, .slice As y.num.length cs, .slice Bs y.den.length ds] 27 _ rfl)
  have HSp := Lib.hid (HSp.out.to (below_new _ (.cells #[.bool y.neg, .slice As y.num.length cs, .slice Bs y.den.length ds] 27)))
  have HSq := Lib.hid (HSq.out.to (below_new _ (.cells #[.bool y.neg, .slice As y.num.length cs, .slice Bs y.den.length ds] 27)))
  have HSr := Lib.hid (HSr.out.to (below_new _ (.cells #[.bool y.neg, .slice As y.num.length cs, .slice Bs y.den.length ds] 27)))
  have HSs := Lib.hid (HSs.out.to (below_new _ (.cells #[.bool y.neg, .slice As y.num.length cs, .slice Bs y.den.length ds] 27)))
  go_wp2_with (first | (with_reducible refine wpList_load_rq (by kernel_rfl) (.tmp 9) rfl _ rfl HK6a.out.blk3 rfl ?_) | (with_reducible refine wpList_load_rq (by kernel_rfl) (.tmp 11) rfl _ rfl HK6a.out.blk2 rfl ?_))
  refine (SX.out _ _ _ _ _ _ _ _ _ HSp.out HSq.out).mono ?_
  rintro e w7 ⟨rfl, hb7⟩
  have HK7 := Lib.hid (HK6a.out.next hb7)
  have HSp := Lib.hid (HSp.out.to hb7)
  have HSq := Lib.hid (HSq.out.to hb7)
  have HSr := Lib.hid (HSr.out.to hb7)
  have HSs := Lib.hid (HSs.out.to hb7)
  clear hb7
  clear HSp
  clear HSq
  go_wp2_with (first | (with_reducible refine wpList_load_rq (by kernel_rfl) (.tmp 13) rfl _ rfl HK7.out.blk1 rfl ?_) | (with_reducible refine wpList_load_rq (by kernel_rfl) (.tmp 15) rfl _ rfl HK7.out.blk0 rfl ?_))
  refine (SY.out _ _ _ _ _ _ _ _ _ HSr.out HSs.out).mono ?_
  rintro e w8 ⟨rfl, hb8⟩
  have HK8 := Lib.hid (HK7.out.next hb8)
  have HSr := Lib.hid (HSr.out.to hb8)
  have HSs := Lib.hid (HSs.out.to hb8)
  clear hb8
  clear HSr
  clear HSs
  go_wp2_with fail
  refine (HW.out _).mono ?_
  rintro e w9 ⟨rfl, hb9⟩
  have HK9 := Lib.hid (HK8.out.next hb9)
  clear hb9
  go_wp2_with fail
  go_ret
  exact ⟨rfl, HK9.out.1⟩
end Go.Proofs.Ytefoccjphbbmhaa
