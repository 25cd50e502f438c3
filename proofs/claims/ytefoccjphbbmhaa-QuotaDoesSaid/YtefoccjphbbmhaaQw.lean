/- The law's examples. Written by tools/wakes17.py. -/
import Derived.Test.YtefoccjphbbmhaaQo
namespace Go.Proofs.Ytefoccjphbbmhaa
open Go.RowKit
set_option linter.unusedVariables false
set_option linter.unusedSimpArgs false

theorem ex_down : shareM 1500000000 1 1000000000 = (1, 0) := (shareM_ok (a := 1500000000) (b := 1) (c := 1000000000) (by decide) (by decide) (by decide) (by decide)).trans (fixQ_ok (q := 1) (by decide))
theorem ex_up : upM 1500000000 1 = (2, 0) := (upM_ok (a := 1500000000) (b := 1) (by decide) (by decide)).trans (fixQ_ok (q := 2) (by decide))
theorem ex_share : shareM 2000000000 1000000000 3000000000 = (666666666, 0) := (shareM_ok (a := 2000000000) (b := 1000000000) (c := 3000000000) (by decide) (by decide) (by decide) (by decide)).trans (fixQ_ok (q := 666666666) (by decide))
theorem ex_zero : shareM 1 1 0 = (0, 40) := shareM_zero ⟨by decide, by decide⟩
theorem ex_great : shareM 1000000000000000 1000000000000000 1 = (0, 30) := (shareM_ok (a := 1000000000000000) (b := 1000000000000000) (c := 1) (by decide) (by decide) (by decide) (by decide)).trans (fixQ_great (q := 1000000000000000000000000000000) (by decide))
theorem ex_droop : droopM 100 3 = (26, 0) := droopM_yes (by decide)
theorem ex_droop2 : droopM 100 0 = (0, 2) := droopM_no (by decide)
theorem ex_droop3 : droopM (-1) 1 = (0, 2) := droopM_no (by decide)
theorem ex_third : ofR 100 3 = (low false 100 3, 0) := ofR_nat (n := 100) (d := 3) (by decide)
theorem ex_hare : hareM 100 3 = (low false 100 3, 0) := (hareM_yes (by decide)).trans ex_third
theorem ex_25 : ofR 25 1 = (low false 25 1, 0) := ofR_nat (n := 25) (d := 1) (by decide)
theorem ex_four : low false 100 4 = low false 25 1 := rfl
theorem ex_hag : hagM 100 3 = (low false 25 1, 0) := ((hagM_yes (by decide)).trans (ofR_nat (n := 100) (d := 4) (by decide))).trans (by rw [ex_four])
theorem ex_half : ofR 1 2 = (low false 1 2, 0) := ofR_nat (n := 1) (d := 2) (by decide)
theorem ex_half2 : low false 500000000 1000000000 = low false 1 2 := rfl
theorem ex_ratio : ratioM 500000000 = (low false 1 2, 0) := ((ratioM_yes (by decide)).trans (ofR_nat (n := 500000000) (d := 1000000000) (by decide))).trans (by rw [ex_half2])
theorem ex_b1 : ofR 2 3 = (low false 2 3, 0) := ofR_nat (n := 2) (d := 3) (by decide)
theorem ex_b2 : ofR (-1) 3 = (low true 1 3, 0) := ofR_neg (n := 1) (d := 3) (by decide) (by decide)
theorem ex_b3 : ofR 1000001 1 = (low false 1000001 1, 0) := ofR_nat (n := 1000001) (d := 1) (by decide)
theorem ex_b4 : ofR 1000000 1 = (low false 1000000 1, 0) := ofR_nat (n := 1000000) (d := 1) (by decide)
theorem ex_c1 : billM (low false 2 3) = (666666666, 0) := (bill_of (n := 2) (d := 3) (by decide) (by decide) (by decide)).trans (fixQ_ok (q := 666666666) (by decide))
theorem ex_c2 : billM (low true 1 3) = (0, 2) := bill_neg (by decide) (by decide)
theorem ex_c3 : billM (low false 1000001 1) = (0, 30) := (bill_of (n := 1000001) (d := 1) (by decide) (by decide) (by decide)).trans (fixQ_great (q := 1000001000000000) (by decide))
theorem ex_c4 : billM (low false 1000000 1) = (1000000000000000, 0) := (bill_of (n := 1000000) (d := 1) (by decide) (by decide) (by decide)).trans (fixQ_ok (q := 1000000000000000) (by decide))

set_option maxRecDepth 100000 in
set_option maxHeartbeats 4000000 in
theorem wakes_any (w : World) : Calls Try.prog 14 #[] w fun e w' => e = .returned (.bool true) ∧ Below w.heap.size w w' := by
  have E1 := ex_third; have E2 := ex_hare; have E3 := ex_25; have E4 := ex_hag; have E5 := ex_half; have E6 := ex_ratio
  have B1 := ex_b1; have B2 := ex_b2; have B3 := ex_b3; have B4 := ex_b4; have D1 := ex_c1; have D2 := ex_c2; have D3 := ex_c3; have D4 := ex_c4
  generalize low false 100 3 = x1 at *
  generalize low false 25 1 = x2 at *
  generalize low false 1 2 = x3 at *
  generalize low false 2 3 = y1 at *
  generalize low true 1 3 = y2 at *
  generalize low false 1000001 1 = y3 at *
  generalize low false 1000000 1 = y4 at *
  have C1 := Lib.hid (fun wx => droop_any 100 3 26 0 ex_droop wx)
  have C2 := Lib.hid (fun wx => hare_any 100 3 x1 0 E2 wx)
  have C3 := Lib.hid (fun wx => hag_any 100 3 x2 0 E4 wx)
  have C4 := Lib.hid (fun wx => droop_any 100 0 0 2 ex_droop2 wx)
  have C5 := Lib.hid (fun wx => droop_any (-1) 1 0 2 ex_droop3 wx)
  have C6 := Lib.hid (fun wx => down_any 1500000000 1 1 0 ex_down wx)
  have C7 := Lib.hid (fun wx => up_any 1500000000 1 2 0 ex_up wx)
  have C8 := Lib.hid (fun wx => share_any 2000000000 1000000000 3000000000 666666666 0 ex_share wx)
  have C9 := Lib.hid (fun wx => share_any 1 1 0 0 40 ex_zero wx)
  have C10 := Lib.hid (fun wx => share_any 1000000000000000 1000000000000000 1 0 30 ex_great wx)
  have C11 := Lib.hid (fun wx => ratio_any 500000000 x3 0 E6 wx)
  have O1 := Lib.hid (fun wx => lawOf_any 2 3 y1 0 (by omega) (by omega) (by omega) (by omega) B1 wx)
  have F1 := Lib.hid (fun wx A c B d (hs : RqS wx A c B d y1) => bill_any y1 A B c d _ _ 666666666 0 wx hs rfl rfl D1)
  have O2 := Lib.hid (fun wx => lawOf_any (-1) 3 y2 0 (by omega) (by omega) (by omega) (by omega) B2 wx)
  have F2 := Lib.hid (fun wx A c B d (hs : RqS wx A c B d y2) => bill_any y2 A B c d _ _ 0 2 wx hs rfl rfl D2)
  have O3 := Lib.hid (fun wx => lawOf_any 1000001 1 y3 0 (by omega) (by omega) (by omega) (by omega) B3 wx)
  have F3 := Lib.hid (fun wx A c B d (hs : RqS wx A c B d y3) => bill_any y3 A B c d _ _ 0 30 wx hs rfl rfl D3)
  have O4 := Lib.hid (fun wx => lawOf_any 1000000 1 y4 0 (by omega) (by omega) (by omega) (by omega) B4 wx)
  have F4 := Lib.hid (fun wx A c B d (hs : RqS wx A c B d y4) => bill_any y4 A B c d _ _ 1000000000000000 0 wx hs rfl rfl D4)
  have P1 := Lib.hid (fun wx => lawOf_any 100 3 x1 0 (by omega) (by omega) (by omega) (by omega) E1 wx)
  have S1 := Lib.hid (fun wx A c B d A' c' B' d' (hs : RqS wx A c B d x1) (hs' : RqS wx A' c' B' d' x1) => rsame4_any x1 x1 A B A' B' c d c' d' _ _ _ _ _ _ true wx hs hs' rfl rfl rfl rfl rfl rfl (decide_eq_true rfl))
  have P2 := Lib.hid (fun wx => lawOf_any 25 1 x2 0 (by omega) (by omega) (by omega) (by omega) E3 wx)
  have S2 := Lib.hid (fun wx A c B d A' c' B' d' (hs : RqS wx A c B d x2) (hs' : RqS wx A' c' B' d' x2) => rsame4_any x2 x2 A B A' B' c d c' d' _ _ _ _ _ _ true wx hs hs' rfl rfl rfl rfl rfl rfl (decide_eq_true rfl))
  have P3 := Lib.hid (fun wx => lawOf_any 1 2 x3 0 (by omega) (by omega) (by omega) (by omega) E5 wx)
  have S3 := Lib.hid (fun wx A c B d A' c' B' d' (hs : RqS wx A c B d x3) (hs' : RqS wx A' c' B' d' x3) => rsame4_any x3 x3 A B A' B' c d c' d' _ _ _ _ _ _ true wx hs hs' rfl rfl rfl rfl rfl rfl (decide_eq_true rfl))
  unfold RqE rqv rqs at C2 C3 C11
  unfold RqR rqv rqs at O1 O2 O3 O4 P1 P2 P3
  clear E1 E2 E3 E4 E5 E6 B1 B2 B3 B4 D1 D2 D3 D4
  have HK0 := Lib.hid (Kp.refl w)
  go_enter Try.func14, Try.ntmps14
  go_wp2_with fail
  refine (C1.out _).mono ?_
  rintro e w1 ⟨rfl, hb1⟩
  have HK1 := Lib.hid (HK0.out.next hb1)
  clear hb1
  go_wp2_with fail
  refine (C2.out _).mono ?_
  rintro e w2 ⟨Ah, ch, Bh, dh, rfl, hs2, hb2⟩
  have HK2 := Lib.hid (HK1.out.next hb2)
  have HSh := Lib.hid hs2
  clear hb2 hs2
  have HK2a := Lib.hid (HK2.out.alloc #[.bool x1.neg, .slice Ah x1.num.length ch, .slice Bh x1.den.length dh] 27 _ rfl)
  have HSh := Lib.hid (HSh.out.to (below_new _ (.cells #[.bool x1.neg, .slice Ah x1.num.length ch, .slice Bh x1.den.length dh] 27)))
  go_wp2_with fail
  refine (C3.out _).mono ?_
  rintro e w3 ⟨Ab, cb, Bb, db, rfl, hs3, hb3⟩
  have HK3 := Lib.hid (HK2a.out.next hb3)
  have HSh := Lib.hid (HSh.out.to hb3)
  have HSb := Lib.hid hs3
  clear hb3 hs3
  have HK3a := Lib.hid (HK3.out.alloc #[.bool x2.neg, .slice Ab x2.num.length cb, .slice Bb x2.den.length db] 27 _ rfl)
  have HSh := Lib.hid (HSh.out.to (below_new _ (.cells #[.bool x2.neg, .slice Ab x2.num.length cb, .slice Bb x2.den.length db] 27)))
  have HSb := Lib.hid (HSb.out.to (below_new _ (.cells #[.bool x2.neg, .slice Ab x2.num.length cb, .slice Bb x2.den.length db] 27)))
  go_wp2_with fail
  refine (C4.out _).mono ?_
  rintro e w4 ⟨rfl, hb4⟩
  have HK4 := Lib.hid (HK3a.out.next hb4)
  have HSh := Lib.hid (HSh.out.to hb4)
  have HSb := Lib.hid (HSb.out.to hb4)
  clear hb4
  go_wp2_with fail
  refine (C5.out _).mono ?_
  rintro e w5 ⟨rfl, hb5⟩
  have HK5 := Lib.hid (HK4.out.next hb5)
  have HSh := Lib.hid (HSh.out.to hb5)
  have HSb := Lib.hid (HSb.out.to hb5)
  clear hb5
  go_wp2_with fail
  refine (C6.out _).mono ?_
  rintro e w6 ⟨rfl, hb6⟩
  have HK6 := Lib.hid (HK5.out.next hb6)
  have HSh := Lib.hid (HSh.out.to hb6)
  have HSb := Lib.hid (HSb.out.to hb6)
  clear hb6
  go_wp2_with fail
  refine (C7.out _).mono ?_
  rintro e w7 ⟨rfl, hb7⟩
  have HK7 := Lib.hid (HK6.out.next hb7)
  have HSh := Lib.hid (HSh.out.to hb7)
  have HSb := Lib.hid (HSb.out.to hb7)
  clear hb7
  go_wp2_with fail
  refine (C8.out _).mono ?_
  rintro e w8 ⟨rfl, hb8⟩
  have HK8 := Lib.hid (HK7.out.next hb8)
  have HSh := Lib.hid (HSh.out.to hb8)
  have HSb := Lib.hid (HSb.out.to hb8)
  clear hb8
  go_wp2_with fail
  refine (C9.out _).mono ?_
  rintro e w9 ⟨rfl, hb9⟩
  have HK9 := Lib.hid (HK8.out.next hb9)
  have HSh := Lib.hid (HSh.out.to hb9)
  have HSb := Lib.hid (HSb.out.to hb9)
  clear hb9
  go_wp2_with fail
  refine (C10.out _).mono ?_
  rintro e w10 ⟨rfl, hb10⟩
  have HK10 := Lib.hid (HK9.out.next hb10)
  have HSh := Lib.hid (HSh.out.to hb10)
  have HSb := Lib.hid (HSb.out.to hb10)
  clear hb10
  go_wp2_with fail
  refine (C11.out _).mono ?_
  rintro e w11 ⟨Ag, cg, Bg, dg, rfl, hs11, hb11⟩
  have HK11 := Lib.hid (HK10.out.next hb11)
  have HSh := Lib.hid (HSh.out.to hb11)
  have HSb := Lib.hid (HSb.out.to hb11)
  have HSg := Lib.hid hs11
  clear hb11 hs11
  have HK11a := Lib.hid (HK11.out.alloc #[.bool x3.neg, .slice Ag x3.num.length cg, .slice Bg x3.den.length dg] 27 _ rfl)
  have HSh := Lib.hid (HSh.out.to (below_new _ (.cells #[.bool x3.neg, .slice Ag x3.num.length cg, .slice Bg x3.den.length dg] 27)))
  have HSb := Lib.hid (HSb.out.to (below_new _ (.cells #[.bool x3.neg, .slice Ag x3.num.length cg, .slice Bg x3.den.length dg] 27)))
  have HSg := Lib.hid (HSg.out.to (below_new _ (.cells #[.bool x3.neg, .slice Ag x3.num.length cg, .slice Bg x3.den.length dg] 27)))
  go_wp2_with fail
  refine (O1.out _).mono ?_
  rintro e w12 ⟨Ao1, co1, Bo1, do1, rfl, hs12, hb12⟩
  have HK12 := Lib.hid (HK11a.out.next hb12)
  have HSh := Lib.hid (HSh.out.to hb12)
  have HSb := Lib.hid (HSb.out.to hb12)
  have HSg := Lib.hid (HSg.out.to hb12)
  have HSo1 := Lib.hid hs12
  clear hb12 hs12
  go_wp2_with fail
  refine (F1.out _ _ _ _ _ HSo1.out).mono ?_
  rintro e w13 ⟨rfl, hb13⟩
  have HK13 := Lib.hid (HK12.out.next hb13)
  have HSh := Lib.hid (HSh.out.to hb13)
  have HSb := Lib.hid (HSb.out.to hb13)
  have HSg := Lib.hid (HSg.out.to hb13)
  clear hb13
  clear HSo1
  go_wp2_with fail
  refine (O2.out _).mono ?_
  rintro e w14 ⟨Ao2, co2, Bo2, do2, rfl, hs14, hb14⟩
  have HK14 := Lib.hid (HK13.out.next hb14)
  have HSh := Lib.hid (HSh.out.to hb14)
  have HSb := Lib.hid (HSb.out.to hb14)
  have HSg := Lib.hid (HSg.out.to hb14)
  have HSo2 := Lib.hid hs14
  clear hb14 hs14
  go_wp2_with fail
  refine (F2.out _ _ _ _ _ HSo2.out).mono ?_
  rintro e w15 ⟨rfl, hb15⟩
  have HK15 := Lib.hid (HK14.out.next hb15)
  have HSh := Lib.hid (HSh.out.to hb15)
  have HSb := Lib.hid (HSb.out.to hb15)
  have HSg := Lib.hid (HSg.out.to hb15)
  clear hb15
  clear HSo2
  go_wp2_with fail
  refine (O3.out _).mono ?_
  rintro e w16 ⟨Ao3, co3, Bo3, do3, rfl, hs16, hb16⟩
  have HK16 := Lib.hid (HK15.out.next hb16)
  have HSh := Lib.hid (HSh.out.to hb16)
  have HSb := Lib.hid (HSb.out.to hb16)
  have HSg := Lib.hid (HSg.out.to hb16)
  have HSo3 := Lib.hid hs16
  clear hb16 hs16
  go_wp2_with fail
  refine (F3.out _ _ _ _ _ HSo3.out).mono ?_
  rintro e w17 ⟨rfl, hb17⟩
  have HK17 := Lib.hid (HK16.out.next hb17)
  have HSh := Lib.hid (HSh.out.to hb17)
  have HSb := Lib.hid (HSb.out.to hb17)
  have HSg := Lib.hid (HSg.out.to hb17)
  clear hb17
  clear HSo3
  go_wp2_with fail
  refine (O4.out _).mono ?_
  rintro e w18 ⟨Ao4, co4, Bo4, do4, rfl, hs18, hb18⟩
  have HK18 := Lib.hid (HK17.out.next hb18)
  have HSh := Lib.hid (HSh.out.to hb18)
  have HSb := Lib.hid (HSb.out.to hb18)
  have HSg := Lib.hid (HSg.out.to hb18)
  have HSo4 := Lib.hid hs18
  clear hb18 hs18
  go_wp2_with fail
  refine (F4.out _ _ _ _ _ HSo4.out).mono ?_
  rintro e w19 ⟨rfl, hb19⟩
  have HK19 := Lib.hid (HK18.out.next hb19)
  have HSh := Lib.hid (HSh.out.to hb19)
  have HSb := Lib.hid (HSb.out.to hb19)
  have HSg := Lib.hid (HSg.out.to hb19)
  clear hb19
  clear HSo4
  go_wp2_with fail
  have HKD := Lib.hid (HK19.out.drewN 1)
  have HSh := Lib.hid (HSh.out.to (below_drewN _ _ 1))
  have HSb := Lib.hid (HSb.out.to (below_drewN _ _ 1))
  have HSg := Lib.hid (HSg.out.to (below_drewN _ _ 1))
  refine regionW (S := Kp w [(w11.heap.size, 27, #[.bool x3.neg, .slice Ag x3.num.length cg, .slice Bg x3.den.length dg]), (w3.heap.size, 27, #[.bool x2.neg, .slice Ab x2.num.length cb, .slice Bb x2.den.length db]), (w2.heap.size, 27, #[.bool x1.neg, .slice Ah x1.num.length ch, .slice Bh x1.den.length dh])]) HKD.out ?_
  intro hHeld
  refine takeW (i := 0) (oi := { dst := some 95, op := Op.move (Operand.tmp 2), type := 22, pos := "law.go:35", after := #[], guard := none }) (v := .int .i64 0) (by decide) rfl (fun _ _ _ h => h) (Or.inl ⟨by kernel_rfl, fun wq _ => by kernel_rfl⟩) hHeld ?_
  refine takeW (i := 1) (oi := { dst := some 96, op := Op.binOp BinOp.eql 22 (Operand.tmp 95) (Operand.const (Value.int IntKind.i64 0)) 22, type := 4, pos := "law.go:35", after := #[{ on := 0, ground := Ground.data }], guard := none }) (v := .bool true) (by decide) rfl (fun _ _ _ h => h) (Or.inl ⟨by kernel_rfl, fun wq _ => by kernel_rfl⟩) hHeld ?_
  refine takeW (i := 2) (oi := { dst := some 97, op := Op.move (Operand.tmp 96), type := 4, pos := "law.go:35", after := #[{ on := 1, ground := Ground.data }], guard := none }) (v := .bool true) (by decide) rfl (fun _ _ _ h => h) (Or.inl ⟨by kernel_rfl, fun wq _ => by kernel_rfl⟩) hHeld ?_
  refine takeW (i := 3) (oi := { dst := some 98, op := Op.move (Operand.tmp 1), type := 3, pos := "law.go:35", after := #[{ on := 2, ground := Ground.guard }], guard := some (2, true) }) (v := .int .i64 26) (by decide) rfl (fun _ _ _ h => h) (Or.inl ⟨by kernel_rfl, fun wq _ => by kernel_rfl⟩) hHeld ?_
  refine takeW (i := 4) (oi := { dst := some 99, op := Op.binOp BinOp.eql 3 (Operand.tmp 98) (Operand.const (Value.int IntKind.i64 26)) 3, type := 4, pos := "law.go:35", after := #[{ on := 3, ground := Ground.data }, { on := 2, ground := Ground.guard }], guard := some (2, true) }) (v := .bool true) (by decide) rfl (fun _ _ _ h => h) (Or.inl ⟨by kernel_rfl, fun wq _ => by kernel_rfl⟩) hHeld ?_
  refine takeW (i := 5) (oi := { dst := some 100, op := Op.pick (Operand.tmp 97) (Operand.tmp 99) (Operand.const (Value.bool false)), type := 4, pos := "law.go:35", after := #[{ on := 2, ground := Ground.data }, { on := 4, ground := Ground.data }], guard := none }) (v := .bool true) (by decide) rfl (fun _ _ _ h => h) (Or.inl ⟨by kernel_rfl, fun wq _ => by kernel_rfl⟩) hHeld ?_
  refine takeW (i := 6) (oi := { dst := some 101, op := Op.move (Operand.tmp 100), type := 4, pos := "law.go:35", after := #[{ on := 5, ground := Ground.data }, { on := 2, ground := Ground.chain }], guard := none }) (v := .bool true) (by decide) rfl (fun _ _ _ h => h) (Or.inl ⟨by kernel_rfl, fun wq _ => by kernel_rfl⟩) hHeld ?_
  refine takeW (i := 7) (oi := { dst := some 102, op := Op.move (Operand.tmp 4), type := 22, pos := "law.go:35", after := #[{ on := 6, ground := Ground.guard }], guard := some (6, true) }) (v := .int .i64 0) (by decide) rfl (fun _ _ _ h => h) (Or.inl ⟨by kernel_rfl, fun wq _ => by kernel_rfl⟩) hHeld ?_
  refine takeW (i := 8) (oi := { dst := some 103, op := Op.binOp BinOp.eql 22 (Operand.tmp 102) (Operand.const (Value.int IntKind.i64 0)) 22, type := 4, pos := "law.go:35", after := #[{ on := 7, ground := Ground.data }, { on := 6, ground := Ground.guard }], guard := some (6, true) }) (v := .bool true) (by decide) rfl (fun _ _ _ h => h) (Or.inl ⟨by kernel_rfl, fun wq _ => by kernel_rfl⟩) hHeld ?_
  refine takeW (i := 9) (oi := { dst := some 104, op := Op.pick (Operand.tmp 101) (Operand.tmp 103) (Operand.const (Value.bool false)), type := 4, pos := "law.go:35", after := #[{ on := 6, ground := Ground.data }, { on := 8, ground := Ground.data }], guard := none }) (v := .bool true) (by decide) rfl (fun _ _ _ h => h) (Or.inl ⟨by kernel_rfl, fun wq _ => by kernel_rfl⟩) hHeld ?_
  refine takeW (i := 10) (oi := { dst := some 105, op := Op.move (Operand.tmp 104), type := 4, pos := "law.go:35", after := #[{ on := 9, ground := Ground.data }, { on := 6, ground := Ground.chain }], guard := none }) (v := .bool true) (by decide) rfl (fun _ _ _ h => h) (Or.inl ⟨by kernel_rfl, fun wq _ => by kernel_rfl⟩) hHeld ?_
  refine takeW (i := 11) (oi := { dst := some 106, op := Op.load 27 (Operand.tmp 3), type := 27, pos := "law.go:35", after := #[{ on := 10, ground := Ground.guard }], guard := some (10, true) }) (v := .agg #[.bool x1.neg, .slice Ah x1.num.length ch, .slice Bh x1.den.length dh]) (by decide) rfl (fun _ _ _ h => h) (yieldsIf_load_mid (by kernel_rfl) 27 (.tmp 3) (by kernel_rfl) _ 0 (by kernel_rfl) [.bool x1.neg, .slice Ah x1.num.length ch, .slice Bh x1.den.length dh] _ (fun wq hq => World.rangeAt_of_block hq.blk2 0 3) Try.underlying27 rfl size_rq) hHeld ?_
  try simp only [Act.put, List.setIfInBounds_toArray, List.set_cons_zero, List.set_cons_succ]
  refine wpAnyH_ready (rs := [12]) readyW_12 (by simp) ?_
  refine AllReadyH.cons (o := { dst := some 107, op := Op.call { callee := Callee.value (Operand.func 32), args := #[Operand.const (Value.int IntKind.i64 100), Operand.const (Value.int IntKind.i64 3)], argTypes := #[2, 2] }, type := 27, pos := "law.go:35", after := #[{ on := 10, ground := Ground.chain }, { on := 10, ground := Ground.guard }], guard := some (10, true) }) rfl (fun K hK => ?_) AllReadyH.nil
  rw [show (lW 12).setIfInBounds 12 true = lW 13 from setW 12 (by decide)] at hK
  rw [if_pos (by kernel_rfl)]
  go_simp
  go_at_call 32
  refine (P1.out _).mono ?_
  rintro e w20 ⟨Ap, cp, Bp, dp, rfl, hs20, hb20⟩
  have HK20 := Lib.hid (HKD.out.next hb20)
  have HSh := Lib.hid (HSh.out.to hb20)
  have HSb := Lib.hid (HSb.out.to hb20)
  have HSg := Lib.hid (HSg.out.to hb20)
  have HSp := Lib.hid hs20
  clear hb20 hs20
  try go_simp
  refine hK.out _ _ HK20.out (fun hHeld => ?_)
  clear hK K
  try simp only [Act.put, List.setIfInBounds_toArray, List.set_cons_zero, List.set_cons_succ]
  refine wpAnyH_ready (rs := [13]) readyW_13 (by simp) ?_
  refine AllReadyH.cons (o := { dst := some 108, op := Op.call { callee := Callee.value (Operand.func 13), args := #[Operand.tmp 106, Operand.tmp 107], argTypes := #[27, 27] }, type := 4, pos := "law.go:35", after := #[{ on := 11, ground := Ground.data }, { on := 12, ground := Ground.data }, { on := 12, ground := Ground.chain }, { on := 10, ground := Ground.guard }], guard := some (10, true) }) rfl (fun K hK => ?_) AllReadyH.nil
  rw [show (lW 13).setIfInBounds 13 true = lW 14 from setW 13 (by decide)] at hK
  rw [if_pos (by kernel_rfl)]
  go_simp
  go_at_call 13
  refine (S1.out _ _ _ _ _ _ _ _ _ HSh.out HSp.out).mono ?_
  rintro e w21 ⟨rfl, hb21⟩
  have HK21 := Lib.hid (HK20.out.next hb21)
  have HSh := Lib.hid (HSh.out.to hb21)
  have HSb := Lib.hid (HSb.out.to hb21)
  have HSg := Lib.hid (HSg.out.to hb21)
  clear hb21
  try go_simp
  refine hK.out _ _ HK21.out (fun hHeld => ?_)
  clear hK K
  refine takeW (i := 14) (oi := { dst := some 109, op := Op.pick (Operand.tmp 105) (Operand.tmp 108) (Operand.const (Value.bool false)), type := 4, pos := "law.go:35", after := #[{ on := 10, ground := Ground.data }, { on := 13, ground := Ground.data }], guard := none }) (v := .bool true) (by decide) rfl (fun _ _ _ h => h) (Or.inl ⟨by kernel_rfl, fun wq _ => by kernel_rfl⟩) hHeld ?_
  refine takeW (i := 15) (oi := { dst := some 110, op := Op.move (Operand.tmp 109), type := 4, pos := "law.go:35", after := #[{ on := 14, ground := Ground.data }, { on := 13, ground := Ground.chain }], guard := none }) (v := .bool true) (by decide) rfl (fun _ _ _ h => h) (Or.inl ⟨by kernel_rfl, fun wq _ => by kernel_rfl⟩) hHeld ?_
  refine takeW (i := 16) (oi := { dst := some 111, op := Op.move (Operand.tmp 6), type := 22, pos := "law.go:35", after := #[{ on := 15, ground := Ground.guard }], guard := some (15, true) }) (v := .int .i64 0) (by decide) rfl (fun _ _ _ h => h) (Or.inl ⟨by kernel_rfl, fun wq _ => by kernel_rfl⟩) hHeld ?_
  refine takeW (i := 17) (oi := { dst := some 112, op := Op.binOp BinOp.eql 22 (Operand.tmp 111) (Operand.const (Value.int IntKind.i64 0)) 22, type := 4, pos := "law.go:35", after := #[{ on := 16, ground := Ground.data }, { on := 15, ground := Ground.guard }], guard := some (15, true) }) (v := .bool true) (by decide) rfl (fun _ _ _ h => h) (Or.inl ⟨by kernel_rfl, fun wq _ => by kernel_rfl⟩) hHeld ?_
  refine takeW (i := 18) (oi := { dst := some 113, op := Op.pick (Operand.tmp 110) (Operand.tmp 112) (Operand.const (Value.bool false)), type := 4, pos := "law.go:35", after := #[{ on := 15, ground := Ground.data }, { on := 17, ground := Ground.data }], guard := none }) (v := .bool true) (by decide) rfl (fun _ _ _ h => h) (Or.inl ⟨by kernel_rfl, fun wq _ => by kernel_rfl⟩) hHeld ?_
  refine takeW (i := 19) (oi := { dst := some 114, op := Op.move (Operand.tmp 113), type := 4, pos := "law.go:35", after := #[{ on := 18, ground := Ground.data }, { on := 15, ground := Ground.chain }], guard := none }) (v := .bool true) (by decide) rfl (fun _ _ _ h => h) (Or.inl ⟨by kernel_rfl, fun wq _ => by kernel_rfl⟩) hHeld ?_
  refine takeW (i := 20) (oi := { dst := some 115, op := Op.load 27 (Operand.tmp 5), type := 27, pos := "law.go:35", after := #[{ on := 19, ground := Ground.guard }], guard := some (19, true) }) (v := .agg #[.bool x2.neg, .slice Ab x2.num.length cb, .slice Bb x2.den.length db]) (by decide) rfl (fun _ _ _ h => h) (yieldsIf_load_mid (by kernel_rfl) 27 (.tmp 5) (by kernel_rfl) _ 0 (by kernel_rfl) [.bool x2.neg, .slice Ab x2.num.length cb, .slice Bb x2.den.length db] _ (fun wq hq => World.rangeAt_of_block hq.blk1 0 3) Try.underlying27 rfl size_rq) hHeld ?_
  try simp only [Act.put, List.setIfInBounds_toArray, List.set_cons_zero, List.set_cons_succ]
  refine wpAnyH_ready (rs := [21]) readyW_21 (by simp) ?_
  refine AllReadyH.cons (o := { dst := some 116, op := Op.call { callee := Callee.value (Operand.func 32), args := #[Operand.const (Value.int IntKind.i64 25), Operand.const (Value.int IntKind.i64 1)], argTypes := #[2, 2] }, type := 27, pos := "law.go:35", after := #[{ on := 19, ground := Ground.chain }, { on := 19, ground := Ground.guard }], guard := some (19, true) }) rfl (fun K hK => ?_) AllReadyH.nil
  rw [show (lW 21).setIfInBounds 21 true = lW 22 from setW 21 (by decide)] at hK
  rw [if_pos (by kernel_rfl)]
  go_simp
  go_at_call 32
  refine (P2.out _).mono ?_
  rintro e w22 ⟨Aq, cq, Bq, dq, rfl, hs22, hb22⟩
  have HK22 := Lib.hid (HK21.out.next hb22)
  have HSh := Lib.hid (HSh.out.to hb22)
  have HSb := Lib.hid (HSb.out.to hb22)
  have HSg := Lib.hid (HSg.out.to hb22)
  have HSq := Lib.hid hs22
  clear hb22 hs22
  try go_simp
  refine hK.out _ _ HK22.out (fun hHeld => ?_)
  clear hK K
  try simp only [Act.put, List.setIfInBounds_toArray, List.set_cons_zero, List.set_cons_succ]
  refine wpAnyH_ready (rs := [22]) readyW_22 (by simp) ?_
  refine AllReadyH.cons (o := { dst := some 117, op := Op.call { callee := Callee.value (Operand.func 13), args := #[Operand.tmp 115, Operand.tmp 116], argTypes := #[27, 27] }, type := 4, pos := "law.go:35", after := #[{ on := 20, ground := Ground.data }, { on := 21, ground := Ground.data }, { on := 21, ground := Ground.chain }, { on := 19, ground := Ground.guard }], guard := some (19, true) }) rfl (fun K hK => ?_) AllReadyH.nil
  rw [show (lW 22).setIfInBounds 22 true = lW 23 from setW 22 (by decide)] at hK
  rw [if_pos (by kernel_rfl)]
  go_simp
  go_at_call 13
  refine (S2.out _ _ _ _ _ _ _ _ _ HSb.out HSq.out).mono ?_
  rintro e w23 ⟨rfl, hb23⟩
  have HK23 := Lib.hid (HK22.out.next hb23)
  have HSh := Lib.hid (HSh.out.to hb23)
  have HSb := Lib.hid (HSb.out.to hb23)
  have HSg := Lib.hid (HSg.out.to hb23)
  clear hb23
  try go_simp
  refine hK.out _ _ HK23.out (fun hHeld => ?_)
  clear hK K
  refine takeW (i := 23) (oi := { dst := some 118, op := Op.pick (Operand.tmp 114) (Operand.tmp 117) (Operand.const (Value.bool false)), type := 4, pos := "law.go:35", after := #[{ on := 19, ground := Ground.data }, { on := 22, ground := Ground.data }], guard := none }) (v := .bool true) (by decide) rfl (fun _ _ _ h => h) (Or.inl ⟨by kernel_rfl, fun wq _ => by kernel_rfl⟩) hHeld ?_
  refine takeW (i := 24) (oi := { dst := some 119, op := Op.move (Operand.tmp 118), type := 4, pos := "law.go:35", after := #[{ on := 23, ground := Ground.data }, { on := 22, ground := Ground.chain }], guard := none }) (v := .bool true) (by decide) rfl (fun _ _ _ h => h) (Or.inl ⟨by kernel_rfl, fun wq _ => by kernel_rfl⟩) hHeld ?_
  refine takeW (i := 25) (oi := { dst := some 120, op := Op.move (Operand.tmp 8), type := 22, pos := "law.go:35", after := #[{ on := 24, ground := Ground.guard }], guard := some (24, true) }) (v := .int .i64 2) (by decide) rfl (fun _ _ _ h => h) (Or.inl ⟨by kernel_rfl, fun wq _ => by kernel_rfl⟩) hHeld ?_
  refine takeW (i := 26) (oi := { dst := some 121, op := Op.binOp BinOp.eql 22 (Operand.tmp 120) (Operand.const (Value.int IntKind.i64 2)) 22, type := 4, pos := "law.go:35", after := #[{ on := 25, ground := Ground.data }, { on := 24, ground := Ground.guard }], guard := some (24, true) }) (v := .bool true) (by decide) rfl (fun _ _ _ h => h) (Or.inl ⟨by kernel_rfl, fun wq _ => by kernel_rfl⟩) hHeld ?_
  refine takeW (i := 27) (oi := { dst := some 122, op := Op.pick (Operand.tmp 119) (Operand.tmp 121) (Operand.const (Value.bool false)), type := 4, pos := "law.go:35", after := #[{ on := 24, ground := Ground.data }, { on := 26, ground := Ground.data }], guard := none }) (v := .bool true) (by decide) rfl (fun _ _ _ h => h) (Or.inl ⟨by kernel_rfl, fun wq _ => by kernel_rfl⟩) hHeld ?_
  refine takeW (i := 28) (oi := { dst := some 123, op := Op.move (Operand.tmp 122), type := 4, pos := "law.go:35", after := #[{ on := 27, ground := Ground.data }, { on := 24, ground := Ground.chain }], guard := none }) (v := .bool true) (by decide) rfl (fun _ _ _ h => h) (Or.inl ⟨by kernel_rfl, fun wq _ => by kernel_rfl⟩) hHeld ?_
  refine takeW (i := 29) (oi := { dst := some 124, op := Op.move (Operand.tmp 10), type := 22, pos := "law.go:35", after := #[{ on := 28, ground := Ground.guard }], guard := some (28, true) }) (v := .int .i64 2) (by decide) rfl (fun _ _ _ h => h) (Or.inl ⟨by kernel_rfl, fun wq _ => by kernel_rfl⟩) hHeld ?_
  refine takeW (i := 30) (oi := { dst := some 125, op := Op.binOp BinOp.eql 22 (Operand.tmp 124) (Operand.const (Value.int IntKind.i64 2)) 22, type := 4, pos := "law.go:35", after := #[{ on := 29, ground := Ground.data }, { on := 28, ground := Ground.guard }], guard := some (28, true) }) (v := .bool true) (by decide) rfl (fun _ _ _ h => h) (Or.inl ⟨by kernel_rfl, fun wq _ => by kernel_rfl⟩) hHeld ?_
  refine takeW (i := 31) (oi := { dst := some 126, op := Op.pick (Operand.tmp 123) (Operand.tmp 125) (Operand.const (Value.bool false)), type := 4, pos := "law.go:35", after := #[{ on := 28, ground := Ground.data }, { on := 30, ground := Ground.data }], guard := none }) (v := .bool true) (by decide) rfl (fun _ _ _ h => h) (Or.inl ⟨by kernel_rfl, fun wq _ => by kernel_rfl⟩) hHeld ?_
  refine takeW (i := 32) (oi := { dst := some 127, op := Op.move (Operand.tmp 126), type := 4, pos := "law.go:35", after := #[{ on := 31, ground := Ground.data }, { on := 28, ground := Ground.chain }], guard := none }) (v := .bool true) (by decide) rfl (fun _ _ _ h => h) (Or.inl ⟨by kernel_rfl, fun wq _ => by kernel_rfl⟩) hHeld ?_
  refine takeW (i := 33) (oi := { dst := some 128, op := Op.move (Operand.tmp 12), type := 22, pos := "law.go:35", after := #[{ on := 32, ground := Ground.guard }], guard := some (32, true) }) (v := .int .i64 0) (by decide) rfl (fun _ _ _ h => h) (Or.inl ⟨by kernel_rfl, fun wq _ => by kernel_rfl⟩) hHeld ?_
  refine takeW (i := 34) (oi := { dst := some 129, op := Op.binOp BinOp.eql 22 (Operand.tmp 128) (Operand.const (Value.int IntKind.i64 0)) 22, type := 4, pos := "law.go:35", after := #[{ on := 33, ground := Ground.data }, { on := 32, ground := Ground.guard }], guard := some (32, true) }) (v := .bool true) (by decide) rfl (fun _ _ _ h => h) (Or.inl ⟨by kernel_rfl, fun wq _ => by kernel_rfl⟩) hHeld ?_
  refine takeW (i := 35) (oi := { dst := some 130, op := Op.pick (Operand.tmp 127) (Operand.tmp 129) (Operand.const (Value.bool false)), type := 4, pos := "law.go:35", after := #[{ on := 32, ground := Ground.data }, { on := 34, ground := Ground.data }], guard := none }) (v := .bool true) (by decide) rfl (fun _ _ _ h => h) (Or.inl ⟨by kernel_rfl, fun wq _ => by kernel_rfl⟩) hHeld ?_
  refine takeW (i := 36) (oi := { dst := some 131, op := Op.move (Operand.tmp 130), type := 4, pos := "law.go:35", after := #[{ on := 35, ground := Ground.data }, { on := 32, ground := Ground.chain }], guard := none }) (v := .bool true) (by decide) rfl (fun _ _ _ h => h) (Or.inl ⟨by kernel_rfl, fun wq _ => by kernel_rfl⟩) hHeld ?_
  refine takeW (i := 37) (oi := { dst := some 132, op := Op.move (Operand.tmp 11), type := 3, pos := "law.go:35", after := #[{ on := 36, ground := Ground.guard }], guard := some (36, true) }) (v := .int .i64 1) (by decide) rfl (fun _ _ _ h => h) (Or.inl ⟨by kernel_rfl, fun wq _ => by kernel_rfl⟩) hHeld ?_
  refine takeW (i := 38) (oi := { dst := some 133, op := Op.binOp BinOp.eql 3 (Operand.tmp 132) (Operand.const (Value.int IntKind.i64 1)) 3, type := 4, pos := "law.go:35", after := #[{ on := 37, ground := Ground.data }, { on := 36, ground := Ground.guard }], guard := some (36, true) }) (v := .bool true) (by decide) rfl (fun _ _ _ h => h) (Or.inl ⟨by kernel_rfl, fun wq _ => by kernel_rfl⟩) hHeld ?_
  refine takeW (i := 39) (oi := { dst := some 134, op := Op.pick (Operand.tmp 131) (Operand.tmp 133) (Operand.const (Value.bool false)), type := 4, pos := "law.go:35", after := #[{ on := 36, ground := Ground.data }, { on := 38, ground := Ground.data }], guard := none }) (v := .bool true) (by decide) rfl (fun _ _ _ h => h) (Or.inl ⟨by kernel_rfl, fun wq _ => by kernel_rfl⟩) hHeld ?_
  refine takeW (i := 40) (oi := { dst := some 135, op := Op.move (Operand.tmp 134), type := 4, pos := "law.go:35", after := #[{ on := 39, ground := Ground.data }, { on := 36, ground := Ground.chain }], guard := none }) (v := .bool true) (by decide) rfl (fun _ _ _ h => h) (Or.inl ⟨by kernel_rfl, fun wq _ => by kernel_rfl⟩) hHeld ?_
  refine takeW (i := 41) (oi := { dst := some 136, op := Op.move (Operand.tmp 14), type := 22, pos := "law.go:35", after := #[{ on := 40, ground := Ground.guard }], guard := some (40, true) }) (v := .int .i64 0) (by decide) rfl (fun _ _ _ h => h) (Or.inl ⟨by kernel_rfl, fun wq _ => by kernel_rfl⟩) hHeld ?_
  refine takeW (i := 42) (oi := { dst := some 137, op := Op.binOp BinOp.eql 22 (Operand.tmp 136) (Operand.const (Value.int IntKind.i64 0)) 22, type := 4, pos := "law.go:35", after := #[{ on := 41, ground := Ground.data }, { on := 40, ground := Ground.guard }], guard := some (40, true) }) (v := .bool true) (by decide) rfl (fun _ _ _ h => h) (Or.inl ⟨by kernel_rfl, fun wq _ => by kernel_rfl⟩) hHeld ?_
  refine takeW (i := 43) (oi := { dst := some 138, op := Op.pick (Operand.tmp 135) (Operand.tmp 137) (Operand.const (Value.bool false)), type := 4, pos := "law.go:35", after := #[{ on := 40, ground := Ground.data }, { on := 42, ground := Ground.data }], guard := none }) (v := .bool true) (by decide) rfl (fun _ _ _ h => h) (Or.inl ⟨by kernel_rfl, fun wq _ => by kernel_rfl⟩) hHeld ?_
  refine takeW (i := 44) (oi := { dst := some 139, op := Op.move (Operand.tmp 138), type := 4, pos := "law.go:35", after := #[{ on := 43, ground := Ground.data }, { on := 40, ground := Ground.chain }], guard := none }) (v := .bool true) (by decide) rfl (fun _ _ _ h => h) (Or.inl ⟨by kernel_rfl, fun wq _ => by kernel_rfl⟩) hHeld ?_
  refine takeW (i := 45) (oi := { dst := some 140, op := Op.move (Operand.tmp 13), type := 3, pos := "law.go:35", after := #[{ on := 44, ground := Ground.guard }], guard := some (44, true) }) (v := .int .i64 2) (by decide) rfl (fun _ _ _ h => h) (Or.inl ⟨by kernel_rfl, fun wq _ => by kernel_rfl⟩) hHeld ?_
  refine takeW (i := 46) (oi := { dst := some 141, op := Op.binOp BinOp.eql 3 (Operand.tmp 140) (Operand.const (Value.int IntKind.i64 2)) 3, type := 4, pos := "law.go:35", after := #[{ on := 45, ground := Ground.data }, { on := 44, ground := Ground.guard }], guard := some (44, true) }) (v := .bool true) (by decide) rfl (fun _ _ _ h => h) (Or.inl ⟨by kernel_rfl, fun wq _ => by kernel_rfl⟩) hHeld ?_
  refine takeW (i := 47) (oi := { dst := some 142, op := Op.pick (Operand.tmp 139) (Operand.tmp 141) (Operand.const (Value.bool false)), type := 4, pos := "law.go:35", after := #[{ on := 44, ground := Ground.data }, { on := 46, ground := Ground.data }], guard := none }) (v := .bool true) (by decide) rfl (fun _ _ _ h => h) (Or.inl ⟨by kernel_rfl, fun wq _ => by kernel_rfl⟩) hHeld ?_
  refine takeW (i := 48) (oi := { dst := some 143, op := Op.move (Operand.tmp 142), type := 4, pos := "law.go:35", after := #[{ on := 47, ground := Ground.data }, { on := 44, ground := Ground.chain }], guard := none }) (v := .bool true) (by decide) rfl (fun _ _ _ h => h) (Or.inl ⟨by kernel_rfl, fun wq _ => by kernel_rfl⟩) hHeld ?_
  refine takeW (i := 49) (oi := { dst := some 144, op := Op.move (Operand.tmp 16), type := 22, pos := "law.go:35", after := #[{ on := 48, ground := Ground.guard }], guard := some (48, true) }) (v := .int .i64 0) (by decide) rfl (fun _ _ _ h => h) (Or.inl ⟨by kernel_rfl, fun wq _ => by kernel_rfl⟩) hHeld ?_
  refine takeW (i := 50) (oi := { dst := some 145, op := Op.binOp BinOp.eql 22 (Operand.tmp 144) (Operand.const (Value.int IntKind.i64 0)) 22, type := 4, pos := "law.go:35", after := #[{ on := 49, ground := Ground.data }, { on := 48, ground := Ground.guard }], guard := some (48, true) }) (v := .bool true) (by decide) rfl (fun _ _ _ h => h) (Or.inl ⟨by kernel_rfl, fun wq _ => by kernel_rfl⟩) hHeld ?_
  refine takeW (i := 51) (oi := { dst := some 146, op := Op.pick (Operand.tmp 143) (Operand.tmp 145) (Operand.const (Value.bool false)), type := 4, pos := "law.go:35", after := #[{ on := 48, ground := Ground.data }, { on := 50, ground := Ground.data }], guard := none }) (v := .bool true) (by decide) rfl (fun _ _ _ h => h) (Or.inl ⟨by kernel_rfl, fun wq _ => by kernel_rfl⟩) hHeld ?_
  refine takeW (i := 52) (oi := { dst := some 147, op := Op.move (Operand.tmp 146), type := 4, pos := "law.go:35", after := #[{ on := 51, ground := Ground.data }, { on := 48, ground := Ground.chain }], guard := none }) (v := .bool true) (by decide) rfl (fun _ _ _ h => h) (Or.inl ⟨by kernel_rfl, fun wq _ => by kernel_rfl⟩) hHeld ?_
  refine takeW (i := 53) (oi := { dst := some 148, op := Op.move (Operand.tmp 15), type := 3, pos := "law.go:35", after := #[{ on := 52, ground := Ground.guard }], guard := some (52, true) }) (v := .int .i64 666666666) (by decide) rfl (fun _ _ _ h => h) (Or.inl ⟨by kernel_rfl, fun wq _ => by kernel_rfl⟩) hHeld ?_
  refine takeW (i := 54) (oi := { dst := some 149, op := Op.binOp BinOp.eql 3 (Operand.tmp 148) (Operand.const (Value.int IntKind.i64 666666666)) 3, type := 4, pos := "law.go:35", after := #[{ on := 53, ground := Ground.data }, { on := 52, ground := Ground.guard }], guard := some (52, true) }) (v := .bool true) (by decide) rfl (fun _ _ _ h => h) (Or.inl ⟨by kernel_rfl, fun wq _ => by kernel_rfl⟩) hHeld ?_
  refine takeW (i := 55) (oi := { dst := some 150, op := Op.pick (Operand.tmp 147) (Operand.tmp 149) (Operand.const (Value.bool false)), type := 4, pos := "law.go:35", after := #[{ on := 52, ground := Ground.data }, { on := 54, ground := Ground.data }], guard := none }) (v := .bool true) (by decide) rfl (fun _ _ _ h => h) (Or.inl ⟨by kernel_rfl, fun wq _ => by kernel_rfl⟩) hHeld ?_
  refine takeW (i := 56) (oi := { dst := some 151, op := Op.move (Operand.tmp 150), type := 4, pos := "law.go:35", after := #[{ on := 55, ground := Ground.data }, { on := 52, ground := Ground.chain }], guard := none }) (v := .bool true) (by decide) rfl (fun _ _ _ h => h) (Or.inl ⟨by kernel_rfl, fun wq _ => by kernel_rfl⟩) hHeld ?_
  refine takeW (i := 57) (oi := { dst := some 152, op := Op.move (Operand.tmp 18), type := 22, pos := "law.go:35", after := #[{ on := 56, ground := Ground.guard }], guard := some (56, true) }) (v := .int .i64 40) (by decide) rfl (fun _ _ _ h => h) (Or.inl ⟨by kernel_rfl, fun wq _ => by kernel_rfl⟩) hHeld ?_
  refine takeW (i := 58) (oi := { dst := some 153, op := Op.binOp BinOp.eql 22 (Operand.tmp 152) (Operand.const (Value.int IntKind.i64 40)) 22, type := 4, pos := "law.go:35", after := #[{ on := 57, ground := Ground.data }, { on := 56, ground := Ground.guard }], guard := some (56, true) }) (v := .bool true) (by decide) rfl (fun _ _ _ h => h) (Or.inl ⟨by kernel_rfl, fun wq _ => by kernel_rfl⟩) hHeld ?_
  refine takeW (i := 59) (oi := { dst := some 154, op := Op.pick (Operand.tmp 151) (Operand.tmp 153) (Operand.const (Value.bool false)), type := 4, pos := "law.go:35", after := #[{ on := 56, ground := Ground.data }, { on := 58, ground := Ground.data }], guard := none }) (v := .bool true) (by decide) rfl (fun _ _ _ h => h) (Or.inl ⟨by kernel_rfl, fun wq _ => by kernel_rfl⟩) hHeld ?_
  refine takeW (i := 60) (oi := { dst := some 155, op := Op.move (Operand.tmp 154), type := 4, pos := "law.go:35", after := #[{ on := 59, ground := Ground.data }, { on := 56, ground := Ground.chain }], guard := none }) (v := .bool true) (by decide) rfl (fun _ _ _ h => h) (Or.inl ⟨by kernel_rfl, fun wq _ => by kernel_rfl⟩) hHeld ?_
  refine takeW (i := 61) (oi := { dst := some 156, op := Op.move (Operand.tmp 20), type := 22, pos := "law.go:35", after := #[{ on := 60, ground := Ground.guard }], guard := some (60, true) }) (v := .int .i64 30) (by decide) rfl (fun _ _ _ h => h) (Or.inl ⟨by kernel_rfl, fun wq _ => by kernel_rfl⟩) hHeld ?_
  refine takeW (i := 62) (oi := { dst := some 157, op := Op.binOp BinOp.eql 22 (Operand.tmp 156) (Operand.const (Value.int IntKind.i64 30)) 22, type := 4, pos := "law.go:35", after := #[{ on := 61, ground := Ground.data }, { on := 60, ground := Ground.guard }], guard := some (60, true) }) (v := .bool true) (by decide) rfl (fun _ _ _ h => h) (Or.inl ⟨by kernel_rfl, fun wq _ => by kernel_rfl⟩) hHeld ?_
  refine takeW (i := 63) (oi := { dst := some 158, op := Op.pick (Operand.tmp 155) (Operand.tmp 157) (Operand.const (Value.bool false)), type := 4, pos := "law.go:35", after := #[{ on := 60, ground := Ground.data }, { on := 62, ground := Ground.data }], guard := none }) (v := .bool true) (by decide) rfl (fun _ _ _ h => h) (Or.inl ⟨by kernel_rfl, fun wq _ => by kernel_rfl⟩) hHeld ?_
  refine takeW (i := 64) (oi := { dst := some 159, op := Op.move (Operand.tmp 158), type := 4, pos := "law.go:35", after := #[{ on := 63, ground := Ground.data }, { on := 60, ground := Ground.chain }], guard := none }) (v := .bool true) (by decide) rfl (fun _ _ _ h => h) (Or.inl ⟨by kernel_rfl, fun wq _ => by kernel_rfl⟩) hHeld ?_
  refine takeW (i := 65) (oi := { dst := some 160, op := Op.move (Operand.tmp 22), type := 22, pos := "law.go:35", after := #[{ on := 64, ground := Ground.guard }], guard := some (64, true) }) (v := .int .i64 0) (by decide) rfl (fun _ _ _ h => h) (Or.inl ⟨by kernel_rfl, fun wq _ => by kernel_rfl⟩) hHeld ?_
  refine takeW (i := 66) (oi := { dst := some 161, op := Op.binOp BinOp.eql 22 (Operand.tmp 160) (Operand.const (Value.int IntKind.i64 0)) 22, type := 4, pos := "law.go:35", after := #[{ on := 65, ground := Ground.data }, { on := 64, ground := Ground.guard }], guard := some (64, true) }) (v := .bool true) (by decide) rfl (fun _ _ _ h => h) (Or.inl ⟨by kernel_rfl, fun wq _ => by kernel_rfl⟩) hHeld ?_
  refine takeW (i := 67) (oi := { dst := some 162, op := Op.pick (Operand.tmp 159) (Operand.tmp 161) (Operand.const (Value.bool false)), type := 4, pos := "law.go:35", after := #[{ on := 64, ground := Ground.data }, { on := 66, ground := Ground.data }], guard := none }) (v := .bool true) (by decide) rfl (fun _ _ _ h => h) (Or.inl ⟨by kernel_rfl, fun wq _ => by kernel_rfl⟩) hHeld ?_
  refine takeW (i := 68) (oi := { dst := some 163, op := Op.move (Operand.tmp 162), type := 4, pos := "law.go:35", after := #[{ on := 67, ground := Ground.data }, { on := 64, ground := Ground.chain }], guard := none }) (v := .bool true) (by decide) rfl (fun _ _ _ h => h) (Or.inl ⟨by kernel_rfl, fun wq _ => by kernel_rfl⟩) hHeld ?_
  refine takeW (i := 69) (oi := { dst := some 164, op := Op.load 27 (Operand.tmp 21), type := 27, pos := "law.go:35", after := #[{ on := 68, ground := Ground.guard }], guard := some (68, true) }) (v := .agg #[.bool x3.neg, .slice Ag x3.num.length cg, .slice Bg x3.den.length dg]) (by decide) rfl (fun _ _ _ h => h) (yieldsIf_load_mid (by kernel_rfl) 27 (.tmp 21) (by kernel_rfl) _ 0 (by kernel_rfl) [.bool x3.neg, .slice Ag x3.num.length cg, .slice Bg x3.den.length dg] _ (fun wq hq => World.rangeAt_of_block hq.blk0 0 3) Try.underlying27 rfl size_rq) hHeld ?_
  try simp only [Act.put, List.setIfInBounds_toArray, List.set_cons_zero, List.set_cons_succ]
  refine wpAnyH_ready (rs := [70]) readyW_70 (by simp) ?_
  refine AllReadyH.cons (o := { dst := some 165, op := Op.call { callee := Callee.value (Operand.func 32), args := #[Operand.const (Value.int IntKind.i64 1), Operand.const (Value.int IntKind.i64 2)], argTypes := #[2, 2] }, type := 27, pos := "law.go:35", after := #[{ on := 68, ground := Ground.chain }, { on := 68, ground := Ground.guard }], guard := some (68, true) }) rfl (fun K hK => ?_) AllReadyH.nil
  rw [show (lW 70).setIfInBounds 70 true = lW 71 from setW 70 (by decide)] at hK
  rw [if_pos (by kernel_rfl)]
  go_simp
  go_at_call 32
  refine (P3.out _).mono ?_
  rintro e w24 ⟨Ar, cr, Br, dr, rfl, hs24, hb24⟩
  have HK24 := Lib.hid (HK23.out.next hb24)
  have HSh := Lib.hid (HSh.out.to hb24)
  have HSb := Lib.hid (HSb.out.to hb24)
  have HSg := Lib.hid (HSg.out.to hb24)
  have HSr := Lib.hid hs24
  clear hb24 hs24
  try go_simp
  refine hK.out _ _ HK24.out (fun hHeld => ?_)
  clear hK K
  try simp only [Act.put, List.setIfInBounds_toArray, List.set_cons_zero, List.set_cons_succ]
  refine wpAnyH_ready (rs := [71]) readyW_71 (by simp) ?_
  refine AllReadyH.cons (o := { dst := some 166, op := Op.call { callee := Callee.value (Operand.func 13), args := #[Operand.tmp 164, Operand.tmp 165], argTypes := #[27, 27] }, type := 4, pos := "law.go:35", after := #[{ on := 69, ground := Ground.data }, { on := 70, ground := Ground.data }, { on := 70, ground := Ground.chain }, { on := 68, ground := Ground.guard }], guard := some (68, true) }) rfl (fun K hK => ?_) AllReadyH.nil
  rw [show (lW 71).setIfInBounds 71 true = lW 72 from setW 71 (by decide)] at hK
  rw [if_pos (by kernel_rfl)]
  go_simp
  go_at_call 13
  refine (S3.out _ _ _ _ _ _ _ _ _ HSg.out HSr.out).mono ?_
  rintro e w25 ⟨rfl, hb25⟩
  have HK25 := Lib.hid (HK24.out.next hb25)
  have HSh := Lib.hid (HSh.out.to hb25)
  have HSb := Lib.hid (HSb.out.to hb25)
  have HSg := Lib.hid (HSg.out.to hb25)
  clear hb25
  try go_simp
  refine hK.out _ _ HK25.out (fun hHeld => ?_)
  clear hK K
  refine takeW (i := 72) (oi := { dst := some 167, op := Op.pick (Operand.tmp 163) (Operand.tmp 166) (Operand.const (Value.bool false)), type := 4, pos := "law.go:35", after := #[{ on := 68, ground := Ground.data }, { on := 71, ground := Ground.data }], guard := none }) (v := .bool true) (by decide) rfl (fun _ _ _ h => h) (Or.inl ⟨by kernel_rfl, fun wq _ => by kernel_rfl⟩) hHeld ?_
  refine takeW (i := 73) (oi := { dst := some 168, op := Op.move (Operand.tmp 167), type := 4, pos := "law.go:35", after := #[{ on := 72, ground := Ground.data }, { on := 71, ground := Ground.chain }], guard := none }) (v := .bool true) (by decide) rfl (fun _ _ _ h => h) (Or.inl ⟨by kernel_rfl, fun wq _ => by kernel_rfl⟩) hHeld ?_
  refine takeW (i := 74) (oi := { dst := some 169, op := Op.move (Operand.tmp 24), type := 22, pos := "law.go:35", after := #[{ on := 73, ground := Ground.guard }], guard := some (73, true) }) (v := .int .i64 0) (by decide) rfl (fun _ _ _ h => h) (Or.inl ⟨by kernel_rfl, fun wq _ => by kernel_rfl⟩) hHeld ?_
  refine takeW (i := 75) (oi := { dst := some 170, op := Op.binOp BinOp.eql 22 (Operand.tmp 169) (Operand.const (Value.int IntKind.i64 0)) 22, type := 4, pos := "law.go:35", after := #[{ on := 74, ground := Ground.data }, { on := 73, ground := Ground.guard }], guard := some (73, true) }) (v := .bool true) (by decide) rfl (fun _ _ _ h => h) (Or.inl ⟨by kernel_rfl, fun wq _ => by kernel_rfl⟩) hHeld ?_
  refine takeW (i := 76) (oi := { dst := some 171, op := Op.pick (Operand.tmp 168) (Operand.tmp 170) (Operand.const (Value.bool false)), type := 4, pos := "law.go:35", after := #[{ on := 73, ground := Ground.data }, { on := 75, ground := Ground.data }], guard := none }) (v := .bool true) (by decide) rfl (fun _ _ _ h => h) (Or.inl ⟨by kernel_rfl, fun wq _ => by kernel_rfl⟩) hHeld ?_
  refine takeW (i := 77) (oi := { dst := some 172, op := Op.move (Operand.tmp 171), type := 4, pos := "law.go:35", after := #[{ on := 76, ground := Ground.data }, { on := 73, ground := Ground.chain }], guard := none }) (v := .bool true) (by decide) rfl (fun _ _ _ h => h) (Or.inl ⟨by kernel_rfl, fun wq _ => by kernel_rfl⟩) hHeld ?_
  refine takeW (i := 78) (oi := { dst := some 173, op := Op.move (Operand.tmp 23), type := 3, pos := "law.go:35", after := #[{ on := 77, ground := Ground.guard }], guard := some (77, true) }) (v := .int .i64 666666666) (by decide) rfl (fun _ _ _ h => h) (Or.inl ⟨by kernel_rfl, fun wq _ => by kernel_rfl⟩) hHeld ?_
  refine takeW (i := 79) (oi := { dst := some 174, op := Op.binOp BinOp.eql 3 (Operand.tmp 173) (Operand.const (Value.int IntKind.i64 666666666)) 3, type := 4, pos := "law.go:35", after := #[{ on := 78, ground := Ground.data }, { on := 77, ground := Ground.guard }], guard := some (77, true) }) (v := .bool true) (by decide) rfl (fun _ _ _ h => h) (Or.inl ⟨by kernel_rfl, fun wq _ => by kernel_rfl⟩) hHeld ?_
  refine takeW (i := 80) (oi := { dst := some 175, op := Op.pick (Operand.tmp 172) (Operand.tmp 174) (Operand.const (Value.bool false)), type := 4, pos := "law.go:35", after := #[{ on := 77, ground := Ground.data }, { on := 79, ground := Ground.data }], guard := none }) (v := .bool true) (by decide) rfl (fun _ _ _ h => h) (Or.inl ⟨by kernel_rfl, fun wq _ => by kernel_rfl⟩) hHeld ?_
  refine takeW (i := 81) (oi := { dst := some 176, op := Op.move (Operand.tmp 175), type := 4, pos := "law.go:35", after := #[{ on := 80, ground := Ground.data }, { on := 77, ground := Ground.chain }], guard := none }) (v := .bool true) (by decide) rfl (fun _ _ _ h => h) (Or.inl ⟨by kernel_rfl, fun wq _ => by kernel_rfl⟩) hHeld ?_
  refine takeW (i := 82) (oi := { dst := some 177, op := Op.move (Operand.tmp 26), type := 22, pos := "law.go:35", after := #[{ on := 81, ground := Ground.guard }], guard := some (81, true) }) (v := .int .i64 2) (by decide) rfl (fun _ _ _ h => h) (Or.inl ⟨by kernel_rfl, fun wq _ => by kernel_rfl⟩) hHeld ?_
  refine takeW (i := 83) (oi := { dst := some 178, op := Op.binOp BinOp.eql 22 (Operand.tmp 177) (Operand.const (Value.int IntKind.i64 2)) 22, type := 4, pos := "law.go:35", after := #[{ on := 82, ground := Ground.data }, { on := 81, ground := Ground.guard }], guard := some (81, true) }) (v := .bool true) (by decide) rfl (fun _ _ _ h => h) (Or.inl ⟨by kernel_rfl, fun wq _ => by kernel_rfl⟩) hHeld ?_
  refine takeW (i := 84) (oi := { dst := some 179, op := Op.pick (Operand.tmp 176) (Operand.tmp 178) (Operand.const (Value.bool false)), type := 4, pos := "law.go:35", after := #[{ on := 81, ground := Ground.data }, { on := 83, ground := Ground.data }], guard := none }) (v := .bool true) (by decide) rfl (fun _ _ _ h => h) (Or.inl ⟨by kernel_rfl, fun wq _ => by kernel_rfl⟩) hHeld ?_
  refine takeW (i := 85) (oi := { dst := some 180, op := Op.move (Operand.tmp 179), type := 4, pos := "law.go:35", after := #[{ on := 84, ground := Ground.data }, { on := 81, ground := Ground.chain }], guard := none }) (v := .bool true) (by decide) rfl (fun _ _ _ h => h) (Or.inl ⟨by kernel_rfl, fun wq _ => by kernel_rfl⟩) hHeld ?_
  refine takeW (i := 86) (oi := { dst := some 181, op := Op.move (Operand.tmp 28), type := 22, pos := "law.go:35", after := #[{ on := 85, ground := Ground.guard }], guard := some (85, true) }) (v := .int .i64 30) (by decide) rfl (fun _ _ _ h => h) (Or.inl ⟨by kernel_rfl, fun wq _ => by kernel_rfl⟩) hHeld ?_
  refine takeW (i := 87) (oi := { dst := some 182, op := Op.binOp BinOp.eql 22 (Operand.tmp 181) (Operand.const (Value.int IntKind.i64 30)) 22, type := 4, pos := "law.go:35", after := #[{ on := 86, ground := Ground.data }, { on := 85, ground := Ground.guard }], guard := some (85, true) }) (v := .bool true) (by decide) rfl (fun _ _ _ h => h) (Or.inl ⟨by kernel_rfl, fun wq _ => by kernel_rfl⟩) hHeld ?_
  refine takeW (i := 88) (oi := { dst := some 183, op := Op.pick (Operand.tmp 180) (Operand.tmp 182) (Operand.const (Value.bool false)), type := 4, pos := "law.go:35", after := #[{ on := 85, ground := Ground.data }, { on := 87, ground := Ground.data }], guard := none }) (v := .bool true) (by decide) rfl (fun _ _ _ h => h) (Or.inl ⟨by kernel_rfl, fun wq _ => by kernel_rfl⟩) hHeld ?_
  refine takeW (i := 89) (oi := { dst := some 184, op := Op.move (Operand.tmp 183), type := 4, pos := "law.go:35", after := #[{ on := 88, ground := Ground.data }, { on := 85, ground := Ground.chain }], guard := none }) (v := .bool true) (by decide) rfl (fun _ _ _ h => h) (Or.inl ⟨by kernel_rfl, fun wq _ => by kernel_rfl⟩) hHeld ?_
  refine takeW (i := 90) (oi := { dst := some 185, op := Op.move (Operand.tmp 30), type := 22, pos := "law.go:35", after := #[{ on := 89, ground := Ground.guard }], guard := some (89, true) }) (v := .int .i64 0) (by decide) rfl (fun _ _ _ h => h) (Or.inl ⟨by kernel_rfl, fun wq _ => by kernel_rfl⟩) hHeld ?_
  refine takeW (i := 91) (oi := { dst := some 186, op := Op.binOp BinOp.eql 22 (Operand.tmp 185) (Operand.const (Value.int IntKind.i64 0)) 22, type := 4, pos := "law.go:35", after := #[{ on := 90, ground := Ground.data }, { on := 89, ground := Ground.guard }], guard := some (89, true) }) (v := .bool true) (by decide) rfl (fun _ _ _ h => h) (Or.inl ⟨by kernel_rfl, fun wq _ => by kernel_rfl⟩) hHeld ?_
  refine takeW (i := 92) (oi := { dst := some 187, op := Op.pick (Operand.tmp 184) (Operand.tmp 186) (Operand.const (Value.bool false)), type := 4, pos := "law.go:35", after := #[{ on := 89, ground := Ground.data }, { on := 91, ground := Ground.data }], guard := none }) (v := .bool true) (by decide) rfl (fun _ _ _ h => h) (Or.inl ⟨by kernel_rfl, fun wq _ => by kernel_rfl⟩) hHeld ?_
  refine takeW (i := 93) (oi := { dst := some 188, op := Op.move (Operand.tmp 187), type := 4, pos := "law.go:35", after := #[{ on := 92, ground := Ground.data }, { on := 89, ground := Ground.chain }], guard := none }) (v := .bool true) (by decide) rfl (fun _ _ _ h => h) (Or.inl ⟨by kernel_rfl, fun wq _ => by kernel_rfl⟩) hHeld ?_
  refine takeW (i := 94) (oi := { dst := some 189, op := Op.move (Operand.tmp 29), type := 3, pos := "law.go:35", after := #[{ on := 93, ground := Ground.guard }], guard := some (93, true) }) (v := .int .i64 1000000000000000) (by decide) rfl (fun _ _ _ h => h) (Or.inl ⟨by kernel_rfl, fun wq _ => by kernel_rfl⟩) hHeld ?_
  refine takeW (i := 95) (oi := { dst := some 190, op := Op.binOp BinOp.eql 3 (Operand.tmp 189) (Operand.const (Value.int IntKind.i64 1000000000000000)) 3, type := 4, pos := "law.go:35", after := #[{ on := 94, ground := Ground.data }, { on := 93, ground := Ground.guard }], guard := some (93, true) }) (v := .bool true) (by decide) rfl (fun _ _ _ h => h) (Or.inl ⟨by kernel_rfl, fun wq _ => by kernel_rfl⟩) hHeld ?_
  refine takeW (i := 96) (oi := { dst := some 191, op := Op.pick (Operand.tmp 188) (Operand.tmp 190) (Operand.const (Value.bool false)), type := 4, pos := "law.go:35", after := #[{ on := 93, ground := Ground.data }, { on := 95, ground := Ground.data }], guard := none }) (v := .bool true) (by decide) rfl (fun _ _ _ h => h) (Or.inl ⟨by kernel_rfl, fun wq _ => by kernel_rfl⟩) hHeld ?_
  refine takeW (i := 97) (oi := { dst := some 0, op := Op.assign (Operand.tmp 191), type := 4, pos := "law.go:35", after := ([{ on := 96, ground := Ground.data }, { on := 93, ground := Ground.chain }, { on := 0, ground := Ground.phase }, { on := 1, ground := Ground.phase }, { on := 2, ground := Ground.phase }, { on := 3, ground := Ground.phase }, { on := 4, ground := Ground.phase }, { on := 5, ground := Ground.phase }, { on := 6, ground := Ground.phase }, { on := 7, ground := Ground.phase }, { on := 8, ground := Ground.phase }, { on := 9, ground := Ground.phase }, { on := 10, ground := Ground.phase }, { on := 11, ground := Ground.phase }, { on := 12, ground := Ground.phase }, { on := 13, ground := Ground.phase }, { on := 14, ground := Ground.phase }, { on := 15, ground := Ground.phase }, { on := 16, ground := Ground.phase }, { on := 17, ground := Ground.phase }, { on := 18, ground := Ground.phase }, { on := 19, ground := Ground.phase }, { on := 20, ground := Ground.phase }, { on := 21, ground := Ground.phase }, { on := 22, ground := Ground.phase }, { on := 23, ground := Ground.phase }, { on := 24, ground := Ground.phase }, { on := 25, ground := Ground.phase }, { on := 26, ground := Ground.phase }, { on := 27, ground := Ground.phase }, { on := 28, ground := Ground.phase }, { on := 29, ground := Ground.phase }, { on := 30, ground := Ground.phase }, { on := 31, ground := Ground.phase }, { on := 32, ground := Ground.phase }, { on := 33, ground := Ground.phase }, { on := 34, ground := Ground.phase }, { on := 35, ground := Ground.phase }, { on := 36, ground := Ground.phase }, { on := 37, ground := Ground.phase }, { on := 38, ground := Ground.phase }, { on := 39, ground := Ground.phase }, { on := 40, ground := Ground.phase }, { on := 41, ground := Ground.phase }, { on := 42, ground := Ground.phase }, { on := 43, ground := Ground.phase }, { on := 44, ground := Ground.phase }, { on := 45, ground := Ground.phase }, { on := 46, ground := Ground.phase }].append [{ on := 47, ground := Ground.phase }, { on := 48, ground := Ground.phase }, { on := 49, ground := Ground.phase }, { on := 50, ground := Ground.phase }, { on := 51, ground := Ground.phase }, { on := 52, ground := Ground.phase }, { on := 53, ground := Ground.phase }, { on := 54, ground := Ground.phase }, { on := 55, ground := Ground.phase }, { on := 56, ground := Ground.phase }, { on := 57, ground := Ground.phase }, { on := 58, ground := Ground.phase }, { on := 59, ground := Ground.phase }, { on := 60, ground := Ground.phase }, { on := 61, ground := Ground.phase }, { on := 62, ground := Ground.phase }, { on := 63, ground := Ground.phase }, { on := 64, ground := Ground.phase }, { on := 65, ground := Ground.phase }, { on := 66, ground := Ground.phase }, { on := 67, ground := Ground.phase }, { on := 68, ground := Ground.phase }, { on := 69, ground := Ground.phase }, { on := 70, ground := Ground.phase }, { on := 71, ground := Ground.phase }, { on := 72, ground := Ground.phase }, { on := 73, ground := Ground.phase }, { on := 74, ground := Ground.phase }, { on := 75, ground := Ground.phase }, { on := 76, ground := Ground.phase }, { on := 77, ground := Ground.phase }, { on := 78, ground := Ground.phase }, { on := 79, ground := Ground.phase }, { on := 80, ground := Ground.phase }, { on := 81, ground := Ground.phase }, { on := 82, ground := Ground.phase }, { on := 83, ground := Ground.phase }, { on := 84, ground := Ground.phase }, { on := 85, ground := Ground.phase }, { on := 86, ground := Ground.phase }, { on := 87, ground := Ground.phase }, { on := 88, ground := Ground.phase }, { on := 89, ground := Ground.phase }, { on := 90, ground := Ground.phase }, { on := 91, ground := Ground.phase }, { on := 92, ground := Ground.phase }, { on := 93, ground := Ground.phase }, { on := 94, ground := Ground.phase }, { on := 95, ground := Ground.phase }, { on := 96, ground := Ground.phase }] : List Edge).toArray, guard := none }) (v := .bool true) (by decide) rfl (fun _ _ _ h => h) (Or.inl ⟨by kernel_rfl, fun wq _ => by kernel_rfl⟩) hHeld ?_
  refine wpAnyH_done doneW ?_ _
  try simp only [Act.put, List.setIfInBounds_toArray, List.set_cons_zero, List.set_cons_succ]
  go_wp2_with fail
  go_ret
  exact ⟨rfl, HK25.out.1⟩
end Go.Proofs.Ytefoccjphbbmhaa
