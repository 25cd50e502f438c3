/- The walk of NatCommon. -/
import Derived.Test.YtffbmkobholmhaaDoorRow
namespace Go.Proofs.YtffbmkobholmhaaDoor
open Go.RowKit
set_option linter.unusedVariables false

set_option maxRecDepth 100000 in
set_option maxHeartbeats 4000000 in
theorem common_bad (a0 : Option Addr) (c0 : Nat) (x0 : List UInt32) (a1 : Option Addr) (c1 : Nat) (x1 : List UInt32) (a2 : Option Addr) (c2 : Nat) (x2 : List UInt32) (w : World) (ha : Sl w a0 c0 x0) (hb : Sl w a1 c1 x1) (hc : Sl w a2 c2 x2) (HR : Hid (rightB 24 [x0, x1, x2] = false)) :
    Calls Tryd.prog 8 #[.slice a0 x0.length c0, .slice a1 x1.length c1, .slice a2 x2.length c2] w fun e w' => e = .returned (.bool true) ∧ Below w.heap.size w w' := by
  have HB := Lib.hid (Below.refl w.heap.size w)
  have S_a := Lib.hid (show Sl w a0 c0 x0 from ha)
  have S_b := Lib.hid (show Sl w a1 c1 x1 from hb)
  have S_c := Lib.hid (show Sl w a2 c2 x2 from hc)
  clear ha hb hc
  go_enter Tryd.func8, Tryd.ntmps8
  go_wp2_with fail
  have HRV : Hid (rightB 24 (List.map (fun x => El.l x) ([⟨a0, c0, x0⟩, ⟨a1, c1, x1⟩, ⟨a2, c2, x2⟩] : List El)) = false) := HR
  have HRC : Hid ((List.map El.v ([⟨a0, c0, x0⟩, ⟨a1, c1, x1⟩, ⟨a2, c2, x2⟩] : List El)).toArray = #[Value.slice a0 x0.length c0, Value.slice a1 x1.length c1, Value.slice a2 x2.length c2]) := Lib.hid rfl
  have HRN : Hid (([⟨a0, c0, x0⟩, ⟨a1, c1, x1⟩, ⟨a2, c2, x2⟩] : List El).length = 3) := Lib.hid rfl
  (with_reducible refine (right_c 24 24 (by decide) [⟨a0, c0, x0⟩, ⟨a1, c1, x1⟩, ⟨a2, c2, x2⟩] #[Value.slice a0 x0.length c0, Value.slice a1 x1.length c1, Value.slice a2 x2.length c2] 3 false (w) HRC (els3 S_a.out S_b.out S_c.out) HRN (by decide) (by decide) HRV).mono ?_)
  clear HRV HRC HRN
  rintro e ws ⟨rfl, rfl⟩
  have hbl := below_new (w) (.cells #[Value.slice a0 x0.length c0, Value.slice a1 x1.length c1, Value.slice a2 x2.length c2] 22)
  replace S_a := Lib.hid (S_a.out.to hbl)
  replace S_b := Lib.hid (S_b.out.to hbl)
  replace S_c := Lib.hid (S_c.out.to hbl)
  replace HB := Lib.hid (HB.out.trans (Below.mono hbl HB.out.size))
  clear hbl
  go_wp2_with fail
  (with_reducible refine (wakes_any ((w).alloc (.cells #[Value.slice a0 x0.length c0, Value.slice a1 x1.length c1, Value.slice a2 x2.length c2] 22))).mono ?_)
  rintro e w1 ⟨rfl, hb⟩
  replace S_a := Lib.hid (S_a.out.to hb)
  replace S_b := Lib.hid (S_b.out.to hb)
  replace S_c := Lib.hid (S_c.out.to hb)
  replace HB := Lib.hid (HB.out.trans (Below.mono hb HB.out.size))
  clear hb
  go_wp2_with fail
  go_ret
  exact ⟨rfl, HB.out⟩
set_option maxRecDepth 100000 in
set_option maxHeartbeats 4000000 in
theorem common_zero (a0 : Option Addr) (c0 : Nat) (a1 : Option Addr) (c1 : Nat) (a2 : Option Addr) (c2 : Nat) (x2 : List UInt32) (w : World) (ha : Sl w a0 c0 []) (hb : Sl w a1 c1 []) (hc : Sl w a2 c2 x2) (HR : Hid (rightB 24 [[], [], x2] = true)) (H1 : Hid (gcdM [] [] = ([], 0))) :
    Calls Tryd.prog 8 #[.slice a0 0 c0, .slice a1 0 c1, .slice a2 x2.length c2] w fun e w' => e = .returned (.bool true) ∧ Below w.heap.size w w' := by
  have HB := Lib.hid (Below.refl w.heap.size w)
  have S_a := Lib.hid (show Sl w a0 c0 [] from ha)
  have S_b := Lib.hid (show Sl w a1 c1 [] from hb)
  have S_c := Lib.hid (show Sl w a2 c2 x2 from hc)
  clear ha hb hc
  go_enter Tryd.func8, Tryd.ntmps8
  go_wp2_with fail
  have HRV : Hid (rightB 24 (List.map (fun x => El.l x) ([⟨a0, c0, []⟩, ⟨a1, c1, []⟩, ⟨a2, c2, x2⟩] : List El)) = true) := HR
  have HRC : Hid ((List.map El.v ([⟨a0, c0, []⟩, ⟨a1, c1, []⟩, ⟨a2, c2, x2⟩] : List El)).toArray = #[Value.slice a0 0 c0, Value.slice a1 0 c1, Value.slice a2 x2.length c2]) := Lib.hid rfl
  have HRN : Hid (([⟨a0, c0, []⟩, ⟨a1, c1, []⟩, ⟨a2, c2, x2⟩] : List El).length = 3) := Lib.hid rfl
  (with_reducible refine (right_c 24 24 (by decide) [⟨a0, c0, []⟩, ⟨a1, c1, []⟩, ⟨a2, c2, x2⟩] #[Value.slice a0 0 c0, Value.slice a1 0 c1, Value.slice a2 x2.length c2] 3 true (w) HRC (els3 S_a.out S_b.out S_c.out) HRN (by decide) (by decide) HRV).mono ?_)
  clear HRV HRC HRN
  rintro e ws ⟨rfl, rfl⟩
  have hbl := below_new (w) (.cells #[Value.slice a0 0 c0, Value.slice a1 0 c1, Value.slice a2 x2.length c2] 22)
  replace S_a := Lib.hid (S_a.out.to hbl)
  replace S_b := Lib.hid (S_b.out.to hbl)
  replace S_c := Lib.hid (S_c.out.to hbl)
  replace HB := Lib.hid (HB.out.trans (Below.mono hbl HB.out.size))
  clear hbl
  go_wp2_with fail
  (with_reducible refine (gcd_c a0 a1 c0 c1 0 0 [] [] ((w).alloc (.cells #[Value.slice a0 0 c0, Value.slice a1 0 c1, Value.slice a2 x2.length c2] 22)) [] 0 S_a S_b (Lib.hid (rfl : ([] : List UInt32).length = 0)) (Lib.hid (rfl : ([] : List UInt32).length = 0)) H1).mono ?_)
  rintro e w1 ⟨A_d, c_d, rfl, hs, hb⟩
  replace S_a := Lib.hid (S_a.out.to hb)
  replace S_b := Lib.hid (S_b.out.to hb)
  replace S_c := Lib.hid (S_c.out.to hb)
  replace HB := Lib.hid (HB.out.trans (Below.mono hb HB.out.size))
  have S_d := Lib.hid hs
  clear hs hb
  go_wp2_with fail
  (with_reducible refine (wakes_any (w1)).mono ?_)
  rintro e w2 ⟨rfl, hb⟩
  replace S_a := Lib.hid (S_a.out.to hb)
  replace S_b := Lib.hid (S_b.out.to hb)
  replace S_c := Lib.hid (S_c.out.to hb)
  replace S_d := Lib.hid (S_d.out.to hb)
  replace HB := Lib.hid (HB.out.trans (Below.mono hb HB.out.size))
  clear hb
  go_wp2_with fail
  go_ret
  exact ⟨rfl, HB.out⟩
set_option maxRecDepth 100000 in
set_option maxHeartbeats 4000000 in
theorem common_some (a0 : Option Addr) (c0 : Nat) (x0 : List UInt32) (a1 : Option Addr) (c1 : Nat) (x1 : List UInt32) (a2 : Option Addr) (c2 : Nat) (x2 : List UInt32) (ld lx ly lac lbc ldc : List UInt32) (w : World) (ha : Sl w a0 c0 x0) (hb : Sl w a1 c1 x1) (hc : Sl w a2 c2 x2) (HR : Hid (rightB 24 [x0, x1, x2] = true)) (H1 : Hid (gcdM x0 x1 = (ld, 0))) (H2 : Hid (divM x0 ld = ((lx, []), 0))) (H3 : Hid (divM x1 ld = ((ly, []), 0))) (H4 : Hid (gcdM lx ly = ([1], 0))) (H5 : Hid (mulM x0 x2 = (lac, 0))) (H6 : Hid (mulM x1 x2 = (lbc, 0))) (H7 : Hid (mulM ld x2 = (ldc, 0))) (H8 : Hid (gcdM lac lbc = (ldc, 0))) (hz : ((x0.length : Int) + (x1.length : Int) == 0) = false) (hb0 : x0.length ≤ 96) (hb1 : x1.length ≤ 96) :
    Calls Tryd.prog 8 #[.slice a0 x0.length c0, .slice a1 x1.length c1, .slice a2 x2.length c2] w fun e w' => e = .returned (.bool true) ∧ Below w.heap.size w w' := by
  have HB := Lib.hid (Below.refl w.heap.size w)
  have S_a := Lib.hid (show Sl w a0 c0 x0 from ha)
  have S_b := Lib.hid (show Sl w a1 c1 x1 from hb)
  have S_c := Lib.hid (show Sl w a2 c2 x2 from hc)
  clear ha hb hc
  go_enter Tryd.func8, Tryd.ntmps8
  go_wp2_with fail
  have HRV : Hid (rightB 24 (List.map (fun x => El.l x) ([⟨a0, c0, x0⟩, ⟨a1, c1, x1⟩, ⟨a2, c2, x2⟩] : List El)) = true) := HR
  have HRC : Hid ((List.map El.v ([⟨a0, c0, x0⟩, ⟨a1, c1, x1⟩, ⟨a2, c2, x2⟩] : List El)).toArray = #[Value.slice a0 x0.length c0, Value.slice a1 x1.length c1, Value.slice a2 x2.length c2]) := Lib.hid rfl
  have HRN : Hid (([⟨a0, c0, x0⟩, ⟨a1, c1, x1⟩, ⟨a2, c2, x2⟩] : List El).length = 3) := Lib.hid rfl
  (with_reducible refine (right_c 24 24 (by decide) [⟨a0, c0, x0⟩, ⟨a1, c1, x1⟩, ⟨a2, c2, x2⟩] #[Value.slice a0 x0.length c0, Value.slice a1 x1.length c1, Value.slice a2 x2.length c2] 3 true (w) HRC (els3 S_a.out S_b.out S_c.out) HRN (by decide) (by decide) HRV).mono ?_)
  clear HRV HRC HRN
  rintro e ws ⟨rfl, rfl⟩
  have hbl := below_new (w) (.cells #[Value.slice a0 x0.length c0, Value.slice a1 x1.length c1, Value.slice a2 x2.length c2] 22)
  replace S_a := Lib.hid (S_a.out.to hbl)
  replace S_b := Lib.hid (S_b.out.to hbl)
  replace S_c := Lib.hid (S_c.out.to hbl)
  replace HB := Lib.hid (HB.out.trans (Below.mono hbl HB.out.size))
  clear hbl
  go_wp2_with fail
  (with_reducible refine (gcd_c a0 a1 c0 c1 x0.length x1.length x0 x1 ((w).alloc (.cells #[Value.slice a0 x0.length c0, Value.slice a1 x1.length c1, Value.slice a2 x2.length c2] 22)) ld 0 S_a S_b (Lib.hid (rfl : (x0 : List UInt32).length = x0.length)) (Lib.hid (rfl : (x1 : List UInt32).length = x1.length)) H1).mono ?_)
  rintro e w1 ⟨A_d, c_d, rfl, hs, hb⟩
  replace S_a := Lib.hid (S_a.out.to hb)
  replace S_b := Lib.hid (S_b.out.to hb)
  replace S_c := Lib.hid (S_c.out.to hb)
  replace HB := Lib.hid (HB.out.trans (Below.mono hb HB.out.size))
  have S_d := Lib.hid hs
  clear hs hb
  go_wp2_with fail
  (with_reducible refine (div_c a0 A_d c0 c_d x0.length ld.length x0 ld (w1) lx [] 0 S_a S_d (Lib.hid (rfl : (x0 : List UInt32).length = x0.length)) (Lib.hid (rfl : (ld : List UInt32).length = ld.length)) H2).mono ?_)
  rintro e w2 ⟨A_x, A_r, c_x, c_r, rfl, hs1, hs2, hb⟩
  replace S_a := Lib.hid (S_a.out.to hb)
  replace S_b := Lib.hid (S_b.out.to hb)
  replace S_c := Lib.hid (S_c.out.to hb)
  replace S_d := Lib.hid (S_d.out.to hb)
  replace HB := Lib.hid (HB.out.trans (Below.mono hb HB.out.size))
  have S_x := Lib.hid hs1
  have S_r := Lib.hid hs2
  clear hs1 hs2 hb
  go_wp2_with fail
  (with_reducible refine (div_c a1 A_d c1 c_d x1.length ld.length x1 ld (w2) ly [] 0 S_b S_d (Lib.hid (rfl : (x1 : List UInt32).length = x1.length)) (Lib.hid (rfl : (ld : List UInt32).length = ld.length)) H3).mono ?_)
  rintro e w3 ⟨A_y, A_s, c_y, c_s, rfl, hs1, hs2, hb⟩
  replace S_a := Lib.hid (S_a.out.to hb)
  replace S_b := Lib.hid (S_b.out.to hb)
  replace S_c := Lib.hid (S_c.out.to hb)
  replace S_d := Lib.hid (S_d.out.to hb)
  replace S_x := Lib.hid (S_x.out.to hb)
  replace S_r := Lib.hid (S_r.out.to hb)
  replace HB := Lib.hid (HB.out.trans (Below.mono hb HB.out.size))
  have S_y := Lib.hid hs1
  have S_s := Lib.hid hs2
  clear hs1 hs2 hb
  clear S_r
  clear S_s
  go_wp2_with fail
  (with_reducible refine (gcd_c A_x A_y c_x c_y lx.length ly.length lx ly (w3) [1] 0 S_x S_y (Lib.hid (rfl : (lx : List UInt32).length = lx.length)) (Lib.hid (rfl : (ly : List UInt32).length = ly.length)) H4).mono ?_)
  rintro e w4 ⟨A_one, c_one, rfl, hs, hb⟩
  replace S_a := Lib.hid (S_a.out.to hb)
  replace S_b := Lib.hid (S_b.out.to hb)
  replace S_c := Lib.hid (S_c.out.to hb)
  replace S_d := Lib.hid (S_d.out.to hb)
  replace S_x := Lib.hid (S_x.out.to hb)
  replace S_y := Lib.hid (S_y.out.to hb)
  replace HB := Lib.hid (HB.out.trans (Below.mono hb HB.out.size))
  have S_one := Lib.hid hs
  clear hs hb
  clear S_x
  clear S_y
  go_wp2_with fail
  (with_reducible refine (mul_c a0 a2 c0 c2 x0.length x2.length x0 x2 (w4) lac 0 S_a S_c (Lib.hid (rfl : (x0 : List UInt32).length = x0.length)) (Lib.hid (rfl : (x2 : List UInt32).length = x2.length)) H5).mono ?_)
  rintro e w5 ⟨A_ac, c_ac, rfl, hs, hb⟩
  replace S_a := Lib.hid (S_a.out.to hb)
  replace S_b := Lib.hid (S_b.out.to hb)
  replace S_c := Lib.hid (S_c.out.to hb)
  replace S_d := Lib.hid (S_d.out.to hb)
  replace S_one := Lib.hid (S_one.out.to hb)
  replace HB := Lib.hid (HB.out.trans (Below.mono hb HB.out.size))
  have S_ac := Lib.hid hs
  clear hs hb
  go_wp2_with fail
  (with_reducible refine (mul_c a1 a2 c1 c2 x1.length x2.length x1 x2 (w5) lbc 0 S_b S_c (Lib.hid (rfl : (x1 : List UInt32).length = x1.length)) (Lib.hid (rfl : (x2 : List UInt32).length = x2.length)) H6).mono ?_)
  rintro e w6 ⟨A_bc, c_bc, rfl, hs, hb⟩
  replace S_a := Lib.hid (S_a.out.to hb)
  replace S_b := Lib.hid (S_b.out.to hb)
  replace S_c := Lib.hid (S_c.out.to hb)
  replace S_d := Lib.hid (S_d.out.to hb)
  replace S_one := Lib.hid (S_one.out.to hb)
  replace S_ac := Lib.hid (S_ac.out.to hb)
  replace HB := Lib.hid (HB.out.trans (Below.mono hb HB.out.size))
  have S_bc := Lib.hid hs
  clear hs hb
  go_wp2_with fail
  (with_reducible refine (mul_c A_d a2 c_d c2 ld.length x2.length ld x2 (w6) ldc 0 S_d S_c (Lib.hid (rfl : (ld : List UInt32).length = ld.length)) (Lib.hid (rfl : (x2 : List UInt32).length = x2.length)) H7).mono ?_)
  rintro e w7 ⟨A_dc, c_dc, rfl, hs, hb⟩
  replace S_a := Lib.hid (S_a.out.to hb)
  replace S_b := Lib.hid (S_b.out.to hb)
  replace S_c := Lib.hid (S_c.out.to hb)
  replace S_d := Lib.hid (S_d.out.to hb)
  replace S_one := Lib.hid (S_one.out.to hb)
  replace S_ac := Lib.hid (S_ac.out.to hb)
  replace S_bc := Lib.hid (S_bc.out.to hb)
  replace HB := Lib.hid (HB.out.trans (Below.mono hb HB.out.size))
  have S_dc := Lib.hid hs
  clear hs hb
  go_wp2_with fail
  (with_reducible refine (gcd_c A_ac A_bc c_ac c_bc lac.length lbc.length lac lbc (w7) ldc 0 S_ac S_bc (Lib.hid (rfl : (lac : List UInt32).length = lac.length)) (Lib.hid (rfl : (lbc : List UInt32).length = lbc.length)) H8).mono ?_)
  rintro e w8 ⟨A_more, c_more, rfl, hs, hb⟩
  replace S_a := Lib.hid (S_a.out.to hb)
  replace S_b := Lib.hid (S_b.out.to hb)
  replace S_c := Lib.hid (S_c.out.to hb)
  replace S_d := Lib.hid (S_d.out.to hb)
  replace S_one := Lib.hid (S_one.out.to hb)
  replace S_ac := Lib.hid (S_ac.out.to hb)
  replace S_bc := Lib.hid (S_bc.out.to hb)
  replace S_dc := Lib.hid (S_dc.out.to hb)
  replace HB := Lib.hid (HB.out.trans (Below.mono hb HB.out.size))
  have S_more := Lib.hid hs
  clear hs hb
  clear S_ac
  clear S_bc
  clear S_d
  go_wp2_with fail
  have S_l1 := Lib.hid (Sl.litg (w8) w8.heap.size [1] #[Value.int IntKind.u32 1] (by rfl) rfl 1 rfl (by decide))
  have hbl := below_new (w8) (.cells #[Value.int IntKind.u32 1] 45)
  replace S_a := Lib.hid (S_a.out.to hbl)
  replace S_b := Lib.hid (S_b.out.to hbl)
  replace S_c := Lib.hid (S_c.out.to hbl)
  replace S_one := Lib.hid (S_one.out.to hbl)
  replace S_dc := Lib.hid (S_dc.out.to hbl)
  replace S_more := Lib.hid (S_more.out.to hbl)
  replace HB := Lib.hid (HB.out.trans (Below.mono hbl HB.out.size))
  clear hbl
  (with_reducible refine (rsame_c A_one (some ⟨w8.heap.size, 0, none⟩) c_one 1 1 1 [1] [1] ((w8).alloc (.cells #[Value.int IntKind.u32 1] 45)) true S_one S_l1 (Lib.hid (rfl : ([1] : List UInt32).length = 1)) (Lib.hid (rfl : ([1] : List UInt32).length = 1)) (Lib.hid (sameB_refl _))).mono ?_)
  rintro e w9 ⟨rfl, hb⟩
  replace S_a := Lib.hid (S_a.out.to hb)
  replace S_b := Lib.hid (S_b.out.to hb)
  replace S_c := Lib.hid (S_c.out.to hb)
  replace S_one := Lib.hid (S_one.out.to hb)
  replace S_dc := Lib.hid (S_dc.out.to hb)
  replace S_more := Lib.hid (S_more.out.to hb)
  replace S_l1 := Lib.hid (S_l1.out.to hb)
  replace HB := Lib.hid (HB.out.trans (Below.mono hb HB.out.size))
  clear hb
  clear S_one
  clear S_l1
  go_wp2_with fail
  (with_reducible refine (rsame_c A_more A_dc c_more c_dc ldc.length ldc.length ldc ldc (w9) true S_more S_dc (Lib.hid (rfl : (ldc : List UInt32).length = ldc.length)) (Lib.hid (rfl : (ldc : List UInt32).length = ldc.length)) (Lib.hid (sameB_refl _))).mono ?_)
  rintro e w10 ⟨rfl, hb⟩
  replace S_a := Lib.hid (S_a.out.to hb)
  replace S_b := Lib.hid (S_b.out.to hb)
  replace S_c := Lib.hid (S_c.out.to hb)
  replace S_dc := Lib.hid (S_dc.out.to hb)
  replace S_more := Lib.hid (S_more.out.to hb)
  replace HB := Lib.hid (HB.out.trans (Below.mono hb HB.out.size))
  clear hb
  go_wp2_with fail
  (with_reducible refine (wakes_any (w10)).mono ?_)
  rintro e w11 ⟨rfl, hb⟩
  replace S_a := Lib.hid (S_a.out.to hb)
  replace S_b := Lib.hid (S_b.out.to hb)
  replace S_c := Lib.hid (S_c.out.to hb)
  replace S_dc := Lib.hid (S_dc.out.to hb)
  replace S_more := Lib.hid (S_more.out.to hb)
  replace HB := Lib.hid (HB.out.trans (Below.mono hb HB.out.size))
  clear hb
  go_wp2_with fail
  go_ret
  exact ⟨rfl, HB.out⟩
theorem natCommon_any (a0 : Option Addr) (c0 : Nat) (x0 : List UInt32) (a1 : Option Addr) (c1 : Nat) (x1 : List UInt32) (a2 : Option Addr) (c2 : Nat) (x2 : List UInt32) (w : World) (ha : Sl w a0 c0 x0) (hb : Sl w a1 c1 x1) (hc : Sl w a2 c2 x2) :
    Calls Tryd.prog 8 #[.slice a0 x0.length c0, .slice a1 x1.length c1, .slice a2 x2.length c2] w fun e w' => e = .returned (.bool true) ∧ Below w.heap.size w w' := by
  cases hR : rightB 24 [x0, x1, x2] with
  | false => exact common_bad a0 c0 x0 a1 c1 x1 a2 c2 x2 w ha hb hc hR
  | true =>
    obtain ⟨m, rfl, hm, hm9⟩ := right_yes hR x0 (by simp)
    obtain ⟨n, rfl, hn, hn9⟩ := right_yes hR x1 (by simp)
    obtain ⟨k, rfl, hk, hk9⟩ := right_yes hR x2 (by simp)
    by_cases h0 : m = 0 ∧ n = 0
    · obtain ⟨rfl, rfl⟩ := h0
      have e0 : limbs 0 = [] := limbs_zero
      have hg := gcdL hm9 hn9 (k := 0) (by decide)
      rw [e0] at ha hb hR hg ⊢
      exact common_zero a0 c0 a1 c1 a2 c2 (limbs k) w ha hb hc hR hg
    · have hgp : 0 < Nat.gcd m n := by
        rcases Nat.eq_zero_or_pos (Nat.gcd m n) with e | e
        · exact absurd (Nat.gcd_eq_zero_iff.1 e) h0
        · exact e
      obtain ⟨g, hg⟩ : ∃ g, g = Nat.gcd m n := ⟨_, rfl⟩
      rw [← hg] at hgp
      have hdm : g ∣ m := hg ▸ Nat.gcd_dvd_left m n
      have hdn : g ∣ n := hg ▸ Nat.gcd_dvd_right m n
      have lg : (limbs g).length ≤ 24 := by
        rcases Nat.eq_zero_or_pos m with e | e
        · have : 0 < n := by omega
          exact len_le hn (Nat.le_of_dvd this hdn)
        · exact len_le hm (Nat.le_of_dvd e hdm)
      have l1 : (limbs (m * k)).length ≤ 48 := len_mul hm hk
      have l2 : (limbs (n * k)).length ≤ 48 := len_mul hn hk
      have l3 : (limbs (g * k)).length ≤ 48 := len_mul lg hk
      have lx : (limbs (m / g)).length ≤ 96 := len_le hm9 (Nat.div_le_self m g)
      have ly : (limbs (n / g)).length ≤ 96 := len_le hn9 (Nat.div_le_self n g)
      have e0 : limbs 0 = [] := limbs_zero
      have e1 : limbs 1 = [1] := limbs_lit (n := 0) rfl (by decide) (by decide)
      have d1 := divL hm9 (by omega : (limbs g).length ≤ 96) (by omega) rfl (Nat.mod_eq_zero_of_dvd hdm)
      have d2 := divL hn9 (by omega : (limbs g).length ≤ 96) (by omega) rfl (Nat.mod_eq_zero_of_dvd hdn)
      have d3 := gcdL lx ly (k := 1) (by rw [Nat.gcd_div hdm hdn, ← hg, Nat.div_self hgp])
      rw [e0] at d1 d2
      rw [e1] at d3
      refine common_some _ _ _ _ _ _ _ _ _ (limbs g) (limbs (m / g)) (limbs (n / g)) (limbs (m * k)) (limbs (n * k)) (limbs (g * k)) w ha hb hc hR (gcdL hm9 hn9 hg.symm) d1 d2 d3
        (mulL hm9 hk9 rfl (by omega)) (mulL hn9 hk9 rfl (by omega)) (mulL (by omega) hk9 rfl (by omega)) (gcdL (by omega) (by omega) (by rw [Nat.gcd_mul_right, hg])) ?_ hm9 hn9
      have h1 : (limbs m).length ≠ 0 ∨ (limbs n).length ≠ 0 := by
        rcases Nat.eq_zero_or_pos m with e | e
        · right; intro e2; have := limbs_len_eq_zero.1 e2; omega
        · left; intro e2; have := limbs_len_eq_zero.1 e2; omega
      rw [beq_eq_false_iff_ne]; omega
end Go.Proofs.YtffbmkobholmhaaDoor
