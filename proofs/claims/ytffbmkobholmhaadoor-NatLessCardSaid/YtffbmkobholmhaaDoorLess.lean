/- The walk of NatLess. -/
import Derived.Test.YtffbmkobholmhaaDoorRow
namespace Go.Proofs.YtffbmkobholmhaaDoor
open Go.RowKit
set_option linter.unusedVariables false

set_option maxRecDepth 100000 in
set_option maxHeartbeats 4000000 in
theorem less_bad (a0 : Option Addr) (c0 : Nat) (x0 : List UInt32) (a1 : Option Addr) (c1 : Nat) (x1 : List UInt32) (a2 : Option Addr) (c2 : Nat) (x2 : List UInt32) (w : World) (ha : Sl w a0 c0 x0) (hb : Sl w a1 c1 x1) (hc : Sl w a2 c2 x2) (HR : Hid (rightB 90 [x0, x1, x2] = false)) :
    Calls Tryd.prog 6 #[.slice a0 x0.length c0, .slice a1 x1.length c1, .slice a2 x2.length c2] w fun e w' => e = .returned (.bool true) ∧ Below w.heap.size w w' := by
  have HB := Lib.hid (Below.refl w.heap.size w)
  have S_a := Lib.hid (show Sl w a0 c0 x0 from ha)
  have S_b := Lib.hid (show Sl w a1 c1 x1 from hb)
  have S_c := Lib.hid (show Sl w a2 c2 x2 from hc)
  clear ha hb hc
  go_enter Tryd.func6, Tryd.ntmps6
  go_wp2_with fail
  have HRV : Hid (rightB 90 (List.map (fun x => El.l x) ([⟨a0, c0, x0⟩, ⟨a1, c1, x1⟩, ⟨a2, c2, x2⟩] : List El)) = false) := HR
  have HRC : Hid ((List.map El.v ([⟨a0, c0, x0⟩, ⟨a1, c1, x1⟩, ⟨a2, c2, x2⟩] : List El)).toArray = #[Value.slice a0 x0.length c0, Value.slice a1 x1.length c1, Value.slice a2 x2.length c2]) := Lib.hid rfl
  have HRN : Hid (([⟨a0, c0, x0⟩, ⟨a1, c1, x1⟩, ⟨a2, c2, x2⟩] : List El).length = 3) := Lib.hid rfl
  (with_reducible refine (right_c 90 90 (by decide) [⟨a0, c0, x0⟩, ⟨a1, c1, x1⟩, ⟨a2, c2, x2⟩] #[Value.slice a0 x0.length c0, Value.slice a1 x1.length c1, Value.slice a2 x2.length c2] 3 false (w) HRC (els3 S_a.out S_b.out S_c.out) HRN (by decide) (by decide) HRV).mono ?_)
  clear HRV HRC HRN
  rintro e ws ⟨rfl, rfl⟩
  have hbl := below_new (w) (.cells #[Value.slice a0 x0.length c0, Value.slice a1 x1.length c1, Value.slice a2 x2.length c2] 22)
  replace S_a := Lib.hid (S_a.out.to hbl)
  replace S_b := Lib.hid (S_b.out.to hbl)
  replace S_c := Lib.hid (S_c.out.to hbl)
  replace HB := Lib.hid (HB.out.trans (Below.mono hbl HB.out.size))
  clear hbl
  go_wp2_with fail
  (with_reducible refine (wakes_any ((w).alloc (.cells #[Value.slice a0 x0.length c0, Value.slice a1 x1.length c1, Value.slice a2 x2.length c2] 22))).mono ?_)
  rintro e w1 ⟨rfl, hb⟩
  replace S_a := Lib.hid (S_a.out.to hb)
  replace S_b := Lib.hid (S_b.out.to hb)
  replace S_c := Lib.hid (S_c.out.to hb)
  replace HB := Lib.hid (HB.out.trans (Below.mono hb HB.out.size))
  clear hb
  go_wp2_with fail
  go_ret
  exact ⟨rfl, HB.out⟩
set_option maxRecDepth 100000 in
set_option maxHeartbeats 4000000 in
theorem less_lt (a0 : Option Addr) (c0 : Nat) (x0 : List UInt32) (a1 : Option Addr) (c1 : Nat) (x1 : List UInt32) (a2 : Option Addr) (c2 : Nat) (x2 : List UInt32) (lab lac lbc : List UInt32) (w : World) (ha : Sl w a0 c0 x0) (hb : Sl w a1 c1 x1) (hc : Sl w a2 c2 x2) (HR : Hid (rightB 90 [x0, x1, x2] = true)) (H1 : Hid (addM x0 x1 = (lab, 0))) (H2 : Hid (subM lab x1 = (x0, 0))) (H3 : Hid (addM x0 x2 = (lac, 0))) (H4 : Hid (addM x1 x2 = (lbc, 0))) (H5 : Hid (cmpM x0 x1 = (-1, 0))) (H6 : Hid (cmpM lac lbc = (-1, 0))) (H7 : Hid (cmpM x1 x0 = (1, 0))) (H8 : Hid (subM x0 x1 = ([], 6))) (H9 : Hid (sameB x0 x1 = false)) :
    Calls Tryd.prog 6 #[.slice a0 x0.length c0, .slice a1 x1.length c1, .slice a2 x2.length c2] w fun e w' => e = .returned (.bool true) ∧ Below w.heap.size w w' := by
  have HB := Lib.hid (Below.refl w.heap.size w)
  have S_a := Lib.hid (show Sl w a0 c0 x0 from ha)
  have S_b := Lib.hid (show Sl w a1 c1 x1 from hb)
  have S_c := Lib.hid (show Sl w a2 c2 x2 from hc)
  clear ha hb hc
  go_enter Tryd.func6, Tryd.ntmps6
  go_wp2_with fail
  have HRV : Hid (rightB 90 (List.map (fun x => El.l x) ([⟨a0, c0, x0⟩, ⟨a1, c1, x1⟩, ⟨a2, c2, x2⟩] : List El)) = true) := HR
  have HRC : Hid ((List.map El.v ([⟨a0, c0, x0⟩, ⟨a1, c1, x1⟩, ⟨a2, c2, x2⟩] : List El)).toArray = #[Value.slice a0 x0.length c0, Value.slice a1 x1.length c1, Value.slice a2 x2.length c2]) := Lib.hid rfl
  have HRN : Hid (([⟨a0, c0, x0⟩, ⟨a1, c1, x1⟩, ⟨a2, c2, x2⟩] : List El).length = 3) := Lib.hid rfl
  (with_reducible refine (right_c 90 90 (by decide) [⟨a0, c0, x0⟩, ⟨a1, c1, x1⟩, ⟨a2, c2, x2⟩] #[Value.slice a0 x0.length c0, Value.slice a1 x1.length c1, Value.slice a2 x2.length c2] 3 true (w) HRC (els3 S_a.out S_b.out S_c.out) HRN (by decide) (by decide) HRV).mono ?_)
  clear HRV HRC HRN
  rintro e ws ⟨rfl, rfl⟩
  have hbl := below_new (w) (.cells #[Value.slice a0 x0.length c0, Value.slice a1 x1.length c1, Value.slice a2 x2.length c2] 22)
  replace S_a := Lib.hid (S_a.out.to hbl)
  replace S_b := Lib.hid (S_b.out.to hbl)
  replace S_c := Lib.hid (S_c.out.to hbl)
  replace HB := Lib.hid (HB.out.trans (Below.mono hbl HB.out.size))
  clear hbl
  go_wp2_with fail
  (with_reducible refine (add_c a0 a1 c0 c1 x0.length x1.length x0 x1 ((w).alloc (.cells #[Value.slice a0 x0.length c0, Value.slice a1 x1.length c1, Value.slice a2 x2.length c2] 22)) lab 0 S_a S_b (Lib.hid (rfl : (x0 : List UInt32).length = x0.length)) (Lib.hid (rfl : (x1 : List UInt32).length = x1.length)) H1).mono ?_)
  rintro e w1 ⟨A_ab, c_ab, rfl, hs, hb⟩
  replace S_a := Lib.hid (S_a.out.to hb)
  replace S_b := Lib.hid (S_b.out.to hb)
  replace S_c := Lib.hid (S_c.out.to hb)
  replace HB := Lib.hid (HB.out.trans (Below.mono hb HB.out.size))
  have S_ab := Lib.hid hs
  clear hs hb
  go_wp2_with fail
  (with_reducible refine (sub_c A_ab a1 c_ab c1 lab.length x1.length lab x1 (w1) x0 0 S_ab S_b (Lib.hid (rfl : (lab : List UInt32).length = lab.length)) (Lib.hid (rfl : (x1 : List UInt32).length = x1.length)) H2).mono ?_)
  rintro e w2 ⟨A_x, c_x, rfl, hs, hb⟩
  replace S_a := Lib.hid (S_a.out.to hb)
  replace S_b := Lib.hid (S_b.out.to hb)
  replace S_c := Lib.hid (S_c.out.to hb)
  replace S_ab := Lib.hid (S_ab.out.to hb)
  replace HB := Lib.hid (HB.out.trans (Below.mono hb HB.out.size))
  have S_x := Lib.hid hs
  clear hs hb
  go_wp2_with fail
  (with_reducible refine (rsame_c A_x a0 c_x c0 x0.length x0.length x0 x0 (w2) true S_x S_a (Lib.hid (rfl : (x0 : List UInt32).length = x0.length)) (Lib.hid (rfl : (x0 : List UInt32).length = x0.length)) (Lib.hid (sameB_refl _))).mono ?_)
  rintro e w3 ⟨rfl, hb⟩
  replace S_a := Lib.hid (S_a.out.to hb)
  replace S_b := Lib.hid (S_b.out.to hb)
  replace S_c := Lib.hid (S_c.out.to hb)
  replace S_ab := Lib.hid (S_ab.out.to hb)
  replace S_x := Lib.hid (S_x.out.to hb)
  replace HB := Lib.hid (HB.out.trans (Below.mono hb HB.out.size))
  clear hb
  clear S_x
  clear S_ab
  go_wp2_with fail
  (with_reducible refine (add_c a0 a2 c0 c2 x0.length x2.length x0 x2 (w3) lac 0 S_a S_c (Lib.hid (rfl : (x0 : List UInt32).length = x0.length)) (Lib.hid (rfl : (x2 : List UInt32).length = x2.length)) H3).mono ?_)
  rintro e w4 ⟨A_ac, c_ac, rfl, hs, hb⟩
  replace S_a := Lib.hid (S_a.out.to hb)
  replace S_b := Lib.hid (S_b.out.to hb)
  replace S_c := Lib.hid (S_c.out.to hb)
  replace HB := Lib.hid (HB.out.trans (Below.mono hb HB.out.size))
  have S_ac := Lib.hid hs
  clear hs hb
  go_wp2_with fail
  (with_reducible refine (add_c a1 a2 c1 c2 x1.length x2.length x1 x2 (w4) lbc 0 S_b S_c (Lib.hid (rfl : (x1 : List UInt32).length = x1.length)) (Lib.hid (rfl : (x2 : List UInt32).length = x2.length)) H4).mono ?_)
  rintro e w5 ⟨A_bc, c_bc, rfl, hs, hb⟩
  replace S_a := Lib.hid (S_a.out.to hb)
  replace S_b := Lib.hid (S_b.out.to hb)
  replace S_c := Lib.hid (S_c.out.to hb)
  replace S_ac := Lib.hid (S_ac.out.to hb)
  replace HB := Lib.hid (HB.out.trans (Below.mono hb HB.out.size))
  have S_bc := Lib.hid hs
  clear hs hb
  go_wp2_with fail
  (with_reducible refine (cmp_c a0 a1 c0 c1 x0.length x1.length x0 x1 (w5) (-1) 0 S_a S_b (Lib.hid (rfl : (x0 : List UInt32).length = x0.length)) (Lib.hid (rfl : (x1 : List UInt32).length = x1.length)) H5).mono ?_)
  rintro e w6 ⟨rfl, hb⟩
  replace S_a := Lib.hid (S_a.out.to hb)
  replace S_b := Lib.hid (S_b.out.to hb)
  replace S_c := Lib.hid (S_c.out.to hb)
  replace S_ac := Lib.hid (S_ac.out.to hb)
  replace S_bc := Lib.hid (S_bc.out.to hb)
  replace HB := Lib.hid (HB.out.trans (Below.mono hb HB.out.size))
  clear hb
  go_wp2_with fail
  (with_reducible refine (cmp_c A_ac A_bc c_ac c_bc lac.length lbc.length lac lbc (w6) (-1) 0 S_ac S_bc (Lib.hid (rfl : (lac : List UInt32).length = lac.length)) (Lib.hid (rfl : (lbc : List UInt32).length = lbc.length)) H6).mono ?_)
  rintro e w7 ⟨rfl, hb⟩
  replace S_a := Lib.hid (S_a.out.to hb)
  replace S_b := Lib.hid (S_b.out.to hb)
  replace S_c := Lib.hid (S_c.out.to hb)
  replace S_ac := Lib.hid (S_ac.out.to hb)
  replace S_bc := Lib.hid (S_bc.out.to hb)
  replace HB := Lib.hid (HB.out.trans (Below.mono hb HB.out.size))
  clear hb
  clear S_ac
  clear S_bc
  go_wp2_with fail
  (with_reducible refine (cmp_c a1 a0 c1 c0 x1.length x0.length x1 x0 (w7) (1) 0 S_b S_a (Lib.hid (rfl : (x1 : List UInt32).length = x1.length)) (Lib.hid (rfl : (x0 : List UInt32).length = x0.length)) H7).mono ?_)
  rintro e w8 ⟨rfl, hb⟩
  replace S_a := Lib.hid (S_a.out.to hb)
  replace S_b := Lib.hid (S_b.out.to hb)
  replace S_c := Lib.hid (S_c.out.to hb)
  replace HB := Lib.hid (HB.out.trans (Below.mono hb HB.out.size))
  clear hb
  go_wp2_with fail
  (with_reducible refine (sub_c a0 a1 c0 c1 x0.length x1.length x0 x1 (w8) [] 6 S_a S_b (Lib.hid (rfl : (x0 : List UInt32).length = x0.length)) (Lib.hid (rfl : (x1 : List UInt32).length = x1.length)) H8).mono ?_)
  rintro e w9 ⟨A_d, c_d, rfl, hs, hb⟩
  replace S_a := Lib.hid (S_a.out.to hb)
  replace S_b := Lib.hid (S_b.out.to hb)
  replace S_c := Lib.hid (S_c.out.to hb)
  replace HB := Lib.hid (HB.out.trans (Below.mono hb HB.out.size))
  have S_d := Lib.hid hs
  clear hs hb
  go_wp2_with fail
  (with_reducible refine (same_c a0 a1 c0 c1 x0.length x1.length x0 x1 (w9) false S_a S_b (Lib.hid (rfl : (x0 : List UInt32).length = x0.length)) (Lib.hid (rfl : (x1 : List UInt32).length = x1.length)) H9).mono ?_)
  rintro e w10 ⟨rfl, hb⟩
  replace S_a := Lib.hid (S_a.out.to hb)
  replace S_b := Lib.hid (S_b.out.to hb)
  replace S_c := Lib.hid (S_c.out.to hb)
  replace S_d := Lib.hid (S_d.out.to hb)
  replace HB := Lib.hid (HB.out.trans (Below.mono hb HB.out.size))
  clear hb
  go_wp2_with fail
  (with_reducible refine (wakes_any (w10)).mono ?_)
  rintro e w11 ⟨rfl, hb⟩
  replace S_a := Lib.hid (S_a.out.to hb)
  replace S_b := Lib.hid (S_b.out.to hb)
  replace S_c := Lib.hid (S_c.out.to hb)
  replace S_d := Lib.hid (S_d.out.to hb)
  replace HB := Lib.hid (HB.out.trans (Below.mono hb HB.out.size))
  clear hb
  go_wp2_with fail
  go_ret
  exact ⟨rfl, HB.out⟩
set_option maxRecDepth 100000 in
set_option maxHeartbeats 4000000 in
theorem less_eq (a0 : Option Addr) (c0 : Nat) (x0 : List UInt32) (a1 : Option Addr) (c1 : Nat) (x1 : List UInt32) (a2 : Option Addr) (c2 : Nat) (x2 : List UInt32) (lab lac lbc ld : List UInt32) (w : World) (ha : Sl w a0 c0 x0) (hb : Sl w a1 c1 x1) (hc : Sl w a2 c2 x2) (HR : Hid (rightB 90 [x0, x1, x2] = true)) (H1 : Hid (addM x0 x1 = (lab, 0))) (H2 : Hid (subM lab x1 = (x0, 0))) (H3 : Hid (addM x0 x2 = (lac, 0))) (H4 : Hid (addM x1 x2 = (lbc, 0))) (H5 : Hid (cmpM x0 x1 = (0, 0))) (H6 : Hid (cmpM lac lbc = (0, 0))) (H7 : Hid (cmpM x1 x0 = (0, 0))) (H8 : Hid (subM x0 x1 = (ld, 0))) (H9 : Hid (sameB x0 x1 = true)) (H10 : Hid (addM ld x1 = (x0, 0))) :
    Calls Tryd.prog 6 #[.slice a0 x0.length c0, .slice a1 x1.length c1, .slice a2 x2.length c2] w fun e w' => e = .returned (.bool true) ∧ Below w.heap.size w w' := by
  have HB := Lib.hid (Below.refl w.heap.size w)
  have S_a := Lib.hid (show Sl w a0 c0 x0 from ha)
  have S_b := Lib.hid (show Sl w a1 c1 x1 from hb)
  have S_c := Lib.hid (show Sl w a2 c2 x2 from hc)
  clear ha hb hc
  go_enter Tryd.func6, Tryd.ntmps6
  go_wp2_with fail
  have HRV : Hid (rightB 90 (List.map (fun x => El.l x) ([⟨a0, c0, x0⟩, ⟨a1, c1, x1⟩, ⟨a2, c2, x2⟩] : List El)) = true) := HR
  have HRC : Hid ((List.map El.v ([⟨a0, c0, x0⟩, ⟨a1, c1, x1⟩, ⟨a2, c2, x2⟩] : List El)).toArray = #[Value.slice a0 x0.length c0, Value.slice a1 x1.length c1, Value.slice a2 x2.length c2]) := Lib.hid rfl
  have HRN : Hid (([⟨a0, c0, x0⟩, ⟨a1, c1, x1⟩, ⟨a2, c2, x2⟩] : List El).length = 3) := Lib.hid rfl
  (with_reducible refine (right_c 90 90 (by decide) [⟨a0, c0, x0⟩, ⟨a1, c1, x1⟩, ⟨a2, c2, x2⟩] #[Value.slice a0 x0.length c0, Value.slice a1 x1.length c1, Value.slice a2 x2.length c2] 3 true (w) HRC (els3 S_a.out S_b.out S_c.out) HRN (by decide) (by decide) HRV).mono ?_)
  clear HRV HRC HRN
  rintro e ws ⟨rfl, rfl⟩
  have hbl := below_new (w) (.cells #[Value.slice a0 x0.length c0, Value.slice a1 x1.length c1, Value.slice a2 x2.length c2] 22)
  replace S_a := Lib.hid (S_a.out.to hbl)
  replace S_b := Lib.hid (S_b.out.to hbl)
  replace S_c := Lib.hid (S_c.out.to hbl)
  replace HB := Lib.hid (HB.out.trans (Below.mono hbl HB.out.size))
  clear hbl
  go_wp2_with fail
  (with_reducible refine (add_c a0 a1 c0 c1 x0.length x1.length x0 x1 ((w).alloc (.cells #[Value.slice a0 x0.length c0, Value.slice a1 x1.length c1, Value.slice a2 x2.length c2] 22)) lab 0 S_a S_b (Lib.hid (rfl : (x0 : List UInt32).length = x0.length)) (Lib.hid (rfl : (x1 : List UInt32).length = x1.length)) H1).mono ?_)
  rintro e w1 ⟨A_ab, c_ab, rfl, hs, hb⟩
  replace S_a := Lib.hid (S_a.out.to hb)
  replace S_b := Lib.hid (S_b.out.to hb)
  replace S_c := Lib.hid (S_c.out.to hb)
  replace HB := Lib.hid (HB.out.trans (Below.mono hb HB.out.size))
  have S_ab := Lib.hid hs
  clear hs hb
  go_wp2_with fail
  (with_reducible refine (sub_c A_ab a1 c_ab c1 lab.length x1.length lab x1 (w1) x0 0 S_ab S_b (Lib.hid (rfl : (lab : List UInt32).length = lab.length)) (Lib.hid (rfl : (x1 : List UInt32).length = x1.length)) H2).mono ?_)
  rintro e w2 ⟨A_x, c_x, rfl, hs, hb⟩
  replace S_a := Lib.hid (S_a.out.to hb)
  replace S_b := Lib.hid (S_b.out.to hb)
  replace S_c := Lib.hid (S_c.out.to hb)
  replace S_ab := Lib.hid (S_ab.out.to hb)
  replace HB := Lib.hid (HB.out.trans (Below.mono hb HB.out.size))
  have S_x := Lib.hid hs
  clear hs hb
  go_wp2_with fail
  (with_reducible refine (rsame_c A_x a0 c_x c0 x0.length x0.length x0 x0 (w2) true S_x S_a (Lib.hid (rfl : (x0 : List UInt32).length = x0.length)) (Lib.hid (rfl : (x0 : List UInt32).length = x0.length)) (Lib.hid (sameB_refl _))).mono ?_)
  rintro e w3 ⟨rfl, hb⟩
  replace S_a := Lib.hid (S_a.out.to hb)
  replace S_b := Lib.hid (S_b.out.to hb)
  replace S_c := Lib.hid (S_c.out.to hb)
  replace S_ab := Lib.hid (S_ab.out.to hb)
  replace S_x := Lib.hid (S_x.out.to hb)
  replace HB := Lib.hid (HB.out.trans (Below.mono hb HB.out.size))
  clear hb
  clear S_x
  clear S_ab
  go_wp2_with fail
  (with_reducible refine (add_c a0 a2 c0 c2 x0.length x2.length x0 x2 (w3) lac 0 S_a S_c (Lib.hid (rfl : (x0 : List UInt32).length = x0.length)) (Lib.hid (rfl : (x2 : List UInt32).length = x2.length)) H3).mono ?_)
  rintro e w4 ⟨A_ac, c_ac, rfl, hs, hb⟩
  replace S_a := Lib.hid (S_a.out.to hb)
  replace S_b := Lib.hid (S_b.out.to hb)
  replace S_c := Lib.hid (S_c.out.to hb)
  replace HB := Lib.hid (HB.out.trans (Below.mono hb HB.out.size))
  have S_ac := Lib.hid hs
  clear hs hb
  go_wp2_with fail
  (with_reducible refine (add_c a1 a2 c1 c2 x1.length x2.length x1 x2 (w4) lbc 0 S_b S_c (Lib.hid (rfl : (x1 : List UInt32).length = x1.length)) (Lib.hid (rfl : (x2 : List UInt32).length = x2.length)) H4).mono ?_)
  rintro e w5 ⟨A_bc, c_bc, rfl, hs, hb⟩
  replace S_a := Lib.hid (S_a.out.to hb)
  replace S_b := Lib.hid (S_b.out.to hb)
  replace S_c := Lib.hid (S_c.out.to hb)
  replace S_ac := Lib.hid (S_ac.out.to hb)
  replace HB := Lib.hid (HB.out.trans (Below.mono hb HB.out.size))
  have S_bc := Lib.hid hs
  clear hs hb
  go_wp2_with fail
  (with_reducible refine (cmp_c a0 a1 c0 c1 x0.length x1.length x0 x1 (w5) (0) 0 S_a S_b (Lib.hid (rfl : (x0 : List UInt32).length = x0.length)) (Lib.hid (rfl : (x1 : List UInt32).length = x1.length)) H5).mono ?_)
  rintro e w6 ⟨rfl, hb⟩
  replace S_a := Lib.hid (S_a.out.to hb)
  replace S_b := Lib.hid (S_b.out.to hb)
  replace S_c := Lib.hid (S_c.out.to hb)
  replace S_ac := Lib.hid (S_ac.out.to hb)
  replace S_bc := Lib.hid (S_bc.out.to hb)
  replace HB := Lib.hid (HB.out.trans (Below.mono hb HB.out.size))
  clear hb
  go_wp2_with fail
  (with_reducible refine (cmp_c A_ac A_bc c_ac c_bc lac.length lbc.length lac lbc (w6) (0) 0 S_ac S_bc (Lib.hid (rfl : (lac : List UInt32).length = lac.length)) (Lib.hid (rfl : (lbc : List UInt32).length = lbc.length)) H6).mono ?_)
  rintro e w7 ⟨rfl, hb⟩
  replace S_a := Lib.hid (S_a.out.to hb)
  replace S_b := Lib.hid (S_b.out.to hb)
  replace S_c := Lib.hid (S_c.out.to hb)
  replace S_ac := Lib.hid (S_ac.out.to hb)
  replace S_bc := Lib.hid (S_bc.out.to hb)
  replace HB := Lib.hid (HB.out.trans (Below.mono hb HB.out.size))
  clear hb
  clear S_ac
  clear S_bc
  go_wp2_with fail
  (with_reducible refine (cmp_c a1 a0 c1 c0 x1.length x0.length x1 x0 (w7) (0) 0 S_b S_a (Lib.hid (rfl : (x1 : List UInt32).length = x1.length)) (Lib.hid (rfl : (x0 : List UInt32).length = x0.length)) H7).mono ?_)
  rintro e w8 ⟨rfl, hb⟩
  replace S_a := Lib.hid (S_a.out.to hb)
  replace S_b := Lib.hid (S_b.out.to hb)
  replace S_c := Lib.hid (S_c.out.to hb)
  replace HB := Lib.hid (HB.out.trans (Below.mono hb HB.out.size))
  clear hb
  go_wp2_with fail
  (with_reducible refine (sub_c a0 a1 c0 c1 x0.length x1.length x0 x1 (w8) ld 0 S_a S_b (Lib.hid (rfl : (x0 : List UInt32).length = x0.length)) (Lib.hid (rfl : (x1 : List UInt32).length = x1.length)) H8).mono ?_)
  rintro e w9 ⟨A_d, c_d, rfl, hs, hb⟩
  replace S_a := Lib.hid (S_a.out.to hb)
  replace S_b := Lib.hid (S_b.out.to hb)
  replace S_c := Lib.hid (S_c.out.to hb)
  replace HB := Lib.hid (HB.out.trans (Below.mono hb HB.out.size))
  have S_d := Lib.hid hs
  clear hs hb
  go_wp2_with fail
  (with_reducible refine (same_c a0 a1 c0 c1 x0.length x1.length x0 x1 (w9) true S_a S_b (Lib.hid (rfl : (x0 : List UInt32).length = x0.length)) (Lib.hid (rfl : (x1 : List UInt32).length = x1.length)) H9).mono ?_)
  rintro e w10 ⟨rfl, hb⟩
  replace S_a := Lib.hid (S_a.out.to hb)
  replace S_b := Lib.hid (S_b.out.to hb)
  replace S_c := Lib.hid (S_c.out.to hb)
  replace S_d := Lib.hid (S_d.out.to hb)
  replace HB := Lib.hid (HB.out.trans (Below.mono hb HB.out.size))
  clear hb
  go_wp2_with fail
  (with_reducible refine (add_c A_d a1 c_d c1 ld.length x1.length ld x1 (w10) x0 0 S_d S_b (Lib.hid (rfl : (ld : List UInt32).length = ld.length)) (Lib.hid (rfl : (x1 : List UInt32).length = x1.length)) H10).mono ?_)
  rintro e w11 ⟨A_back, c_back, rfl, hs, hb⟩
  replace S_a := Lib.hid (S_a.out.to hb)
  replace S_b := Lib.hid (S_b.out.to hb)
  replace S_c := Lib.hid (S_c.out.to hb)
  replace S_d := Lib.hid (S_d.out.to hb)
  replace HB := Lib.hid (HB.out.trans (Below.mono hb HB.out.size))
  have S_back := Lib.hid hs
  clear hs hb
  go_wp2_with fail
  (with_reducible refine (rsame_c A_back a0 c_back c0 x0.length x0.length x0 x0 (w11) true S_back S_a (Lib.hid (rfl : (x0 : List UInt32).length = x0.length)) (Lib.hid (rfl : (x0 : List UInt32).length = x0.length)) (Lib.hid (sameB_refl _))).mono ?_)
  rintro e w12 ⟨rfl, hb⟩
  replace S_a := Lib.hid (S_a.out.to hb)
  replace S_b := Lib.hid (S_b.out.to hb)
  replace S_c := Lib.hid (S_c.out.to hb)
  replace S_d := Lib.hid (S_d.out.to hb)
  replace S_back := Lib.hid (S_back.out.to hb)
  replace HB := Lib.hid (HB.out.trans (Below.mono hb HB.out.size))
  clear hb
  go_wp2_with fail
  (with_reducible refine (wakes_any (w12)).mono ?_)
  rintro e w13 ⟨rfl, hb⟩
  replace S_a := Lib.hid (S_a.out.to hb)
  replace S_b := Lib.hid (S_b.out.to hb)
  replace S_c := Lib.hid (S_c.out.to hb)
  replace S_d := Lib.hid (S_d.out.to hb)
  replace S_back := Lib.hid (S_back.out.to hb)
  replace HB := Lib.hid (HB.out.trans (Below.mono hb HB.out.size))
  clear hb
  go_wp2_with fail
  go_ret
  exact ⟨rfl, HB.out⟩
set_option maxRecDepth 100000 in
set_option maxHeartbeats 4000000 in
theorem less_gt (a0 : Option Addr) (c0 : Nat) (x0 : List UInt32) (a1 : Option Addr) (c1 : Nat) (x1 : List UInt32) (a2 : Option Addr) (c2 : Nat) (x2 : List UInt32) (lab lac lbc ld : List UInt32) (w : World) (ha : Sl w a0 c0 x0) (hb : Sl w a1 c1 x1) (hc : Sl w a2 c2 x2) (HR : Hid (rightB 90 [x0, x1, x2] = true)) (H1 : Hid (addM x0 x1 = (lab, 0))) (H2 : Hid (subM lab x1 = (x0, 0))) (H3 : Hid (addM x0 x2 = (lac, 0))) (H4 : Hid (addM x1 x2 = (lbc, 0))) (H5 : Hid (cmpM x0 x1 = (1, 0))) (H6 : Hid (cmpM lac lbc = (1, 0))) (H7 : Hid (cmpM x1 x0 = (-1, 0))) (H8 : Hid (subM x0 x1 = (ld, 0))) (H9 : Hid (sameB x0 x1 = false)) (H10 : Hid (addM ld x1 = (x0, 0))) :
    Calls Tryd.prog 6 #[.slice a0 x0.length c0, .slice a1 x1.length c1, .slice a2 x2.length c2] w fun e w' => e = .returned (.bool true) ∧ Below w.heap.size w w' := by
  have HB := Lib.hid (Below.refl w.heap.size w)
  have S_a := Lib.hid (show Sl w a0 c0 x0 from ha)
  have S_b := Lib.hid (show Sl w a1 c1 x1 from hb)
  have S_c := Lib.hid (show Sl w a2 c2 x2 from hc)
  clear ha hb hc
  go_enter Tryd.func6, Tryd.ntmps6
  go_wp2_with fail
  have HRV : Hid (rightB 90 (List.map (fun x => El.l x) ([⟨a0, c0, x0⟩, ⟨a1, c1, x1⟩, ⟨a2, c2, x2⟩] : List El)) = true) := HR
  have HRC : Hid ((List.map El.v ([⟨a0, c0, x0⟩, ⟨a1, c1, x1⟩, ⟨a2, c2, x2⟩] : List El)).toArray = #[Value.slice a0 x0.length c0, Value.slice a1 x1.length c1, Value.slice a2 x2.length c2]) := Lib.hid rfl
  have HRN : Hid (([⟨a0, c0, x0⟩, ⟨a1, c1, x1⟩, ⟨a2, c2, x2⟩] : List El).length = 3) := Lib.hid rfl
  (with_reducible refine (right_c 90 90 (by decide) [⟨a0, c0, x0⟩, ⟨a1, c1, x1⟩, ⟨a2, c2, x2⟩] #[Value.slice a0 x0.length c0, Value.slice a1 x1.length c1, Value.slice a2 x2.length c2] 3 true (w) HRC (els3 S_a.out S_b.out S_c.out) HRN (by decide) (by decide) HRV).mono ?_)
  clear HRV HRC HRN
  rintro e ws ⟨rfl, rfl⟩
  have hbl := below_new (w) (.cells #[Value.slice a0 x0.length c0, Value.slice a1 x1.length c1, Value.slice a2 x2.length c2] 22)
  replace S_a := Lib.hid (S_a.out.to hbl)
  replace S_b := Lib.hid (S_b.out.to hbl)
  replace S_c := Lib.hid (S_c.out.to hbl)
  replace HB := Lib.hid (HB.out.trans (Below.mono hbl HB.out.size))
  clear hbl
  go_wp2_with fail
  (with_reducible refine (add_c a0 a1 c0 c1 x0.length x1.length x0 x1 ((w).alloc (.cells #[Value.slice a0 x0.length c0, Value.slice a1 x1.length c1, Value.slice a2 x2.length c2] 22)) lab 0 S_a S_b (Lib.hid (rfl : (x0 : List UInt32).length = x0.length)) (Lib.hid (rfl : (x1 : List UInt32).length = x1.length)) H1).mono ?_)
  rintro e w1 ⟨A_ab, c_ab, rfl, hs, hb⟩
  replace S_a := Lib.hid (S_a.out.to hb)
  replace S_b := Lib.hid (S_b.out.to hb)
  replace S_c := Lib.hid (S_c.out.to hb)
  replace HB := Lib.hid (HB.out.trans (Below.mono hb HB.out.size))
  have S_ab := Lib.hid hs
  clear hs hb
  go_wp2_with fail
  (with_reducible refine (sub_c A_ab a1 c_ab c1 lab.length x1.length lab x1 (w1) x0 0 S_ab S_b (Lib.hid (rfl : (lab : List UInt32).length = lab.length)) (Lib.hid (rfl : (x1 : List UInt32).length = x1.length)) H2).mono ?_)
  rintro e w2 ⟨A_x, c_x, rfl, hs, hb⟩
  replace S_a := Lib.hid (S_a.out.to hb)
  replace S_b := Lib.hid (S_b.out.to hb)
  replace S_c := Lib.hid (S_c.out.to hb)
  replace S_ab := Lib.hid (S_ab.out.to hb)
  replace HB := Lib.hid (HB.out.trans (Below.mono hb HB.out.size))
  have S_x := Lib.hid hs
  clear hs hb
  go_wp2_with fail
  (with_reducible refine (rsame_c A_x a0 c_x c0 x0.length x0.length x0 x0 (w2) true S_x S_a (Lib.hid (rfl : (x0 : List UInt32).length = x0.length)) (Lib.hid (rfl : (x0 : List UInt32).length = x0.length)) (Lib.hid (sameB_refl _))).mono ?_)
  rintro e w3 ⟨rfl, hb⟩
  replace S_a := Lib.hid (S_a.out.to hb)
  replace S_b := Lib.hid (S_b.out.to hb)
  replace S_c := Lib.hid (S_c.out.to hb)
  replace S_ab := Lib.hid (S_ab.out.to hb)
  replace S_x := Lib.hid (S_x.out.to hb)
  replace HB := Lib.hid (HB.out.trans (Below.mono hb HB.out.size))
  clear hb
  clear S_x
  clear S_ab
  go_wp2_with fail
  (with_reducible refine (add_c a0 a2 c0 c2 x0.length x2.length x0 x2 (w3) lac 0 S_a S_c (Lib.hid (rfl : (x0 : List UInt32).length = x0.length)) (Lib.hid (rfl : (x2 : List UInt32).length = x2.length)) H3).mono ?_)
  rintro e w4 ⟨A_ac, c_ac, rfl, hs, hb⟩
  replace S_a := Lib.hid (S_a.out.to hb)
  replace S_b := Lib.hid (S_b.out.to hb)
  replace S_c := Lib.hid (S_c.out.to hb)
  replace HB := Lib.hid (HB.out.trans (Below.mono hb HB.out.size))
  have S_ac := Lib.hid hs
  clear hs hb
  go_wp2_with fail
  (with_reducible refine (add_c a1 a2 c1 c2 x1.length x2.length x1 x2 (w4) lbc 0 S_b S_c (Lib.hid (rfl : (x1 : List UInt32).length = x1.length)) (Lib.hid (rfl : (x2 : List UInt32).length = x2.length)) H4).mono ?_)
  rintro e w5 ⟨A_bc, c_bc, rfl, hs, hb⟩
  replace S_a := Lib.hid (S_a.out.to hb)
  replace S_b := Lib.hid (S_b.out.to hb)
  replace S_c := Lib.hid (S_c.out.to hb)
  replace S_ac := Lib.hid (S_ac.out.to hb)
  replace HB := Lib.hid (HB.out.trans (Below.mono hb HB.out.size))
  have S_bc := Lib.hid hs
  clear hs hb
  go_wp2_with fail
  (with_reducible refine (cmp_c a0 a1 c0 c1 x0.length x1.length x0 x1 (w5) (1) 0 S_a S_b (Lib.hid (rfl : (x0 : List UInt32).length = x0.length)) (Lib.hid (rfl : (x1 : List UInt32).length = x1.length)) H5).mono ?_)
  rintro e w6 ⟨rfl, hb⟩
  replace S_a := Lib.hid (S_a.out.to hb)
  replace S_b := Lib.hid (S_b.out.to hb)
  replace S_c := Lib.hid (S_c.out.to hb)
  replace S_ac := Lib.hid (S_ac.out.to hb)
  replace S_bc := Lib.hid (S_bc.out.to hb)
  replace HB := Lib.hid (HB.out.trans (Below.mono hb HB.out.size))
  clear hb
  go_wp2_with fail
  (with_reducible refine (cmp_c A_ac A_bc c_ac c_bc lac.length lbc.length lac lbc (w6) (1) 0 S_ac S_bc (Lib.hid (rfl : (lac : List UInt32).length = lac.length)) (Lib.hid (rfl : (lbc : List UInt32).length = lbc.length)) H6).mono ?_)
  rintro e w7 ⟨rfl, hb⟩
  replace S_a := Lib.hid (S_a.out.to hb)
  replace S_b := Lib.hid (S_b.out.to hb)
  replace S_c := Lib.hid (S_c.out.to hb)
  replace S_ac := Lib.hid (S_ac.out.to hb)
  replace S_bc := Lib.hid (S_bc.out.to hb)
  replace HB := Lib.hid (HB.out.trans (Below.mono hb HB.out.size))
  clear hb
  clear S_ac
  clear S_bc
  go_wp2_with fail
  (with_reducible refine (cmp_c a1 a0 c1 c0 x1.length x0.length x1 x0 (w7) (-1) 0 S_b S_a (Lib.hid (rfl : (x1 : List UInt32).length = x1.length)) (Lib.hid (rfl : (x0 : List UInt32).length = x0.length)) H7).mono ?_)
  rintro e w8 ⟨rfl, hb⟩
  replace S_a := Lib.hid (S_a.out.to hb)
  replace S_b := Lib.hid (S_b.out.to hb)
  replace S_c := Lib.hid (S_c.out.to hb)
  replace HB := Lib.hid (HB.out.trans (Below.mono hb HB.out.size))
  clear hb
  go_wp2_with fail
  (with_reducible refine (sub_c a0 a1 c0 c1 x0.length x1.length x0 x1 (w8) ld 0 S_a S_b (Lib.hid (rfl : (x0 : List UInt32).length = x0.length)) (Lib.hid (rfl : (x1 : List UInt32).length = x1.length)) H8).mono ?_)
  rintro e w9 ⟨A_d, c_d, rfl, hs, hb⟩
  replace S_a := Lib.hid (S_a.out.to hb)
  replace S_b := Lib.hid (S_b.out.to hb)
  replace S_c := Lib.hid (S_c.out.to hb)
  replace HB := Lib.hid (HB.out.trans (Below.mono hb HB.out.size))
  have S_d := Lib.hid hs
  clear hs hb
  go_wp2_with fail
  (with_reducible refine (same_c a0 a1 c0 c1 x0.length x1.length x0 x1 (w9) false S_a S_b (Lib.hid (rfl : (x0 : List UInt32).length = x0.length)) (Lib.hid (rfl : (x1 : List UInt32).length = x1.length)) H9).mono ?_)
  rintro e w10 ⟨rfl, hb⟩
  replace S_a := Lib.hid (S_a.out.to hb)
  replace S_b := Lib.hid (S_b.out.to hb)
  replace S_c := Lib.hid (S_c.out.to hb)
  replace S_d := Lib.hid (S_d.out.to hb)
  replace HB := Lib.hid (HB.out.trans (Below.mono hb HB.out.size))
  clear hb
  go_wp2_with fail
  (with_reducible refine (add_c A_d a1 c_d c1 ld.length x1.length ld x1 (w10) x0 0 S_d S_b (Lib.hid (rfl : (ld : List UInt32).length = ld.length)) (Lib.hid (rfl : (x1 : List UInt32).length = x1.length)) H10).mono ?_)
  rintro e w11 ⟨A_back, c_back, rfl, hs, hb⟩
  replace S_a := Lib.hid (S_a.out.to hb)
  replace S_b := Lib.hid (S_b.out.to hb)
  replace S_c := Lib.hid (S_c.out.to hb)
  replace S_d := Lib.hid (S_d.out.to hb)
  replace HB := Lib.hid (HB.out.trans (Below.mono hb HB.out.size))
  have S_back := Lib.hid hs
  clear hs hb
  go_wp2_with fail
  (with_reducible refine (rsame_c A_back a0 c_back c0 x0.length x0.length x0 x0 (w11) true S_back S_a (Lib.hid (rfl : (x0 : List UInt32).length = x0.length)) (Lib.hid (rfl : (x0 : List UInt32).length = x0.length)) (Lib.hid (sameB_refl _))).mono ?_)
  rintro e w12 ⟨rfl, hb⟩
  replace S_a := Lib.hid (S_a.out.to hb)
  replace S_b := Lib.hid (S_b.out.to hb)
  replace S_c := Lib.hid (S_c.out.to hb)
  replace S_d := Lib.hid (S_d.out.to hb)
  replace S_back := Lib.hid (S_back.out.to hb)
  replace HB := Lib.hid (HB.out.trans (Below.mono hb HB.out.size))
  clear hb
  go_wp2_with fail
  (with_reducible refine (wakes_any (w12)).mono ?_)
  rintro e w13 ⟨rfl, hb⟩
  replace S_a := Lib.hid (S_a.out.to hb)
  replace S_b := Lib.hid (S_b.out.to hb)
  replace S_c := Lib.hid (S_c.out.to hb)
  replace S_d := Lib.hid (S_d.out.to hb)
  replace S_back := Lib.hid (S_back.out.to hb)
  replace HB := Lib.hid (HB.out.trans (Below.mono hb HB.out.size))
  clear hb
  go_wp2_with fail
  go_ret
  exact ⟨rfl, HB.out⟩
theorem natLess_any (a0 : Option Addr) (c0 : Nat) (x0 : List UInt32) (a1 : Option Addr) (c1 : Nat) (x1 : List UInt32) (a2 : Option Addr) (c2 : Nat) (x2 : List UInt32) (w : World) (ha : Sl w a0 c0 x0) (hb : Sl w a1 c1 x1) (hc : Sl w a2 c2 x2) :
    Calls Tryd.prog 6 #[.slice a0 x0.length c0, .slice a1 x1.length c1, .slice a2 x2.length c2] w fun e w' => e = .returned (.bool true) ∧ Below w.heap.size w w' := by
  cases hR : rightB 90 [x0, x1, x2] with
  | false => exact less_bad a0 c0 x0 a1 c1 x1 a2 c2 x2 w ha hb hc hR
  | true =>
    obtain ⟨m, rfl, hm, hm9⟩ := right_yes hR x0 (by simp)
    obtain ⟨n, rfl, hn, hn9⟩ := right_yes hR x1 (by simp)
    obtain ⟨k, rfl, hk, hk9⟩ := right_yes hR x2 (by simp)
    have l1 : (limbs (m + n)).length ≤ 91 := len_add hm hn
    have l2 : (limbs (m + k)).length ≤ 91 := len_add hm hk
    have l3 : (limbs (n + k)).length ≤ 91 := len_add hn hk
    have h1 := addL hm9 hn9 (rfl : m + n = m + n) (by omega)
    have h2 := subL (m := m + n) (k := m) (by omega) hn9 rfl
    have h3 := addL hm9 hk9 (rfl : m + k = m + k) (by omega)
    have h4 := addL hn9 hk9 (rfl : n + k = n + k) (by omega)
    rcases Nat.lt_trichotomy m n with h | h | h
    · exact less_lt _ _ _ _ _ _ _ _ _ (limbs (m + n)) (limbs (m + k)) (limbs (n + k)) w ha hb hc hR h1 h2 h3 h4 (cmpL hm9 hn9 (by unfold cmpI; rw [if_pos h])) (cmpL (by omega) (by omega) (by unfold cmpI; rw [if_pos (by omega)])) (cmpL hn9 hm9 (by unfold cmpI; rw [if_neg (by omega), if_neg (by omega)]))
        (subM_none (chk2_limbs hm9 hn9) (by rw [val_limbs, val_limbs]; exact h)) (sameB_no (fun e => by have := limbs_inj e; omega))
    · subst h
      exact less_eq _ _ _ _ _ _ _ _ _ (limbs (m + m)) (limbs (m + k)) (limbs (m + k)) (limbs 0) w ha hb hc hR h1 h2 h3 h4 (cmpL hm9 hn9 (by unfold cmpI; rw [if_neg (by omega), if_pos rfl])) (cmpL (by omega) (by omega) (by unfold cmpI; rw [if_neg (by omega), if_pos rfl])) (cmpL hn9 hm9 (by unfold cmpI; rw [if_neg (by omega), if_pos rfl]))
        (subL hm9 hn9 (by omega)) (sameB_refl _) (addL (by rw [limbs_zero]; simp) hn9 (by omega) hm9)
    · exact less_gt _ _ _ _ _ _ _ _ _ (limbs (m + n)) (limbs (m + k)) (limbs (n + k)) (limbs (m - n)) w ha hb hc hR h1 h2 h3 h4 (cmpL hm9 hn9 (by unfold cmpI; rw [if_neg (by omega), if_neg (by omega)])) (cmpL (by omega) (by omega) (by unfold cmpI; rw [if_neg (by omega), if_neg (by omega)])) (cmpL hn9 hm9 (by unfold cmpI; rw [if_pos (by omega)]))
        (subL hm9 hn9 (by omega)) (sameB_no (fun e => by have := limbs_inj e; omega)) (addL (len_le hm9 (Nat.sub_le m n)) hn9 (by omega) hm9)
end Go.Proofs.YtffbmkobholmhaaDoor
