/- The walk of NatRing. -/
import Derived.Test.YtffbmkobholmhaaDoorRow
namespace Go.Proofs.YtffbmkobholmhaaDoor
open Go.RowKit
set_option linter.unusedVariables false

set_option maxRecDepth 100000 in
set_option maxHeartbeats 4000000 in
theorem ring_bad (a0 : Option Addr) (c0 : Nat) (x0 : List UInt32) (a1 : Option Addr) (c1 : Nat) (x1 : List UInt32) (a2 : Option Addr) (c2 : Nat) (x2 : List UInt32) (w : World) (ha : Sl w a0 c0 x0) (hb : Sl w a1 c1 x1) (hc : Sl w a2 c2 x2) (HR : Hid (rightB 30 [x0, x1, x2] = false)) :
    Calls Tryd.prog 5 #[.slice a0 x0.length c0, .slice a1 x1.length c1, .slice a2 x2.length c2] w fun e w' => e = .returned (.bool true) ∧ Below w.heap.size w w' := by
  have HB := Lib.hid (Below.refl w.heap.size w)
  have S_a := Lib.hid (show Sl w a0 c0 x0 from ha)
  have S_b := Lib.hid (show Sl w a1 c1 x1 from hb)
  have S_c := Lib.hid (show Sl w a2 c2 x2 from hc)
  clear ha hb hc
  go_enter Tryd.func5, Tryd.ntmps5
  go_wp2_with fail
  have HRV : Hid (rightB 30 (List.map (fun x => El.l x) ([⟨a0, c0, x0⟩, ⟨a1, c1, x1⟩, ⟨a2, c2, x2⟩] : List El)) = false) := HR
  have HRC : Hid ((List.map El.v ([⟨a0, c0, x0⟩, ⟨a1, c1, x1⟩, ⟨a2, c2, x2⟩] : List El)).toArray = #[Value.slice a0 x0.length c0, Value.slice a1 x1.length c1, Value.slice a2 x2.length c2]) := Lib.hid rfl
  have HRN : Hid (([⟨a0, c0, x0⟩, ⟨a1, c1, x1⟩, ⟨a2, c2, x2⟩] : List El).length = 3) := Lib.hid rfl
  (with_reducible refine (right_c 30 30 (by decide) [⟨a0, c0, x0⟩, ⟨a1, c1, x1⟩, ⟨a2, c2, x2⟩] #[Value.slice a0 x0.length c0, Value.slice a1 x1.length c1, Value.slice a2 x2.length c2] 3 false (w) HRC (els3 S_a.out S_b.out S_c.out) HRN (by decide) (by decide) HRV).mono ?_)
  clear HRV HRC HRN
  rintro e ws ⟨rfl, rfl⟩
  have hbl := below_new (w) (.cells #[Value.slice a0 x0.length c0, Value.slice a1 x1.length c1, Value.slice a2 x2.length c2] 22)
  replace S_a := Lib.hid (S_a.out.to hbl)
  replace S_b := Lib.hid (S_b.out.to hbl)
  replace S_c := Lib.hid (S_c.out.to hbl)
  replace HB := Lib.hid (HB.out.trans (Below.mono hbl HB.out.size))
  clear hbl
  go_wp2_with fail
  (with_reducible refine (wakes_any ((w).alloc (.cells #[Value.slice a0 x0.length c0, Value.slice a1 x1.length c1, Value.slice a2 x2.length c2] 22))).mono ?_)
  rintro e w1 ⟨rfl, hb⟩
  replace S_a := Lib.hid (S_a.out.to hb)
  replace S_b := Lib.hid (S_b.out.to hb)
  replace S_c := Lib.hid (S_c.out.to hb)
  replace HB := Lib.hid (HB.out.trans (Below.mono hb HB.out.size))
  clear hb
  go_wp2_with fail
  go_ret
  exact ⟨rfl, HB.out⟩
set_option maxRecDepth 100000 in
set_option maxHeartbeats 4000000 in
theorem ring_good (a0 : Option Addr) (c0 : Nat) (x0 : List UInt32) (a1 : Option Addr) (c1 : Nat) (x1 : List UInt32) (a2 : Option Addr) (c2 : Nat) (x2 : List UInt32) (lab lbc lx lp lr ls lu lv : List UInt32) (w : World) (ha : Sl w a0 c0 x0) (hb : Sl w a1 c1 x1) (hc : Sl w a2 c2 x2) (HR : Hid (rightB 30 [x0, x1, x2] = true)) (H1 : Hid (addM x0 x1 = (lab, 0))) (H2 : Hid (addM x1 x0 = (lab, 0))) (H3 : Hid (addM x1 x2 = (lbc, 0))) (H4 : Hid (addM lab x2 = (lx, 0))) (H5 : Hid (addM x0 lbc = (lx, 0))) (H6 : Hid (mulM x0 x1 = (lp, 0))) (H7 : Hid (mulM x1 x0 = (lp, 0))) (H8 : Hid (mulM x1 x2 = (lr, 0))) (H9 : Hid (mulM lp x2 = (ls, 0))) (H10 : Hid (mulM x0 lr = (ls, 0))) (H11 : Hid (mulM lab x2 = (lu, 0))) (H12 : Hid (mulM x0 x2 = (lv, 0))) (H13 : Hid (addM lv lr = (lu, 0))) :
    Calls Tryd.prog 5 #[.slice a0 x0.length c0, .slice a1 x1.length c1, .slice a2 x2.length c2] w fun e w' => e = .returned (.bool true) ∧ Below w.heap.size w w' := by
  have HB := Lib.hid (Below.refl w.heap.size w)
  have S_a := Lib.hid (show Sl w a0 c0 x0 from ha)
  have S_b := Lib.hid (show Sl w a1 c1 x1 from hb)
  have S_c := Lib.hid (show Sl w a2 c2 x2 from hc)
  clear ha hb hc
  go_enter Tryd.func5, Tryd.ntmps5
  go_wp2_with fail
  have HRV : Hid (rightB 30 (List.map (fun x => El.l x) ([⟨a0, c0, x0⟩, ⟨a1, c1, x1⟩, ⟨a2, c2, x2⟩] : List El)) = true) := HR
  have HRC : Hid ((List.map El.v ([⟨a0, c0, x0⟩, ⟨a1, c1, x1⟩, ⟨a2, c2, x2⟩] : List El)).toArray = #[Value.slice a0 x0.length c0, Value.slice a1 x1.length c1, Value.slice a2 x2.length c2]) := Lib.hid rfl
  have HRN : Hid (([⟨a0, c0, x0⟩, ⟨a1, c1, x1⟩, ⟨a2, c2, x2⟩] : List El).length = 3) := Lib.hid rfl
  (with_reducible refine (right_c 30 30 (by decide) [⟨a0, c0, x0⟩, ⟨a1, c1, x1⟩, ⟨a2, c2, x2⟩] #[Value.slice a0 x0.length c0, Value.slice a1 x1.length c1, Value.slice a2 x2.length c2] 3 true (w) HRC (els3 S_a.out S_b.out S_c.out) HRN (by decide) (by decide) HRV).mono ?_)
  clear HRV HRC HRN
  rintro e ws ⟨rfl, rfl⟩
  have hbl := below_new (w) (.cells #[Value.slice a0 x0.length c0, Value.slice a1 x1.length c1, Value.slice a2 x2.length c2] 22)
  replace S_a := Lib.hid (S_a.out.to hbl)
  replace S_b := Lib.hid (S_b.out.to hbl)
  replace S_c := Lib.hid (S_c.out.to hbl)
  replace HB := Lib.hid (HB.out.trans (Below.mono hbl HB.out.size))
  clear hbl
  go_wp2_with fail
  (with_reducible refine (add_c a0 a1 c0 c1 x0.length x1.length x0 x1 ((w).alloc (.cells #[Value.slice a0 x0.length c0, Value.slice a1 x1.length c1, Value.slice a2 x2.length c2] 22)) lab 0 S_a S_b (Lib.hid (rfl : (x0 : List UInt32).length = x0.length)) (Lib.hid (rfl : (x1 : List UInt32).length = x1.length)) H1).mono ?_)
  rintro e w1 ⟨A_ab, c_ab, rfl, hs, hb⟩
  replace S_a := Lib.hid (S_a.out.to hb)
  replace S_b := Lib.hid (S_b.out.to hb)
  replace S_c := Lib.hid (S_c.out.to hb)
  replace HB := Lib.hid (HB.out.trans (Below.mono hb HB.out.size))
  have S_ab := Lib.hid hs
  clear hs hb
  go_wp2_with fail
  (with_reducible refine (add_c a1 a0 c1 c0 x1.length x0.length x1 x0 (w1) lab 0 S_b S_a (Lib.hid (rfl : (x1 : List UInt32).length = x1.length)) (Lib.hid (rfl : (x0 : List UInt32).length = x0.length)) H2).mono ?_)
  rintro e w2 ⟨A_ba, c_ba, rfl, hs, hb⟩
  replace S_a := Lib.hid (S_a.out.to hb)
  replace S_b := Lib.hid (S_b.out.to hb)
  replace S_c := Lib.hid (S_c.out.to hb)
  replace S_ab := Lib.hid (S_ab.out.to hb)
  replace HB := Lib.hid (HB.out.trans (Below.mono hb HB.out.size))
  have S_ba := Lib.hid hs
  clear hs hb
  go_wp2_with fail
  (with_reducible refine (add_c a1 a2 c1 c2 x1.length x2.length x1 x2 (w2) lbc 0 S_b S_c (Lib.hid (rfl : (x1 : List UInt32).length = x1.length)) (Lib.hid (rfl : (x2 : List UInt32).length = x2.length)) H3).mono ?_)
  rintro e w3 ⟨A_bc, c_bc, rfl, hs, hb⟩
  replace S_a := Lib.hid (S_a.out.to hb)
  replace S_b := Lib.hid (S_b.out.to hb)
  replace S_c := Lib.hid (S_c.out.to hb)
  replace S_ab := Lib.hid (S_ab.out.to hb)
  replace S_ba := Lib.hid (S_ba.out.to hb)
  replace HB := Lib.hid (HB.out.trans (Below.mono hb HB.out.size))
  have S_bc := Lib.hid hs
  clear hs hb
  go_wp2_with fail
  (with_reducible refine (add_c A_ab a2 c_ab c2 lab.length x2.length lab x2 (w3) lx 0 S_ab S_c (Lib.hid (rfl : (lab : List UInt32).length = lab.length)) (Lib.hid (rfl : (x2 : List UInt32).length = x2.length)) H4).mono ?_)
  rintro e w4 ⟨A_x, c_x, rfl, hs, hb⟩
  replace S_a := Lib.hid (S_a.out.to hb)
  replace S_b := Lib.hid (S_b.out.to hb)
  replace S_c := Lib.hid (S_c.out.to hb)
  replace S_ab := Lib.hid (S_ab.out.to hb)
  replace S_ba := Lib.hid (S_ba.out.to hb)
  replace S_bc := Lib.hid (S_bc.out.to hb)
  replace HB := Lib.hid (HB.out.trans (Below.mono hb HB.out.size))
  have S_x := Lib.hid hs
  clear hs hb
  go_wp2_with fail
  (with_reducible refine (add_c a0 A_bc c0 c_bc x0.length lbc.length x0 lbc (w4) lx 0 S_a S_bc (Lib.hid (rfl : (x0 : List UInt32).length = x0.length)) (Lib.hid (rfl : (lbc : List UInt32).length = lbc.length)) H5).mono ?_)
  rintro e w5 ⟨A_y, c_y, rfl, hs, hb⟩
  replace S_a := Lib.hid (S_a.out.to hb)
  replace S_b := Lib.hid (S_b.out.to hb)
  replace S_c := Lib.hid (S_c.out.to hb)
  replace S_ab := Lib.hid (S_ab.out.to hb)
  replace S_ba := Lib.hid (S_ba.out.to hb)
  replace S_bc := Lib.hid (S_bc.out.to hb)
  replace S_x := Lib.hid (S_x.out.to hb)
  replace HB := Lib.hid (HB.out.trans (Below.mono hb HB.out.size))
  have S_y := Lib.hid hs
  clear hs hb
  go_wp2_with fail
  (with_reducible refine (rsame_c A_ab A_ba c_ab c_ba lab.length lab.length lab lab (w5) true S_ab S_ba (Lib.hid (rfl : (lab : List UInt32).length = lab.length)) (Lib.hid (rfl : (lab : List UInt32).length = lab.length)) (Lib.hid (sameB_refl _))).mono ?_)
  rintro e w6 ⟨rfl, hb⟩
  replace S_a := Lib.hid (S_a.out.to hb)
  replace S_b := Lib.hid (S_b.out.to hb)
  replace S_c := Lib.hid (S_c.out.to hb)
  replace S_ab := Lib.hid (S_ab.out.to hb)
  replace S_ba := Lib.hid (S_ba.out.to hb)
  replace S_bc := Lib.hid (S_bc.out.to hb)
  replace S_x := Lib.hid (S_x.out.to hb)
  replace S_y := Lib.hid (S_y.out.to hb)
  replace HB := Lib.hid (HB.out.trans (Below.mono hb HB.out.size))
  clear hb
  go_wp2_with fail
  (with_reducible refine (rsame_c A_x A_y c_x c_y lx.length lx.length lx lx (w6) true S_x S_y (Lib.hid (rfl : (lx : List UInt32).length = lx.length)) (Lib.hid (rfl : (lx : List UInt32).length = lx.length)) (Lib.hid (sameB_refl _))).mono ?_)
  rintro e w7 ⟨rfl, hb⟩
  replace S_a := Lib.hid (S_a.out.to hb)
  replace S_b := Lib.hid (S_b.out.to hb)
  replace S_c := Lib.hid (S_c.out.to hb)
  replace S_ab := Lib.hid (S_ab.out.to hb)
  replace S_ba := Lib.hid (S_ba.out.to hb)
  replace S_bc := Lib.hid (S_bc.out.to hb)
  replace S_x := Lib.hid (S_x.out.to hb)
  replace S_y := Lib.hid (S_y.out.to hb)
  replace HB := Lib.hid (HB.out.trans (Below.mono hb HB.out.size))
  clear hb
  clear S_ba
  clear S_x
  clear S_y
  clear S_bc
  go_wp2_with fail
  (with_reducible refine (mul_c a0 a1 c0 c1 x0.length x1.length x0 x1 (w7) lp 0 S_a S_b (Lib.hid (rfl : (x0 : List UInt32).length = x0.length)) (Lib.hid (rfl : (x1 : List UInt32).length = x1.length)) H6).mono ?_)
  rintro e w8 ⟨A_p, c_p, rfl, hs, hb⟩
  replace S_a := Lib.hid (S_a.out.to hb)
  replace S_b := Lib.hid (S_b.out.to hb)
  replace S_c := Lib.hid (S_c.out.to hb)
  replace S_ab := Lib.hid (S_ab.out.to hb)
  replace HB := Lib.hid (HB.out.trans (Below.mono hb HB.out.size))
  have S_p := Lib.hid hs
  clear hs hb
  go_wp2_with fail
  (with_reducible refine (mul_c a1 a0 c1 c0 x1.length x0.length x1 x0 (w8) lp 0 S_b S_a (Lib.hid (rfl : (x1 : List UInt32).length = x1.length)) (Lib.hid (rfl : (x0 : List UInt32).length = x0.length)) H7).mono ?_)
  rintro e w9 ⟨A_q, c_q, rfl, hs, hb⟩
  replace S_a := Lib.hid (S_a.out.to hb)
  replace S_b := Lib.hid (S_b.out.to hb)
  replace S_c := Lib.hid (S_c.out.to hb)
  replace S_ab := Lib.hid (S_ab.out.to hb)
  replace S_p := Lib.hid (S_p.out.to hb)
  replace HB := Lib.hid (HB.out.trans (Below.mono hb HB.out.size))
  have S_q := Lib.hid hs
  clear hs hb
  go_wp2_with fail
  (with_reducible refine (mul_c a1 a2 c1 c2 x1.length x2.length x1 x2 (w9) lr 0 S_b S_c (Lib.hid (rfl : (x1 : List UInt32).length = x1.length)) (Lib.hid (rfl : (x2 : List UInt32).length = x2.length)) H8).mono ?_)
  rintro e w10 ⟨A_r, c_r, rfl, hs, hb⟩
  replace S_a := Lib.hid (S_a.out.to hb)
  replace S_b := Lib.hid (S_b.out.to hb)
  replace S_c := Lib.hid (S_c.out.to hb)
  replace S_ab := Lib.hid (S_ab.out.to hb)
  replace S_p := Lib.hid (S_p.out.to hb)
  replace S_q := Lib.hid (S_q.out.to hb)
  replace HB := Lib.hid (HB.out.trans (Below.mono hb HB.out.size))
  have S_r := Lib.hid hs
  clear hs hb
  go_wp2_with fail
  (with_reducible refine (mul_c A_p a2 c_p c2 lp.length x2.length lp x2 (w10) ls 0 S_p S_c (Lib.hid (rfl : (lp : List UInt32).length = lp.length)) (Lib.hid (rfl : (x2 : List UInt32).length = x2.length)) H9).mono ?_)
  rintro e w11 ⟨A_s, c_s, rfl, hs, hb⟩
  replace S_a := Lib.hid (S_a.out.to hb)
  replace S_b := Lib.hid (S_b.out.to hb)
  replace S_c := Lib.hid (S_c.out.to hb)
  replace S_ab := Lib.hid (S_ab.out.to hb)
  replace S_p := Lib.hid (S_p.out.to hb)
  replace S_q := Lib.hid (S_q.out.to hb)
  replace S_r := Lib.hid (S_r.out.to hb)
  replace HB := Lib.hid (HB.out.trans (Below.mono hb HB.out.size))
  have S_s := Lib.hid hs
  clear hs hb
  go_wp2_with fail
  (with_reducible refine (mul_c a0 A_r c0 c_r x0.length lr.length x0 lr (w11) ls 0 S_a S_r (Lib.hid (rfl : (x0 : List UInt32).length = x0.length)) (Lib.hid (rfl : (lr : List UInt32).length = lr.length)) H10).mono ?_)
  rintro e w12 ⟨A_t, c_t, rfl, hs, hb⟩
  replace S_a := Lib.hid (S_a.out.to hb)
  replace S_b := Lib.hid (S_b.out.to hb)
  replace S_c := Lib.hid (S_c.out.to hb)
  replace S_ab := Lib.hid (S_ab.out.to hb)
  replace S_p := Lib.hid (S_p.out.to hb)
  replace S_q := Lib.hid (S_q.out.to hb)
  replace S_r := Lib.hid (S_r.out.to hb)
  replace S_s := Lib.hid (S_s.out.to hb)
  replace HB := Lib.hid (HB.out.trans (Below.mono hb HB.out.size))
  have S_t := Lib.hid hs
  clear hs hb
  go_wp2_with fail
  (with_reducible refine (rsame_c A_p A_q c_p c_q lp.length lp.length lp lp (w12) true S_p S_q (Lib.hid (rfl : (lp : List UInt32).length = lp.length)) (Lib.hid (rfl : (lp : List UInt32).length = lp.length)) (Lib.hid (sameB_refl _))).mono ?_)
  rintro e w13 ⟨rfl, hb⟩
  replace S_a := Lib.hid (S_a.out.to hb)
  replace S_b := Lib.hid (S_b.out.to hb)
  replace S_c := Lib.hid (S_c.out.to hb)
  replace S_ab := Lib.hid (S_ab.out.to hb)
  replace S_p := Lib.hid (S_p.out.to hb)
  replace S_q := Lib.hid (S_q.out.to hb)
  replace S_r := Lib.hid (S_r.out.to hb)
  replace S_s := Lib.hid (S_s.out.to hb)
  replace S_t := Lib.hid (S_t.out.to hb)
  replace HB := Lib.hid (HB.out.trans (Below.mono hb HB.out.size))
  clear hb
  go_wp2_with fail
  (with_reducible refine (rsame_c A_s A_t c_s c_t ls.length ls.length ls ls (w13) true S_s S_t (Lib.hid (rfl : (ls : List UInt32).length = ls.length)) (Lib.hid (rfl : (ls : List UInt32).length = ls.length)) (Lib.hid (sameB_refl _))).mono ?_)
  rintro e w14 ⟨rfl, hb⟩
  replace S_a := Lib.hid (S_a.out.to hb)
  replace S_b := Lib.hid (S_b.out.to hb)
  replace S_c := Lib.hid (S_c.out.to hb)
  replace S_ab := Lib.hid (S_ab.out.to hb)
  replace S_p := Lib.hid (S_p.out.to hb)
  replace S_q := Lib.hid (S_q.out.to hb)
  replace S_r := Lib.hid (S_r.out.to hb)
  replace S_s := Lib.hid (S_s.out.to hb)
  replace S_t := Lib.hid (S_t.out.to hb)
  replace HB := Lib.hid (HB.out.trans (Below.mono hb HB.out.size))
  clear hb
  clear S_p
  clear S_q
  clear S_s
  clear S_t
  go_wp2_with fail
  (with_reducible refine (mul_c A_ab a2 c_ab c2 lab.length x2.length lab x2 (w14) lu 0 S_ab S_c (Lib.hid (rfl : (lab : List UInt32).length = lab.length)) (Lib.hid (rfl : (x2 : List UInt32).length = x2.length)) H11).mono ?_)
  rintro e w15 ⟨A_u, c_u, rfl, hs, hb⟩
  replace S_a := Lib.hid (S_a.out.to hb)
  replace S_b := Lib.hid (S_b.out.to hb)
  replace S_c := Lib.hid (S_c.out.to hb)
  replace S_ab := Lib.hid (S_ab.out.to hb)
  replace S_r := Lib.hid (S_r.out.to hb)
  replace HB := Lib.hid (HB.out.trans (Below.mono hb HB.out.size))
  have S_u := Lib.hid hs
  clear hs hb
  go_wp2_with fail
  (with_reducible refine (mul_c a0 a2 c0 c2 x0.length x2.length x0 x2 (w15) lv 0 S_a S_c (Lib.hid (rfl : (x0 : List UInt32).length = x0.length)) (Lib.hid (rfl : (x2 : List UInt32).length = x2.length)) H12).mono ?_)
  rintro e w16 ⟨A_v, c_v, rfl, hs, hb⟩
  replace S_a := Lib.hid (S_a.out.to hb)
  replace S_b := Lib.hid (S_b.out.to hb)
  replace S_c := Lib.hid (S_c.out.to hb)
  replace S_ab := Lib.hid (S_ab.out.to hb)
  replace S_r := Lib.hid (S_r.out.to hb)
  replace S_u := Lib.hid (S_u.out.to hb)
  replace HB := Lib.hid (HB.out.trans (Below.mono hb HB.out.size))
  have S_v := Lib.hid hs
  clear hs hb
  go_wp2_with fail
  (with_reducible refine (add_c A_v A_r c_v c_r lv.length lr.length lv lr (w16) lu 0 S_v S_r (Lib.hid (rfl : (lv : List UInt32).length = lv.length)) (Lib.hid (rfl : (lr : List UInt32).length = lr.length)) H13).mono ?_)
  rintro e w17 ⟨A_z, c_z, rfl, hs, hb⟩
  replace S_a := Lib.hid (S_a.out.to hb)
  replace S_b := Lib.hid (S_b.out.to hb)
  replace S_c := Lib.hid (S_c.out.to hb)
  replace S_ab := Lib.hid (S_ab.out.to hb)
  replace S_r := Lib.hid (S_r.out.to hb)
  replace S_u := Lib.hid (S_u.out.to hb)
  replace S_v := Lib.hid (S_v.out.to hb)
  replace HB := Lib.hid (HB.out.trans (Below.mono hb HB.out.size))
  have S_z := Lib.hid hs
  clear hs hb
  go_wp2_with fail
  (with_reducible refine (rsame_c A_u A_z c_u c_z lu.length lu.length lu lu (w17) true S_u S_z (Lib.hid (rfl : (lu : List UInt32).length = lu.length)) (Lib.hid (rfl : (lu : List UInt32).length = lu.length)) (Lib.hid (sameB_refl _))).mono ?_)
  rintro e w18 ⟨rfl, hb⟩
  replace S_a := Lib.hid (S_a.out.to hb)
  replace S_b := Lib.hid (S_b.out.to hb)
  replace S_c := Lib.hid (S_c.out.to hb)
  replace S_ab := Lib.hid (S_ab.out.to hb)
  replace S_r := Lib.hid (S_r.out.to hb)
  replace S_u := Lib.hid (S_u.out.to hb)
  replace S_v := Lib.hid (S_v.out.to hb)
  replace S_z := Lib.hid (S_z.out.to hb)
  replace HB := Lib.hid (HB.out.trans (Below.mono hb HB.out.size))
  clear hb
  go_wp2_with fail
  (with_reducible refine (wakes_any (w18)).mono ?_)
  rintro e w19 ⟨rfl, hb⟩
  replace S_a := Lib.hid (S_a.out.to hb)
  replace S_b := Lib.hid (S_b.out.to hb)
  replace S_c := Lib.hid (S_c.out.to hb)
  replace S_ab := Lib.hid (S_ab.out.to hb)
  replace S_r := Lib.hid (S_r.out.to hb)
  replace S_u := Lib.hid (S_u.out.to hb)
  replace S_v := Lib.hid (S_v.out.to hb)
  replace S_z := Lib.hid (S_z.out.to hb)
  replace HB := Lib.hid (HB.out.trans (Below.mono hb HB.out.size))
  clear hb
  go_wp2_with fail
  go_ret
  exact ⟨rfl, HB.out⟩
theorem natRing_any (a0 : Option Addr) (c0 : Nat) (x0 : List UInt32) (a1 : Option Addr) (c1 : Nat) (x1 : List UInt32) (a2 : Option Addr) (c2 : Nat) (x2 : List UInt32) (w : World) (ha : Sl w a0 c0 x0) (hb : Sl w a1 c1 x1) (hc : Sl w a2 c2 x2) :
    Calls Tryd.prog 5 #[.slice a0 x0.length c0, .slice a1 x1.length c1, .slice a2 x2.length c2] w fun e w' => e = .returned (.bool true) ∧ Below w.heap.size w w' := by
  cases hR : rightB 30 [x0, x1, x2] with
  | false => exact ring_bad a0 c0 x0 a1 c1 x1 a2 c2 x2 w ha hb hc hR
  | true =>
    obtain ⟨m, rfl, hm, hm9⟩ := right_yes hR x0 (by simp)
    obtain ⟨n, rfl, hn, hn9⟩ := right_yes hR x1 (by simp)
    obtain ⟨k, rfl, hk, hk9⟩ := right_yes hR x2 (by simp)
    have l1 : (limbs (m + n)).length ≤ 31 := len_add hm hn
    have l2 : (limbs (n + k)).length ≤ 31 := len_add hn hk
    have l3 : (limbs (m + n + k)).length ≤ 32 := len_add l1 (Nat.le_trans hk (by decide))
    have l4 : (limbs (m * n)).length ≤ 60 := len_mul hm hn
    have l5 : (limbs (n * k)).length ≤ 60 := len_mul hn hk
    have l6 : (limbs (m * n * k)).length ≤ 90 := len_mul l4 hk
    have l7 : (limbs ((m + n) * k)).length ≤ 61 := len_mul l1 hk
    have l8 : (limbs (m * k)).length ≤ 60 := len_mul hm hk
    exact ring_good _ _ _ _ _ _ _ _ _ (limbs (m + n)) (limbs (n + k)) (limbs (m + n + k)) (limbs (m * n)) (limbs (n * k)) (limbs (m * n * k)) (limbs ((m + n) * k)) (limbs (m * k)) w ha hb hc hR
      (addL hm9 hn9 rfl (by omega)) (addL hn9 hm9 (Nat.add_comm _ _) (by omega)) (addL hn9 hk9 rfl (by omega)) (addL (by omega) hk9 rfl (by omega)) (addL hm9 (by omega) (Nat.add_assoc _ _ _).symm (by omega))
      (mulL hm9 hn9 rfl (by omega)) (mulL hn9 hm9 (Nat.mul_comm _ _) (by omega)) (mulL hn9 hk9 rfl (by omega)) (mulL (by omega) hk9 rfl (by omega)) (mulL hm9 (by omega) (Nat.mul_assoc _ _ _).symm (by omega))
      (mulL (by omega) hk9 rfl (by omega)) (mulL hm9 hk9 rfl (by omega)) (addL (by omega) (by omega) (Nat.add_mul _ _ _).symm (by omega))
end Go.Proofs.YtffbmkobholmhaaDoor
