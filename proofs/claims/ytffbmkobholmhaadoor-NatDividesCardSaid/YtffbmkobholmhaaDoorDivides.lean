/- The walk of NatDivides. -/
import Derived.Test.YtffbmkobholmhaaDoorRow
import Derived.Test.YtffbmkobholmhaaDoorRefCall2
namespace Go.Proofs.YtffbmkobholmhaaDoor
open Go.RowKit
set_option linter.unusedVariables false

set_option maxRecDepth 100000 in
set_option maxHeartbeats 4000000 in
theorem divides_far1 (a0 : Option Addr) (c0 : Nat) (x0 : List UInt32) (a1 : Option Addr) (c1 : Nat) (x1 : List UInt32) (x2 : List UInt8) (w : World) (ha : Sl w a0 c0 x0) (hb : Sl w a1 c1 x1) (hl : (200 : Int) < (x0.length : Int)) :
    Calls Tryd.prog 4 #[.slice a0 x0.length c0, .slice a1 x1.length c1, .string ⟨x2.toArray⟩] w fun e w' => e = .returned (.bool true) ∧ Below w.heap.size w w' := by
  have HB := Lib.hid (Below.refl w.heap.size w)
  have S_a := Lib.hid (show Sl w a0 c0 x0 from ha)
  have S_b := Lib.hid (show Sl w a1 c1 x1 from hb)
  clear ha hb
  go_enter Tryd.func4, Tryd.ntmps4
  go_wp2_with fail
  (with_reducible refine (wakes_any (w)).mono ?_)
  rintro e w1 ⟨rfl, hb⟩
  replace S_a := Lib.hid (S_a.out.to hb)
  replace S_b := Lib.hid (S_b.out.to hb)
  replace HB := Lib.hid (HB.out.trans (Below.mono hb HB.out.size))
  clear hb
  go_wp2_with fail
  go_ret
  exact ⟨rfl, HB.out⟩
set_option maxRecDepth 100000 in
set_option maxHeartbeats 4000000 in
theorem divides_far2 (a0 : Option Addr) (c0 : Nat) (x0 : List UInt32) (a1 : Option Addr) (c1 : Nat) (x1 : List UInt32) (x2 : List UInt8) (w : World) (ha : Sl w a0 c0 x0) (hb : Sl w a1 c1 x1) (hl : decide ((200 : Int) < (x0.length : Int)) = false) (hl2 : (200 : Int) < (x1.length : Int)) :
    Calls Tryd.prog 4 #[.slice a0 x0.length c0, .slice a1 x1.length c1, .string ⟨x2.toArray⟩] w fun e w' => e = .returned (.bool true) ∧ Below w.heap.size w w' := by
  have HB := Lib.hid (Below.refl w.heap.size w)
  have S_a := Lib.hid (show Sl w a0 c0 x0 from ha)
  have S_b := Lib.hid (show Sl w a1 c1 x1 from hb)
  clear ha hb
  go_enter Tryd.func4, Tryd.ntmps4
  go_wp2_with fail
  (with_reducible refine (wakes_any (w)).mono ?_)
  rintro e w1 ⟨rfl, hb⟩
  replace S_a := Lib.hid (S_a.out.to hb)
  replace S_b := Lib.hid (S_b.out.to hb)
  replace HB := Lib.hid (HB.out.trans (Below.mono hb HB.out.size))
  clear hb
  go_wp2_with fail
  go_ret
  exact ⟨rfl, HB.out⟩
set_option maxRecDepth 100000 in
set_option maxHeartbeats 4000000 in
theorem divides_far3 (a0 : Option Addr) (c0 : Nat) (x0 : List UInt32) (a1 : Option Addr) (c1 : Nat) (x1 : List UInt32) (x2 : List UInt8) (w : World) (ha : Sl w a0 c0 x0) (hb : Sl w a1 c1 x1) (hl : decide ((200 : Int) < (x0.length : Int)) = false) (hl2 : decide ((200 : Int) < (x1.length : Int)) = false) (hl3 : (2000 : Int) < (x2.length : Int)) :
    Calls Tryd.prog 4 #[.slice a0 x0.length c0, .slice a1 x1.length c1, .string ⟨x2.toArray⟩] w fun e w' => e = .returned (.bool true) ∧ Below w.heap.size w w' := by
  have HB := Lib.hid (Below.refl w.heap.size w)
  have S_a := Lib.hid (show Sl w a0 c0 x0 from ha)
  have S_b := Lib.hid (show Sl w a1 c1 x1 from hb)
  clear ha hb
  go_enter Tryd.func4, Tryd.ntmps4
  go_wp2_with fail
  (with_reducible refine (wakes_any (w)).mono ?_)
  rintro e w1 ⟨rfl, hb⟩
  replace S_a := Lib.hid (S_a.out.to hb)
  replace S_b := Lib.hid (S_b.out.to hb)
  replace HB := Lib.hid (HB.out.trans (Below.mono hb HB.out.size))
  clear hb
  go_wp2_with fail
  go_ret
  exact ⟨rfl, HB.out⟩
set_option maxRecDepth 100000 in
set_option maxHeartbeats 4000000 in
theorem divides_long1 (a0 : Option Addr) (c0 : Nat) (x0 : List UInt32) (a1 : Option Addr) (c1 : Nat) (x1 : List UInt32) (x2 : List UInt8) (t : List UInt8) (lq lr ln : List UInt32) (ed et er : Int) (w : World) (ha : Sl w a0 c0 x0) (hb : Sl w a1 c1 x1) (hl : decide ((200 : Int) < (x0.length : Int)) = false) (hl2 : decide ((200 : Int) < (x1.length : Int)) = false) (hl3 : decide ((2000 : Int) < (x2.length : Int)) = false) (hx2 : x2.length ≤ 100000) (HD : Hid (divM x0 x1 = ((lq, lr), ed))) (HT : Hid (textM x0 = (t, et))) (HR : Hid (readM x2 = (ln, er))) (HA : Hid (decide (24 < x0.length ∧ x0.length ≤ 96) = true)) :
    Calls Tryd.prog 4 #[.slice a0 x0.length c0, .slice a1 x1.length c1, .string ⟨x2.toArray⟩] w fun e w' => e = .returned (.bool true) ∧ Below w.heap.size w w' := by
  have HB := Lib.hid (Below.refl w.heap.size w)
  have S_a := Lib.hid (show Sl w a0 c0 x0 from ha)
  have S_b := Lib.hid (show Sl w a1 c1 x1 from hb)
  clear ha hb
  go_enter Tryd.func4, Tryd.ntmps4
  go_wp2_with fail
  (with_reducible refine (div_c a0 a1 c0 c1 x0.length x1.length x0 x1 (w) lq lr ed S_a S_b (Lib.hid (rfl : (x0 : List UInt32).length = x0.length)) (Lib.hid (rfl : (x1 : List UInt32).length = x1.length)) HD).mono ?_)
  rintro e w1 ⟨A_q, A_r, c_q, c_r, rfl, hs1, hs2, hb⟩
  replace S_a := Lib.hid (S_a.out.to hb)
  replace S_b := Lib.hid (S_b.out.to hb)
  replace HB := Lib.hid (HB.out.trans (Below.mono hb HB.out.size))
  have S_q := Lib.hid hs1
  have S_r := Lib.hid hs2
  clear hs1 hs2 hb
  go_wp2_with fail
  (with_reducible refine (rdiv_c a0 a1 c0 c1 x0.length x1.length x0 x1 (w1) lq lr ed S_a S_b (Lib.hid (rfl : (x0 : List UInt32).length = x0.length)) (Lib.hid (rfl : (x1 : List UInt32).length = x1.length)) HD).mono ?_)
  rintro e w2 ⟨A_x, A_y, c_x, c_y, rfl, hs1, hs2, hb⟩
  replace S_a := Lib.hid (S_a.out.to hb)
  replace S_b := Lib.hid (S_b.out.to hb)
  replace S_q := Lib.hid (S_q.out.to hb)
  replace S_r := Lib.hid (S_r.out.to hb)
  replace HB := Lib.hid (HB.out.trans (Below.mono hb HB.out.size))
  have S_x := Lib.hid hs1
  have S_y := Lib.hid hs2
  clear hs1 hs2 hb
  go_wp2_with fail
  (with_reducible refine (text_c a0 c0 x0.length x0 (w2) t et S_a (Lib.hid (rfl : (x0 : List UInt32).length = x0.length)) HT).mono ?_)
  rintro e w3 ⟨rfl, hb⟩
  replace S_a := Lib.hid (S_a.out.to hb)
  replace S_b := Lib.hid (S_b.out.to hb)
  replace S_q := Lib.hid (S_q.out.to hb)
  replace S_r := Lib.hid (S_r.out.to hb)
  replace S_x := Lib.hid (S_x.out.to hb)
  replace S_y := Lib.hid (S_y.out.to hb)
  replace HB := Lib.hid (HB.out.trans (Below.mono hb HB.out.size))
  clear hb
  go_wp2_with fail
  (with_reducible refine (rtext_c a0 c0 x0.length x0 (w3) t et S_a (Lib.hid (rfl : (x0 : List UInt32).length = x0.length)) HT).mono ?_)
  rintro e w4 ⟨rfl, hb⟩
  replace S_a := Lib.hid (S_a.out.to hb)
  replace S_b := Lib.hid (S_b.out.to hb)
  replace S_q := Lib.hid (S_q.out.to hb)
  replace S_r := Lib.hid (S_r.out.to hb)
  replace S_x := Lib.hid (S_x.out.to hb)
  replace S_y := Lib.hid (S_y.out.to hb)
  replace HB := Lib.hid (HB.out.trans (Below.mono hb HB.out.size))
  clear hb
  go_wp2_with fail
  (with_reducible refine (read_c x2 (w4) ln er hx2 HR).mono ?_)
  rintro e w5 ⟨A_n, c_n, rfl, hs, hb⟩
  replace S_a := Lib.hid (S_a.out.to hb)
  replace S_b := Lib.hid (S_b.out.to hb)
  replace S_q := Lib.hid (S_q.out.to hb)
  replace S_r := Lib.hid (S_r.out.to hb)
  replace S_x := Lib.hid (S_x.out.to hb)
  replace S_y := Lib.hid (S_y.out.to hb)
  replace HB := Lib.hid (HB.out.trans (Below.mono hb HB.out.size))
  have S_n := Lib.hid hs
  clear hs hb
  go_wp2_with fail
  (with_reducible refine (rread_c x2 (w5) ln er hx2 HR).mono ?_)
  rintro e w6 ⟨A_m, c_m, rfl, hs, hb⟩
  replace S_a := Lib.hid (S_a.out.to hb)
  replace S_b := Lib.hid (S_b.out.to hb)
  replace S_q := Lib.hid (S_q.out.to hb)
  replace S_r := Lib.hid (S_r.out.to hb)
  replace S_x := Lib.hid (S_x.out.to hb)
  replace S_y := Lib.hid (S_y.out.to hb)
  replace S_n := Lib.hid (S_n.out.to hb)
  replace HB := Lib.hid (HB.out.trans (Below.mono hb HB.out.size))
  have S_m := Lib.hid hs
  clear hs hb
  go_wp2_with fail
  (with_reducible refine (rsame_c A_q A_x c_q c_x lq.length lq.length lq lq (w6) true S_q S_x (Lib.hid (rfl : (lq : List UInt32).length = lq.length)) (Lib.hid (rfl : (lq : List UInt32).length = lq.length)) (Lib.hid (sameB_refl _))).mono ?_)
  rintro e w7 ⟨rfl, hb⟩
  replace S_a := Lib.hid (S_a.out.to hb)
  replace S_b := Lib.hid (S_b.out.to hb)
  replace S_q := Lib.hid (S_q.out.to hb)
  replace S_r := Lib.hid (S_r.out.to hb)
  replace S_x := Lib.hid (S_x.out.to hb)
  replace S_y := Lib.hid (S_y.out.to hb)
  replace S_n := Lib.hid (S_n.out.to hb)
  replace S_m := Lib.hid (S_m.out.to hb)
  replace HB := Lib.hid (HB.out.trans (Below.mono hb HB.out.size))
  clear hb
  clear S_q
  clear S_x
  go_wp2_with fail
  (with_reducible refine (rsame_c A_r A_y c_r c_y lr.length lr.length lr lr (w7) true S_r S_y (Lib.hid (rfl : (lr : List UInt32).length = lr.length)) (Lib.hid (rfl : (lr : List UInt32).length = lr.length)) (Lib.hid (sameB_refl _))).mono ?_)
  rintro e w8 ⟨rfl, hb⟩
  replace S_a := Lib.hid (S_a.out.to hb)
  replace S_b := Lib.hid (S_b.out.to hb)
  replace S_r := Lib.hid (S_r.out.to hb)
  replace S_y := Lib.hid (S_y.out.to hb)
  replace S_n := Lib.hid (S_n.out.to hb)
  replace S_m := Lib.hid (S_m.out.to hb)
  replace HB := Lib.hid (HB.out.trans (Below.mono hb HB.out.size))
  clear hb
  clear S_r
  clear S_y
  go_wp2_with fail
  (with_reducible refine (rsame_c A_n A_m c_n c_m ln.length ln.length ln ln (w8) true S_n S_m (Lib.hid (rfl : (ln : List UInt32).length = ln.length)) (Lib.hid (rfl : (ln : List UInt32).length = ln.length)) (Lib.hid (sameB_refl _))).mono ?_)
  rintro e w9 ⟨rfl, hb⟩
  replace S_a := Lib.hid (S_a.out.to hb)
  replace S_b := Lib.hid (S_b.out.to hb)
  replace S_n := Lib.hid (S_n.out.to hb)
  replace S_m := Lib.hid (S_m.out.to hb)
  replace HB := Lib.hid (HB.out.trans (Below.mono hb HB.out.size))
  clear hb
  clear S_n
  clear S_m
  go_wp2_with fail
  (with_reducible refine (rlong_c a0 x0.length c0 (w9) true HA).mono ?_)
  rintro e ws ⟨rfl, rfl⟩
  go_wp2_with fail
  (with_reducible refine (wakes_any (w9)).mono ?_)
  rintro e w10 ⟨rfl, hb⟩
  replace S_a := Lib.hid (S_a.out.to hb)
  replace S_b := Lib.hid (S_b.out.to hb)
  replace HB := Lib.hid (HB.out.trans (Below.mono hb HB.out.size))
  clear hb
  go_wp2_with fail
  go_ret
  exact ⟨rfl, HB.out⟩
set_option maxRecDepth 100000 in
set_option maxHeartbeats 4000000 in
theorem divides_long2 (a0 : Option Addr) (c0 : Nat) (x0 : List UInt32) (a1 : Option Addr) (c1 : Nat) (x1 : List UInt32) (x2 : List UInt8) (t : List UInt8) (lq lr ln : List UInt32) (ed et er : Int) (w : World) (ha : Sl w a0 c0 x0) (hb : Sl w a1 c1 x1) (hl : decide ((200 : Int) < (x0.length : Int)) = false) (hl2 : decide ((200 : Int) < (x1.length : Int)) = false) (hl3 : decide ((2000 : Int) < (x2.length : Int)) = false) (hx2 : x2.length ≤ 100000) (HD : Hid (divM x0 x1 = ((lq, lr), ed))) (HT : Hid (textM x0 = (t, et))) (HR : Hid (readM x2 = (ln, er))) (HA : Hid (decide (24 < x0.length ∧ x0.length ≤ 96) = false)) (HB2 : Hid (decide (24 < x1.length ∧ x1.length ≤ 96) = true)) :
    Calls Tryd.prog 4 #[.slice a0 x0.length c0, .slice a1 x1.length c1, .string ⟨x2.toArray⟩] w fun e w' => e = .returned (.bool true) ∧ Below w.heap.size w w' := by
  have HB := Lib.hid (Below.refl w.heap.size w)
  have S_a := Lib.hid (show Sl w a0 c0 x0 from ha)
  have S_b := Lib.hid (show Sl w a1 c1 x1 from hb)
  clear ha hb
  go_enter Tryd.func4, Tryd.ntmps4
  go_wp2_with fail
  (with_reducible refine (div_c a0 a1 c0 c1 x0.length x1.length x0 x1 (w) lq lr ed S_a S_b (Lib.hid (rfl : (x0 : List UInt32).length = x0.length)) (Lib.hid (rfl : (x1 : List UInt32).length = x1.length)) HD).mono ?_)
  rintro e w1 ⟨A_q, A_r, c_q, c_r, rfl, hs1, hs2, hb⟩
  replace S_a := Lib.hid (S_a.out.to hb)
  replace S_b := Lib.hid (S_b.out.to hb)
  replace HB := Lib.hid (HB.out.trans (Below.mono hb HB.out.size))
  have S_q := Lib.hid hs1
  have S_r := Lib.hid hs2
  clear hs1 hs2 hb
  go_wp2_with fail
  (with_reducible refine (rdiv_c a0 a1 c0 c1 x0.length x1.length x0 x1 (w1) lq lr ed S_a S_b (Lib.hid (rfl : (x0 : List UInt32).length = x0.length)) (Lib.hid (rfl : (x1 : List UInt32).length = x1.length)) HD).mono ?_)
  rintro e w2 ⟨A_x, A_y, c_x, c_y, rfl, hs1, hs2, hb⟩
  replace S_a := Lib.hid (S_a.out.to hb)
  replace S_b := Lib.hid (S_b.out.to hb)
  replace S_q := Lib.hid (S_q.out.to hb)
  replace S_r := Lib.hid (S_r.out.to hb)
  replace HB := Lib.hid (HB.out.trans (Below.mono hb HB.out.size))
  have S_x := Lib.hid hs1
  have S_y := Lib.hid hs2
  clear hs1 hs2 hb
  go_wp2_with fail
  (with_reducible refine (text_c a0 c0 x0.length x0 (w2) t et S_a (Lib.hid (rfl : (x0 : List UInt32).length = x0.length)) HT).mono ?_)
  rintro e w3 ⟨rfl, hb⟩
  replace S_a := Lib.hid (S_a.out.to hb)
  replace S_b := Lib.hid (S_b.out.to hb)
  replace S_q := Lib.hid (S_q.out.to hb)
  replace S_r := Lib.hid (S_r.out.to hb)
  replace S_x := Lib.hid (S_x.out.to hb)
  replace S_y := Lib.hid (S_y.out.to hb)
  replace HB := Lib.hid (HB.out.trans (Below.mono hb HB.out.size))
  clear hb
  go_wp2_with fail
  (with_reducible refine (rtext_c a0 c0 x0.length x0 (w3) t et S_a (Lib.hid (rfl : (x0 : List UInt32).length = x0.length)) HT).mono ?_)
  rintro e w4 ⟨rfl, hb⟩
  replace S_a := Lib.hid (S_a.out.to hb)
  replace S_b := Lib.hid (S_b.out.to hb)
  replace S_q := Lib.hid (S_q.out.to hb)
  replace S_r := Lib.hid (S_r.out.to hb)
  replace S_x := Lib.hid (S_x.out.to hb)
  replace S_y := Lib.hid (S_y.out.to hb)
  replace HB := Lib.hid (HB.out.trans (Below.mono hb HB.out.size))
  clear hb
  go_wp2_with fail
  (with_reducible refine (read_c x2 (w4) ln er hx2 HR).mono ?_)
  rintro e w5 ⟨A_n, c_n, rfl, hs, hb⟩
  replace S_a := Lib.hid (S_a.out.to hb)
  replace S_b := Lib.hid (S_b.out.to hb)
  replace S_q := Lib.hid (S_q.out.to hb)
  replace S_r := Lib.hid (S_r.out.to hb)
  replace S_x := Lib.hid (S_x.out.to hb)
  replace S_y := Lib.hid (S_y.out.to hb)
  replace HB := Lib.hid (HB.out.trans (Below.mono hb HB.out.size))
  have S_n := Lib.hid hs
  clear hs hb
  go_wp2_with fail
  (with_reducible refine (rread_c x2 (w5) ln er hx2 HR).mono ?_)
  rintro e w6 ⟨A_m, c_m, rfl, hs, hb⟩
  replace S_a := Lib.hid (S_a.out.to hb)
  replace S_b := Lib.hid (S_b.out.to hb)
  replace S_q := Lib.hid (S_q.out.to hb)
  replace S_r := Lib.hid (S_r.out.to hb)
  replace S_x := Lib.hid (S_x.out.to hb)
  replace S_y := Lib.hid (S_y.out.to hb)
  replace S_n := Lib.hid (S_n.out.to hb)
  replace HB := Lib.hid (HB.out.trans (Below.mono hb HB.out.size))
  have S_m := Lib.hid hs
  clear hs hb
  go_wp2_with fail
  (with_reducible refine (rsame_c A_q A_x c_q c_x lq.length lq.length lq lq (w6) true S_q S_x (Lib.hid (rfl : (lq : List UInt32).length = lq.length)) (Lib.hid (rfl : (lq : List UInt32).length = lq.length)) (Lib.hid (sameB_refl _))).mono ?_)
  rintro e w7 ⟨rfl, hb⟩
  replace S_a := Lib.hid (S_a.out.to hb)
  replace S_b := Lib.hid (S_b.out.to hb)
  replace S_q := Lib.hid (S_q.out.to hb)
  replace S_r := Lib.hid (S_r.out.to hb)
  replace S_x := Lib.hid (S_x.out.to hb)
  replace S_y := Lib.hid (S_y.out.to hb)
  replace S_n := Lib.hid (S_n.out.to hb)
  replace S_m := Lib.hid (S_m.out.to hb)
  replace HB := Lib.hid (HB.out.trans (Below.mono hb HB.out.size))
  clear hb
  clear S_q
  clear S_x
  go_wp2_with fail
  (with_reducible refine (rsame_c A_r A_y c_r c_y lr.length lr.length lr lr (w7) true S_r S_y (Lib.hid (rfl : (lr : List UInt32).length = lr.length)) (Lib.hid (rfl : (lr : List UInt32).length = lr.length)) (Lib.hid (sameB_refl _))).mono ?_)
  rintro e w8 ⟨rfl, hb⟩
  replace S_a := Lib.hid (S_a.out.to hb)
  replace S_b := Lib.hid (S_b.out.to hb)
  replace S_r := Lib.hid (S_r.out.to hb)
  replace S_y := Lib.hid (S_y.out.to hb)
  replace S_n := Lib.hid (S_n.out.to hb)
  replace S_m := Lib.hid (S_m.out.to hb)
  replace HB := Lib.hid (HB.out.trans (Below.mono hb HB.out.size))
  clear hb
  clear S_r
  clear S_y
  go_wp2_with fail
  (with_reducible refine (rsame_c A_n A_m c_n c_m ln.length ln.length ln ln (w8) true S_n S_m (Lib.hid (rfl : (ln : List UInt32).length = ln.length)) (Lib.hid (rfl : (ln : List UInt32).length = ln.length)) (Lib.hid (sameB_refl _))).mono ?_)
  rintro e w9 ⟨rfl, hb⟩
  replace S_a := Lib.hid (S_a.out.to hb)
  replace S_b := Lib.hid (S_b.out.to hb)
  replace S_n := Lib.hid (S_n.out.to hb)
  replace S_m := Lib.hid (S_m.out.to hb)
  replace HB := Lib.hid (HB.out.trans (Below.mono hb HB.out.size))
  clear hb
  clear S_n
  clear S_m
  go_wp2_with fail
  (with_reducible refine (rlong_c a0 x0.length c0 (w9) false HA).mono ?_)
  rintro e ws ⟨rfl, rfl⟩
  go_wp2_with fail
  (with_reducible refine (rlong_c a1 x1.length c1 (w9) true HB2).mono ?_)
  rintro e ws ⟨rfl, rfl⟩
  go_wp2_with fail
  (with_reducible refine (wakes_any (w9)).mono ?_)
  rintro e w10 ⟨rfl, hb⟩
  replace S_a := Lib.hid (S_a.out.to hb)
  replace S_b := Lib.hid (S_b.out.to hb)
  replace HB := Lib.hid (HB.out.trans (Below.mono hb HB.out.size))
  clear hb
  go_wp2_with fail
  go_ret
  exact ⟨rfl, HB.out⟩
set_option maxRecDepth 100000 in
set_option maxHeartbeats 4000000 in
theorem divides_all (a0 : Option Addr) (c0 : Nat) (x0 : List UInt32) (a1 : Option Addr) (c1 : Nat) (x1 : List UInt32) (x2 : List UInt8) (t : List UInt8) (lq lr ln : List UInt32) (ed et er : Int) (lg : List UInt32) (eg : Int) (w : World) (ha : Sl w a0 c0 x0) (hb : Sl w a1 c1 x1) (hl : decide ((200 : Int) < (x0.length : Int)) = false) (hl2 : decide ((200 : Int) < (x1.length : Int)) = false) (hl3 : decide ((2000 : Int) < (x2.length : Int)) = false) (hx2 : x2.length ≤ 100000) (HD : Hid (divM x0 x1 = ((lq, lr), ed))) (HT : Hid (textM x0 = (t, et))) (HR : Hid (readM x2 = (ln, er))) (HA : Hid (decide (24 < x0.length ∧ x0.length ≤ 96) = false)) (HB2 : Hid (decide (24 < x1.length ∧ x1.length ≤ 96) = false)) (HG : Hid (gcdM x0 x1 = (lg, eg))) :
    Calls Tryd.prog 4 #[.slice a0 x0.length c0, .slice a1 x1.length c1, .string ⟨x2.toArray⟩] w fun e w' => e = .returned (.bool true) ∧ Below w.heap.size w w' := by
  have HB := Lib.hid (Below.refl w.heap.size w)
  have S_a := Lib.hid (show Sl w a0 c0 x0 from ha)
  have S_b := Lib.hid (show Sl w a1 c1 x1 from hb)
  clear ha hb
  go_enter Tryd.func4, Tryd.ntmps4
  go_wp2_with fail
  (with_reducible refine (div_c a0 a1 c0 c1 x0.length x1.length x0 x1 (w) lq lr ed S_a S_b (Lib.hid (rfl : (x0 : List UInt32).length = x0.length)) (Lib.hid (rfl : (x1 : List UInt32).length = x1.length)) HD).mono ?_)
  rintro e w1 ⟨A_q, A_r, c_q, c_r, rfl, hs1, hs2, hb⟩
  replace S_a := Lib.hid (S_a.out.to hb)
  replace S_b := Lib.hid (S_b.out.to hb)
  replace HB := Lib.hid (HB.out.trans (Below.mono hb HB.out.size))
  have S_q := Lib.hid hs1
  have S_r := Lib.hid hs2
  clear hs1 hs2 hb
  go_wp2_with fail
  (with_reducible refine (rdiv_c a0 a1 c0 c1 x0.length x1.length x0 x1 (w1) lq lr ed S_a S_b (Lib.hid (rfl : (x0 : List UInt32).length = x0.length)) (Lib.hid (rfl : (x1 : List UInt32).length = x1.length)) HD).mono ?_)
  rintro e w2 ⟨A_x, A_y, c_x, c_y, rfl, hs1, hs2, hb⟩
  replace S_a := Lib.hid (S_a.out.to hb)
  replace S_b := Lib.hid (S_b.out.to hb)
  replace S_q := Lib.hid (S_q.out.to hb)
  replace S_r := Lib.hid (S_r.out.to hb)
  replace HB := Lib.hid (HB.out.trans (Below.mono hb HB.out.size))
  have S_x := Lib.hid hs1
  have S_y := Lib.hid hs2
  clear hs1 hs2 hb
  go_wp2_with fail
  (with_reducible refine (text_c a0 c0 x0.length x0 (w2) t et S_a (Lib.hid (rfl : (x0 : List UInt32).length = x0.length)) HT).mono ?_)
  rintro e w3 ⟨rfl, hb⟩
  replace S_a := Lib.hid (S_a.out.to hb)
  replace S_b := Lib.hid (S_b.out.to hb)
  replace S_q := Lib.hid (S_q.out.to hb)
  replace S_r := Lib.hid (S_r.out.to hb)
  replace S_x := Lib.hid (S_x.out.to hb)
  replace S_y := Lib.hid (S_y.out.to hb)
  replace HB := Lib.hid (HB.out.trans (Below.mono hb HB.out.size))
  clear hb
  go_wp2_with fail
  (with_reducible refine (rtext_c a0 c0 x0.length x0 (w3) t et S_a (Lib.hid (rfl : (x0 : List UInt32).length = x0.length)) HT).mono ?_)
  rintro e w4 ⟨rfl, hb⟩
  replace S_a := Lib.hid (S_a.out.to hb)
  replace S_b := Lib.hid (S_b.out.to hb)
  replace S_q := Lib.hid (S_q.out.to hb)
  replace S_r := Lib.hid (S_r.out.to hb)
  replace S_x := Lib.hid (S_x.out.to hb)
  replace S_y := Lib.hid (S_y.out.to hb)
  replace HB := Lib.hid (HB.out.trans (Below.mono hb HB.out.size))
  clear hb
  go_wp2_with fail
  (with_reducible refine (read_c x2 (w4) ln er hx2 HR).mono ?_)
  rintro e w5 ⟨A_n, c_n, rfl, hs, hb⟩
  replace S_a := Lib.hid (S_a.out.to hb)
  replace S_b := Lib.hid (S_b.out.to hb)
  replace S_q := Lib.hid (S_q.out.to hb)
  replace S_r := Lib.hid (S_r.out.to hb)
  replace S_x := Lib.hid (S_x.out.to hb)
  replace S_y := Lib.hid (S_y.out.to hb)
  replace HB := Lib.hid (HB.out.trans (Below.mono hb HB.out.size))
  have S_n := Lib.hid hs
  clear hs hb
  go_wp2_with fail
  (with_reducible refine (rread_c x2 (w5) ln er hx2 HR).mono ?_)
  rintro e w6 ⟨A_m, c_m, rfl, hs, hb⟩
  replace S_a := Lib.hid (S_a.out.to hb)
  replace S_b := Lib.hid (S_b.out.to hb)
  replace S_q := Lib.hid (S_q.out.to hb)
  replace S_r := Lib.hid (S_r.out.to hb)
  replace S_x := Lib.hid (S_x.out.to hb)
  replace S_y := Lib.hid (S_y.out.to hb)
  replace S_n := Lib.hid (S_n.out.to hb)
  replace HB := Lib.hid (HB.out.trans (Below.mono hb HB.out.size))
  have S_m := Lib.hid hs
  clear hs hb
  go_wp2_with fail
  (with_reducible refine (rsame_c A_q A_x c_q c_x lq.length lq.length lq lq (w6) true S_q S_x (Lib.hid (rfl : (lq : List UInt32).length = lq.length)) (Lib.hid (rfl : (lq : List UInt32).length = lq.length)) (Lib.hid (sameB_refl _))).mono ?_)
  rintro e w7 ⟨rfl, hb⟩
  replace S_a := Lib.hid (S_a.out.to hb)
  replace S_b := Lib.hid (S_b.out.to hb)
  replace S_q := Lib.hid (S_q.out.to hb)
  replace S_r := Lib.hid (S_r.out.to hb)
  replace S_x := Lib.hid (S_x.out.to hb)
  replace S_y := Lib.hid (S_y.out.to hb)
  replace S_n := Lib.hid (S_n.out.to hb)
  replace S_m := Lib.hid (S_m.out.to hb)
  replace HB := Lib.hid (HB.out.trans (Below.mono hb HB.out.size))
  clear hb
  clear S_q
  clear S_x
  go_wp2_with fail
  (with_reducible refine (rsame_c A_r A_y c_r c_y lr.length lr.length lr lr (w7) true S_r S_y (Lib.hid (rfl : (lr : List UInt32).length = lr.length)) (Lib.hid (rfl : (lr : List UInt32).length = lr.length)) (Lib.hid (sameB_refl _))).mono ?_)
  rintro e w8 ⟨rfl, hb⟩
  replace S_a := Lib.hid (S_a.out.to hb)
  replace S_b := Lib.hid (S_b.out.to hb)
  replace S_r := Lib.hid (S_r.out.to hb)
  replace S_y := Lib.hid (S_y.out.to hb)
  replace S_n := Lib.hid (S_n.out.to hb)
  replace S_m := Lib.hid (S_m.out.to hb)
  replace HB := Lib.hid (HB.out.trans (Below.mono hb HB.out.size))
  clear hb
  clear S_r
  clear S_y
  go_wp2_with fail
  (with_reducible refine (rsame_c A_n A_m c_n c_m ln.length ln.length ln ln (w8) true S_n S_m (Lib.hid (rfl : (ln : List UInt32).length = ln.length)) (Lib.hid (rfl : (ln : List UInt32).length = ln.length)) (Lib.hid (sameB_refl _))).mono ?_)
  rintro e w9 ⟨rfl, hb⟩
  replace S_a := Lib.hid (S_a.out.to hb)
  replace S_b := Lib.hid (S_b.out.to hb)
  replace S_n := Lib.hid (S_n.out.to hb)
  replace S_m := Lib.hid (S_m.out.to hb)
  replace HB := Lib.hid (HB.out.trans (Below.mono hb HB.out.size))
  clear hb
  clear S_n
  clear S_m
  go_wp2_with fail
  (with_reducible refine (rlong_c a0 x0.length c0 (w9) false HA).mono ?_)
  rintro e ws ⟨rfl, rfl⟩
  go_wp2_with fail
  (with_reducible refine (rlong_c a1 x1.length c1 (w9) false HB2).mono ?_)
  rintro e ws ⟨rfl, rfl⟩
  go_wp2_with fail
  (with_reducible refine (gcd_c a0 a1 c0 c1 x0.length x1.length x0 x1 (w9) lg eg S_a S_b (Lib.hid (rfl : (x0 : List UInt32).length = x0.length)) (Lib.hid (rfl : (x1 : List UInt32).length = x1.length)) HG).mono ?_)
  rintro e w10 ⟨A_d, c_d, rfl, hs, hb⟩
  replace S_a := Lib.hid (S_a.out.to hb)
  replace S_b := Lib.hid (S_b.out.to hb)
  replace HB := Lib.hid (HB.out.trans (Below.mono hb HB.out.size))
  have S_d := Lib.hid hs
  clear hs hb
  go_wp2_with fail
  (with_reducible refine (rgcd_c a0 a1 c0 c1 x0.length x1.length x0 x1 (w10) lg eg S_a S_b (Lib.hid (rfl : (x0 : List UInt32).length = x0.length)) (Lib.hid (rfl : (x1 : List UInt32).length = x1.length)) HG).mono ?_)
  rintro e w11 ⟨A_c, c_c, rfl, hs, hb⟩
  replace S_a := Lib.hid (S_a.out.to hb)
  replace S_b := Lib.hid (S_b.out.to hb)
  replace S_d := Lib.hid (S_d.out.to hb)
  replace HB := Lib.hid (HB.out.trans (Below.mono hb HB.out.size))
  have S_c := Lib.hid hs
  clear hs hb
  clear S_a
  clear S_b
  go_wp2_with fail
  (with_reducible refine (rsame_c A_d A_c c_d c_c lg.length lg.length lg lg (w11) true S_d S_c (Lib.hid (rfl : (lg : List UInt32).length = lg.length)) (Lib.hid (rfl : (lg : List UInt32).length = lg.length)) (Lib.hid (sameB_refl _))).mono ?_)
  rintro e w12 ⟨rfl, hb⟩
  replace S_d := Lib.hid (S_d.out.to hb)
  replace S_c := Lib.hid (S_c.out.to hb)
  replace HB := Lib.hid (HB.out.trans (Below.mono hb HB.out.size))
  clear hb
  clear S_d
  clear S_c
  go_wp2_with fail
  (with_reducible refine (wakes_any (w12)).mono ?_)
  rintro e w13 ⟨rfl, hb⟩
  replace HB := Lib.hid (HB.out.trans (Below.mono hb HB.out.size))
  clear hb
  go_wp2_with fail
  go_ret
  exact ⟨rfl, HB.out⟩
theorem natDivides_any (a0 : Option Addr) (c0 : Nat) (x0 : List UInt32) (a1 : Option Addr) (c1 : Nat) (x1 : List UInt32) (x2 : List UInt8) (w : World) (ha : Sl w a0 c0 x0) (hb : Sl w a1 c1 x1) :
    Calls Tryd.prog 4 #[.slice a0 x0.length c0, .slice a1 x1.length c1, .string ⟨x2.toArray⟩] w fun e w' => e = .returned (.bool true) ∧ Below w.heap.size w w' := by
  by_cases h1 : 200 < x0.length
  · exact divides_far1 a0 c0 x0 a1 c1 x1 x2 w ha hb (by omega)
  · have h1d : decide ((200 : Int) < (x0.length : Int)) = false := by simp; omega
    by_cases h2 : 200 < x1.length
    · exact divides_far2 a0 c0 x0 a1 c1 x1 x2 w ha hb h1d (by omega)
    · have h2d : decide ((200 : Int) < (x1.length : Int)) = false := by simp; omega
      by_cases h3 : 2000 < x2.length
      · exact divides_far3 a0 c0 x0 a1 c1 x1 x2 w ha hb h1d h2d (by omega)
      · have h3d : decide ((2000 : Int) < (x2.length : Int)) = false := by simp; omega
        cases hA : decide (24 < x0.length ∧ x0.length ≤ 96) with
        | true => exact divides_long1 a0 c0 x0 a1 c1 x1 x2 _ _ _ _ _ _ _ w ha hb h1d h2d h3d (by omega) (rfl : divM x0 x1 = (((divM x0 x1).1.1, (divM x0 x1).1.2), (divM x0 x1).2)) (rfl : textM x0 = ((textM x0).1, (textM x0).2)) (rfl : readM x2 = ((readM x2).1, (readM x2).2)) hA
        | false =>
          cases hB : decide (24 < x1.length ∧ x1.length ≤ 96) with
          | true => exact divides_long2 a0 c0 x0 a1 c1 x1 x2 _ _ _ _ _ _ _ w ha hb h1d h2d h3d (by omega) (rfl : divM x0 x1 = (((divM x0 x1).1.1, (divM x0 x1).1.2), (divM x0 x1).2)) (rfl : textM x0 = ((textM x0).1, (textM x0).2)) (rfl : readM x2 = ((readM x2).1, (readM x2).2)) hA hB
          | false => exact divides_all a0 c0 x0 a1 c1 x1 x2 _ _ _ _ _ _ _ _ _ w ha hb h1d h2d h3d (by omega) (rfl : divM x0 x1 = (((divM x0 x1).1.1, (divM x0 x1).1.2), (divM x0 x1).2)) (rfl : textM x0 = ((textM x0).1, (textM x0).2)) (rfl : readM x2 = ((readM x2).1, (readM x2).2)) hA hB (rfl : gcdM x0 x1 = ((gcdM x0 x1).1, (gcdM x0 x1).2))
end Go.Proofs.YtffbmkobholmhaaDoor
