/- The walk of NatTells. -/
import Derived.Test.YtffbmkobholmhaaDoorRow
import Derived.Test.YtffbmkobholmhaaDoorRefCall
namespace Go.Proofs.YtffbmkobholmhaaDoor
open Go.RowKit
set_option linter.unusedVariables false

set_option maxRecDepth 100000 in
set_option maxHeartbeats 4000000 in
theorem tells_far1 (a0 : Option Addr) (c0 : Nat) (x0 : List UInt32) (a1 : Option Addr) (c1 : Nat) (x1 : List UInt32) (n : Nat) (w : World) (ha : Sl w a0 c0 x0) (hb : Sl w a1 c1 x1) (hl : (200 : Int) < (x0.length : Int)) :
    Calls Tryd.prog 3 #[.slice a0 x0.length c0, .slice a1 x1.length c1, .int .u64 n] w fun e w' => e = .returned (.bool true) ∧ Below w.heap.size w w' := by
  have HB := Lib.hid (Below.refl w.heap.size w)
  have S_a := Lib.hid (show Sl w a0 c0 x0 from ha)
  have S_b := Lib.hid (show Sl w a1 c1 x1 from hb)
  clear ha hb
  go_enter Tryd.func3, Tryd.ntmps3
  go_wp2_with fail
  (with_reducible refine (wakes_any (w)).mono ?_)
  rintro e w1 ⟨rfl, hb⟩
  replace S_a := Lib.hid (S_a.out.to hb)
  replace S_b := Lib.hid (S_b.out.to hb)
  replace HB := Lib.hid (HB.out.trans (Below.mono hb HB.out.size))
  clear hb
  go_wp2_with fail
  go_ret
  exact ⟨rfl, HB.out⟩
set_option maxRecDepth 100000 in
set_option maxHeartbeats 4000000 in
theorem tells_far2 (a0 : Option Addr) (c0 : Nat) (x0 : List UInt32) (a1 : Option Addr) (c1 : Nat) (x1 : List UInt32) (n : Nat) (w : World) (ha : Sl w a0 c0 x0) (hb : Sl w a1 c1 x1) (hl : decide ((200 : Int) < (x0.length : Int)) = false) (hl2 : (200 : Int) < (x1.length : Int)) :
    Calls Tryd.prog 3 #[.slice a0 x0.length c0, .slice a1 x1.length c1, .int .u64 n] w fun e w' => e = .returned (.bool true) ∧ Below w.heap.size w w' := by
  have HB := Lib.hid (Below.refl w.heap.size w)
  have S_a := Lib.hid (show Sl w a0 c0 x0 from ha)
  have S_b := Lib.hid (show Sl w a1 c1 x1 from hb)
  clear ha hb
  go_enter Tryd.func3, Tryd.ntmps3
  go_wp2_with fail
  (with_reducible refine (wakes_any (w)).mono ?_)
  rintro e w1 ⟨rfl, hb⟩
  replace S_a := Lib.hid (S_a.out.to hb)
  replace S_b := Lib.hid (S_b.out.to hb)
  replace HB := Lib.hid (HB.out.trans (Below.mono hb HB.out.size))
  clear hb
  go_wp2_with fail
  go_ret
  exact ⟨rfl, HB.out⟩
set_option maxRecDepth 100000 in
set_option maxHeartbeats 4000000 in
theorem tells_all (a0 : Option Addr) (c0 : Nat) (x0 : List UInt32) (a1 : Option Addr) (c1 : Nat) (x1 : List UInt32) (n wv : Nat) (we cv ce kv ep es ex : Int) (be : Bool) (lo lp ls lx : List UInt32) (w : World) (ha : Sl w a0 c0 x0) (hb : Sl w a1 c1 x1) (hl : decide ((200 : Int) < (x0.length : Int)) = false) (hl2 : decide ((200 : Int) < (x1.length : Int)) = false) (HN : Hid (n < 18446744073709551616)) (HW : Hid (wordM x0 = (wv, we))) (HC : Hid (cmpM x0 x1 = (cv, ce))) (HK : Hid (chk x0 = kv)) (HE : Hid (sameB x0 x1 = be)) (HO : Hid (limbs n = lo)) (HA : Hid (addM x0 x1 = (lp, ep))) (HS : Hid (subM x0 x1 = (ls, es))) (HM : Hid (mulM x0 x1 = (lx, ex))) :
    Calls Tryd.prog 3 #[.slice a0 x0.length c0, .slice a1 x1.length c1, .int .u64 n] w fun e w' => e = .returned (.bool true) ∧ Below w.heap.size w w' := by
  have HB := Lib.hid (Below.refl w.heap.size w)
  have S_a := Lib.hid (show Sl w a0 c0 x0 from ha)
  have S_b := Lib.hid (show Sl w a1 c1 x1 from hb)
  clear ha hb
  go_enter Tryd.func3, Tryd.ntmps3
  go_wp2_with fail
  (with_reducible refine (word_c a0 c0 x0.length x0 (w) wv we S_a (Lib.hid (rfl : (x0 : List UInt32).length = x0.length)) HW).mono ?_)
  rintro e ws ⟨rfl, rfl⟩
  go_wp2_with fail
  (with_reducible refine (rword_c a0 c0 x0.length x0 (w) wv we S_a (Lib.hid (rfl : (x0 : List UInt32).length = x0.length)) HW).mono ?_)
  rintro e ws ⟨rfl, rfl⟩
  go_wp2_with fail
  (with_reducible refine (cmp_c a0 a1 c0 c1 x0.length x1.length x0 x1 (w) cv ce S_a S_b (Lib.hid (rfl : (x0 : List UInt32).length = x0.length)) (Lib.hid (rfl : (x1 : List UInt32).length = x1.length)) HC).mono ?_)
  rintro e w1 ⟨rfl, hb⟩
  replace S_a := Lib.hid (S_a.out.to hb)
  replace S_b := Lib.hid (S_b.out.to hb)
  replace HB := Lib.hid (HB.out.trans (Below.mono hb HB.out.size))
  clear hb
  go_wp2_with fail
  (with_reducible refine (rcmp_c a0 a1 c0 c1 x0.length x1.length x0 x1 (w1) cv ce S_a S_b (Lib.hid (rfl : (x0 : List UInt32).length = x0.length)) (Lib.hid (rfl : (x1 : List UInt32).length = x1.length)) HC).mono ?_)
  rintro e w2 ⟨rfl, hb⟩
  replace S_a := Lib.hid (S_a.out.to hb)
  replace S_b := Lib.hid (S_b.out.to hb)
  replace HB := Lib.hid (HB.out.trans (Below.mono hb HB.out.size))
  clear hb
  go_wp2_with fail
  (with_reducible refine (check_c a0 c0 x0.length x0 (w2) kv S_a (Lib.hid (rfl : (x0 : List UInt32).length = x0.length)) HK).mono ?_)
  rintro e ws ⟨rfl, rfl⟩
  go_wp2_with fail
  (with_reducible refine (rcheck_c a0 c0 x0.length x0 (w2) kv S_a (Lib.hid (rfl : (x0 : List UInt32).length = x0.length)) HK).mono ?_)
  rintro e ws ⟨rfl, rfl⟩
  go_wp2_with fail
  (with_reducible refine (same_c a0 a1 c0 c1 x0.length x1.length x0 x1 (w2) be S_a S_b (Lib.hid (rfl : (x0 : List UInt32).length = x0.length)) (Lib.hid (rfl : (x1 : List UInt32).length = x1.length)) HE).mono ?_)
  rintro e w3 ⟨rfl, hb⟩
  replace S_a := Lib.hid (S_a.out.to hb)
  replace S_b := Lib.hid (S_b.out.to hb)
  replace HB := Lib.hid (HB.out.trans (Below.mono hb HB.out.size))
  clear hb
  go_wp2_with fail
  (with_reducible refine (rsame_c a0 a1 c0 c1 x0.length x1.length x0 x1 (w3) be S_a S_b (Lib.hid (rfl : (x0 : List UInt32).length = x0.length)) (Lib.hid (rfl : (x1 : List UInt32).length = x1.length)) HE).mono ?_)
  rintro e w4 ⟨rfl, hb⟩
  replace S_a := Lib.hid (S_a.out.to hb)
  replace S_b := Lib.hid (S_b.out.to hb)
  replace HB := Lib.hid (HB.out.trans (Below.mono hb HB.out.size))
  clear hb
  go_wp2_with fail
  (with_reducible refine (of_c n (w4) lo HN.out HO).mono ?_)
  rintro e w5 ⟨A_o1, c_o1, rfl, hs, hb⟩
  replace S_a := Lib.hid (S_a.out.to hb)
  replace S_b := Lib.hid (S_b.out.to hb)
  replace HB := Lib.hid (HB.out.trans (Below.mono hb HB.out.size))
  have S_o1 := Lib.hid hs
  clear hs hb
  go_wp2_with fail
  (with_reducible refine (rof_c n (w5) lo HN.out HO).mono ?_)
  rintro e w6 ⟨A_o2, c_o2, rfl, hs, hb⟩
  replace S_a := Lib.hid (S_a.out.to hb)
  replace S_b := Lib.hid (S_b.out.to hb)
  replace S_o1 := Lib.hid (S_o1.out.to hb)
  replace HB := Lib.hid (HB.out.trans (Below.mono hb HB.out.size))
  have S_o2 := Lib.hid hs
  clear hs hb
  go_wp2_with fail
  (with_reducible refine (rsame_c A_o1 A_o2 c_o1 c_o2 lo.length lo.length lo lo (w6) true S_o1 S_o2 (Lib.hid (rfl : (lo : List UInt32).length = lo.length)) (Lib.hid (rfl : (lo : List UInt32).length = lo.length)) (Lib.hid (sameB_refl _))).mono ?_)
  rintro e w7 ⟨rfl, hb⟩
  replace S_a := Lib.hid (S_a.out.to hb)
  replace S_b := Lib.hid (S_b.out.to hb)
  replace S_o1 := Lib.hid (S_o1.out.to hb)
  replace S_o2 := Lib.hid (S_o2.out.to hb)
  replace HB := Lib.hid (HB.out.trans (Below.mono hb HB.out.size))
  clear hb
  clear S_o1
  clear S_o2
  go_wp2_with fail
  (with_reducible refine (add_c a0 a1 c0 c1 x0.length x1.length x0 x1 (w7) lp ep S_a S_b (Lib.hid (rfl : (x0 : List UInt32).length = x0.length)) (Lib.hid (rfl : (x1 : List UInt32).length = x1.length)) HA).mono ?_)
  rintro e w8 ⟨A_p, c_p, rfl, hs, hb⟩
  replace S_a := Lib.hid (S_a.out.to hb)
  replace S_b := Lib.hid (S_b.out.to hb)
  replace HB := Lib.hid (HB.out.trans (Below.mono hb HB.out.size))
  have S_p := Lib.hid hs
  clear hs hb
  go_wp2_with fail
  (with_reducible refine (radd_c a0 a1 c0 c1 x0.length x1.length x0 x1 (w8) lp ep S_a S_b (Lib.hid (rfl : (x0 : List UInt32).length = x0.length)) (Lib.hid (rfl : (x1 : List UInt32).length = x1.length)) HA).mono ?_)
  rintro e w9 ⟨A_q, c_q, rfl, hs, hb⟩
  replace S_a := Lib.hid (S_a.out.to hb)
  replace S_b := Lib.hid (S_b.out.to hb)
  replace S_p := Lib.hid (S_p.out.to hb)
  replace HB := Lib.hid (HB.out.trans (Below.mono hb HB.out.size))
  have S_q := Lib.hid hs
  clear hs hb
  go_wp2_with fail
  (with_reducible refine (sub_c a0 a1 c0 c1 x0.length x1.length x0 x1 (w9) ls es S_a S_b (Lib.hid (rfl : (x0 : List UInt32).length = x0.length)) (Lib.hid (rfl : (x1 : List UInt32).length = x1.length)) HS).mono ?_)
  rintro e w10 ⟨A_s, c_s, rfl, hs, hb⟩
  replace S_a := Lib.hid (S_a.out.to hb)
  replace S_b := Lib.hid (S_b.out.to hb)
  replace S_p := Lib.hid (S_p.out.to hb)
  replace S_q := Lib.hid (S_q.out.to hb)
  replace HB := Lib.hid (HB.out.trans (Below.mono hb HB.out.size))
  have S_s := Lib.hid hs
  clear hs hb
  go_wp2_with fail
  (with_reducible refine (rsub_c a0 a1 c0 c1 x0.length x1.length x0 x1 (w10) ls es S_a S_b (Lib.hid (rfl : (x0 : List UInt32).length = x0.length)) (Lib.hid (rfl : (x1 : List UInt32).length = x1.length)) HS).mono ?_)
  rintro e w11 ⟨A_t, c_t, rfl, hs, hb⟩
  replace S_a := Lib.hid (S_a.out.to hb)
  replace S_b := Lib.hid (S_b.out.to hb)
  replace S_p := Lib.hid (S_p.out.to hb)
  replace S_q := Lib.hid (S_q.out.to hb)
  replace S_s := Lib.hid (S_s.out.to hb)
  replace HB := Lib.hid (HB.out.trans (Below.mono hb HB.out.size))
  have S_t := Lib.hid hs
  clear hs hb
  go_wp2_with fail
  (with_reducible refine (mul_c a0 a1 c0 c1 x0.length x1.length x0 x1 (w11) lx ex S_a S_b (Lib.hid (rfl : (x0 : List UInt32).length = x0.length)) (Lib.hid (rfl : (x1 : List UInt32).length = x1.length)) HM).mono ?_)
  rintro e w12 ⟨A_x, c_x, rfl, hs, hb⟩
  replace S_a := Lib.hid (S_a.out.to hb)
  replace S_b := Lib.hid (S_b.out.to hb)
  replace S_p := Lib.hid (S_p.out.to hb)
  replace S_q := Lib.hid (S_q.out.to hb)
  replace S_s := Lib.hid (S_s.out.to hb)
  replace S_t := Lib.hid (S_t.out.to hb)
  replace HB := Lib.hid (HB.out.trans (Below.mono hb HB.out.size))
  have S_x := Lib.hid hs
  clear hs hb
  go_wp2_with fail
  (with_reducible refine (rmul_c a0 a1 c0 c1 x0.length x1.length x0 x1 (w12) lx ex S_a S_b (Lib.hid (rfl : (x0 : List UInt32).length = x0.length)) (Lib.hid (rfl : (x1 : List UInt32).length = x1.length)) HM).mono ?_)
  rintro e w13 ⟨A_y, c_y, rfl, hs, hb⟩
  replace S_a := Lib.hid (S_a.out.to hb)
  replace S_b := Lib.hid (S_b.out.to hb)
  replace S_p := Lib.hid (S_p.out.to hb)
  replace S_q := Lib.hid (S_q.out.to hb)
  replace S_s := Lib.hid (S_s.out.to hb)
  replace S_t := Lib.hid (S_t.out.to hb)
  replace S_x := Lib.hid (S_x.out.to hb)
  replace HB := Lib.hid (HB.out.trans (Below.mono hb HB.out.size))
  have S_y := Lib.hid hs
  clear hs hb
  clear S_a
  clear S_b
  go_wp2_with fail
  (with_reducible refine (rsame_c A_p A_q c_p c_q lp.length lp.length lp lp (w13) true S_p S_q (Lib.hid (rfl : (lp : List UInt32).length = lp.length)) (Lib.hid (rfl : (lp : List UInt32).length = lp.length)) (Lib.hid (sameB_refl _))).mono ?_)
  rintro e w14 ⟨rfl, hb⟩
  replace S_p := Lib.hid (S_p.out.to hb)
  replace S_q := Lib.hid (S_q.out.to hb)
  replace S_s := Lib.hid (S_s.out.to hb)
  replace S_t := Lib.hid (S_t.out.to hb)
  replace S_x := Lib.hid (S_x.out.to hb)
  replace S_y := Lib.hid (S_y.out.to hb)
  replace HB := Lib.hid (HB.out.trans (Below.mono hb HB.out.size))
  clear hb
  clear S_p
  clear S_q
  go_wp2_with fail
  (with_reducible refine (rsame_c A_s A_t c_s c_t ls.length ls.length ls ls (w14) true S_s S_t (Lib.hid (rfl : (ls : List UInt32).length = ls.length)) (Lib.hid (rfl : (ls : List UInt32).length = ls.length)) (Lib.hid (sameB_refl _))).mono ?_)
  rintro e w15 ⟨rfl, hb⟩
  replace S_s := Lib.hid (S_s.out.to hb)
  replace S_t := Lib.hid (S_t.out.to hb)
  replace S_x := Lib.hid (S_x.out.to hb)
  replace S_y := Lib.hid (S_y.out.to hb)
  replace HB := Lib.hid (HB.out.trans (Below.mono hb HB.out.size))
  clear hb
  clear S_s
  clear S_t
  go_wp2_with fail
  (with_reducible refine (rsame_c A_x A_y c_x c_y lx.length lx.length lx lx (w15) true S_x S_y (Lib.hid (rfl : (lx : List UInt32).length = lx.length)) (Lib.hid (rfl : (lx : List UInt32).length = lx.length)) (Lib.hid (sameB_refl _))).mono ?_)
  rintro e w16 ⟨rfl, hb⟩
  replace S_x := Lib.hid (S_x.out.to hb)
  replace S_y := Lib.hid (S_y.out.to hb)
  replace HB := Lib.hid (HB.out.trans (Below.mono hb HB.out.size))
  clear hb
  clear S_x
  clear S_y
  go_wp2_with fail
  (with_reducible refine (wakes_any (w16)).mono ?_)
  rintro e w17 ⟨rfl, hb⟩
  replace HB := Lib.hid (HB.out.trans (Below.mono hb HB.out.size))
  clear hb
  go_wp2_with fail
  go_ret
  exact ⟨rfl, HB.out⟩
theorem natTells_any (a0 : Option Addr) (c0 : Nat) (x0 : List UInt32) (a1 : Option Addr) (c1 : Nat) (x1 : List UInt32) (n : Nat) (w : World) (ha : Sl w a0 c0 x0) (hb : Sl w a1 c1 x1) (hn : n < 18446744073709551616) :
    Calls Tryd.prog 3 #[.slice a0 x0.length c0, .slice a1 x1.length c1, .int .u64 n] w fun e w' => e = .returned (.bool true) ∧ Below w.heap.size w w' := by
  by_cases h1 : 200 < x0.length
  · exact tells_far1 a0 c0 x0 a1 c1 x1 n w ha hb (by omega)
  · have h1d : decide ((200 : Int) < (x0.length : Int)) = false := by simp; omega
    by_cases h2 : 200 < x1.length
    · exact tells_far2 a0 c0 x0 a1 c1 x1 n w ha hb h1d (by omega)
    · exact tells_all a0 c0 x0 a1 c1 x1 n _ _ _ _ _ _ _ _ _ _ _ _ _ w ha hb h1d (by simp; omega) hn (rfl : wordM x0 = ((wordM x0).1, (wordM x0).2)) (rfl : cmpM x0 x1 = ((cmpM x0 x1).1, (cmpM x0 x1).2)) rfl rfl rfl
        (rfl : addM x0 x1 = ((addM x0 x1).1, (addM x0 x1).2)) (rfl : subM x0 x1 = ((subM x0 x1).1, (subM x0 x1).2)) (rfl : mulM x0 x1 = ((mulM x0 x1).1, (mulM x0 x1).2))
end Go.Proofs.YtffbmkobholmhaaDoor
