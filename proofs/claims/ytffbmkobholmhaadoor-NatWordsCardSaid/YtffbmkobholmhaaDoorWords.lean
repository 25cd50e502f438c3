/- The walk of NatWords. -/
import Derived.Test.YtffbmkobholmhaaDoorRow
namespace Go.Proofs.YtffbmkobholmhaaDoor
open Go.RowKit
set_option linter.unusedVariables false

set_option maxRecDepth 100000 in
set_option maxHeartbeats 4000000 in
theorem words_000 (m n su nb pr pv qv rv : Nat) (v pe : Int) (bl bg be : Bool) (lx ly ls lz lp lq lr : List UInt32) (w : World) (HM0 : Hid (m < 18446744073709551616)) (HN0 : Hid (n < 18446744073709551616)) (HX : Hid (limbs m = lx)) (HY : Hid (limbs n = ly)) (HWX : Hid (wordM lx = (m, 0))) (HC : Hid (cmpM lx ly = (v, 0))) (HKX : Hid (chk lx = 0)) (HE : Hid (sameB lx ly = be)) (HA : Hid (addM lx ly = (ls, 0))) (hv1 : decide (v < 0) = bl) (hv2 : decide (m < n) = bl) (hg1 : decide (0 < v) = bg) (hg2 : decide (n < m) = bg) (he : ((m : Int) == (n : Int)) = be) (HWS : Hid (wordM ls = (su, 0))) (hsum : (m : Int) + (n : Int) = (su : Int)) (hsu : m ≤ su) (hsd : decide (m ≤ su) = true) (hov : (m : Int) + (n : Int) < 18446744073709551616) (hnb : (n : Int) % 4294967296 = (nb : Int)) (HNB : Hid (nb < 18446744073709551616)) (HZ : Hid (limbs nb = lz)) (HM : Hid (mulM lx lz = (lp, 0))) (HWP : Hid (wordM lp = (pv, pe))) (hsm : decide ((m : Int) < 4294967296) = false) (hz : ((n : Int) == 0) = false) (hn1 : (1 : Int) ≤ (n : Int)) (HD : Hid (divM lx ly = ((lq, lr), 0))) (HWQ : Hid (wordM lq = (qv, 0))) (HWR : Hid (wordM lr = (rv, 0))) (hqv : (m : Int) / (n : Int) = (qv : Int)) (hrv : (m : Int) % (n : Int) = (rv : Int)) (hqvl : (qv : Int) ≤ 18446744073709551615) (hrvl : (rv : Int) ≤ 18446744073709551615) :
    Calls Tryd.prog 10 #[.int .u64 m, .int .u64 n] w fun e w' => e = .returned (.bool true) ∧ Below w.heap.size w w' := by
  have HB := Lib.hid (Below.refl w.heap.size w)
  go_enter Tryd.func10, Tryd.ntmps10
  go_wp2_with fail
  (with_reducible refine (of_c m (w) lx HM0.out HX).mono ?_)
  rintro e w1 ⟨A_x, c_x, rfl, hs, hb⟩
  replace HB := Lib.hid (HB.out.trans (Below.mono hb HB.out.size))
  have S_x := Lib.hid hs
  clear hs hb
  go_wp2_with fail
  (with_reducible refine (of_c n (w1) ly HN0.out HY).mono ?_)
  rintro e w2 ⟨A_y, c_y, rfl, hs, hb⟩
  replace S_x := Lib.hid (S_x.out.to hb)
  replace HB := Lib.hid (HB.out.trans (Below.mono hb HB.out.size))
  have S_y := Lib.hid hs
  clear hs hb
  go_wp2_with fail
  (with_reducible refine (word_c A_x c_x lx.length lx (w2) m 0 S_x (Lib.hid (rfl : (lx : List UInt32).length = lx.length)) HWX).mono ?_)
  rintro e ws ⟨rfl, rfl⟩
  go_wp2_with fail
  (with_reducible refine (cmp_c A_x A_y c_x c_y lx.length ly.length lx ly (w2) v 0 S_x S_y (Lib.hid (rfl : (lx : List UInt32).length = lx.length)) (Lib.hid (rfl : (ly : List UInt32).length = ly.length)) HC).mono ?_)
  rintro e w3 ⟨rfl, hb⟩
  replace S_x := Lib.hid (S_x.out.to hb)
  replace S_y := Lib.hid (S_y.out.to hb)
  replace HB := Lib.hid (HB.out.trans (Below.mono hb HB.out.size))
  clear hb
  go_wp2_with fail
  (with_reducible refine (check_c A_x c_x lx.length lx (w3) 0 S_x (Lib.hid (rfl : (lx : List UInt32).length = lx.length)) HKX).mono ?_)
  rintro e ws ⟨rfl, rfl⟩
  go_wp2_with fail
  (with_reducible refine (same_c A_x A_y c_x c_y lx.length ly.length lx ly (w3) be S_x S_y (Lib.hid (rfl : (lx : List UInt32).length = lx.length)) (Lib.hid (rfl : (ly : List UInt32).length = ly.length)) HE).mono ?_)
  rintro e w4 ⟨rfl, hb⟩
  replace S_x := Lib.hid (S_x.out.to hb)
  replace S_y := Lib.hid (S_y.out.to hb)
  replace HB := Lib.hid (HB.out.trans (Below.mono hb HB.out.size))
  clear hb
  go_wp2_with fail
  (with_reducible refine (add_c A_x A_y c_x c_y lx.length ly.length lx ly (w4) ls 0 S_x S_y (Lib.hid (rfl : (lx : List UInt32).length = lx.length)) (Lib.hid (rfl : (ly : List UInt32).length = ly.length)) HA).mono ?_)
  rintro e w5 ⟨A_s, c_s, rfl, hs, hb⟩
  replace S_x := Lib.hid (S_x.out.to hb)
  replace S_y := Lib.hid (S_y.out.to hb)
  replace HB := Lib.hid (HB.out.trans (Below.mono hb HB.out.size))
  have S_s := Lib.hid hs
  clear hs hb
  go_wp2_with fail
  (with_reducible refine (word_c A_s c_s ls.length ls (w5) su 0 S_s (Lib.hid (rfl : (ls : List UInt32).length = ls.length)) HWS).mono ?_)
  rintro e ws ⟨rfl, rfl⟩
  clear S_s
  go_wp2_with fail
  (with_reducible refine (of_c nb (w5) lz HNB.out HZ).mono ?_)
  rintro e w6 ⟨A_z, c_z, rfl, hs, hb⟩
  replace S_x := Lib.hid (S_x.out.to hb)
  replace S_y := Lib.hid (S_y.out.to hb)
  replace HB := Lib.hid (HB.out.trans (Below.mono hb HB.out.size))
  have S_z := Lib.hid hs
  clear hs hb
  go_wp2_with fail
  (with_reducible refine (mul_c A_x A_z c_x c_z lx.length lz.length lx lz (w6) lp 0 S_x S_z (Lib.hid (rfl : (lx : List UInt32).length = lx.length)) (Lib.hid (rfl : (lz : List UInt32).length = lz.length)) HM).mono ?_)
  rintro e w7 ⟨A_p, c_p, rfl, hs, hb⟩
  replace S_x := Lib.hid (S_x.out.to hb)
  replace S_y := Lib.hid (S_y.out.to hb)
  replace S_z := Lib.hid (S_z.out.to hb)
  replace HB := Lib.hid (HB.out.trans (Below.mono hb HB.out.size))
  have S_p := Lib.hid hs
  clear hs hb
  clear S_z
  go_wp2_with fail
  (with_reducible refine (word_c A_p c_p lp.length lp (w7) pv pe S_p (Lib.hid (rfl : (lp : List UInt32).length = lp.length)) HWP).mono ?_)
  rintro e ws ⟨rfl, rfl⟩
  clear S_p
  go_wp2_with fail
  (with_reducible refine (div_c A_x A_y c_x c_y lx.length ly.length lx ly (w7) lq lr 0 S_x S_y (Lib.hid (rfl : (lx : List UInt32).length = lx.length)) (Lib.hid (rfl : (ly : List UInt32).length = ly.length)) HD).mono ?_)
  rintro e w8 ⟨A_q, A_r, c_q, c_r, rfl, hs1, hs2, hb⟩
  replace S_x := Lib.hid (S_x.out.to hb)
  replace S_y := Lib.hid (S_y.out.to hb)
  replace HB := Lib.hid (HB.out.trans (Below.mono hb HB.out.size))
  have S_q := Lib.hid hs1
  have S_r := Lib.hid hs2
  clear hs1 hs2 hb
  go_wp2_with fail
  (with_reducible refine (word_c A_q c_q lq.length lq (w8) qv 0 S_q (Lib.hid (rfl : (lq : List UInt32).length = lq.length)) HWQ).mono ?_)
  rintro e ws ⟨rfl, rfl⟩
  go_wp2_with fail
  (with_reducible refine (word_c A_r c_r lr.length lr (w8) rv 0 S_r (Lib.hid (rfl : (lr : List UInt32).length = lr.length)) HWR).mono ?_)
  rintro e ws ⟨rfl, rfl⟩
  clear S_q
  clear S_r
  clear S_x
  clear S_y
  go_wp2_with fail
  (with_reducible refine (wakes_any (w8)).mono ?_)
  rintro e w9 ⟨rfl, hb⟩
  replace HB := Lib.hid (HB.out.trans (Below.mono hb HB.out.size))
  clear hb
  go_wp2_with fail
  go_ret
  exact ⟨rfl, HB.out⟩
set_option maxRecDepth 100000 in
set_option maxHeartbeats 4000000 in
theorem words_001 (m n su nb pr pv qv rv : Nat) (v pe : Int) (bl bg be : Bool) (lx ly ls lz lp lq lr : List UInt32) (w : World) (HM0 : Hid (m < 18446744073709551616)) (HN0 : Hid (n < 18446744073709551616)) (HX : Hid (limbs m = lx)) (HY : Hid (limbs n = ly)) (HWX : Hid (wordM lx = (m, 0))) (HC : Hid (cmpM lx ly = (v, 0))) (HKX : Hid (chk lx = 0)) (HE : Hid (sameB lx ly = be)) (HA : Hid (addM lx ly = (ls, 0))) (hv1 : decide (v < 0) = bl) (hv2 : decide (m < n) = bl) (hg1 : decide (0 < v) = bg) (hg2 : decide (n < m) = bg) (he : ((m : Int) == (n : Int)) = be) (HWS : Hid (wordM ls = (su, 0))) (hsum : (m : Int) + (n : Int) = (su : Int)) (hsu : m ≤ su) (hsd : decide (m ≤ su) = true) (hov : (m : Int) + (n : Int) < 18446744073709551616) (hnb : (n : Int) % 4294967296 = (nb : Int)) (HNB : Hid (nb < 18446744073709551616)) (HZ : Hid (limbs nb = lz)) (HM : Hid (mulM lx lz = (lp, 0))) (HWP : Hid (wordM lp = (pv, pe))) (hsm : decide ((m : Int) < 4294967296) = false) (hz : ((n : Int) == 0) = true) :
    Calls Tryd.prog 10 #[.int .u64 m, .int .u64 n] w fun e w' => e = .returned (.bool true) ∧ Below w.heap.size w w' := by
  have HB := Lib.hid (Below.refl w.heap.size w)
  go_enter Tryd.func10, Tryd.ntmps10
  go_wp2_with fail
  (with_reducible refine (of_c m (w) lx HM0.out HX).mono ?_)
  rintro e w1 ⟨A_x, c_x, rfl, hs, hb⟩
  replace HB := Lib.hid (HB.out.trans (Below.mono hb HB.out.size))
  have S_x := Lib.hid hs
  clear hs hb
  go_wp2_with fail
  (with_reducible refine (of_c n (w1) ly HN0.out HY).mono ?_)
  rintro e w2 ⟨A_y, c_y, rfl, hs, hb⟩
  replace S_x := Lib.hid (S_x.out.to hb)
  replace HB := Lib.hid (HB.out.trans (Below.mono hb HB.out.size))
  have S_y := Lib.hid hs
  clear hs hb
  go_wp2_with fail
  (with_reducible refine (word_c A_x c_x lx.length lx (w2) m 0 S_x (Lib.hid (rfl : (lx : List UInt32).length = lx.length)) HWX).mono ?_)
  rintro e ws ⟨rfl, rfl⟩
  go_wp2_with fail
  (with_reducible refine (cmp_c A_x A_y c_x c_y lx.length ly.length lx ly (w2) v 0 S_x S_y (Lib.hid (rfl : (lx : List UInt32).length = lx.length)) (Lib.hid (rfl : (ly : List UInt32).length = ly.length)) HC).mono ?_)
  rintro e w3 ⟨rfl, hb⟩
  replace S_x := Lib.hid (S_x.out.to hb)
  replace S_y := Lib.hid (S_y.out.to hb)
  replace HB := Lib.hid (HB.out.trans (Below.mono hb HB.out.size))
  clear hb
  go_wp2_with fail
  (with_reducible refine (check_c A_x c_x lx.length lx (w3) 0 S_x (Lib.hid (rfl : (lx : List UInt32).length = lx.length)) HKX).mono ?_)
  rintro e ws ⟨rfl, rfl⟩
  go_wp2_with fail
  (with_reducible refine (same_c A_x A_y c_x c_y lx.length ly.length lx ly (w3) be S_x S_y (Lib.hid (rfl : (lx : List UInt32).length = lx.length)) (Lib.hid (rfl : (ly : List UInt32).length = ly.length)) HE).mono ?_)
  rintro e w4 ⟨rfl, hb⟩
  replace S_x := Lib.hid (S_x.out.to hb)
  replace S_y := Lib.hid (S_y.out.to hb)
  replace HB := Lib.hid (HB.out.trans (Below.mono hb HB.out.size))
  clear hb
  go_wp2_with fail
  (with_reducible refine (add_c A_x A_y c_x c_y lx.length ly.length lx ly (w4) ls 0 S_x S_y (Lib.hid (rfl : (lx : List UInt32).length = lx.length)) (Lib.hid (rfl : (ly : List UInt32).length = ly.length)) HA).mono ?_)
  rintro e w5 ⟨A_s, c_s, rfl, hs, hb⟩
  replace S_x := Lib.hid (S_x.out.to hb)
  replace S_y := Lib.hid (S_y.out.to hb)
  replace HB := Lib.hid (HB.out.trans (Below.mono hb HB.out.size))
  have S_s := Lib.hid hs
  clear hs hb
  go_wp2_with fail
  (with_reducible refine (word_c A_s c_s ls.length ls (w5) su 0 S_s (Lib.hid (rfl : (ls : List UInt32).length = ls.length)) HWS).mono ?_)
  rintro e ws ⟨rfl, rfl⟩
  clear S_s
  go_wp2_with fail
  (with_reducible refine (of_c nb (w5) lz HNB.out HZ).mono ?_)
  rintro e w6 ⟨A_z, c_z, rfl, hs, hb⟩
  replace S_x := Lib.hid (S_x.out.to hb)
  replace S_y := Lib.hid (S_y.out.to hb)
  replace HB := Lib.hid (HB.out.trans (Below.mono hb HB.out.size))
  have S_z := Lib.hid hs
  clear hs hb
  go_wp2_with fail
  (with_reducible refine (mul_c A_x A_z c_x c_z lx.length lz.length lx lz (w6) lp 0 S_x S_z (Lib.hid (rfl : (lx : List UInt32).length = lx.length)) (Lib.hid (rfl : (lz : List UInt32).length = lz.length)) HM).mono ?_)
  rintro e w7 ⟨A_p, c_p, rfl, hs, hb⟩
  replace S_x := Lib.hid (S_x.out.to hb)
  replace S_y := Lib.hid (S_y.out.to hb)
  replace S_z := Lib.hid (S_z.out.to hb)
  replace HB := Lib.hid (HB.out.trans (Below.mono hb HB.out.size))
  have S_p := Lib.hid hs
  clear hs hb
  clear S_z
  go_wp2_with fail
  (with_reducible refine (word_c A_p c_p lp.length lp (w7) pv pe S_p (Lib.hid (rfl : (lp : List UInt32).length = lp.length)) HWP).mono ?_)
  rintro e ws ⟨rfl, rfl⟩
  clear S_p
  go_wp2_with fail
  (with_reducible refine (wakes_any (w7)).mono ?_)
  rintro e w8 ⟨rfl, hb⟩
  replace S_x := Lib.hid (S_x.out.to hb)
  replace S_y := Lib.hid (S_y.out.to hb)
  replace HB := Lib.hid (HB.out.trans (Below.mono hb HB.out.size))
  clear hb
  go_wp2_with fail
  go_ret
  exact ⟨rfl, HB.out⟩
set_option maxRecDepth 100000 in
set_option maxHeartbeats 4000000 in
theorem words_010 (m n su nb pr pv qv rv : Nat) (v pe : Int) (bl bg be : Bool) (lx ly ls lz lp lq lr : List UInt32) (w : World) (HM0 : Hid (m < 18446744073709551616)) (HN0 : Hid (n < 18446744073709551616)) (HX : Hid (limbs m = lx)) (HY : Hid (limbs n = ly)) (HWX : Hid (wordM lx = (m, 0))) (HC : Hid (cmpM lx ly = (v, 0))) (HKX : Hid (chk lx = 0)) (HE : Hid (sameB lx ly = be)) (HA : Hid (addM lx ly = (ls, 0))) (hv1 : decide (v < 0) = bl) (hv2 : decide (m < n) = bl) (hg1 : decide (0 < v) = bg) (hg2 : decide (n < m) = bg) (he : ((m : Int) == (n : Int)) = be) (HWS : Hid (wordM ls = (su, 0))) (hsum : (m : Int) + (n : Int) = (su : Int)) (hsu : m ≤ su) (hsd : decide (m ≤ su) = true) (hov : (m : Int) + (n : Int) < 18446744073709551616) (hnb : (n : Int) % 4294967296 = (nb : Int)) (HNB : Hid (nb < 18446744073709551616)) (HZ : Hid (limbs nb = lz)) (HM : Hid (mulM lx lz = (lp, 0))) (HWP : Hid (wordM lp = (pr, 0))) (hsm : (m : Int) < 4294967296) (hpr : (m : Int) * (nb : Int) = (pr : Int)) (hprl : pr < 18446744073709551616) (hz : ((n : Int) == 0) = false) (hn1 : (1 : Int) ≤ (n : Int)) (HD : Hid (divM lx ly = ((lq, lr), 0))) (HWQ : Hid (wordM lq = (qv, 0))) (HWR : Hid (wordM lr = (rv, 0))) (hqv : (m : Int) / (n : Int) = (qv : Int)) (hrv : (m : Int) % (n : Int) = (rv : Int)) (hqvl : (qv : Int) ≤ 18446744073709551615) (hrvl : (rv : Int) ≤ 18446744073709551615) :
    Calls Tryd.prog 10 #[.int .u64 m, .int .u64 n] w fun e w' => e = .returned (.bool true) ∧ Below w.heap.size w w' := by
  have HB := Lib.hid (Below.refl w.heap.size w)
  go_enter Tryd.func10, Tryd.ntmps10
  go_wp2_with fail
  (with_reducible refine (of_c m (w) lx HM0.out HX).mono ?_)
  rintro e w1 ⟨A_x, c_x, rfl, hs, hb⟩
  replace HB := Lib.hid (HB.out.trans (Below.mono hb HB.out.size))
  have S_x := Lib.hid hs
  clear hs hb
  go_wp2_with fail
  (with_reducible refine (of_c n (w1) ly HN0.out HY).mono ?_)
  rintro e w2 ⟨A_y, c_y, rfl, hs, hb⟩
  replace S_x := Lib.hid (S_x.out.to hb)
  replace HB := Lib.hid (HB.out.trans (Below.mono hb HB.out.size))
  have S_y := Lib.hid hs
  clear hs hb
  go_wp2_with fail
  (with_reducible refine (word_c A_x c_x lx.length lx (w2) m 0 S_x (Lib.hid (rfl : (lx : List UInt32).length = lx.length)) HWX).mono ?_)
  rintro e ws ⟨rfl, rfl⟩
  go_wp2_with fail
  (with_reducible refine (cmp_c A_x A_y c_x c_y lx.length ly.length lx ly (w2) v 0 S_x S_y (Lib.hid (rfl : (lx : List UInt32).length = lx.length)) (Lib.hid (rfl : (ly : List UInt32).length = ly.length)) HC).mono ?_)
  rintro e w3 ⟨rfl, hb⟩
  replace S_x := Lib.hid (S_x.out.to hb)
  replace S_y := Lib.hid (S_y.out.to hb)
  replace HB := Lib.hid (HB.out.trans (Below.mono hb HB.out.size))
  clear hb
  go_wp2_with fail
  (with_reducible refine (check_c A_x c_x lx.length lx (w3) 0 S_x (Lib.hid (rfl : (lx : List UInt32).length = lx.length)) HKX).mono ?_)
  rintro e ws ⟨rfl, rfl⟩
  go_wp2_with fail
  (with_reducible refine (same_c A_x A_y c_x c_y lx.length ly.length lx ly (w3) be S_x S_y (Lib.hid (rfl : (lx : List UInt32).length = lx.length)) (Lib.hid (rfl : (ly : List UInt32).length = ly.length)) HE).mono ?_)
  rintro e w4 ⟨rfl, hb⟩
  replace S_x := Lib.hid (S_x.out.to hb)
  replace S_y := Lib.hid (S_y.out.to hb)
  replace HB := Lib.hid (HB.out.trans (Below.mono hb HB.out.size))
  clear hb
  go_wp2_with fail
  (with_reducible refine (add_c A_x A_y c_x c_y lx.length ly.length lx ly (w4) ls 0 S_x S_y (Lib.hid (rfl : (lx : List UInt32).length = lx.length)) (Lib.hid (rfl : (ly : List UInt32).length = ly.length)) HA).mono ?_)
  rintro e w5 ⟨A_s, c_s, rfl, hs, hb⟩
  replace S_x := Lib.hid (S_x.out.to hb)
  replace S_y := Lib.hid (S_y.out.to hb)
  replace HB := Lib.hid (HB.out.trans (Below.mono hb HB.out.size))
  have S_s := Lib.hid hs
  clear hs hb
  go_wp2_with fail
  (with_reducible refine (word_c A_s c_s ls.length ls (w5) su 0 S_s (Lib.hid (rfl : (ls : List UInt32).length = ls.length)) HWS).mono ?_)
  rintro e ws ⟨rfl, rfl⟩
  clear S_s
  go_wp2_with fail
  (with_reducible refine (of_c nb (w5) lz HNB.out HZ).mono ?_)
  rintro e w6 ⟨A_z, c_z, rfl, hs, hb⟩
  replace S_x := Lib.hid (S_x.out.to hb)
  replace S_y := Lib.hid (S_y.out.to hb)
  replace HB := Lib.hid (HB.out.trans (Below.mono hb HB.out.size))
  have S_z := Lib.hid hs
  clear hs hb
  go_wp2_with fail
  (with_reducible refine (mul_c A_x A_z c_x c_z lx.length lz.length lx lz (w6) lp 0 S_x S_z (Lib.hid (rfl : (lx : List UInt32).length = lx.length)) (Lib.hid (rfl : (lz : List UInt32).length = lz.length)) HM).mono ?_)
  rintro e w7 ⟨A_p, c_p, rfl, hs, hb⟩
  replace S_x := Lib.hid (S_x.out.to hb)
  replace S_y := Lib.hid (S_y.out.to hb)
  replace S_z := Lib.hid (S_z.out.to hb)
  replace HB := Lib.hid (HB.out.trans (Below.mono hb HB.out.size))
  have S_p := Lib.hid hs
  clear hs hb
  clear S_z
  go_wp2_with fail
  (with_reducible refine (word_c A_p c_p lp.length lp (w7) pr 0 S_p (Lib.hid (rfl : (lp : List UInt32).length = lp.length)) HWP).mono ?_)
  rintro e ws ⟨rfl, rfl⟩
  clear S_p
  go_wp2_with fail
  (with_reducible refine (div_c A_x A_y c_x c_y lx.length ly.length lx ly (w7) lq lr 0 S_x S_y (Lib.hid (rfl : (lx : List UInt32).length = lx.length)) (Lib.hid (rfl : (ly : List UInt32).length = ly.length)) HD).mono ?_)
  rintro e w8 ⟨A_q, A_r, c_q, c_r, rfl, hs1, hs2, hb⟩
  replace S_x := Lib.hid (S_x.out.to hb)
  replace S_y := Lib.hid (S_y.out.to hb)
  replace HB := Lib.hid (HB.out.trans (Below.mono hb HB.out.size))
  have S_q := Lib.hid hs1
  have S_r := Lib.hid hs2
  clear hs1 hs2 hb
  go_wp2_with fail
  (with_reducible refine (word_c A_q c_q lq.length lq (w8) qv 0 S_q (Lib.hid (rfl : (lq : List UInt32).length = lq.length)) HWQ).mono ?_)
  rintro e ws ⟨rfl, rfl⟩
  go_wp2_with fail
  (with_reducible refine (word_c A_r c_r lr.length lr (w8) rv 0 S_r (Lib.hid (rfl : (lr : List UInt32).length = lr.length)) HWR).mono ?_)
  rintro e ws ⟨rfl, rfl⟩
  clear S_q
  clear S_r
  clear S_x
  clear S_y
  go_wp2_with fail
  (with_reducible refine (wakes_any (w8)).mono ?_)
  rintro e w9 ⟨rfl, hb⟩
  replace HB := Lib.hid (HB.out.trans (Below.mono hb HB.out.size))
  clear hb
  go_wp2_with fail
  go_ret
  exact ⟨rfl, HB.out⟩
set_option maxRecDepth 100000 in
set_option maxHeartbeats 4000000 in
theorem words_011 (m n su nb pr pv qv rv : Nat) (v pe : Int) (bl bg be : Bool) (lx ly ls lz lp lq lr : List UInt32) (w : World) (HM0 : Hid (m < 18446744073709551616)) (HN0 : Hid (n < 18446744073709551616)) (HX : Hid (limbs m = lx)) (HY : Hid (limbs n = ly)) (HWX : Hid (wordM lx = (m, 0))) (HC : Hid (cmpM lx ly = (v, 0))) (HKX : Hid (chk lx = 0)) (HE : Hid (sameB lx ly = be)) (HA : Hid (addM lx ly = (ls, 0))) (hv1 : decide (v < 0) = bl) (hv2 : decide (m < n) = bl) (hg1 : decide (0 < v) = bg) (hg2 : decide (n < m) = bg) (he : ((m : Int) == (n : Int)) = be) (HWS : Hid (wordM ls = (su, 0))) (hsum : (m : Int) + (n : Int) = (su : Int)) (hsu : m ≤ su) (hsd : decide (m ≤ su) = true) (hov : (m : Int) + (n : Int) < 18446744073709551616) (hnb : (n : Int) % 4294967296 = (nb : Int)) (HNB : Hid (nb < 18446744073709551616)) (HZ : Hid (limbs nb = lz)) (HM : Hid (mulM lx lz = (lp, 0))) (HWP : Hid (wordM lp = (pr, 0))) (hsm : (m : Int) < 4294967296) (hpr : (m : Int) * (nb : Int) = (pr : Int)) (hprl : pr < 18446744073709551616) (hz : ((n : Int) == 0) = true) :
    Calls Tryd.prog 10 #[.int .u64 m, .int .u64 n] w fun e w' => e = .returned (.bool true) ∧ Below w.heap.size w w' := by
  have HB := Lib.hid (Below.refl w.heap.size w)
  go_enter Tryd.func10, Tryd.ntmps10
  go_wp2_with fail
  (with_reducible refine (of_c m (w) lx HM0.out HX).mono ?_)
  rintro e w1 ⟨A_x, c_x, rfl, hs, hb⟩
  replace HB := Lib.hid (HB.out.trans (Below.mono hb HB.out.size))
  have S_x := Lib.hid hs
  clear hs hb
  go_wp2_with fail
  (with_reducible refine (of_c n (w1) ly HN0.out HY).mono ?_)
  rintro e w2 ⟨A_y, c_y, rfl, hs, hb⟩
  replace S_x := Lib.hid (S_x.out.to hb)
  replace HB := Lib.hid (HB.out.trans (Below.mono hb HB.out.size))
  have S_y := Lib.hid hs
  clear hs hb
  go_wp2_with fail
  (with_reducible refine (word_c A_x c_x lx.length lx (w2) m 0 S_x (Lib.hid (rfl : (lx : List UInt32).length = lx.length)) HWX).mono ?_)
  rintro e ws ⟨rfl, rfl⟩
  go_wp2_with fail
  (with_reducible refine (cmp_c A_x A_y c_x c_y lx.length ly.length lx ly (w2) v 0 S_x S_y (Lib.hid (rfl : (lx : List UInt32).length = lx.length)) (Lib.hid (rfl : (ly : List UInt32).length = ly.length)) HC).mono ?_)
  rintro e w3 ⟨rfl, hb⟩
  replace S_x := Lib.hid (S_x.out.to hb)
  replace S_y := Lib.hid (S_y.out.to hb)
  replace HB := Lib.hid (HB.out.trans (Below.mono hb HB.out.size))
  clear hb
  go_wp2_with fail
  (with_reducible refine (check_c A_x c_x lx.length lx (w3) 0 S_x (Lib.hid (rfl : (lx : List UInt32).length = lx.length)) HKX).mono ?_)
  rintro e ws ⟨rfl, rfl⟩
  go_wp2_with fail
  (with_reducible refine (same_c A_x A_y c_x c_y lx.length ly.length lx ly (w3) be S_x S_y (Lib.hid (rfl : (lx : List UInt32).length = lx.length)) (Lib.hid (rfl : (ly : List UInt32).length = ly.length)) HE).mono ?_)
  rintro e w4 ⟨rfl, hb⟩
  replace S_x := Lib.hid (S_x.out.to hb)
  replace S_y := Lib.hid (S_y.out.to hb)
  replace HB := Lib.hid (HB.out.trans (Below.mono hb HB.out.size))
  clear hb
  go_wp2_with fail
  (with_reducible refine (add_c A_x A_y c_x c_y lx.length ly.length lx ly (w4) ls 0 S_x S_y (Lib.hid (rfl : (lx : List UInt32).length = lx.length)) (Lib.hid (rfl : (ly : List UInt32).length = ly.length)) HA).mono ?_)
  rintro e w5 ⟨A_s, c_s, rfl, hs, hb⟩
  replace S_x := Lib.hid (S_x.out.to hb)
  replace S_y := Lib.hid (S_y.out.to hb)
  replace HB := Lib.hid (HB.out.trans (Below.mono hb HB.out.size))
  have S_s := Lib.hid hs
  clear hs hb
  go_wp2_with fail
  (with_reducible refine (word_c A_s c_s ls.length ls (w5) su 0 S_s (Lib.hid (rfl : (ls : List UInt32).length = ls.length)) HWS).mono ?_)
  rintro e ws ⟨rfl, rfl⟩
  clear S_s
  go_wp2_with fail
  (with_reducible refine (of_c nb (w5) lz HNB.out HZ).mono ?_)
  rintro e w6 ⟨A_z, c_z, rfl, hs, hb⟩
  replace S_x := Lib.hid (S_x.out.to hb)
  replace S_y := Lib.hid (S_y.out.to hb)
  replace HB := Lib.hid (HB.out.trans (Below.mono hb HB.out.size))
  have S_z := Lib.hid hs
  clear hs hb
  go_wp2_with fail
  (with_reducible refine (mul_c A_x A_z c_x c_z lx.length lz.length lx lz (w6) lp 0 S_x S_z (Lib.hid (rfl : (lx : List UInt32).length = lx.length)) (Lib.hid (rfl : (lz : List UInt32).length = lz.length)) HM).mono ?_)
  rintro e w7 ⟨A_p, c_p, rfl, hs, hb⟩
  replace S_x := Lib.hid (S_x.out.to hb)
  replace S_y := Lib.hid (S_y.out.to hb)
  replace S_z := Lib.hid (S_z.out.to hb)
  replace HB := Lib.hid (HB.out.trans (Below.mono hb HB.out.size))
  have S_p := Lib.hid hs
  clear hs hb
  clear S_z
  go_wp2_with fail
  (with_reducible refine (word_c A_p c_p lp.length lp (w7) pr 0 S_p (Lib.hid (rfl : (lp : List UInt32).length = lp.length)) HWP).mono ?_)
  rintro e ws ⟨rfl, rfl⟩
  clear S_p
  go_wp2_with fail
  (with_reducible refine (wakes_any (w7)).mono ?_)
  rintro e w8 ⟨rfl, hb⟩
  replace S_x := Lib.hid (S_x.out.to hb)
  replace S_y := Lib.hid (S_y.out.to hb)
  replace HB := Lib.hid (HB.out.trans (Below.mono hb HB.out.size))
  clear hb
  go_wp2_with fail
  go_ret
  exact ⟨rfl, HB.out⟩
set_option maxRecDepth 100000 in
set_option maxHeartbeats 4000000 in
theorem words_100 (m n su nb pr pv qv rv : Nat) (v pe : Int) (bl bg be : Bool) (lx ly ls lz lp lq lr : List UInt32) (w : World) (HM0 : Hid (m < 18446744073709551616)) (HN0 : Hid (n < 18446744073709551616)) (HX : Hid (limbs m = lx)) (HY : Hid (limbs n = ly)) (HWX : Hid (wordM lx = (m, 0))) (HC : Hid (cmpM lx ly = (v, 0))) (HKX : Hid (chk lx = 0)) (HE : Hid (sameB lx ly = be)) (HA : Hid (addM lx ly = (ls, 0))) (hv1 : decide (v < 0) = bl) (hv2 : decide (m < n) = bl) (hg1 : decide (0 < v) = bg) (hg2 : decide (n < m) = bg) (he : ((m : Int) == (n : Int)) = be) (HWS : Hid (wordM ls = (0, 30))) (hsum : IntKind.u64.wrap ((m : Int) + (n : Int)) = (su : Int)) (hsu : su < m) (hsd : decide (m ≤ su) = false) (hnb : (n : Int) % 4294967296 = (nb : Int)) (HNB : Hid (nb < 18446744073709551616)) (HZ : Hid (limbs nb = lz)) (HM : Hid (mulM lx lz = (lp, 0))) (HWP : Hid (wordM lp = (pv, pe))) (hsm : decide ((m : Int) < 4294967296) = false) (hz : ((n : Int) == 0) = false) (hn1 : (1 : Int) ≤ (n : Int)) (HD : Hid (divM lx ly = ((lq, lr), 0))) (HWQ : Hid (wordM lq = (qv, 0))) (HWR : Hid (wordM lr = (rv, 0))) (hqv : (m : Int) / (n : Int) = (qv : Int)) (hrv : (m : Int) % (n : Int) = (rv : Int)) (hqvl : (qv : Int) ≤ 18446744073709551615) (hrvl : (rv : Int) ≤ 18446744073709551615) :
    Calls Tryd.prog 10 #[.int .u64 m, .int .u64 n] w fun e w' => e = .returned (.bool true) ∧ Below w.heap.size w w' := by
  have HB := Lib.hid (Below.refl w.heap.size w)
  go_enter Tryd.func10, Tryd.ntmps10
  go_wp2_with fail
  (with_reducible refine (of_c m (w) lx HM0.out HX).mono ?_)
  rintro e w1 ⟨A_x, c_x, rfl, hs, hb⟩
  replace HB := Lib.hid (HB.out.trans (Below.mono hb HB.out.size))
  have S_x := Lib.hid hs
  clear hs hb
  go_wp2_with fail
  (with_reducible refine (of_c n (w1) ly HN0.out HY).mono ?_)
  rintro e w2 ⟨A_y, c_y, rfl, hs, hb⟩
  replace S_x := Lib.hid (S_x.out.to hb)
  replace HB := Lib.hid (HB.out.trans (Below.mono hb HB.out.size))
  have S_y := Lib.hid hs
  clear hs hb
  go_wp2_with fail
  (with_reducible refine (word_c A_x c_x lx.length lx (w2) m 0 S_x (Lib.hid (rfl : (lx : List UInt32).length = lx.length)) HWX).mono ?_)
  rintro e ws ⟨rfl, rfl⟩
  go_wp2_with fail
  (with_reducible refine (cmp_c A_x A_y c_x c_y lx.length ly.length lx ly (w2) v 0 S_x S_y (Lib.hid (rfl : (lx : List UInt32).length = lx.length)) (Lib.hid (rfl : (ly : List UInt32).length = ly.length)) HC).mono ?_)
  rintro e w3 ⟨rfl, hb⟩
  replace S_x := Lib.hid (S_x.out.to hb)
  replace S_y := Lib.hid (S_y.out.to hb)
  replace HB := Lib.hid (HB.out.trans (Below.mono hb HB.out.size))
  clear hb
  go_wp2_with fail
  (with_reducible refine (check_c A_x c_x lx.length lx (w3) 0 S_x (Lib.hid (rfl : (lx : List UInt32).length = lx.length)) HKX).mono ?_)
  rintro e ws ⟨rfl, rfl⟩
  go_wp2_with fail
  (with_reducible refine (same_c A_x A_y c_x c_y lx.length ly.length lx ly (w3) be S_x S_y (Lib.hid (rfl : (lx : List UInt32).length = lx.length)) (Lib.hid (rfl : (ly : List UInt32).length = ly.length)) HE).mono ?_)
  rintro e w4 ⟨rfl, hb⟩
  replace S_x := Lib.hid (S_x.out.to hb)
  replace S_y := Lib.hid (S_y.out.to hb)
  replace HB := Lib.hid (HB.out.trans (Below.mono hb HB.out.size))
  clear hb
  go_wp2_with fail
  (with_reducible refine (add_c A_x A_y c_x c_y lx.length ly.length lx ly (w4) ls 0 S_x S_y (Lib.hid (rfl : (lx : List UInt32).length = lx.length)) (Lib.hid (rfl : (ly : List UInt32).length = ly.length)) HA).mono ?_)
  rintro e w5 ⟨A_s, c_s, rfl, hs, hb⟩
  replace S_x := Lib.hid (S_x.out.to hb)
  replace S_y := Lib.hid (S_y.out.to hb)
  replace HB := Lib.hid (HB.out.trans (Below.mono hb HB.out.size))
  have S_s := Lib.hid hs
  clear hs hb
  go_wp2_with fail
  (with_reducible refine (word_c A_s c_s ls.length ls (w5) 0 30 S_s (Lib.hid (rfl : (ls : List UInt32).length = ls.length)) HWS).mono ?_)
  rintro e ws ⟨rfl, rfl⟩
  clear S_s
  go_wp2_with fail
  (with_reducible refine (of_c nb (w5) lz HNB.out HZ).mono ?_)
  rintro e w6 ⟨A_z, c_z, rfl, hs, hb⟩
  replace S_x := Lib.hid (S_x.out.to hb)
  replace S_y := Lib.hid (S_y.out.to hb)
  replace HB := Lib.hid (HB.out.trans (Below.mono hb HB.out.size))
  have S_z := Lib.hid hs
  clear hs hb
  go_wp2_with fail
  (with_reducible refine (mul_c A_x A_z c_x c_z lx.length lz.length lx lz (w6) lp 0 S_x S_z (Lib.hid (rfl : (lx : List UInt32).length = lx.length)) (Lib.hid (rfl : (lz : List UInt32).length = lz.length)) HM).mono ?_)
  rintro e w7 ⟨A_p, c_p, rfl, hs, hb⟩
  replace S_x := Lib.hid (S_x.out.to hb)
  replace S_y := Lib.hid (S_y.out.to hb)
  replace S_z := Lib.hid (S_z.out.to hb)
  replace HB := Lib.hid (HB.out.trans (Below.mono hb HB.out.size))
  have S_p := Lib.hid hs
  clear hs hb
  clear S_z
  go_wp2_with fail
  (with_reducible refine (word_c A_p c_p lp.length lp (w7) pv pe S_p (Lib.hid (rfl : (lp : List UInt32).length = lp.length)) HWP).mono ?_)
  rintro e ws ⟨rfl, rfl⟩
  clear S_p
  go_wp2_with fail
  (with_reducible refine (div_c A_x A_y c_x c_y lx.length ly.length lx ly (w7) lq lr 0 S_x S_y (Lib.hid (rfl : (lx : List UInt32).length = lx.length)) (Lib.hid (rfl : (ly : List UInt32).length = ly.length)) HD).mono ?_)
  rintro e w8 ⟨A_q, A_r, c_q, c_r, rfl, hs1, hs2, hb⟩
  replace S_x := Lib.hid (S_x.out.to hb)
  replace S_y := Lib.hid (S_y.out.to hb)
  replace HB := Lib.hid (HB.out.trans (Below.mono hb HB.out.size))
  have S_q := Lib.hid hs1
  have S_r := Lib.hid hs2
  clear hs1 hs2 hb
  go_wp2_with fail
  (with_reducible refine (word_c A_q c_q lq.length lq (w8) qv 0 S_q (Lib.hid (rfl : (lq : List UInt32).length = lq.length)) HWQ).mono ?_)
  rintro e ws ⟨rfl, rfl⟩
  go_wp2_with fail
  (with_reducible refine (word_c A_r c_r lr.length lr (w8) rv 0 S_r (Lib.hid (rfl : (lr : List UInt32).length = lr.length)) HWR).mono ?_)
  rintro e ws ⟨rfl, rfl⟩
  clear S_q
  clear S_r
  clear S_x
  clear S_y
  go_wp2_with fail
  (with_reducible refine (wakes_any (w8)).mono ?_)
  rintro e w9 ⟨rfl, hb⟩
  replace HB := Lib.hid (HB.out.trans (Below.mono hb HB.out.size))
  clear hb
  go_wp2_with fail
  go_ret
  exact ⟨rfl, HB.out⟩
set_option maxRecDepth 100000 in
set_option maxHeartbeats 4000000 in
theorem words_101 (m n su nb pr pv qv rv : Nat) (v pe : Int) (bl bg be : Bool) (lx ly ls lz lp lq lr : List UInt32) (w : World) (HM0 : Hid (m < 18446744073709551616)) (HN0 : Hid (n < 18446744073709551616)) (HX : Hid (limbs m = lx)) (HY : Hid (limbs n = ly)) (HWX : Hid (wordM lx = (m, 0))) (HC : Hid (cmpM lx ly = (v, 0))) (HKX : Hid (chk lx = 0)) (HE : Hid (sameB lx ly = be)) (HA : Hid (addM lx ly = (ls, 0))) (hv1 : decide (v < 0) = bl) (hv2 : decide (m < n) = bl) (hg1 : decide (0 < v) = bg) (hg2 : decide (n < m) = bg) (he : ((m : Int) == (n : Int)) = be) (HWS : Hid (wordM ls = (0, 30))) (hsum : IntKind.u64.wrap ((m : Int) + (n : Int)) = (su : Int)) (hsu : su < m) (hsd : decide (m ≤ su) = false) (hnb : (n : Int) % 4294967296 = (nb : Int)) (HNB : Hid (nb < 18446744073709551616)) (HZ : Hid (limbs nb = lz)) (HM : Hid (mulM lx lz = (lp, 0))) (HWP : Hid (wordM lp = (pv, pe))) (hsm : decide ((m : Int) < 4294967296) = false) (hz : ((n : Int) == 0) = true) :
    Calls Tryd.prog 10 #[.int .u64 m, .int .u64 n] w fun e w' => e = .returned (.bool true) ∧ Below w.heap.size w w' := by
  have HB := Lib.hid (Below.refl w.heap.size w)
  go_enter Tryd.func10, Tryd.ntmps10
  go_wp2_with fail
  (with_reducible refine (of_c m (w) lx HM0.out HX).mono ?_)
  rintro e w1 ⟨A_x, c_x, rfl, hs, hb⟩
  replace HB := Lib.hid (HB.out.trans (Below.mono hb HB.out.size))
  have S_x := Lib.hid hs
  clear hs hb
  go_wp2_with fail
  (with_reducible refine (of_c n (w1) ly HN0.out HY).mono ?_)
  rintro e w2 ⟨A_y, c_y, rfl, hs, hb⟩
  replace S_x := Lib.hid (S_x.out.to hb)
  replace HB := Lib.hid (HB.out.trans (Below.mono hb HB.out.size))
  have S_y := Lib.hid hs
  clear hs hb
  go_wp2_with fail
  (with_reducible refine (word_c A_x c_x lx.length lx (w2) m 0 S_x (Lib.hid (rfl : (lx : List UInt32).length = lx.length)) HWX).mono ?_)
  rintro e ws ⟨rfl, rfl⟩
  go_wp2_with fail
  (with_reducible refine (cmp_c A_x A_y c_x c_y lx.length ly.length lx ly (w2) v 0 S_x S_y (Lib.hid (rfl : (lx : List UInt32).length = lx.length)) (Lib.hid (rfl : (ly : List UInt32).length = ly.length)) HC).mono ?_)
  rintro e w3 ⟨rfl, hb⟩
  replace S_x := Lib.hid (S_x.out.to hb)
  replace S_y := Lib.hid (S_y.out.to hb)
  replace HB := Lib.hid (HB.out.trans (Below.mono hb HB.out.size))
  clear hb
  go_wp2_with fail
  (with_reducible refine (check_c A_x c_x lx.length lx (w3) 0 S_x (Lib.hid (rfl : (lx : List UInt32).length = lx.length)) HKX).mono ?_)
  rintro e ws ⟨rfl, rfl⟩
  go_wp2_with fail
  (with_reducible refine (same_c A_x A_y c_x c_y lx.length ly.length lx ly (w3) be S_x S_y (Lib.hid (rfl : (lx : List UInt32).length = lx.length)) (Lib.hid (rfl : (ly : List UInt32).length = ly.length)) HE).mono ?_)
  rintro e w4 ⟨rfl, hb⟩
  replace S_x := Lib.hid (S_x.out.to hb)
  replace S_y := Lib.hid (S_y.out.to hb)
  replace HB := Lib.hid (HB.out.trans (Below.mono hb HB.out.size))
  clear hb
  go_wp2_with fail
  (with_reducible refine (add_c A_x A_y c_x c_y lx.length ly.length lx ly (w4) ls 0 S_x S_y (Lib.hid (rfl : (lx : List UInt32).length = lx.length)) (Lib.hid (rfl : (ly : List UInt32).length = ly.length)) HA).mono ?_)
  rintro e w5 ⟨A_s, c_s, rfl, hs, hb⟩
  replace S_x := Lib.hid (S_x.out.to hb)
  replace S_y := Lib.hid (S_y.out.to hb)
  replace HB := Lib.hid (HB.out.trans (Below.mono hb HB.out.size))
  have S_s := Lib.hid hs
  clear hs hb
  go_wp2_with fail
  (with_reducible refine (word_c A_s c_s ls.length ls (w5) 0 30 S_s (Lib.hid (rfl : (ls : List UInt32).length = ls.length)) HWS).mono ?_)
  rintro e ws ⟨rfl, rfl⟩
  clear S_s
  go_wp2_with fail
  (with_reducible refine (of_c nb (w5) lz HNB.out HZ).mono ?_)
  rintro e w6 ⟨A_z, c_z, rfl, hs, hb⟩
  replace S_x := Lib.hid (S_x.out.to hb)
  replace S_y := Lib.hid (S_y.out.to hb)
  replace HB := Lib.hid (HB.out.trans (Below.mono hb HB.out.size))
  have S_z := Lib.hid hs
  clear hs hb
  go_wp2_with fail
  (with_reducible refine (mul_c A_x A_z c_x c_z lx.length lz.length lx lz (w6) lp 0 S_x S_z (Lib.hid (rfl : (lx : List UInt32).length = lx.length)) (Lib.hid (rfl : (lz : List UInt32).length = lz.length)) HM).mono ?_)
  rintro e w7 ⟨A_p, c_p, rfl, hs, hb⟩
  replace S_x := Lib.hid (S_x.out.to hb)
  replace S_y := Lib.hid (S_y.out.to hb)
  replace S_z := Lib.hid (S_z.out.to hb)
  replace HB := Lib.hid (HB.out.trans (Below.mono hb HB.out.size))
  have S_p := Lib.hid hs
  clear hs hb
  clear S_z
  go_wp2_with fail
  (with_reducible refine (word_c A_p c_p lp.length lp (w7) pv pe S_p (Lib.hid (rfl : (lp : List UInt32).length = lp.length)) HWP).mono ?_)
  rintro e ws ⟨rfl, rfl⟩
  clear S_p
  go_wp2_with fail
  (with_reducible refine (wakes_any (w7)).mono ?_)
  rintro e w8 ⟨rfl, hb⟩
  replace S_x := Lib.hid (S_x.out.to hb)
  replace S_y := Lib.hid (S_y.out.to hb)
  replace HB := Lib.hid (HB.out.trans (Below.mono hb HB.out.size))
  clear hb
  go_wp2_with fail
  go_ret
  exact ⟨rfl, HB.out⟩
set_option maxRecDepth 100000 in
set_option maxHeartbeats 4000000 in
theorem words_110 (m n su nb pr pv qv rv : Nat) (v pe : Int) (bl bg be : Bool) (lx ly ls lz lp lq lr : List UInt32) (w : World) (HM0 : Hid (m < 18446744073709551616)) (HN0 : Hid (n < 18446744073709551616)) (HX : Hid (limbs m = lx)) (HY : Hid (limbs n = ly)) (HWX : Hid (wordM lx = (m, 0))) (HC : Hid (cmpM lx ly = (v, 0))) (HKX : Hid (chk lx = 0)) (HE : Hid (sameB lx ly = be)) (HA : Hid (addM lx ly = (ls, 0))) (hv1 : decide (v < 0) = bl) (hv2 : decide (m < n) = bl) (hg1 : decide (0 < v) = bg) (hg2 : decide (n < m) = bg) (he : ((m : Int) == (n : Int)) = be) (HWS : Hid (wordM ls = (0, 30))) (hsum : IntKind.u64.wrap ((m : Int) + (n : Int)) = (su : Int)) (hsu : su < m) (hsd : decide (m ≤ su) = false) (hnb : (n : Int) % 4294967296 = (nb : Int)) (HNB : Hid (nb < 18446744073709551616)) (HZ : Hid (limbs nb = lz)) (HM : Hid (mulM lx lz = (lp, 0))) (HWP : Hid (wordM lp = (pr, 0))) (hsm : (m : Int) < 4294967296) (hpr : (m : Int) * (nb : Int) = (pr : Int)) (hprl : pr < 18446744073709551616) (hz : ((n : Int) == 0) = false) (hn1 : (1 : Int) ≤ (n : Int)) (HD : Hid (divM lx ly = ((lq, lr), 0))) (HWQ : Hid (wordM lq = (qv, 0))) (HWR : Hid (wordM lr = (rv, 0))) (hqv : (m : Int) / (n : Int) = (qv : Int)) (hrv : (m : Int) % (n : Int) = (rv : Int)) (hqvl : (qv : Int) ≤ 18446744073709551615) (hrvl : (rv : Int) ≤ 18446744073709551615) :
    Calls Tryd.prog 10 #[.int .u64 m, .int .u64 n] w fun e w' => e = .returned (.bool true) ∧ Below w.heap.size w w' := by
  have HB := Lib.hid (Below.refl w.heap.size w)
  go_enter Tryd.func10, Tryd.ntmps10
  go_wp2_with fail
  (with_reducible refine (of_c m (w) lx HM0.out HX).mono ?_)
  rintro e w1 ⟨A_x, c_x, rfl, hs, hb⟩
  replace HB := Lib.hid (HB.out.trans (Below.mono hb HB.out.size))
  have S_x := Lib.hid hs
  clear hs hb
  go_wp2_with fail
  (with_reducible refine (of_c n (w1) ly HN0.out HY).mono ?_)
  rintro e w2 ⟨A_y, c_y, rfl, hs, hb⟩
  replace S_x := Lib.hid (S_x.out.to hb)
  replace HB := Lib.hid (HB.out.trans (Below.mono hb HB.out.size))
  have S_y := Lib.hid hs
  clear hs hb
  go_wp2_with fail
  (with_reducible refine (word_c A_x c_x lx.length lx (w2) m 0 S_x (Lib.hid (rfl : (lx : List UInt32).length = lx.length)) HWX).mono ?_)
  rintro e ws ⟨rfl, rfl⟩
  go_wp2_with fail
  (with_reducible refine (cmp_c A_x A_y c_x c_y lx.length ly.length lx ly (w2) v 0 S_x S_y (Lib.hid (rfl : (lx : List UInt32).length = lx.length)) (Lib.hid (rfl : (ly : List UInt32).length = ly.length)) HC).mono ?_)
  rintro e w3 ⟨rfl, hb⟩
  replace S_x := Lib.hid (S_x.out.to hb)
  replace S_y := Lib.hid (S_y.out.to hb)
  replace HB := Lib.hid (HB.out.trans (Below.mono hb HB.out.size))
  clear hb
  go_wp2_with fail
  (with_reducible refine (check_c A_x c_x lx.length lx (w3) 0 S_x (Lib.hid (rfl : (lx : List UInt32).length = lx.length)) HKX).mono ?_)
  rintro e ws ⟨rfl, rfl⟩
  go_wp2_with fail
  (with_reducible refine (same_c A_x A_y c_x c_y lx.length ly.length lx ly (w3) be S_x S_y (Lib.hid (rfl : (lx : List UInt32).length = lx.length)) (Lib.hid (rfl : (ly : List UInt32).length = ly.length)) HE).mono ?_)
  rintro e w4 ⟨rfl, hb⟩
  replace S_x := Lib.hid (S_x.out.to hb)
  replace S_y := Lib.hid (S_y.out.to hb)
  replace HB := Lib.hid (HB.out.trans (Below.mono hb HB.out.size))
  clear hb
  go_wp2_with fail
  (with_reducible refine (add_c A_x A_y c_x c_y lx.length ly.length lx ly (w4) ls 0 S_x S_y (Lib.hid (rfl : (lx : List UInt32).length = lx.length)) (Lib.hid (rfl : (ly : List UInt32).length = ly.length)) HA).mono ?_)
  rintro e w5 ⟨A_s, c_s, rfl, hs, hb⟩
  replace S_x := Lib.hid (S_x.out.to hb)
  replace S_y := Lib.hid (S_y.out.to hb)
  replace HB := Lib.hid (HB.out.trans (Below.mono hb HB.out.size))
  have S_s := Lib.hid hs
  clear hs hb
  go_wp2_with fail
  (with_reducible refine (word_c A_s c_s ls.length ls (w5) 0 30 S_s (Lib.hid (rfl : (ls : List UInt32).length = ls.length)) HWS).mono ?_)
  rintro e ws ⟨rfl, rfl⟩
  clear S_s
  go_wp2_with fail
  (with_reducible refine (of_c nb (w5) lz HNB.out HZ).mono ?_)
  rintro e w6 ⟨A_z, c_z, rfl, hs, hb⟩
  replace S_x := Lib.hid (S_x.out.to hb)
  replace S_y := Lib.hid (S_y.out.to hb)
  replace HB := Lib.hid (HB.out.trans (Below.mono hb HB.out.size))
  have S_z := Lib.hid hs
  clear hs hb
  go_wp2_with fail
  (with_reducible refine (mul_c A_x A_z c_x c_z lx.length lz.length lx lz (w6) lp 0 S_x S_z (Lib.hid (rfl : (lx : List UInt32).length = lx.length)) (Lib.hid (rfl : (lz : List UInt32).length = lz.length)) HM).mono ?_)
  rintro e w7 ⟨A_p, c_p, rfl, hs, hb⟩
  replace S_x := Lib.hid (S_x.out.to hb)
  replace S_y := Lib.hid (S_y.out.to hb)
  replace S_z := Lib.hid (S_z.out.to hb)
  replace HB := Lib.hid (HB.out.trans (Below.mono hb HB.out.size))
  have S_p := Lib.hid hs
  clear hs hb
  clear S_z
  go_wp2_with fail
  (with_reducible refine (word_c A_p c_p lp.length lp (w7) pr 0 S_p (Lib.hid (rfl : (lp : List UInt32).length = lp.length)) HWP).mono ?_)
  rintro e ws ⟨rfl, rfl⟩
  clear S_p
  go_wp2_with fail
  (with_reducible refine (div_c A_x A_y c_x c_y lx.length ly.length lx ly (w7) lq lr 0 S_x S_y (Lib.hid (rfl : (lx : List UInt32).length = lx.length)) (Lib.hid (rfl : (ly : List UInt32).length = ly.length)) HD).mono ?_)
  rintro e w8 ⟨A_q, A_r, c_q, c_r, rfl, hs1, hs2, hb⟩
  replace S_x := Lib.hid (S_x.out.to hb)
  replace S_y := Lib.hid (S_y.out.to hb)
  replace HB := Lib.hid (HB.out.trans (Below.mono hb HB.out.size))
  have S_q := Lib.hid hs1
  have S_r := Lib.hid hs2
  clear hs1 hs2 hb
  go_wp2_with fail
  (with_reducible refine (word_c A_q c_q lq.length lq (w8) qv 0 S_q (Lib.hid (rfl : (lq : List UInt32).length = lq.length)) HWQ).mono ?_)
  rintro e ws ⟨rfl, rfl⟩
  go_wp2_with fail
  (with_reducible refine (word_c A_r c_r lr.length lr (w8) rv 0 S_r (Lib.hid (rfl : (lr : List UInt32).length = lr.length)) HWR).mono ?_)
  rintro e ws ⟨rfl, rfl⟩
  clear S_q
  clear S_r
  clear S_x
  clear S_y
  go_wp2_with fail
  (with_reducible refine (wakes_any (w8)).mono ?_)
  rintro e w9 ⟨rfl, hb⟩
  replace HB := Lib.hid (HB.out.trans (Below.mono hb HB.out.size))
  clear hb
  go_wp2_with fail
  go_ret
  exact ⟨rfl, HB.out⟩
set_option maxRecDepth 100000 in
set_option maxHeartbeats 4000000 in
theorem words_111 (m n su nb pr pv qv rv : Nat) (v pe : Int) (bl bg be : Bool) (lx ly ls lz lp lq lr : List UInt32) (w : World) (HM0 : Hid (m < 18446744073709551616)) (HN0 : Hid (n < 18446744073709551616)) (HX : Hid (limbs m = lx)) (HY : Hid (limbs n = ly)) (HWX : Hid (wordM lx = (m, 0))) (HC : Hid (cmpM lx ly = (v, 0))) (HKX : Hid (chk lx = 0)) (HE : Hid (sameB lx ly = be)) (HA : Hid (addM lx ly = (ls, 0))) (hv1 : decide (v < 0) = bl) (hv2 : decide (m < n) = bl) (hg1 : decide (0 < v) = bg) (hg2 : decide (n < m) = bg) (he : ((m : Int) == (n : Int)) = be) (HWS : Hid (wordM ls = (0, 30))) (hsum : IntKind.u64.wrap ((m : Int) + (n : Int)) = (su : Int)) (hsu : su < m) (hsd : decide (m ≤ su) = false) (hnb : (n : Int) % 4294967296 = (nb : Int)) (HNB : Hid (nb < 18446744073709551616)) (HZ : Hid (limbs nb = lz)) (HM : Hid (mulM lx lz = (lp, 0))) (HWP : Hid (wordM lp = (pr, 0))) (hsm : (m : Int) < 4294967296) (hpr : (m : Int) * (nb : Int) = (pr : Int)) (hprl : pr < 18446744073709551616) (hz : ((n : Int) == 0) = true) :
    Calls Tryd.prog 10 #[.int .u64 m, .int .u64 n] w fun e w' => e = .returned (.bool true) ∧ Below w.heap.size w w' := by
  have HB := Lib.hid (Below.refl w.heap.size w)
  go_enter Tryd.func10, Tryd.ntmps10
  go_wp2_with fail
  (with_reducible refine (of_c m (w) lx HM0.out HX).mono ?_)
  rintro e w1 ⟨A_x, c_x, rfl, hs, hb⟩
  replace HB := Lib.hid (HB.out.trans (Below.mono hb HB.out.size))
  have S_x := Lib.hid hs
  clear hs hb
  go_wp2_with fail
  (with_reducible refine (of_c n (w1) ly HN0.out HY).mono ?_)
  rintro e w2 ⟨A_y, c_y, rfl, hs, hb⟩
  replace S_x := Lib.hid (S_x.out.to hb)
  replace HB := Lib.hid (HB.out.trans (Below.mono hb HB.out.size))
  have S_y := Lib.hid hs
  clear hs hb
  go_wp2_with fail
  (with_reducible refine (word_c A_x c_x lx.length lx (w2) m 0 S_x (Lib.hid (rfl : (lx : List UInt32).length = lx.length)) HWX).mono ?_)
  rintro e ws ⟨rfl, rfl⟩
  go_wp2_with fail
  (with_reducible refine (cmp_c A_x A_y c_x c_y lx.length ly.length lx ly (w2) v 0 S_x S_y (Lib.hid (rfl : (lx : List UInt32).length = lx.length)) (Lib.hid (rfl : (ly : List UInt32).length = ly.length)) HC).mono ?_)
  rintro e w3 ⟨rfl, hb⟩
  replace S_x := Lib.hid (S_x.out.to hb)
  replace S_y := Lib.hid (S_y.out.to hb)
  replace HB := Lib.hid (HB.out.trans (Below.mono hb HB.out.size))
  clear hb
  go_wp2_with fail
  (with_reducible refine (check_c A_x c_x lx.length lx (w3) 0 S_x (Lib.hid (rfl : (lx : List UInt32).length = lx.length)) HKX).mono ?_)
  rintro e ws ⟨rfl, rfl⟩
  go_wp2_with fail
  (with_reducible refine (same_c A_x A_y c_x c_y lx.length ly.length lx ly (w3) be S_x S_y (Lib.hid (rfl : (lx : List UInt32).length = lx.length)) (Lib.hid (rfl : (ly : List UInt32).length = ly.length)) HE).mono ?_)
  rintro e w4 ⟨rfl, hb⟩
  replace S_x := Lib.hid (S_x.out.to hb)
  replace S_y := Lib.hid (S_y.out.to hb)
  replace HB := Lib.hid (HB.out.trans (Below.mono hb HB.out.size))
  clear hb
  go_wp2_with fail
  (with_reducible refine (add_c A_x A_y c_x c_y lx.length ly.length lx ly (w4) ls 0 S_x S_y (Lib.hid (rfl : (lx : List UInt32).length = lx.length)) (Lib.hid (rfl : (ly : List UInt32).length = ly.length)) HA).mono ?_)
  rintro e w5 ⟨A_s, c_s, rfl, hs, hb⟩
  replace S_x := Lib.hid (S_x.out.to hb)
  replace S_y := Lib.hid (S_y.out.to hb)
  replace HB := Lib.hid (HB.out.trans (Below.mono hb HB.out.size))
  have S_s := Lib.hid hs
  clear hs hb
  go_wp2_with fail
  (with_reducible refine (word_c A_s c_s ls.length ls (w5) 0 30 S_s (Lib.hid (rfl : (ls : List UInt32).length = ls.length)) HWS).mono ?_)
  rintro e ws ⟨rfl, rfl⟩
  clear S_s
  go_wp2_with fail
  (with_reducible refine (of_c nb (w5) lz HNB.out HZ).mono ?_)
  rintro e w6 ⟨A_z, c_z, rfl, hs, hb⟩
  replace S_x := Lib.hid (S_x.out.to hb)
  replace S_y := Lib.hid (S_y.out.to hb)
  replace HB := Lib.hid (HB.out.trans (Below.mono hb HB.out.size))
  have S_z := Lib.hid hs
  clear hs hb
  go_wp2_with fail
  (with_reducible refine (mul_c A_x A_z c_x c_z lx.length lz.length lx lz (w6) lp 0 S_x S_z (Lib.hid (rfl : (lx : List UInt32).length = lx.length)) (Lib.hid (rfl : (lz : List UInt32).length = lz.length)) HM).mono ?_)
  rintro e w7 ⟨A_p, c_p, rfl, hs, hb⟩
  replace S_x := Lib.hid (S_x.out.to hb)
  replace S_y := Lib.hid (S_y.out.to hb)
  replace S_z := Lib.hid (S_z.out.to hb)
  replace HB := Lib.hid (HB.out.trans (Below.mono hb HB.out.size))
  have S_p := Lib.hid hs
  clear hs hb
  clear S_z
  go_wp2_with fail
  (with_reducible refine (word_c A_p c_p lp.length lp (w7) pr 0 S_p (Lib.hid (rfl : (lp : List UInt32).length = lp.length)) HWP).mono ?_)
  rintro e ws ⟨rfl, rfl⟩
  clear S_p
  go_wp2_with fail
  (with_reducible refine (wakes_any (w7)).mono ?_)
  rintro e w8 ⟨rfl, hb⟩
  replace S_x := Lib.hid (S_x.out.to hb)
  replace S_y := Lib.hid (S_y.out.to hb)
  replace HB := Lib.hid (HB.out.trans (Below.mono hb HB.out.size))
  clear hb
  go_wp2_with fail
  go_ret
  exact ⟨rfl, HB.out⟩
theorem len2 {k : Nat} (h : k < 18446744073709551616) : (limbs k).length ≤ 2 := limbs_len_le.2 (by rw [show bp 2 = 18446744073709551616 by decide]; exact h)
theorem wordL {k : Nat} (h : k < 18446744073709551616) : wordM (limbs k) = (k, 0) := by
  have h2 := len2 h
  rw [wordM_ok (chk_limbs (by omega)) h2, val_limbs]
theorem wordG {k : Nat} (h : ¬ k < 18446744073709551616) (h2 : (limbs k).length ≤ 96) : wordM (limbs k) = (0, 30) := by
  refine wordM_great (chk_limbs h2) (fun e => h ?_)
  have := limbs_len_le.1 e
  rwa [show bp 2 = 18446744073709551616 by decide] at this
theorem natWords_any (m n : Nat) (w : World) (hm : m < 18446744073709551616) (hn : n < 18446744073709551616) :
    Calls Tryd.prog 10 #[.int .u64 m, .int .u64 n] w fun e w' => e = .returned (.bool true) ∧ Below w.heap.size w w' := by
  have l1 := len2 hm
  have l2 := len2 hn
  have ls : (limbs (m + n)).length ≤ 3 := len_add l1 l2
  obtain ⟨nb, hnb⟩ : ∃ nb, nb = n % 4294967296 := ⟨_, rfl⟩
  have hnb2 : nb < 4294967296 := by omega
  have hnbl : nb < 18446744073709551616 := by omega
  have hnbi : (n : Int) % 4294967296 = (nb : Int) := by omega
  have l3 := len2 hnbl
  have l4 : (limbs (m * nb)).length ≤ 4 := len_mul l1 l3
  have HWX := wordL hm
  have HC := cmpL (v := cmpI m n) (by omega : (limbs m).length ≤ 96) (by omega : (limbs n).length ≤ 96) rfl
  have HKX := chk_limbs (n := m) (by omega)
  have HA := addL (by omega : (limbs m).length ≤ 96) (by omega : (limbs n).length ≤ 96) rfl (by omega : (limbs (m + n)).length ≤ 96)
  have HM := mulL (by omega : (limbs m).length ≤ 96) (by omega : (limbs nb).length ≤ 96) rfl (by omega : (limbs (m * nb)).length ≤ 96)
  have hv1 : decide (cmpI m n < 0) = decide (m < n) := by
    unfold cmpI
    by_cases h : m < n
    · rw [if_pos h]; simp [h]
    · rw [if_neg h]
      split <;> simp <;> omega
  have hg1 : decide (0 < cmpI m n) = decide (n < m) := by
    unfold cmpI
    by_cases h : m < n
    · rw [if_pos h]; simp; omega
    · rw [if_neg h]
      by_cases h2 : m = n
      · rw [if_pos h2]; simp; omega
      · rw [if_neg h2]; simp; omega
  have he : ((m : Int) == (n : Int)) = sameB (limbs m) (limbs n) := by
    by_cases h : m = n
    · subst h; rw [sameB_refl]; simp
    · rw [sameB_no (fun e => h (limbs_inj e)), beq_eq_false_iff_ne]; omega
  have hz1 : n = 0 → ((n : Int) == 0) = true := fun e => by rw [e]; rfl
  have hz0 : n ≠ 0 → ((n : Int) == 0) = false := fun e => by rw [beq_eq_false_iff_ne]; omega
  have hq := fun (h : n ≠ 0) => divL (by omega : (limbs m).length ≤ 96) (by omega : (limbs n).length ≤ 96) h (rfl : m / n = m / n) (rfl : m % n = m % n)
  have hql : m / n < 18446744073709551616 := Nat.lt_of_le_of_lt (Nat.div_le_self m n) hm
  have hrl : m % n < 18446744073709551616 := Nat.lt_of_le_of_lt (Nat.mod_le m n) hm
  have hqi : (m : Int) / (n : Int) = ((m / n : Nat) : Int) := by simp
  have hri : (m : Int) % (n : Int) = ((m % n : Nat) : Int) := by simp
  have hqx : ((m / n : Nat) : Int) ≤ 18446744073709551615 := by generalize m / n = q at hql; omega
  have hrx : ((m % n : Nat) : Int) ≤ 18446744073709551615 := by generalize m % n = q at hrl; omega
  by_cases hov : m + n < 18446744073709551616
  · have HWS := wordL hov
    have hsi : (m : Int) + (n : Int) = ((m + n : Nat) : Int) := by simp
    have hsd : decide (m ≤ m + n) = true := by simp
    by_cases hsm : m < 4294967296
    · have hmul : m * nb < 18446744073709551616 := Nat.lt_of_le_of_lt (mul_le_max hsm hnb2) (by decide)
      have hpi : (m : Int) * (nb : Int) = ((m * nb : Nat) : Int) := by simp
      by_cases h0 : n = 0
      · exact words_011 m n (m + n) nb (m * nb) 0 0 0 (cmpI m n) 0 _ _ _ _ _ _ _ _ [] [] w hm hn rfl rfl HWX HC HKX rfl HA hv1 rfl hg1 rfl he HWS hsi (by omega) hsd (by omega) hnbi hnbl rfl HM (wordL hmul) (by omega) hpi hmul (hz1 h0)
      · exact words_010 m n (m + n) nb (m * nb) 0 (m / n) (m % n) (cmpI m n) 0 _ _ _ _ _ _ _ _ _ _ w hm hn rfl rfl HWX HC HKX rfl HA hv1 rfl hg1 rfl he HWS hsi (by omega) hsd (by omega) hnbi hnbl rfl HM (wordL hmul) (by omega) hpi hmul (hz0 h0) (by omega) (hq h0) (wordL hql) (wordL hrl) hqi hri hqx hrx
    · have hsmd : decide ((m : Int) < 4294967296) = false := by simp; omega
      by_cases h0 : n = 0
      · exact words_001 m n (m + n) nb 0 (wordM (limbs (m * nb))).1 0 0 (cmpI m n) (wordM (limbs (m * nb))).2 _ _ _ _ _ _ _ _ [] [] w hm hn rfl rfl HWX HC HKX rfl HA hv1 rfl hg1 rfl he HWS hsi (by omega) hsd (by omega) hnbi hnbl rfl HM rfl hsmd (hz1 h0)
      · exact words_000 m n (m + n) nb 0 (wordM (limbs (m * nb))).1 (m / n) (m % n) (cmpI m n) (wordM (limbs (m * nb))).2 _ _ _ _ _ _ _ _ _ _ w hm hn rfl rfl HWX HC HKX rfl HA hv1 rfl hg1 rfl he HWS hsi (by omega) hsd (by omega) hnbi hnbl rfl HM rfl hsmd (hz0 h0) (by omega) (hq h0) (wordL hql) (wordL hrl) hqi hri hqx hrx
  · have HWS := wordG hov (by omega)
    obtain ⟨su, hsu⟩ : ∃ su, su = m + n - 18446744073709551616 := ⟨_, rfl⟩
    have hsi : IntKind.u64.wrap ((m : Int) + (n : Int)) = (su : Int) := by rw [IntKind.wrap_u64]; omega
    have hsl : su < m := by omega
    have hsd : decide (m ≤ su) = false := by simp; omega
    by_cases hsm : m < 4294967296
    · have hmul : m * nb < 18446744073709551616 := Nat.lt_of_le_of_lt (mul_le_max hsm hnb2) (by decide)
      have hpi : (m : Int) * (nb : Int) = ((m * nb : Nat) : Int) := by simp
      by_cases h0 : n = 0
      · exact words_111 m n su nb (m * nb) 0 0 0 (cmpI m n) 0 _ _ _ _ _ _ _ _ [] [] w hm hn rfl rfl HWX HC HKX rfl HA hv1 rfl hg1 rfl he HWS hsi hsl hsd hnbi hnbl rfl HM (wordL hmul) (by omega) hpi hmul (hz1 h0)
      · exact words_110 m n su nb (m * nb) 0 (m / n) (m % n) (cmpI m n) 0 _ _ _ _ _ _ _ _ _ _ w hm hn rfl rfl HWX HC HKX rfl HA hv1 rfl hg1 rfl he HWS hsi hsl hsd hnbi hnbl rfl HM (wordL hmul) (by omega) hpi hmul (hz0 h0) (by omega) (hq h0) (wordL hql) (wordL hrl) hqi hri hqx hrx
    · have hsmd : decide ((m : Int) < 4294967296) = false := by simp; omega
      by_cases h0 : n = 0
      · exact words_101 m n su nb 0 (wordM (limbs (m * nb))).1 0 0 (cmpI m n) (wordM (limbs (m * nb))).2 _ _ _ _ _ _ _ _ [] [] w hm hn rfl rfl HWX HC HKX rfl HA hv1 rfl hg1 rfl he HWS hsi hsl hsd hnbi hnbl rfl HM rfl hsmd (hz1 h0)
      · exact words_100 m n su nb 0 (wordM (limbs (m * nb))).1 (m / n) (m % n) (cmpI m n) (wordM (limbs (m * nb))).2 _ _ _ _ _ _ _ _ _ _ w hm hn rfl rfl HWX HC HKX rfl HA hv1 rfl hg1 rfl he HWS hsi hsl hsd hnbi hnbl rfl HM rfl hsmd (hz0 h0) (by omega) (hq h0) (wordL hql) (wordL hrl) hqi hri hqx hrx
end Go.Proofs.YtffbmkobholmhaaDoor
