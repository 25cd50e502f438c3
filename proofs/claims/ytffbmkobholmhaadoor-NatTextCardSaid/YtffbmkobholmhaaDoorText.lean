/- The walk of NatText. -/
import Derived.Test.YtffbmkobholmhaaDoorRow
namespace Go.Proofs.YtffbmkobholmhaaDoor
open Go.RowKit
set_option linter.unusedVariables false

set_option maxRecDepth 100000 in
set_option maxHeartbeats 4000000 in
theorem text_bad (a0 : Option Addr) (c0 : Nat) (x0 : List UInt32) (x1 : List UInt8) (w : World) (ha : Sl w a0 c0 x0) (HR : Hid (rightB 96 [x0] = false)) :
    Calls Tryd.prog 9 #[.slice a0 x0.length c0, .string ⟨x1.toArray⟩] w fun e w' => e = .returned (.bool true) ∧ Below w.heap.size w w' := by
  have HB := Lib.hid (Below.refl w.heap.size w)
  have S_a := Lib.hid (show Sl w a0 c0 x0 from ha)
  clear ha
  go_enter Tryd.func9, Tryd.ntmps9
  go_wp2_with fail
  have HRV : Hid (rightB 96 (List.map (fun x => El.l x) ([⟨a0, c0, x0⟩] : List El)) = false) := HR
  have HRC : Hid ((List.map El.v ([⟨a0, c0, x0⟩] : List El)).toArray = #[Value.slice a0 x0.length c0]) := Lib.hid rfl
  have HRN : Hid (([⟨a0, c0, x0⟩] : List El).length = 1) := Lib.hid rfl
  (with_reducible refine (right_c 96 96 (by decide) [⟨a0, c0, x0⟩] #[Value.slice a0 x0.length c0] 1 false (w) HRC (els1 S_a.out) HRN (by decide) (by decide) HRV).mono ?_)
  clear HRV HRC HRN
  rintro e ws ⟨rfl, rfl⟩
  have hbl := below_new (w) (.cells #[Value.slice a0 x0.length c0] 22)
  replace S_a := Lib.hid (S_a.out.to hbl)
  replace HB := Lib.hid (HB.out.trans (Below.mono hbl HB.out.size))
  clear hbl
  go_wp2_with fail
  (with_reducible refine (wakes_any ((w).alloc (.cells #[Value.slice a0 x0.length c0] 22))).mono ?_)
  rintro e w1 ⟨rfl, hb⟩
  replace S_a := Lib.hid (S_a.out.to hb)
  replace HB := Lib.hid (HB.out.trans (Below.mono hb HB.out.size))
  clear hb
  go_wp2_with fail
  go_ret
  exact ⟨rfl, HB.out⟩
set_option maxRecDepth 100000 in
set_option maxHeartbeats 4000000 in
theorem text_long (a0 : Option Addr) (c0 : Nat) (x0 : List UInt32) (x1 : List UInt8) (w : World) (ha : Sl w a0 c0 x0) (HR : Hid (rightB 96 [x0] = true)) (hl : (2000 : Int) < (x1.length : Int)) :
    Calls Tryd.prog 9 #[.slice a0 x0.length c0, .string ⟨x1.toArray⟩] w fun e w' => e = .returned (.bool true) ∧ Below w.heap.size w w' := by
  have HB := Lib.hid (Below.refl w.heap.size w)
  have S_a := Lib.hid (show Sl w a0 c0 x0 from ha)
  clear ha
  go_enter Tryd.func9, Tryd.ntmps9
  go_wp2_with fail
  have HRV : Hid (rightB 96 (List.map (fun x => El.l x) ([⟨a0, c0, x0⟩] : List El)) = true) := HR
  have HRC : Hid ((List.map El.v ([⟨a0, c0, x0⟩] : List El)).toArray = #[Value.slice a0 x0.length c0]) := Lib.hid rfl
  have HRN : Hid (([⟨a0, c0, x0⟩] : List El).length = 1) := Lib.hid rfl
  (with_reducible refine (right_c 96 96 (by decide) [⟨a0, c0, x0⟩] #[Value.slice a0 x0.length c0] 1 true (w) HRC (els1 S_a.out) HRN (by decide) (by decide) HRV).mono ?_)
  clear HRV HRC HRN
  rintro e ws ⟨rfl, rfl⟩
  have hbl := below_new (w) (.cells #[Value.slice a0 x0.length c0] 22)
  replace S_a := Lib.hid (S_a.out.to hbl)
  replace HB := Lib.hid (HB.out.trans (Below.mono hbl HB.out.size))
  clear hbl
  go_wp2_with fail
  (with_reducible refine (wakes_any ((w).alloc (.cells #[Value.slice a0 x0.length c0] 22))).mono ?_)
  rintro e w1 ⟨rfl, hb⟩
  replace S_a := Lib.hid (S_a.out.to hb)
  replace HB := Lib.hid (HB.out.trans (Below.mono hb HB.out.size))
  clear hb
  go_wp2_with fail
  go_ret
  exact ⟨rfl, HB.out⟩
set_option maxRecDepth 100000 in
set_option maxHeartbeats 4000000 in
theorem text_yes (a0 : Option Addr) (c0 : Nat) (x0 : List UInt32) (x1 : List UInt8) (t : List UInt8) (ln : List UInt32) (w : World) (ha : Sl w a0 c0 x0) (HR : Hid (rightB 96 [x0] = true)) (H1 : Hid (textM x0 = (t, 0))) (H2 : Hid (readM t = (x0, 0))) (ht : t.length ≤ 100000) (htz : ((t.length : Int) == 0) = false) (hl : decide ((2000 : Int) < (x1.length : Int)) = false) (hx1 : x1.length ≤ 100000) (H3 : Hid (readM x1 = (ln, 0))) (H4 : Hid (textM ln = (x1, 0))) (H5 : Hid (chk ln = 0)) :
    Calls Tryd.prog 9 #[.slice a0 x0.length c0, .string ⟨x1.toArray⟩] w fun e w' => e = .returned (.bool true) ∧ Below w.heap.size w w' := by
  have HB := Lib.hid (Below.refl w.heap.size w)
  have S_a := Lib.hid (show Sl w a0 c0 x0 from ha)
  clear ha
  go_enter Tryd.func9, Tryd.ntmps9
  go_wp2_with fail
  have HRV : Hid (rightB 96 (List.map (fun x => El.l x) ([⟨a0, c0, x0⟩] : List El)) = true) := HR
  have HRC : Hid ((List.map El.v ([⟨a0, c0, x0⟩] : List El)).toArray = #[Value.slice a0 x0.length c0]) := Lib.hid rfl
  have HRN : Hid (([⟨a0, c0, x0⟩] : List El).length = 1) := Lib.hid rfl
  (with_reducible refine (right_c 96 96 (by decide) [⟨a0, c0, x0⟩] #[Value.slice a0 x0.length c0] 1 true (w) HRC (els1 S_a.out) HRN (by decide) (by decide) HRV).mono ?_)
  clear HRV HRC HRN
  rintro e ws ⟨rfl, rfl⟩
  have hbl := below_new (w) (.cells #[Value.slice a0 x0.length c0] 22)
  replace S_a := Lib.hid (S_a.out.to hbl)
  replace HB := Lib.hid (HB.out.trans (Below.mono hbl HB.out.size))
  clear hbl
  go_wp2_with fail
  (with_reducible refine (text_c a0 c0 x0.length x0 ((w).alloc (.cells #[Value.slice a0 x0.length c0] 22)) t 0 S_a (Lib.hid (rfl : (x0 : List UInt32).length = x0.length)) H1).mono ?_)
  rintro e w1 ⟨rfl, hb⟩
  replace S_a := Lib.hid (S_a.out.to hb)
  replace HB := Lib.hid (HB.out.trans (Below.mono hb HB.out.size))
  clear hb
  go_wp2_with fail
  (with_reducible refine (read_c t (w1) x0 0 ht H2).mono ?_)
  rintro e w2 ⟨A_b, c_b, rfl, hs, hb⟩
  replace S_a := Lib.hid (S_a.out.to hb)
  replace HB := Lib.hid (HB.out.trans (Below.mono hb HB.out.size))
  have S_b := Lib.hid hs
  clear hs hb
  go_wp2_with fail
  (with_reducible refine (rsame_c a0 A_b c0 c_b x0.length x0.length x0 x0 (w2) true S_a S_b (Lib.hid (rfl : (x0 : List UInt32).length = x0.length)) (Lib.hid (rfl : (x0 : List UInt32).length = x0.length)) (Lib.hid (sameB_refl _))).mono ?_)
  rintro e w3 ⟨rfl, hb⟩
  replace S_a := Lib.hid (S_a.out.to hb)
  replace S_b := Lib.hid (S_b.out.to hb)
  replace HB := Lib.hid (HB.out.trans (Below.mono hb HB.out.size))
  clear hb
  clear S_b
  go_wp2_with fail
  (with_reducible refine (read_c x1 (w3) ln 0 hx1 H3).mono ?_)
  rintro e w4 ⟨A_n, c_n, rfl, hs, hb⟩
  replace S_a := Lib.hid (S_a.out.to hb)
  replace HB := Lib.hid (HB.out.trans (Below.mono hb HB.out.size))
  have S_n := Lib.hid hs
  clear hs hb
  clear S_a
  go_wp2_with fail
  (with_reducible refine (text_c A_n c_n ln.length ln (w4) x1 0 S_n (Lib.hid (rfl : (ln : List UInt32).length = ln.length)) H4).mono ?_)
  rintro e w5 ⟨rfl, hb⟩
  replace S_n := Lib.hid (S_n.out.to hb)
  replace HB := Lib.hid (HB.out.trans (Below.mono hb HB.out.size))
  clear hb
  go_wp2_with fail
  (with_reducible refine (check_c A_n c_n ln.length ln (w5) 0 S_n (Lib.hid (rfl : (ln : List UInt32).length = ln.length)) H5).mono ?_)
  rintro e ws ⟨rfl, rfl⟩
  go_wp2_with fail
  (with_reducible refine (wakes_any (w5)).mono ?_)
  rintro e w6 ⟨rfl, hb⟩
  replace S_n := Lib.hid (S_n.out.to hb)
  replace HB := Lib.hid (HB.out.trans (Below.mono hb HB.out.size))
  clear hb
  go_wp2_with fail
  go_ret
  exact ⟨rfl, HB.out⟩
set_option maxRecDepth 100000 in
set_option maxHeartbeats 4000000 in
theorem text_short11 (a0 : Option Addr) (c0 : Nat) (x0 : List UInt32) (x1 : List UInt8) (t : List UInt8) (w : World) (ha : Sl w a0 c0 x0) (HR : Hid (rightB 96 [x0] = true)) (H1 : Hid (textM x0 = (t, 0))) (H2 : Hid (readM t = (x0, 0))) (ht : t.length ≤ 100000) (htz : ((t.length : Int) == 0) = false) (hl : decide ((2000 : Int) < (x1.length : Int)) = false) (hx1 : x1.length ≤ 100000) (H3 : Hid (readM x1 = ([], 11))) (h2 : decide ((t.length : Int) < 2) = true) (h2i : (t.length : Int) < 2) :
    Calls Tryd.prog 9 #[.slice a0 x0.length c0, .string ⟨x1.toArray⟩] w fun e w' => e = .returned (.bool true) ∧ Below w.heap.size w w' := by
  have HB := Lib.hid (Below.refl w.heap.size w)
  have S_a := Lib.hid (show Sl w a0 c0 x0 from ha)
  clear ha
  go_enter Tryd.func9, Tryd.ntmps9
  go_wp2_with fail
  have HRV : Hid (rightB 96 (List.map (fun x => El.l x) ([⟨a0, c0, x0⟩] : List El)) = true) := HR
  have HRC : Hid ((List.map El.v ([⟨a0, c0, x0⟩] : List El)).toArray = #[Value.slice a0 x0.length c0]) := Lib.hid rfl
  have HRN : Hid (([⟨a0, c0, x0⟩] : List El).length = 1) := Lib.hid rfl
  (with_reducible refine (right_c 96 96 (by decide) [⟨a0, c0, x0⟩] #[Value.slice a0 x0.length c0] 1 true (w) HRC (els1 S_a.out) HRN (by decide) (by decide) HRV).mono ?_)
  clear HRV HRC HRN
  rintro e ws ⟨rfl, rfl⟩
  have hbl := below_new (w) (.cells #[Value.slice a0 x0.length c0] 22)
  replace S_a := Lib.hid (S_a.out.to hbl)
  replace HB := Lib.hid (HB.out.trans (Below.mono hbl HB.out.size))
  clear hbl
  go_wp2_with fail
  (with_reducible refine (text_c a0 c0 x0.length x0 ((w).alloc (.cells #[Value.slice a0 x0.length c0] 22)) t 0 S_a (Lib.hid (rfl : (x0 : List UInt32).length = x0.length)) H1).mono ?_)
  rintro e w1 ⟨rfl, hb⟩
  replace S_a := Lib.hid (S_a.out.to hb)
  replace HB := Lib.hid (HB.out.trans (Below.mono hb HB.out.size))
  clear hb
  go_wp2_with fail
  (with_reducible refine (read_c t (w1) x0 0 ht H2).mono ?_)
  rintro e w2 ⟨A_b, c_b, rfl, hs, hb⟩
  replace S_a := Lib.hid (S_a.out.to hb)
  replace HB := Lib.hid (HB.out.trans (Below.mono hb HB.out.size))
  have S_b := Lib.hid hs
  clear hs hb
  go_wp2_with fail
  (with_reducible refine (rsame_c a0 A_b c0 c_b x0.length x0.length x0 x0 (w2) true S_a S_b (Lib.hid (rfl : (x0 : List UInt32).length = x0.length)) (Lib.hid (rfl : (x0 : List UInt32).length = x0.length)) (Lib.hid (sameB_refl _))).mono ?_)
  rintro e w3 ⟨rfl, hb⟩
  replace S_a := Lib.hid (S_a.out.to hb)
  replace S_b := Lib.hid (S_b.out.to hb)
  replace HB := Lib.hid (HB.out.trans (Below.mono hb HB.out.size))
  clear hb
  clear S_b
  go_wp2_with fail
  (with_reducible refine (read_c x1 (w3) [] 11 hx1 H3).mono ?_)
  rintro e w4 ⟨A_n, c_n, rfl, hs, hb⟩
  replace S_a := Lib.hid (S_a.out.to hb)
  replace HB := Lib.hid (HB.out.trans (Below.mono hb HB.out.size))
  have S_n := Lib.hid hs
  clear hs hb
  clear S_n
  go_wp2_with fail
  (with_reducible refine (wakes_any (w4)).mono ?_)
  rintro e w5 ⟨rfl, hb⟩
  replace S_a := Lib.hid (S_a.out.to hb)
  replace HB := Lib.hid (HB.out.trans (Below.mono hb HB.out.size))
  clear hb
  go_wp2_with fail
  go_ret
  exact ⟨rfl, HB.out⟩
set_option maxRecDepth 100000 in
set_option maxHeartbeats 4000000 in
theorem text_two11 (a0 : Option Addr) (c0 : Nat) (x0 : List UInt32) (x1 : List UInt8) (t fi la : List UInt8) (lq lr : List UInt32) (w : World) (ha : Sl w a0 c0 x0) (HR : Hid (rightB 96 [x0] = true)) (H1 : Hid (textM x0 = (t, 0))) (H2 : Hid (readM t = (x0, 0))) (ht : t.length ≤ 100000) (htz : ((t.length : Int) == 0) = false) (hl : decide ((2000 : Int) < (x1.length : Int)) = false) (hx1 : x1.length ≤ 100000) (H3 : Hid (readM x1 = ([], 11))) (h2 : decide ((t.length : Int) < 2) = false) (H4 : Hid (divM x0 [10] = ((lq, lr), 0))) (H5 : Hid (textM lq = (fi, 0))) (H6 : Hid (textM lr = (la, 0))) (hfi : fi.length ≤ 100000) (hla : la.length ≤ 100000) (hcat : (⟨fi.toArray⟩ : ByteArray) ++ (⟨la.toArray⟩ : ByteArray) = ⟨t.toArray⟩) :
    Calls Tryd.prog 9 #[.slice a0 x0.length c0, .string ⟨x1.toArray⟩] w fun e w' => e = .returned (.bool true) ∧ Below w.heap.size w w' := by
  have HB := Lib.hid (Below.refl w.heap.size w)
  have S_a := Lib.hid (show Sl w a0 c0 x0 from ha)
  clear ha
  go_enter Tryd.func9, Tryd.ntmps9
  go_wp2_with fail
  have HRV : Hid (rightB 96 (List.map (fun x => El.l x) ([⟨a0, c0, x0⟩] : List El)) = true) := HR
  have HRC : Hid ((List.map El.v ([⟨a0, c0, x0⟩] : List El)).toArray = #[Value.slice a0 x0.length c0]) := Lib.hid rfl
  have HRN : Hid (([⟨a0, c0, x0⟩] : List El).length = 1) := Lib.hid rfl
  (with_reducible refine (right_c 96 96 (by decide) [⟨a0, c0, x0⟩] #[Value.slice a0 x0.length c0] 1 true (w) HRC (els1 S_a.out) HRN (by decide) (by decide) HRV).mono ?_)
  clear HRV HRC HRN
  rintro e ws ⟨rfl, rfl⟩
  have hbl := below_new (w) (.cells #[Value.slice a0 x0.length c0] 22)
  replace S_a := Lib.hid (S_a.out.to hbl)
  replace HB := Lib.hid (HB.out.trans (Below.mono hbl HB.out.size))
  clear hbl
  go_wp2_with fail
  (with_reducible refine (text_c a0 c0 x0.length x0 ((w).alloc (.cells #[Value.slice a0 x0.length c0] 22)) t 0 S_a (Lib.hid (rfl : (x0 : List UInt32).length = x0.length)) H1).mono ?_)
  rintro e w1 ⟨rfl, hb⟩
  replace S_a := Lib.hid (S_a.out.to hb)
  replace HB := Lib.hid (HB.out.trans (Below.mono hb HB.out.size))
  clear hb
  go_wp2_with fail
  (with_reducible refine (read_c t (w1) x0 0 ht H2).mono ?_)
  rintro e w2 ⟨A_b, c_b, rfl, hs, hb⟩
  replace S_a := Lib.hid (S_a.out.to hb)
  replace HB := Lib.hid (HB.out.trans (Below.mono hb HB.out.size))
  have S_b := Lib.hid hs
  clear hs hb
  go_wp2_with fail
  (with_reducible refine (rsame_c a0 A_b c0 c_b x0.length x0.length x0 x0 (w2) true S_a S_b (Lib.hid (rfl : (x0 : List UInt32).length = x0.length)) (Lib.hid (rfl : (x0 : List UInt32).length = x0.length)) (Lib.hid (sameB_refl _))).mono ?_)
  rintro e w3 ⟨rfl, hb⟩
  replace S_a := Lib.hid (S_a.out.to hb)
  replace S_b := Lib.hid (S_b.out.to hb)
  replace HB := Lib.hid (HB.out.trans (Below.mono hb HB.out.size))
  clear hb
  clear S_b
  go_wp2_with fail
  (with_reducible refine (read_c x1 (w3) [] 11 hx1 H3).mono ?_)
  rintro e w4 ⟨A_n, c_n, rfl, hs, hb⟩
  replace S_a := Lib.hid (S_a.out.to hb)
  replace HB := Lib.hid (HB.out.trans (Below.mono hb HB.out.size))
  have S_n := Lib.hid hs
  clear hs hb
  clear S_n
  go_wp2_with fail
  have S_l10 := Lib.hid (Sl.litg (w4) w4.heap.size [10] #[Value.int IntKind.u32 10] (by rfl) rfl 1 rfl (by decide))
  have hbl := below_new (w4) (.cells #[Value.int IntKind.u32 10] 45)
  replace S_a := Lib.hid (S_a.out.to hbl)
  replace HB := Lib.hid (HB.out.trans (Below.mono hbl HB.out.size))
  clear hbl
  (with_reducible refine (div_c a0 (some ⟨w4.heap.size, 0, none⟩) c0 1 x0.length 1 x0 [10] ((w4).alloc (.cells #[Value.int IntKind.u32 10] 45)) lq lr 0 S_a S_l10 (Lib.hid (rfl : (x0 : List UInt32).length = x0.length)) (Lib.hid (rfl : ([10] : List UInt32).length = 1)) H4).mono ?_)
  rintro e w5 ⟨A_q, A_r, c_q, c_r, rfl, hs1, hs2, hb⟩
  replace S_a := Lib.hid (S_a.out.to hb)
  replace S_l10 := Lib.hid (S_l10.out.to hb)
  replace HB := Lib.hid (HB.out.trans (Below.mono hb HB.out.size))
  have S_q := Lib.hid hs1
  have S_r := Lib.hid hs2
  clear hs1 hs2 hb
  clear S_l10
  clear S_a
  go_wp2_with fail
  (with_reducible refine (text_c A_q c_q lq.length lq (w5) fi 0 S_q (Lib.hid (rfl : (lq : List UInt32).length = lq.length)) H5).mono ?_)
  rintro e w6 ⟨rfl, hb⟩
  replace S_q := Lib.hid (S_q.out.to hb)
  replace S_r := Lib.hid (S_r.out.to hb)
  replace HB := Lib.hid (HB.out.trans (Below.mono hb HB.out.size))
  clear hb
  go_wp2_with fail
  (with_reducible refine (text_c A_r c_r lr.length lr (w6) la 0 S_r (Lib.hid (rfl : (lr : List UInt32).length = lr.length)) H6).mono ?_)
  rintro e w7 ⟨rfl, hb⟩
  replace S_q := Lib.hid (S_q.out.to hb)
  replace S_r := Lib.hid (S_r.out.to hb)
  replace HB := Lib.hid (HB.out.trans (Below.mono hb HB.out.size))
  clear hb
  clear S_q
  clear S_r
  go_wp2_with fail
  (with_reducible refine (wakes_any (w7)).mono ?_)
  rintro e w8 ⟨rfl, hb⟩
  replace HB := Lib.hid (HB.out.trans (Below.mono hb HB.out.size))
  clear hb
  go_wp2_with fail
  go_ret
  exact ⟨rfl, HB.out⟩
set_option maxRecDepth 100000 in
set_option maxHeartbeats 4000000 in
theorem text_short30 (a0 : Option Addr) (c0 : Nat) (x0 : List UInt32) (x1 : List UInt8) (t : List UInt8) (w : World) (ha : Sl w a0 c0 x0) (HR : Hid (rightB 96 [x0] = true)) (H1 : Hid (textM x0 = (t, 0))) (H2 : Hid (readM t = (x0, 0))) (ht : t.length ≤ 100000) (htz : ((t.length : Int) == 0) = false) (hl : decide ((2000 : Int) < (x1.length : Int)) = false) (hx1 : x1.length ≤ 100000) (H3 : Hid (readM x1 = ([], 30))) (h2 : decide ((t.length : Int) < 2) = true) (h2i : (t.length : Int) < 2) :
    Calls Tryd.prog 9 #[.slice a0 x0.length c0, .string ⟨x1.toArray⟩] w fun e w' => e = .returned (.bool true) ∧ Below w.heap.size w w' := by
  have HB := Lib.hid (Below.refl w.heap.size w)
  have S_a := Lib.hid (show Sl w a0 c0 x0 from ha)
  clear ha
  go_enter Tryd.func9, Tryd.ntmps9
  go_wp2_with fail
  have HRV : Hid (rightB 96 (List.map (fun x => El.l x) ([⟨a0, c0, x0⟩] : List El)) = true) := HR
  have HRC : Hid ((List.map El.v ([⟨a0, c0, x0⟩] : List El)).toArray = #[Value.slice a0 x0.length c0]) := Lib.hid rfl
  have HRN : Hid (([⟨a0, c0, x0⟩] : List El).length = 1) := Lib.hid rfl
  (with_reducible refine (right_c 96 96 (by decide) [⟨a0, c0, x0⟩] #[Value.slice a0 x0.length c0] 1 true (w) HRC (els1 S_a.out) HRN (by decide) (by decide) HRV).mono ?_)
  clear HRV HRC HRN
  rintro e ws ⟨rfl, rfl⟩
  have hbl := below_new (w) (.cells #[Value.slice a0 x0.length c0] 22)
  replace S_a := Lib.hid (S_a.out.to hbl)
  replace HB := Lib.hid (HB.out.trans (Below.mono hbl HB.out.size))
  clear hbl
  go_wp2_with fail
  (with_reducible refine (text_c a0 c0 x0.length x0 ((w).alloc (.cells #[Value.slice a0 x0.length c0] 22)) t 0 S_a (Lib.hid (rfl : (x0 : List UInt32).length = x0.length)) H1).mono ?_)
  rintro e w1 ⟨rfl, hb⟩
  replace S_a := Lib.hid (S_a.out.to hb)
  replace HB := Lib.hid (HB.out.trans (Below.mono hb HB.out.size))
  clear hb
  go_wp2_with fail
  (with_reducible refine (read_c t (w1) x0 0 ht H2).mono ?_)
  rintro e w2 ⟨A_b, c_b, rfl, hs, hb⟩
  replace S_a := Lib.hid (S_a.out.to hb)
  replace HB := Lib.hid (HB.out.trans (Below.mono hb HB.out.size))
  have S_b := Lib.hid hs
  clear hs hb
  go_wp2_with fail
  (with_reducible refine (rsame_c a0 A_b c0 c_b x0.length x0.length x0 x0 (w2) true S_a S_b (Lib.hid (rfl : (x0 : List UInt32).length = x0.length)) (Lib.hid (rfl : (x0 : List UInt32).length = x0.length)) (Lib.hid (sameB_refl _))).mono ?_)
  rintro e w3 ⟨rfl, hb⟩
  replace S_a := Lib.hid (S_a.out.to hb)
  replace S_b := Lib.hid (S_b.out.to hb)
  replace HB := Lib.hid (HB.out.trans (Below.mono hb HB.out.size))
  clear hb
  clear S_b
  go_wp2_with fail
  (with_reducible refine (read_c x1 (w3) [] 30 hx1 H3).mono ?_)
  rintro e w4 ⟨A_n, c_n, rfl, hs, hb⟩
  replace S_a := Lib.hid (S_a.out.to hb)
  replace HB := Lib.hid (HB.out.trans (Below.mono hb HB.out.size))
  have S_n := Lib.hid hs
  clear hs hb
  clear S_n
  go_wp2_with fail
  (with_reducible refine (wakes_any (w4)).mono ?_)
  rintro e w5 ⟨rfl, hb⟩
  replace S_a := Lib.hid (S_a.out.to hb)
  replace HB := Lib.hid (HB.out.trans (Below.mono hb HB.out.size))
  clear hb
  go_wp2_with fail
  go_ret
  exact ⟨rfl, HB.out⟩
set_option maxRecDepth 100000 in
set_option maxHeartbeats 4000000 in
theorem text_two30 (a0 : Option Addr) (c0 : Nat) (x0 : List UInt32) (x1 : List UInt8) (t fi la : List UInt8) (lq lr : List UInt32) (w : World) (ha : Sl w a0 c0 x0) (HR : Hid (rightB 96 [x0] = true)) (H1 : Hid (textM x0 = (t, 0))) (H2 : Hid (readM t = (x0, 0))) (ht : t.length ≤ 100000) (htz : ((t.length : Int) == 0) = false) (hl : decide ((2000 : Int) < (x1.length : Int)) = false) (hx1 : x1.length ≤ 100000) (H3 : Hid (readM x1 = ([], 30))) (h2 : decide ((t.length : Int) < 2) = false) (H4 : Hid (divM x0 [10] = ((lq, lr), 0))) (H5 : Hid (textM lq = (fi, 0))) (H6 : Hid (textM lr = (la, 0))) (hfi : fi.length ≤ 100000) (hla : la.length ≤ 100000) (hcat : (⟨fi.toArray⟩ : ByteArray) ++ (⟨la.toArray⟩ : ByteArray) = ⟨t.toArray⟩) :
    Calls Tryd.prog 9 #[.slice a0 x0.length c0, .string ⟨x1.toArray⟩] w fun e w' => e = .returned (.bool true) ∧ Below w.heap.size w w' := by
  have HB := Lib.hid (Below.refl w.heap.size w)
  have S_a := Lib.hid (show Sl w a0 c0 x0 from ha)
  clear ha
  go_enter Tryd.func9, Tryd.ntmps9
  go_wp2_with fail
  have HRV : Hid (rightB 96 (List.map (fun x => El.l x) ([⟨a0, c0, x0⟩] : List El)) = true) := HR
  have HRC : Hid ((List.map El.v ([⟨a0, c0, x0⟩] : List El)).toArray = #[Value.slice a0 x0.length c0]) := Lib.hid rfl
  have HRN : Hid (([⟨a0, c0, x0⟩] : List El).length = 1) := Lib.hid rfl
  (with_reducible refine (right_c 96 96 (by decide) [⟨a0, c0, x0⟩] #[Value.slice a0 x0.length c0] 1 true (w) HRC (els1 S_a.out) HRN (by decide) (by decide) HRV).mono ?_)
  clear HRV HRC HRN
  rintro e ws ⟨rfl, rfl⟩
  have hbl := below_new (w) (.cells #[Value.slice a0 x0.length c0] 22)
  replace S_a := Lib.hid (S_a.out.to hbl)
  replace HB := Lib.hid (HB.out.trans (Below.mono hbl HB.out.size))
  clear hbl
  go_wp2_with fail
  (with_reducible refine (text_c a0 c0 x0.length x0 ((w).alloc (.cells #[Value.slice a0 x0.length c0] 22)) t 0 S_a (Lib.hid (rfl : (x0 : List UInt32).length = x0.length)) H1).mono ?_)
  rintro e w1 ⟨rfl, hb⟩
  replace S_a := Lib.hid (S_a.out.to hb)
  replace HB := Lib.hid (HB.out.trans (Below.mono hb HB.out.size))
  clear hb
  go_wp2_with fail
  (with_reducible refine (read_c t (w1) x0 0 ht H2).mono ?_)
  rintro e w2 ⟨A_b, c_b, rfl, hs, hb⟩
  replace S_a := Lib.hid (S_a.out.to hb)
  replace HB := Lib.hid (HB.out.trans (Below.mono hb HB.out.size))
  have S_b := Lib.hid hs
  clear hs hb
  go_wp2_with fail
  (with_reducible refine (rsame_c a0 A_b c0 c_b x0.length x0.length x0 x0 (w2) true S_a S_b (Lib.hid (rfl : (x0 : List UInt32).length = x0.length)) (Lib.hid (rfl : (x0 : List UInt32).length = x0.length)) (Lib.hid (sameB_refl _))).mono ?_)
  rintro e w3 ⟨rfl, hb⟩
  replace S_a := Lib.hid (S_a.out.to hb)
  replace S_b := Lib.hid (S_b.out.to hb)
  replace HB := Lib.hid (HB.out.trans (Below.mono hb HB.out.size))
  clear hb
  clear S_b
  go_wp2_with fail
  (with_reducible refine (read_c x1 (w3) [] 30 hx1 H3).mono ?_)
  rintro e w4 ⟨A_n, c_n, rfl, hs, hb⟩
  replace S_a := Lib.hid (S_a.out.to hb)
  replace HB := Lib.hid (HB.out.trans (Below.mono hb HB.out.size))
  have S_n := Lib.hid hs
  clear hs hb
  clear S_n
  go_wp2_with fail
  have S_l10 := Lib.hid (Sl.litg (w4) w4.heap.size [10] #[Value.int IntKind.u32 10] (by rfl) rfl 1 rfl (by decide))
  have hbl := below_new (w4) (.cells #[Value.int IntKind.u32 10] 45)
  replace S_a := Lib.hid (S_a.out.to hbl)
  replace HB := Lib.hid (HB.out.trans (Below.mono hbl HB.out.size))
  clear hbl
  (with_reducible refine (div_c a0 (some ⟨w4.heap.size, 0, none⟩) c0 1 x0.length 1 x0 [10] ((w4).alloc (.cells #[Value.int IntKind.u32 10] 45)) lq lr 0 S_a S_l10 (Lib.hid (rfl : (x0 : List UInt32).length = x0.length)) (Lib.hid (rfl : ([10] : List UInt32).length = 1)) H4).mono ?_)
  rintro e w5 ⟨A_q, A_r, c_q, c_r, rfl, hs1, hs2, hb⟩
  replace S_a := Lib.hid (S_a.out.to hb)
  replace S_l10 := Lib.hid (S_l10.out.to hb)
  replace HB := Lib.hid (HB.out.trans (Below.mono hb HB.out.size))
  have S_q := Lib.hid hs1
  have S_r := Lib.hid hs2
  clear hs1 hs2 hb
  clear S_l10
  clear S_a
  go_wp2_with fail
  (with_reducible refine (text_c A_q c_q lq.length lq (w5) fi 0 S_q (Lib.hid (rfl : (lq : List UInt32).length = lq.length)) H5).mono ?_)
  rintro e w6 ⟨rfl, hb⟩
  replace S_q := Lib.hid (S_q.out.to hb)
  replace S_r := Lib.hid (S_r.out.to hb)
  replace HB := Lib.hid (HB.out.trans (Below.mono hb HB.out.size))
  clear hb
  go_wp2_with fail
  (with_reducible refine (text_c A_r c_r lr.length lr (w6) la 0 S_r (Lib.hid (rfl : (lr : List UInt32).length = lr.length)) H6).mono ?_)
  rintro e w7 ⟨rfl, hb⟩
  replace S_q := Lib.hid (S_q.out.to hb)
  replace S_r := Lib.hid (S_r.out.to hb)
  replace HB := Lib.hid (HB.out.trans (Below.mono hb HB.out.size))
  clear hb
  clear S_q
  clear S_r
  go_wp2_with fail
  (with_reducible refine (wakes_any (w7)).mono ?_)
  rintro e w8 ⟨rfl, hb⟩
  replace HB := Lib.hid (HB.out.trans (Below.mono hb HB.out.size))
  clear hb
  go_wp2_with fail
  go_ret
  exact ⟨rfl, HB.out⟩
theorem dec_len : ∀ (k V : Nat), 0 < k → V < 10 ^ k → (Lib.decDigits V).length ≤ k
  | 0, _, h, _ => by omega
  | k + 1, V, _, h => by
    by_cases hV : V < 10
    · rw [decDigits_small hV]; simp
    · rw [decDigits_big hV, List.length_append]
      have hk : 0 < k := by
        rcases Nat.eq_zero_or_pos k with e | e
        · subst e; simp at h; omega
        · exact e
      have := dec_len k (V / 10) hk (by rw [Nat.pow_succ] at h; omega)
      simp; omega
theorem dec_len_limbs {m k : Nat} (hk : 0 < k) (h : (limbs m).length ≤ k) : (Lib.decDigits m).length ≤ 32 * k := by
  refine dec_len (32 * k) m (by omega) (Nat.lt_of_lt_of_le (limbs_len_le.1 h) ?_)
  rw [bp_pow]
  exact Nat.pow_le_pow_left (by decide) _
theorem natText_any (a0 : Option Addr) (c0 : Nat) (x0 : List UInt32) (x1 : List UInt8) (w : World) (ha : Sl w a0 c0 x0) (hx : x1.length ≤ 140737488351232) :
    Calls Tryd.prog 9 #[.slice a0 x0.length c0, .string ⟨x1.toArray⟩] w fun e w' => e = .returned (.bool true) ∧ Below w.heap.size w w' := by
  cases hR : rightB 96 [x0] with
  | false => exact text_bad a0 c0 x0 x1 w ha hR
  | true =>
    by_cases hl : 2000 < x1.length
    · exact text_long a0 c0 x0 x1 w ha hR (by omega)
    · have hld : decide ((2000 : Int) < (x1.length : Int)) = false := by simp; omega
      obtain ⟨m, rfl, hm, _⟩ := right_yes hR x0 (by simp)
      have h1 : textM (limbs m) = (Lib.decDigits m, 0) := by rw [textM_ok (chk_limbs hm), val_limbs]
      have h2 : readM (Lib.decDigits m) = (limbs m, 0) := by rw [readM_ok (isNatB_dec m), valD_dec, numM_ok hm]
      have ht := dec_len_limbs (by decide) hm
      have htz : (((Lib.decDigits m).length : Int) == 0) = false := by
        have : (Lib.decDigits m).length ≠ 0 := fun e => decDigits_ne m (List.eq_nil_of_length_eq_zero e)
        rw [beq_eq_false_iff_ne]; omega
      have two : ∀ er, readM x1 = ([], er) → er = 11 ∨ er = 30 → Calls Tryd.prog 9 #[.slice a0 (limbs m).length c0, .string ⟨x1.toArray⟩] w fun e w' => e = .returned (.bool true) ∧ Below w.heap.size w w' := by
        intro er h3 her
        by_cases h10 : m < 10
        · have hlen : (Lib.decDigits m).length = 1 := by rw [decDigits_small h10]; rfl
          rcases her with rfl | rfl
          · exact text_short11 a0 c0 _ x1 _ w ha hR h1 h2 (by omega) htz hld (by omega) h3 (by rw [hlen]; rfl) (by rw [hlen]; decide)
          · exact text_short30 a0 c0 _ x1 _ w ha hR h1 h2 (by omega) htz hld (by omega) h3 (by rw [hlen]; rfl) (by rw [hlen]; decide)
        · have hlen : decide (((Lib.decDigits m).length : Int) < 2) = false := by
            have e := decDigits_big h10
            have h4 : (Lib.decDigits (m / 10)).length ≠ 0 := fun e => decDigits_ne _ (List.eq_nil_of_length_eq_zero e)
            rw [e, List.length_append]
            simp; omega
          have e10 : limbs 10 = [10] := limbs_lit (n := 0) rfl (by decide) (by decide)
          have h4 := divL hm (by rw [e10]; decide : (limbs 10).length ≤ 96) (by decide) (rfl : m / 10 = m / 10) (rfl : m % 10 = m % 10)
          rw [e10] at h4
          have h5 : textM (limbs (m / 10)) = (Lib.decDigits (m / 10), 0) := by rw [textM_ok (chk_limbs (len_le hm (Nat.div_le_self _ _))), val_limbs]
          have h6 : textM (limbs (m % 10)) = (Lib.decDigits (m % 10), 0) := by rw [textM_ok (chk_limbs (len_le hm (Nat.mod_le _ _))), val_limbs]
          have hcat : (⟨(Lib.decDigits (m / 10)).toArray⟩ : ByteArray) ++ (⟨(Lib.decDigits (m % 10)).toArray⟩ : ByteArray) = ⟨(Lib.decDigits m).toArray⟩ := by
            rw [mk_append, decDigits_big h10, decDigits_small (show m % 10 < 10 by omega)]
          rcases her with rfl | rfl
          · exact text_two11 a0 c0 _ x1 _ _ _ _ _ w ha hR h1 h2 (by omega) htz hld (by omega) h3 hlen h4 h5 h6 (by have := dec_len_limbs (by decide) (len_le hm (Nat.div_le_self m 10)); omega) (by have := dec_len_limbs (by decide) (len_le hm (Nat.mod_le m 10)); omega) hcat
          · exact text_two30 a0 c0 _ x1 _ _ _ _ _ w ha hR h1 h2 (by omega) htz hld (by omega) h3 hlen h4 h5 h6 (by have := dec_len_limbs (by decide) (len_le hm (Nat.div_le_self m 10)); omega) (by have := dec_len_limbs (by decide) (len_le hm (Nat.mod_le m 10)); omega) hcat
      by_cases hs : isNatB x1 = true
      · by_cases h96 : (limbs (valD x1)).length ≤ 96
        · refine text_yes a0 c0 _ x1 _ (limbs (valD x1)) w ha hR h1 h2 (by omega) htz hld (by omega) (by rw [Hid, readM_ok hs, numM_ok h96]) ?_ (chk_limbs h96)
          show textM _ = _
          rw [textM_ok (chk_limbs h96), val_limbs, dec_valD _ x1 rfl hs]
        · exact two 30 (by rw [readM_ok hs, numM_great h96]) (.inr rfl)
      · exact two 11 (readM_form hs) (.inl rfl)
end Go.Proofs.YtffbmkobholmhaaDoor
