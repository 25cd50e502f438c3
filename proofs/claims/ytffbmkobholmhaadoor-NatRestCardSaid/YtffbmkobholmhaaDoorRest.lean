/- The walk of NatRest. -/
import Derived.Test.YtffbmkobholmhaaDoorRow
namespace Go.Proofs.YtffbmkobholmhaaDoor
open Go.RowKit
set_option linter.unusedVariables false

set_option maxRecDepth 100000 in
set_option maxHeartbeats 4000000 in
theorem rest_bad (a0 : Option Addr) (c0 : Nat) (x0 : List UInt32) (a1 : Option Addr) (c1 : Nat) (x1 : List UInt32) (w : World) (ha : Sl w a0 c0 x0) (hb : Sl w a1 c1 x1) (HR : Hid (rightB 96 [x0, x1] = false)) :
    Calls Tryd.prog 7 #[.slice a0 x0.length c0, .slice a1 x1.length c1] w fun e w' => e = .returned (.bool true) ∧ Below w.heap.size w w' := by
  have HB := Lib.hid (Below.refl w.heap.size w)
  have S_a := Lib.hid (show Sl w a0 c0 x0 from ha)
  have S_b := Lib.hid (show Sl w a1 c1 x1 from hb)
  clear ha hb
  go_enter Tryd.func7, Tryd.ntmps7
  go_wp2_with fail
  have HRV : Hid (rightB 96 (List.map (fun x => El.l x) ([⟨a0, c0, x0⟩, ⟨a1, c1, x1⟩] : List El)) = false) := HR
  have HRC : Hid ((List.map El.v ([⟨a0, c0, x0⟩, ⟨a1, c1, x1⟩] : List El)).toArray = #[Value.slice a0 x0.length c0, Value.slice a1 x1.length c1]) := Lib.hid rfl
  have HRN : Hid (([⟨a0, c0, x0⟩, ⟨a1, c1, x1⟩] : List El).length = 2) := Lib.hid rfl
  (with_reducible refine (right_c 96 96 (by decide) [⟨a0, c0, x0⟩, ⟨a1, c1, x1⟩] #[Value.slice a0 x0.length c0, Value.slice a1 x1.length c1] 2 false (w) HRC (els2 S_a.out S_b.out) HRN (by decide) (by decide) HRV).mono ?_)
  clear HRV HRC HRN
  rintro e ws ⟨rfl, rfl⟩
  have hbl := below_new (w) (.cells #[Value.slice a0 x0.length c0, Value.slice a1 x1.length c1] 22)
  replace S_a := Lib.hid (S_a.out.to hbl)
  replace S_b := Lib.hid (S_b.out.to hbl)
  replace HB := Lib.hid (HB.out.trans (Below.mono hbl HB.out.size))
  clear hbl
  go_wp2_with fail
  (with_reducible refine (wakes_any ((w).alloc (.cells #[Value.slice a0 x0.length c0, Value.slice a1 x1.length c1] 22))).mono ?_)
  rintro e w1 ⟨rfl, hb⟩
  replace S_a := Lib.hid (S_a.out.to hb)
  replace S_b := Lib.hid (S_b.out.to hb)
  replace HB := Lib.hid (HB.out.trans (Below.mono hb HB.out.size))
  clear hb
  go_wp2_with fail
  go_ret
  exact ⟨rfl, HB.out⟩
set_option maxRecDepth 100000 in
set_option maxHeartbeats 4000000 in
theorem rest_zero (a0 : Option Addr) (c0 : Nat) (x0 : List UInt32) (a1 : Option Addr) (c1 : Nat) (x1 : List UInt32) (w : World) (ha : Sl w a0 c0 x0) (hb : Sl w a1 c1 x1) (HR : Hid (rightB 96 [x0, x1] = true)) (HD : Hid (divM x0 x1 = (([], []), 40))) (hl : x1 = []) :
    Calls Tryd.prog 7 #[.slice a0 x0.length c0, .slice a1 x1.length c1] w fun e w' => e = .returned (.bool true) ∧ Below w.heap.size w w' := by
  subst hl
  have HB := Lib.hid (Below.refl w.heap.size w)
  have S_a := Lib.hid (show Sl w a0 c0 x0 from ha)
  have S_b := Lib.hid (show Sl w a1 c1 [] from hb)
  clear ha hb
  go_enter Tryd.func7, Tryd.ntmps7
  go_wp2_with fail
  have HRV : Hid (rightB 96 (List.map (fun x => El.l x) ([⟨a0, c0, x0⟩, ⟨a1, c1, []⟩] : List El)) = true) := HR
  have HRC : Hid ((List.map El.v ([⟨a0, c0, x0⟩, ⟨a1, c1, []⟩] : List El)).toArray = #[Value.slice a0 x0.length c0, Value.slice a1 0 c1]) := Lib.hid rfl
  have HRN : Hid (([⟨a0, c0, x0⟩, ⟨a1, c1, []⟩] : List El).length = 2) := Lib.hid rfl
  (with_reducible refine (right_c 96 96 (by decide) [⟨a0, c0, x0⟩, ⟨a1, c1, []⟩] #[Value.slice a0 x0.length c0, Value.slice a1 0 c1] 2 true (w) HRC (els2 S_a.out S_b.out) HRN (by decide) (by decide) HRV).mono ?_)
  clear HRV HRC HRN
  rintro e ws ⟨rfl, rfl⟩
  have hbl := below_new (w) (.cells #[Value.slice a0 x0.length c0, Value.slice a1 0 c1] 22)
  replace S_a := Lib.hid (S_a.out.to hbl)
  replace S_b := Lib.hid (S_b.out.to hbl)
  replace HB := Lib.hid (HB.out.trans (Below.mono hbl HB.out.size))
  clear hbl
  go_wp2_with fail
  (with_reducible refine (div_c a0 a1 c0 c1 x0.length 0 x0 [] ((w).alloc (.cells #[Value.slice a0 x0.length c0, Value.slice a1 0 c1] 22)) [] [] 40 S_a S_b (Lib.hid (rfl : (x0 : List UInt32).length = x0.length)) (Lib.hid (rfl : ([] : List UInt32).length = 0)) HD).mono ?_)
  rintro e w1 ⟨A_q, A_r, c_q, c_r, rfl, hs1, hs2, hb⟩
  replace S_a := Lib.hid (S_a.out.to hb)
  replace S_b := Lib.hid (S_b.out.to hb)
  replace HB := Lib.hid (HB.out.trans (Below.mono hb HB.out.size))
  have S_q := Lib.hid hs1
  have S_r := Lib.hid hs2
  clear hs1 hs2 hb
  go_wp2_with fail
  (with_reducible refine (wakes_any (w1)).mono ?_)
  rintro e w2 ⟨rfl, hb⟩
  replace S_a := Lib.hid (S_a.out.to hb)
  replace S_b := Lib.hid (S_b.out.to hb)
  replace S_q := Lib.hid (S_q.out.to hb)
  replace S_r := Lib.hid (S_r.out.to hb)
  replace HB := Lib.hid (HB.out.trans (Below.mono hb HB.out.size))
  clear hb
  go_wp2_with fail
  go_ret
  exact ⟨rfl, HB.out⟩
set_option maxRecDepth 100000 in
set_option maxHeartbeats 4000000 in
theorem rest_some (a0 : Option Addr) (c0 : Nat) (x0 : List UInt32) (a1 : Option Addr) (c1 : Nat) (x1 : List UInt32) (q r p : List UInt32) (w : World) (ha : Sl w a0 c0 x0) (hb : Sl w a1 c1 x1) (HR : Hid (rightB 96 [x0, x1] = true)) (HD : Hid (divM x0 x1 = ((q, r), 0))) (HM : Hid (mulM q x1 = (p, 0))) (HA : Hid (addM p r = (x0, 0))) (HC : Hid (cmpM r x1 = (-1, 0))) (HK : Hid (chk q = 0)) (hl : ((x1.length : Int) == 0) = false) :
    Calls Tryd.prog 7 #[.slice a0 x0.length c0, .slice a1 x1.length c1] w fun e w' => e = .returned (.bool true) ∧ Below w.heap.size w w' := by
  have HB := Lib.hid (Below.refl w.heap.size w)
  have S_a := Lib.hid (show Sl w a0 c0 x0 from ha)
  have S_b := Lib.hid (show Sl w a1 c1 x1 from hb)
  clear ha hb
  go_enter Tryd.func7, Tryd.ntmps7
  go_wp2_with fail
  have HRV : Hid (rightB 96 (List.map (fun x => El.l x) ([⟨a0, c0, x0⟩, ⟨a1, c1, x1⟩] : List El)) = true) := HR
  have HRC : Hid ((List.map El.v ([⟨a0, c0, x0⟩, ⟨a1, c1, x1⟩] : List El)).toArray = #[Value.slice a0 x0.length c0, Value.slice a1 x1.length c1]) := Lib.hid rfl
  have HRN : Hid (([⟨a0, c0, x0⟩, ⟨a1, c1, x1⟩] : List El).length = 2) := Lib.hid rfl
  (with_reducible refine (right_c 96 96 (by decide) [⟨a0, c0, x0⟩, ⟨a1, c1, x1⟩] #[Value.slice a0 x0.length c0, Value.slice a1 x1.length c1] 2 true (w) HRC (els2 S_a.out S_b.out) HRN (by decide) (by decide) HRV).mono ?_)
  clear HRV HRC HRN
  rintro e ws ⟨rfl, rfl⟩
  have hbl := below_new (w) (.cells #[Value.slice a0 x0.length c0, Value.slice a1 x1.length c1] 22)
  replace S_a := Lib.hid (S_a.out.to hbl)
  replace S_b := Lib.hid (S_b.out.to hbl)
  replace HB := Lib.hid (HB.out.trans (Below.mono hbl HB.out.size))
  clear hbl
  go_wp2_with fail
  (with_reducible refine (div_c a0 a1 c0 c1 x0.length x1.length x0 x1 ((w).alloc (.cells #[Value.slice a0 x0.length c0, Value.slice a1 x1.length c1] 22)) q r 0 S_a S_b (Lib.hid (rfl : (x0 : List UInt32).length = x0.length)) (Lib.hid (rfl : (x1 : List UInt32).length = x1.length)) HD).mono ?_)
  rintro e w1 ⟨A_q, A_r, c_q, c_r, rfl, hs1, hs2, hb⟩
  replace S_a := Lib.hid (S_a.out.to hb)
  replace S_b := Lib.hid (S_b.out.to hb)
  replace HB := Lib.hid (HB.out.trans (Below.mono hb HB.out.size))
  have S_q := Lib.hid hs1
  have S_r := Lib.hid hs2
  clear hs1 hs2 hb
  go_wp2_with fail
  (with_reducible refine (mul_c A_q a1 c_q c1 q.length x1.length q x1 (w1) p 0 S_q S_b (Lib.hid (rfl : (q : List UInt32).length = q.length)) (Lib.hid (rfl : (x1 : List UInt32).length = x1.length)) HM).mono ?_)
  rintro e w2 ⟨A_p, c_p, rfl, hs, hb⟩
  replace S_a := Lib.hid (S_a.out.to hb)
  replace S_b := Lib.hid (S_b.out.to hb)
  replace S_q := Lib.hid (S_q.out.to hb)
  replace S_r := Lib.hid (S_r.out.to hb)
  replace HB := Lib.hid (HB.out.trans (Below.mono hb HB.out.size))
  have S_p := Lib.hid hs
  clear hs hb
  go_wp2_with fail
  (with_reducible refine (add_c A_p A_r c_p c_r p.length r.length p r (w2) x0 0 S_p S_r (Lib.hid (rfl : (p : List UInt32).length = p.length)) (Lib.hid (rfl : (r : List UInt32).length = r.length)) HA).mono ?_)
  rintro e w3 ⟨A_s, c_s, rfl, hs, hb⟩
  replace S_a := Lib.hid (S_a.out.to hb)
  replace S_b := Lib.hid (S_b.out.to hb)
  replace S_q := Lib.hid (S_q.out.to hb)
  replace S_r := Lib.hid (S_r.out.to hb)
  replace S_p := Lib.hid (S_p.out.to hb)
  replace HB := Lib.hid (HB.out.trans (Below.mono hb HB.out.size))
  have S_s := Lib.hid hs
  clear hs hb
  go_wp2_with fail
  (with_reducible refine (cmp_c A_r a1 c_r c1 r.length x1.length r x1 (w3) (-1) 0 S_r S_b (Lib.hid (rfl : (r : List UInt32).length = r.length)) (Lib.hid (rfl : (x1 : List UInt32).length = x1.length)) HC).mono ?_)
  rintro e w4 ⟨rfl, hb⟩
  replace S_a := Lib.hid (S_a.out.to hb)
  replace S_b := Lib.hid (S_b.out.to hb)
  replace S_q := Lib.hid (S_q.out.to hb)
  replace S_r := Lib.hid (S_r.out.to hb)
  replace S_p := Lib.hid (S_p.out.to hb)
  replace S_s := Lib.hid (S_s.out.to hb)
  replace HB := Lib.hid (HB.out.trans (Below.mono hb HB.out.size))
  clear hb
  go_wp2_with fail
  (with_reducible refine (rsame_c A_s a0 c_s c0 x0.length x0.length x0 x0 (w4) true S_s S_a (Lib.hid (rfl : (x0 : List UInt32).length = x0.length)) (Lib.hid (rfl : (x0 : List UInt32).length = x0.length)) (Lib.hid (sameB_refl _))).mono ?_)
  rintro e w5 ⟨rfl, hb⟩
  replace S_a := Lib.hid (S_a.out.to hb)
  replace S_b := Lib.hid (S_b.out.to hb)
  replace S_q := Lib.hid (S_q.out.to hb)
  replace S_r := Lib.hid (S_r.out.to hb)
  replace S_p := Lib.hid (S_p.out.to hb)
  replace S_s := Lib.hid (S_s.out.to hb)
  replace HB := Lib.hid (HB.out.trans (Below.mono hb HB.out.size))
  clear hb
  go_wp2_with fail
  (with_reducible refine (check_c A_q c_q q.length q (w5) 0 S_q (Lib.hid (rfl : (q : List UInt32).length = q.length)) HK).mono ?_)
  rintro e ws ⟨rfl, rfl⟩
  go_wp2_with fail
  (with_reducible refine (wakes_any (w5)).mono ?_)
  rintro e w6 ⟨rfl, hb⟩
  replace S_a := Lib.hid (S_a.out.to hb)
  replace S_b := Lib.hid (S_b.out.to hb)
  replace S_q := Lib.hid (S_q.out.to hb)
  replace S_r := Lib.hid (S_r.out.to hb)
  replace S_p := Lib.hid (S_p.out.to hb)
  replace S_s := Lib.hid (S_s.out.to hb)
  replace HB := Lib.hid (HB.out.trans (Below.mono hb HB.out.size))
  clear hb
  go_wp2_with fail
  go_ret
  exact ⟨rfl, HB.out⟩
theorem natRest_any (a0 : Option Addr) (c0 : Nat) (x0 : List UInt32) (a1 : Option Addr) (c1 : Nat) (x1 : List UInt32) (w : World) (ha : Sl w a0 c0 x0) (hb : Sl w a1 c1 x1) :
    Calls Tryd.prog 7 #[.slice a0 x0.length c0, .slice a1 x1.length c1] w fun e w' => e = .returned (.bool true) ∧ Below w.heap.size w w' := by
  cases hR : rightB 96 [x0, x1] with
  | false => exact rest_bad a0 c0 x0 a1 c1 x1 w ha hb hR
  | true =>
    obtain ⟨m, rfl, _, hm⟩ := right_yes hR x0 (by simp)
    obtain ⟨n, rfl, _, hn⟩ := right_yes hR x1 (by simp)
    by_cases h0 : n = 0
    · exact rest_zero _ _ _ _ _ _ w ha hb hR (divM_zero (chk2_limbs hm hn) (by rw [val_limbs]; exact h0)) (limbs_nil.2 h0)
    · have hdm := Nat.div_add_mod m n
      have hlt := Nat.mod_lt m (Nat.pos_of_ne_zero h0)
      have h1 : m / n * n + m % n = m := by rw [Nat.mul_comm]; exact hdm
      have hle : m / n * n ≤ m := by omega
      have hq := len_le hm (Nat.div_le_self m n)
      have hr := len_le hn (Nat.le_of_lt hlt)
      refine rest_some _ _ _ _ _ _ (limbs (m / n)) (limbs (m % n)) (limbs (m / n * n)) w ha hb hR (divL hm hn h0 rfl rfl) (mulL hq hn rfl (len_le hm hle)) (addL (len_le hm hle) hr h1 hm) (cmpL hr hn (by unfold cmpI; rw [if_pos hlt])) (chk_limbs hq) ?_
      have : (limbs n).length ≠ 0 := fun e => h0 (limbs_len_eq_zero.1 e)
      rw [beq_eq_false_iff_ne]; omega
end Go.Proofs.YtffbmkobholmhaaDoor
