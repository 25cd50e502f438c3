/- ratio's Mul, Div. -/
import Derived.Test.YtefoccjphbbmhaaRf
namespace Go.Proofs.Ytefoccjphbbmhaa
open Go.RowKit
set_option linter.unusedVariables false

theorem mulR_prod {x y : Rq} (hx : okR x) (hy : okR y) : mulR x y = prodQ (x.neg != y.neg) (val x.num) (val x.den) (val y.num) (val y.den) := by
  unfold prodQ
  by_cases h : fits (val x.num * val y.num) ∧ fits (val x.den * val y.den)
  · rw [if_pos h, mulR_some hx hy h.1 h.2]
  · rw [if_neg h, mulR_none hx hy h]
theorem divR_prod {x y : Rq} (hx : okR x) (hy : okR y) : divR x y = if val y.num = 0 then (Rq.zero, 40) else prodQ (x.neg != y.neg) (val x.num) (val x.den) (val y.den) (val y.num) := by
  by_cases h0 : val y.num = 0
  · rw [if_pos h0]; unfold divR; rw [if_pos ⟨hx, hy⟩, if_pos h0]
  · rw [if_neg h0]
    unfold prodQ
    by_cases h : fits (val x.num * val y.den) ∧ fits (val x.den * val y.num)
    · rw [if_pos h, divR_some hx hy h0 h.1 h.2]
    · rw [if_neg h, divR_none hx hy h0 h]
/-- The operation's own part, for valid numbers. -/
theorem mul_body {x y z : Rq} {er : Int} (hx : okR x) (hy : okR y) (hM : Hid (mulR x y = (z, er))) {n1 n2 : Bool} (A1 A2 A3 A4 : Option Addr) (c1 c2 c3 c4 k1 k2 k3 k4 : Nat) (w : World)
    (h5 : RqS w A1 c1 A2 c2 x) (h6 : RqS w A3 c3 A4 c4 y) (e1 : x.neg = n1) (e2 : y.neg = n2) (h1 : x.num.length = k1) (h2 : x.den.length = k2) (h3 : y.num.length = k3) (h4 : y.den.length = k4) :
    Calls Try.prog 49 #[.agg #[.bool n1, .slice A1 k1 c1, .slice A2 k2 c2, .bool n2, .slice A3 k3 c3, .slice A4 k4 c4]] w (RqE w z er) := by
  obtain ⟨m1, hm1, l1⟩ := limbs_of_chk (chk2_zero hx.1).1
  obtain ⟨m2, hm2, l2⟩ := limbs_of_chk (chk2_zero hx.1).2
  obtain ⟨m3, hm3, l3⟩ := limbs_of_chk (chk2_zero hy.1).1
  obtain ⟨m4, hm4, l4⟩ := limbs_of_chk (chk2_zero hy.1).2
  have z2 := hx.2.1
  have z4 := hy.2.1
  have hq := mulR_prod hx hy
  obtain ⟨ng1, a1, b1⟩ := x
  obtain ⟨ng2, a2, b2⟩ := y
  obtain ⟨s1, s2⟩ := h5
  obtain ⟨s3, s4⟩ := h6
  simp only at hm1 hm2 hm3 hm4 z2 z4 e1 e2 h1 h2 h3 h4 s1 s2 s3 s4 hq
  subst hm1 hm2 hm3 hm4 e1 e2
  simp only [val_limbs] at z2 z4 hq
  exact product_any ng1 ng2 A1 A2 A3 A4 c1 c2 c3 c4 k1 k2 k3 k4 m1 m2 m3 m4 z er w s1 s2 s3 s4 h1 h2 h3 h4 (by omega) (by omega) (by omega) (by omega) z2 z4 (hq.symm.trans hM.out)
set_option maxRecDepth 100000 in
set_option maxHeartbeats 4000000 in
theorem qMul_any (x y z : Rq) (er : Int) (A1 A2 A3 A4 : Option Addr) (c1 c2 c3 c4 k1 k2 k3 k4 : Nat) (n1 n2 : Bool) (w : World)
    (hx : RqS w A1 c1 A2 c2 x) (hy : RqS w A3 c3 A4 c4 y) (e1 : x.neg = n1) (e2 : y.neg = n2) (h1 : x.num.length = k1) (h2 : x.den.length = k2) (h3 : y.num.length = k3) (h4 : y.den.length = k4)
    (hM : Hid (mulR x y = (z, er))) :
    Calls Try.prog 26 #[.agg #[.bool n1, .slice A1 k1 c1, .slice A2 k2 c2], .agg #[.bool n2, .slice A3 k3 c3, .slice A4 k4 c4]] w (RqE w z er) := by
  have hmf : ∀ (fn : Fn) (first cap : Array Value) (w : World), (Instr.makeFunc fn first cap).run Try.prog w = .ok (.func fn first cap) w := fun _ _ _ _ => rfl
  have HP := Lib.hid (fun wx bs (hk : Kp w bs wx) => performMul_any n1 n2 x y z er A1 A2 A3 A4 c1 c2 c3 c4 k1 k2 k3 k4 wx (hx.to hk.1) (hy.to hk.1) e1 e2 h1 h2 h3 h4
    (fun ho wy hb => mul_body ho.1 ho.2 hM A1 A2 A3 A4 c1 c2 c3 c4 k1 k2 k3 k4 wy ((hx.to hk.1).to hb) ((hy.to hk.1).to hb) e1 e2 h1 h2 h3 h4)
    (fun ho => by have := hM.out; rw [mulR_bad ho] at this; simpa using this))
  have hK := (((Kp.refl w).alloc #[.bool n1, .slice A1 k1 c1, .slice A2 k2 c2] 27 _ rfl).alloc #[.bool n2, .slice A3 k3 c3, .slice A4 k4 c4] 27 (w.heap.size + 1) (by simp)).alloc #[.bool false, .slice none 0 0, .slice none 0 0] 27 (w.heap.size + 1 + 1) (by simp)
  have HK := Lib.hid (hK.alloc #[.bool n1, .slice A1 k1 c1, .slice A2 k2 c2, .bool n2, .slice A3 k3 c3, .slice A4 k4 c4] 63 (w.heap.size + 1 + 1 + 1) (by simp))
  clear hK hM hx hy e1 e2 h1 h2 h3 h4
  go_enter Try.func26, Try.ntmps26
  go_wp2_with fail
  refine (HP.out _ _ HK.out).mono ?_
  rintro e w1 ⟨A5, c5, A6, c6, rfl, hs5, hb1⟩
  have HK1 := Lib.hid (HK.out.next hb1)
  have HS5 := Lib.hid hs5
  have HB := Lib.hid HK1.out.blk1
  clear hb1 hs5
  go_wp2_with (first
    | (with_reducible refine wpList_store_rq rfl (.tmp 4) (.tmp 14) rfl (w.heap.size + 1 + 1) rfl HB.out rfl (A := A5) (c := c5) (B := A6) (d := c6) (x := z) rfl ?_; intro w6 hb6 hg6))
  refine rq_ret2 rfl rfl hb6 rfl rfl ⟨A5, c5, A6, c6, rfl, HS5.out.off HB.out (noU_rq _ _ _ _ _ _ _) hg6, below_own HK1.out.1 hg6 (by omega)⟩
/-- The operation's own part, for valid numbers. -/
theorem div_body {x y z : Rq} {er : Int} (hx : okR x) (hy : okR y) (hM : Hid (divR x y = (z, er))) {n1 n2 : Bool} (A1 A2 A3 A4 : Option Addr) (c1 c2 c3 c4 k1 k2 k3 k4 : Nat) (w : World)
    (h5 : RqS w A1 c1 A2 c2 x) (h6 : RqS w A3 c3 A4 c4 y) (e1 : x.neg = n1) (e2 : y.neg = n2) (h1 : x.num.length = k1) (h2 : x.den.length = k2) (h3 : y.num.length = k3) (h4 : y.den.length = k4) :
    Calls Try.prog 50 #[.agg #[.bool n1, .slice A1 k1 c1, .slice A2 k2 c2, .bool n2, .slice A3 k3 c3, .slice A4 k4 c4]] w (RqE w z er) := by
  obtain ⟨m1, hm1, l1⟩ := limbs_of_chk (chk2_zero hx.1).1
  obtain ⟨m2, hm2, l2⟩ := limbs_of_chk (chk2_zero hx.1).2
  obtain ⟨m3, hm3, l3⟩ := limbs_of_chk (chk2_zero hy.1).1
  obtain ⟨m4, hm4, l4⟩ := limbs_of_chk (chk2_zero hy.1).2
  have z2 := hx.2.1
  have z4 := hy.2.1
  have hq := divR_prod hx hy
  obtain ⟨ng1, a1, b1⟩ := x
  obtain ⟨ng2, a2, b2⟩ := y
  obtain ⟨s1, s2⟩ := h5
  obtain ⟨s3, s4⟩ := h6
  simp only at hm1 hm2 hm3 hm4 z2 z4 e1 e2 h1 h2 h3 h4 s1 s2 s3 s4 hq
  subst hm1 hm2 hm3 hm4 e1 e2
  simp only [val_limbs] at z2 z4 hq
  exact quotient_any ng1 ng2 A1 A2 A3 A4 c1 c2 c3 c4 k1 k2 k3 k4 m1 m2 m3 m4 z er w s1 s2 s3 s4 h1 h2 h3 h4 (by omega) (by omega) (by omega) (by omega) z2 z4 (hq.symm.trans hM.out)
set_option maxRecDepth 100000 in
set_option maxHeartbeats 4000000 in
theorem qDiv_any (x y z : Rq) (er : Int) (A1 A2 A3 A4 : Option Addr) (c1 c2 c3 c4 k1 k2 k3 k4 : Nat) (n1 n2 : Bool) (w : World)
    (hx : RqS w A1 c1 A2 c2 x) (hy : RqS w A3 c3 A4 c4 y) (e1 : x.neg = n1) (e2 : y.neg = n2) (h1 : x.num.length = k1) (h2 : x.den.length = k2) (h3 : y.num.length = k3) (h4 : y.den.length = k4)
    (hM : Hid (divR x y = (z, er))) :
    Calls Try.prog 27 #[.agg #[.bool n1, .slice A1 k1 c1, .slice A2 k2 c2], .agg #[.bool n2, .slice A3 k3 c3, .slice A4 k4 c4]] w (RqE w z er) := by
  have hmf : ∀ (fn : Fn) (first cap : Array Value) (w : World), (Instr.makeFunc fn first cap).run Try.prog w = .ok (.func fn first cap) w := fun _ _ _ _ => rfl
  have HP := Lib.hid (fun wx bs (hk : Kp w bs wx) => performDiv_any n1 n2 x y z er A1 A2 A3 A4 c1 c2 c3 c4 k1 k2 k3 k4 wx (hx.to hk.1) (hy.to hk.1) e1 e2 h1 h2 h3 h4
    (fun ho wy hb => div_body ho.1 ho.2 hM A1 A2 A3 A4 c1 c2 c3 c4 k1 k2 k3 k4 wy ((hx.to hk.1).to hb) ((hy.to hk.1).to hb) e1 e2 h1 h2 h3 h4)
    (fun ho => by have := hM.out; rw [divR_bad ho] at this; simpa using this))
  have hK := (((Kp.refl w).alloc #[.bool n1, .slice A1 k1 c1, .slice A2 k2 c2] 27 _ rfl).alloc #[.bool n2, .slice A3 k3 c3, .slice A4 k4 c4] 27 (w.heap.size + 1) (by simp)).alloc #[.bool false, .slice none 0 0, .slice none 0 0] 27 (w.heap.size + 1 + 1) (by simp)
  have HK := Lib.hid (hK.alloc #[.bool n1, .slice A1 k1 c1, .slice A2 k2 c2, .bool n2, .slice A3 k3 c3, .slice A4 k4 c4] 63 (w.heap.size + 1 + 1 + 1) (by simp))
  clear hK hM hx hy e1 e2 h1 h2 h3 h4
  go_enter Try.func27, Try.ntmps27
  go_wp2_with fail
  refine (HP.out _ _ HK.out).mono ?_
  rintro e w1 ⟨A5, c5, A6, c6, rfl, hs5, hb1⟩
  have HK1 := Lib.hid (HK.out.next hb1)
  have HS5 := Lib.hid hs5
  have HB := Lib.hid HK1.out.blk1
  clear hb1 hs5
  go_wp2_with (first
    | (with_reducible refine wpList_store_rq rfl (.tmp 4) (.tmp 14) rfl (w.heap.size + 1 + 1) rfl HB.out rfl (A := A5) (c := c5) (B := A6) (d := c6) (x := z) rfl ?_; intro w6 hb6 hg6))
  refine rq_ret2 rfl rfl hb6 rfl rfl ⟨A5, c5, A6, c6, rfl, HS5.out.off HB.out (noU_rq _ _ _ _ _ _ _) hg6, below_own HK1.out.1 hg6 (by omega)⟩
end Go.Proofs.Ytefoccjphbbmhaa
