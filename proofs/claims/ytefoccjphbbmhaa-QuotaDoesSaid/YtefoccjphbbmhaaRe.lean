/- ratio's products; a pair of two numbers. -/
import Derived.Test.YtefoccjphbbmhaaRd
import Derived.Deep.MidRow
namespace Go.Proofs.Ytefoccjphbbmhaa
open Go.RowKit
set_option linter.unusedVariables false

/-- What products answers. -/
def PrP (w : World) (p q : List UInt32) (er : Int) (e : Ending) (w' : World) : Prop := ∃ A c B d, e = .returned (.tuple #[.slice A p.length c, .slice B q.length d, .int .i64 er]) ∧ Sl w' A c p ∧ Sl w' B d q ∧ Below w.heap.size w w'
set_option maxRecDepth 100000 in
set_option maxHeartbeats 2000000 in
theorem products_any (A1 A2 A3 A4 : Option Addr) (c1 c2 c3 c4 k1 k2 k3 k4 m1 m2 m3 m4 : Nat) (p q : List UInt32) (er : Int) (w : World)
    (hs1 : Sl w A1 c1 (limbs m1)) (hs2 : Sl w A2 c2 (limbs m2)) (hs3 : Sl w A3 c3 (limbs m3)) (hs4 : Sl w A4 c4 (limbs m4))
    (h1 : (limbs m1).length = k1) (h2 : (limbs m2).length = k2) (h3 : (limbs m3).length = k3) (h4 : (limbs m4).length = k4)
    (l1 : k1 ≤ 96) (l2 : k2 ≤ 96) (l3 : k3 ≤ 96) (l4 : k4 ≤ 96)
    (hM : Hid ((if fits (m1 * m2) ∧ fits (m3 * m4) then ((limbs (m1 * m2), limbs (m3 * m4)), (0 : Int)) else (([], []), 30)) = ((p, q), er))) :
    Calls Try.prog 75 #[.slice A1 k1 c1, .slice A2 k2 c2, .slice A3 k3 c3, .slice A4 k4 c4] w (PrP w p q er) := by
  have X1 : mulM (limbs m1) (limbs m2) = numM (m1 * m2) := by rw [mulM_ok (chk2_limbs (by omega) (by omega)), val_limbs, val_limbs]
  have X2 : mulM (limbs m3) (limbs m4) = numM (m3 * m4) := by rw [mulM_ok (chk2_limbs (by omega) (by omega)), val_limbs, val_limbs]
  by_cases f1 : fits (m1 * m2)
  · rw [numM_ok f1] at X1
    obtain ⟨u, hu⟩ : ∃ u, u = limbs (m1 * m2) := ⟨_, rfl⟩
    rw [← hu] at X1 hM
    have H1 := Lib.hid (mul_c A1 A2 c1 c2 k1 k2 (limbs m1) (limbs m2) w u 0 hs1 hs2 h1 h2 X1)
    by_cases f2 : fits (m3 * m4)
    · rw [numM_ok f2] at X2
      obtain ⟨v, hv⟩ : ∃ u, u = limbs (m3 * m4) := ⟨_, rfl⟩
      rw [← hv] at X2 hM
      have H2 := Lib.hid (fun wx (hb : Below w.heap.size w wx) => mul_c A3 A4 c3 c4 k3 k4 (limbs m3) (limbs m4) wx v 0 (hs3.to hb) (hs4.to hb) h3 h4 X2)
      obtain ⟨⟨rfl, rfl⟩, rfl⟩ : (u = p ∧ v = q) ∧ 0 = er := by have := hM.out; rw [if_pos ⟨f1, f2⟩] at this; simpa using this
      clear hM X1 X2 hu hv f1 f2 h1 h2 h3 h4 hs1 hs2 hs3 hs4
      go_enter Try.func75, Try.ntmps75
      go_wp2_with fail
      refine H1.out.mono ?_
      rintro e w1 ⟨A, c, rfl, hs1, hb1⟩
      have HB1 := Lib.hid hb1
      have HS1 := Lib.hid hs1
      clear hb1 hs1
      go_wp2_with fail
      refine (H2.out _ HB1.out).mono ?_
      rintro e w2 ⟨B, d, rfl, hs2, hb2⟩
      have HB2 := Lib.hid hb2
      have HS2 := Lib.hid hs2
      clear hb2 hs2
      go_wp2_with fail
      go_ret3
      exact ⟨A, c, B, d, rfl, HS1.out.to HB2.out, HS2.out, HB1.out.trans (HB2.out.mono HB1.out.size)⟩
    · rw [numM_great f2] at X2
      have H2 := Lib.hid (fun wx (hb : Below w.heap.size w wx) => mul_c A3 A4 c3 c4 k3 k4 (limbs m3) (limbs m4) wx [] 30 (hs3.to hb) (hs4.to hb) h3 h4 X2)
      obtain ⟨⟨rfl, rfl⟩, rfl⟩ : ([] = p ∧ [] = q) ∧ 30 = er := by have := hM.out; rw [if_neg (fun h => f2 h.2)] at this; simpa using this
      clear hM X1 X2 hu f1 f2 h1 h2 h3 h4 hs1 hs2 hs3 hs4
      go_enter Try.func75, Try.ntmps75
      go_wp2_with fail
      refine H1.out.mono ?_
      rintro e w1 ⟨A, c, rfl, hs1, hb1⟩
      have HB1 := Lib.hid hb1
      clear hb1 hs1
      go_wp2_with fail
      refine (H2.out _ HB1.out).mono ?_
      rintro e w2 ⟨B, d, rfl, hs2, hb2⟩
      have HB2 := Lib.hid hb2
      clear hb2 hs2
      go_wp2_with fail
      go_ret3
      exact ⟨none, 0, none, 0, rfl, Sl.nil _, Sl.nil _, HB1.out.trans (HB2.out.mono HB1.out.size)⟩
  · rw [numM_great f1] at X1
    have H1 := Lib.hid (mul_c A1 A2 c1 c2 k1 k2 (limbs m1) (limbs m2) w [] 30 hs1 hs2 h1 h2 X1)
    obtain ⟨⟨rfl, rfl⟩, rfl⟩ : ([] = p ∧ [] = q) ∧ 30 = er := by have := hM.out; rw [if_neg (fun h => f1 h.1)] at this; simpa using this
    clear hM X1 X2 f1 h1 h2 h3 h4 hs1 hs2 hs3 hs4
    go_enter Try.func75, Try.ntmps75
    go_wp2_with fail
    refine H1.out.mono ?_
    rintro e w1 ⟨A, c, rfl, hs1, hb1⟩
    have HB1 := Lib.hid hb1
    clear hb1 hs1
    go_wp2_with fail
    go_ret3
    exact ⟨none, 0, none, 0, rfl, Sl.nil _, Sl.nil _, HB1.out⟩

/-- The cells of a pair of numbers. -/
theorem wpList_load_fst {w : World} {ops : Array Oper} {rest : List Oper} {o : Oper} {a : Act} {Q : Exit → Act → World → Prop} (hw : Region.wanted o (yielded ops a.tmps) = true) (y : Operand) (ho : o.op = .load 27 y)
    (g : Nat) (hx : a.eval y = .pointer (some ⟨g, 0, none⟩)) {t : TypeId} {v0 v1 v2 v3 v4 v5 : Value} (hB : Blk w g t #[v0, v1, v2, v3, v4, v5]) (h : wpList Try.prog ops Q rest (a.put o.dst (.agg #[v0, v1, v2])) w) : wpList Try.prog ops Q (o :: rest) a w :=
  BigFrame.wpList_want hw fun K hK => wp_load_mid _ y ho g 0 hx [v0, v1, v2] _ (World.rangeAt_of_block hB 0 3) Try.underlying27 rfl size_rq (hK _ _ h)
theorem wpList_load_snd {w : World} {ops : Array Oper} {rest : List Oper} {o : Oper} {a : Act} {Q : Exit → Act → World → Prop} (hw : Region.wanted o (yielded ops a.tmps) = true) (y : Operand) (ho : o.op = .load 27 y)
    (g : Nat) (hx : a.eval y = .pointer (some ⟨g, 3, none⟩)) {t : TypeId} {v0 v1 v2 v3 v4 v5 : Value} (hB : Blk w g t #[v0, v1, v2, v3, v4, v5]) (h : wpList Try.prog ops Q rest (a.put o.dst (.agg #[v3, v4, v5])) w) : wpList Try.prog ops Q (o :: rest) a w :=
  BigFrame.wpList_want hw fun K hK => wp_load_mid _ y ho g 3 hx [v3, v4, v5] _ (World.rangeAt_of_block hB 3 3) Try.underlying27 rfl size_rq (hK _ _ h)

/-- What a product of two sizes over two others is. -/
def prodQ (b : Bool) (m1 m2 m3 m4 : Nat) : Rq × Int := if fits (m1 * m3) ∧ fits (m2 * m4) then (low b (m1 * m3) (m2 * m4), 0) else (Rq.zero, 30)
set_option maxRecDepth 100000 in
set_option maxHeartbeats 4000000 in
theorem product_any (n1 n2 : Bool) (A1 A2 A3 A4 : Option Addr) (c1 c2 c3 c4 k1 k2 k3 k4 m1 m2 m3 m4 : Nat) (z : Rq) (er : Int) (w : World)
    (hs1 : Sl w A1 c1 (limbs m1)) (hs2 : Sl w A2 c2 (limbs m2)) (hs3 : Sl w A3 c3 (limbs m3)) (hs4 : Sl w A4 c4 (limbs m4))
    (h1 : (limbs m1).length = k1) (h2 : (limbs m2).length = k2) (h3 : (limbs m3).length = k3) (h4 : (limbs m4).length = k4)
    (l1 : k1 ≤ 96) (l2 : k2 ≤ 96) (l3 : k3 ≤ 96) (l4 : k4 ≤ 96) (z2 : m2 ≠ 0) (z4 : m4 ≠ 0) (hM : Hid (prodQ (n1 != n2) m1 m2 m3 m4 = (z, er))) :
    Calls Try.prog 49 #[.agg #[.bool n1, .slice A1 k1 c1, .slice A2 k2 c2, .bool n2, .slice A3 k3 c3, .slice A4 k4 c4]] w (RqE w z er) := by
  have hK := ((Kp.refl w).alloc #[.bool n1, .slice A1 k1 c1, .slice A2 k2 c2, .bool n2, .slice A3 k3 c3, .slice A4 k4 c4] 63 _ rfl).alloc #[.bool false, .slice none 0 0, .slice none 0 0] 27 (w.heap.size + 1) (by simp)
  have HK := Lib.hid hK
  clear hK
  by_cases hf : fits (m1 * m3) ∧ fits (m2 * m4)
  · obtain ⟨hz, rfl⟩ : low (n1 != n2) (m1 * m3) (m2 * m4) = z ∧ 0 = er := by have := hM.out; unfold prodQ at this; rw [if_pos hf] at this; simpa using this
    have HP := Lib.hid (fun wx bs (hk : Kp w bs wx) => products_any A1 A3 A2 A4 c1 c3 c2 c4 k1 k3 k2 k4 m1 m3 m2 m4 (limbs (m1 * m3)) (limbs (m2 * m4)) 0 wx (hk.sl hs1) (hk.sl hs3) (hk.sl hs2) (hk.sl hs4) h1 h3 h2 h4 l1 l3 l2 l4 (by show _ = _; rw [if_pos hf]))
    obtain ⟨p, hp⟩ : ∃ p, p = m1 * m3 := ⟨_, rfl⟩
    obtain ⟨q, hq⟩ : ∃ p, p = m2 * m4 := ⟨_, rfl⟩
    have hq0 : q ≠ 0 := by rw [hq]; exact Nat.mul_ne_zero z2 z4
    unfold fits at hf
    rw [← hp, ← hq] at HP hf hz
    obtain ⟨kp, hkp⟩ : ∃ k, (limbs p).length = k := ⟨_, rfl⟩
    obtain ⟨kq, hkq⟩ : ∃ k, (limbs q).length = k := ⟨_, rfl⟩
    have HL := Lib.hid (fun wx (A B : Option Addr) (c d : Nat) (h1 : Sl wx A c (limbs p)) (h2 : Sl wx B d (limbs q)) => lowest_any (n1 != n2) A B c d p q kp kq wx h1 h2 hkp hkq (by omega) (by omega) hq0)
    unfold PrP at HP
    rw [hkp, hkq] at HP
    rw [hz] at HL
    clear hM hf hp hq hq0 hkp hkq hz h1 h2 h3 h4 l1 l2 l3 l4 z2 z4 hs1 hs2 hs3 hs4
    go_enter Try.func49, Try.ntmps49
    go_wp2_with fail
    refine (HP.out _ _ HK.out).mono ?_
    rintro e w1 ⟨A5, c5, A6, c6, rfl, hs5, hs6, hb1⟩
    have HK1 := Lib.hid (HK.out.next hb1)
    have HS5 := Lib.hid hs5
    have HS6 := Lib.hid hs6
    have x0 := HK1.out.blk1.at_ 0 rfl
    have x3 := HK1.out.blk1.at_ 3 rfl
    clear hb1 hs5 hs6
    go_wp2_with fail
    refine (HL.out _ _ _ _ _ HS5.out HS6.out).mono ?_
    rintro e w2 ⟨A7, c7, A8, c8, rfl, hs7, hb2⟩
    have HK2 := Lib.hid (HK1.out.next hb2)
    have HS7 := Lib.hid hs7
    have HB := Lib.hid HK2.out.blk0
    clear hb2 hs7 x0 x3
    go_wp2_with (first
      | (with_reducible refine wpList_store_rq rfl (.tmp 2) (.tmp 38) rfl (w.heap.size + 1) rfl HB.out rfl (A := A7) (c := c7) (B := A8) (d := c8) (x := z) rfl ?_; intro w6 hb6 hg6))
    refine rq_ret2 rfl rfl hb6 rfl rfl ⟨A7, c7, A8, c8, rfl, HS7.out.off HB.out (noU_rq _ _ _ _ _ _ _) hg6, below_own HK2.out.1 hg6 (by omega)⟩
  · obtain ⟨rfl, rfl⟩ : Rq.zero = z ∧ 30 = er := by have := hM.out; unfold prodQ at this; rw [if_neg hf] at this; simpa using this
    have HP := Lib.hid (fun wx bs (hk : Kp w bs wx) => products_any A1 A3 A2 A4 c1 c3 c2 c4 k1 k3 k2 k4 m1 m3 m2 m4 [] [] 30 wx (hk.sl hs1) (hk.sl hs3) (hk.sl hs2) (hk.sl hs4) h1 h3 h2 h4 l1 l3 l2 l4 (by show _ = _; rw [if_neg hf]))
    clear hM hf h1 h2 h3 h4 l1 l2 l3 l4 z2 z4 hs1 hs2 hs3 hs4
    go_enter Try.func49, Try.ntmps49
    go_wp2_with fail
    refine (HP.out _ _ HK.out).mono ?_
    rintro e w1 ⟨A5, c5, A6, c6, rfl, hs5, hs6, hb1⟩
    have HK1 := Lib.hid (HK.out.next hb1)
    have HB := Lib.hid HK1.out.blk0
    clear hb1 hs5 hs6
    go_wp2_with (first
      | (with_reducible refine wpList_store_rq rfl (.tmp 2) (.tmp 26) rfl (w.heap.size + 1) rfl HB.out rfl (A := none) (c := 0) (B := none) (d := 0) (x := Rq.zero) rfl ?_; intro w6 hb6 hg6))
    refine rq_ret2 rfl rfl hb6 rfl rfl ⟨none, 0, none, 0, rfl, RqS.zero _, below_own HK1.out.1 hg6 (by omega)⟩
end Go.Proofs.Ytefoccjphbbmhaa
