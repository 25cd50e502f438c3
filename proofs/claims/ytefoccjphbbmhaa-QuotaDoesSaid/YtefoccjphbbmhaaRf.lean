/- ratio's quotient, perform, Mul, Div. -/
import Derived.Test.YtefoccjphbbmhaaRe
namespace Go.Proofs.Ytefoccjphbbmhaa
open Go.RowKit
set_option linter.unusedVariables false

set_option maxRecDepth 100000 in
set_option maxHeartbeats 4000000 in
theorem quotient_any (n1 n2 : Bool) (A1 A2 A3 A4 : Option Addr) (c1 c2 c3 c4 k1 k2 k3 k4 m1 m2 m3 m4 : Nat) (z : Rq) (er : Int) (w : World)
    (hs1 : Sl w A1 c1 (limbs m1)) (hs2 : Sl w A2 c2 (limbs m2)) (hs3 : Sl w A3 c3 (limbs m3)) (hs4 : Sl w A4 c4 (limbs m4))
    (h1 : (limbs m1).length = k1) (h2 : (limbs m2).length = k2) (h3 : (limbs m3).length = k3) (h4 : (limbs m4).length = k4)
    (l1 : k1 ≤ 96) (l2 : k2 ≤ 96) (l3 : k3 ≤ 96) (l4 : k4 ≤ 96) (z2 : m2 ≠ 0) (z4 : m4 ≠ 0) (hM : Hid ((if m3 = 0 then (Rq.zero, 40) else prodQ (n1 != n2) m1 m2 m4 m3) = (z, er))) :
    Calls Try.prog 50 #[.agg #[.bool n1, .slice A1 k1 c1, .slice A2 k2 c2, .bool n2, .slice A3 k3 c3, .slice A4 k4 c4]] w (RqE w z er) := by
  have hK := ((Kp.refl w).alloc #[.bool n1, .slice A1 k1 c1, .slice A2 k2 c2, .bool n2, .slice A3 k3 c3, .slice A4 k4 c4] 63 _ rfl).alloc #[.bool false, .slice none 0 0, .slice none 0 0] 27 (w.heap.size + 1) (by simp)
  have HK := Lib.hid hK
  clear hK
  have HZ := Lib.hid (fun wx => isZero_any n2 A3 A4 k3 c3 k4 c4 wx)
  by_cases hz : m3 = 0
  · obtain ⟨rfl, rfl⟩ : Rq.zero = z ∧ 40 = er := by have := hM.out; rw [if_pos hz] at this; simpa using this
    have hk3 : ((k3 : Int) == 0) = true := by rw [← h3, limbs_len_eq_zero.2 hz]; rfl
    rw [hk3] at HZ
    clear hM hz hk3 h1 h2 h3 h4 l1 l2 l3 l4 z2 z4 hs1 hs2 hs3 hs4
    go_enter Try.func50, Try.ntmps50
    go_wp2_with fail
    refine (HZ.out _).mono ?_
    rintro e w1 ⟨rfl, hb1⟩
    have HK1 := Lib.hid (HK.out.next hb1)
    have HB := Lib.hid HK1.out.blk0
    clear hb1
    go_wp2_with (first
      | (with_reducible refine wpList_store_rq rfl (.tmp 2) (.tmp 8) rfl (w.heap.size + 1) rfl HB.out rfl (A := none) (c := 0) (B := none) (d := 0) (x := Rq.zero) rfl ?_; intro w6 hb6 hg6))
    refine rq_ret2 rfl rfl hb6 rfl rfl ⟨none, 0, none, 0, rfl, RqS.zero _, below_own HK1.out.1 hg6 (by omega)⟩
  · have hM2 := Lib.hid (show prodQ (n1 != n2) m1 m2 m4 m3 = (z, er) by have := hM.out; rw [if_neg hz] at this; exact this)
    have HP := Lib.hid (fun wx bs (hk : Kp w bs wx) => product_any n1 n2 A1 A2 A4 A3 c1 c2 c4 c3 k1 k2 k4 k3 m1 m2 m4 m3 z er wx (hk.sl hs1) (hk.sl hs2) (hk.sl hs4) (hk.sl hs3) h1 h2 h4 h3 l1 l2 l4 l3 z2 hz hM2.out)
    have hk3 : ((k3 : Int) == 0) = false := by
      rw [beq_eq_false_iff_ne, ← h3]; intro e; exact hz (limbs_len_eq_zero.1 (by omega))
    rw [hk3] at HZ
    clear hM hM2 hz hk3 h1 h2 h3 h4 l1 l2 l3 l4 z2 z4 hs1 hs2 hs3 hs4
    go_enter Try.func50, Try.ntmps50
    go_wp2_with fail
    refine (HZ.out _).mono ?_
    rintro e w1 ⟨rfl, hb1⟩
    have HK1 := Lib.hid (HK.out.next hb1)
    have x3 := HK1.out.blk1.at_ 3 rfl
    have x4 := HK1.out.blk1.at_ 4 rfl
    have x5 := HK1.out.blk1.at_ 5 rfl
    have hlt := HK1.out.1.size
    have HK2 := Lib.hid (HK1.out.alloc #[.bool n2, .slice A4 k4 c4, .slice A3 k3 c3] 27 _ rfl)
    clear hb1
    go_wp2_with (first
      | (with_reducible refine wpList_load_fst (by kernel_rfl) (.tmp 19) rfl w.heap.size rfl HK2.out.blk2 ?_))
    refine (HP.out _ _ HK2.out).mono ?_
    rintro e w2 ⟨A5, c5, A6, c6, rfl, hs5, hb2⟩
    have HK3 := Lib.hid (HK2.out.next hb2)
    have HS5 := Lib.hid hs5
    have HB := Lib.hid HK3.out.blk1
    clear hb2 hs5 x3 x4 x5
    go_wp2_with (first
      | (with_reducible refine wpList_store_rq rfl (.tmp 2) (.tmp 24) rfl (w.heap.size + 1) rfl HB.out rfl (A := A5) (c := c5) (B := A6) (d := c6) (x := z) rfl ?_; intro w6 hb6 hg6))
    refine rq_ret2 rfl rfl hb6 rfl rfl ⟨A5, c5, A6, c6, rfl, HS5.out.off HB.out (noU_rq _ _ _ _ _ _ _) hg6, below_own HK3.out.1 hg6 (by omega)⟩

set_option maxRecDepth 100000 in
set_option maxHeartbeats 4000000 in
theorem performMul_any (n1 n2 : Bool) (x y z : Rq) (er : Int) (A1 A2 A3 A4 : Option Addr) (c1 c2 c3 c4 k1 k2 k3 k4 : Nat) (w : World)
    (hx : RqS w A1 c1 A2 c2 x) (hy : RqS w A3 c3 A4 c4 y) (e1 : x.neg = n1) (e2 : y.neg = n2) (h1 : x.num.length = k1) (h2 : x.den.length = k2) (h3 : y.num.length = k3) (h4 : y.den.length = k4)
    (hF : okR x ∧ okR y → ∀ wx, Below w.heap.size w wx → Calls Try.prog 49 #[.agg #[.bool n1, .slice A1 k1 c1, .slice A2 k2 c2, .bool n2, .slice A3 k3 c3, .slice A4 k4 c4]] wx (RqE wx z er))
    (hN : ¬ (okR x ∧ okR y) → Rq.zero = z ∧ 8 = er) :
    Calls Try.prog 48 #[.agg #[.bool n1, .slice A1 k1 c1, .slice A2 k2 c2, .bool n2, .slice A3 k3 c3, .slice A4 k4 c4], .func (.func 49) #[.agg #[.bool n1, .slice A1 k1 c1, .slice A2 k2 c2, .bool n2, .slice A3 k3 c3, .slice A4 k4 c4]] #[]] w (RqE w z er) := by
  have HX := Lib.hid (fun wx bs (hk : Kp w bs wx) u (hu : chkR x = u) => qCheck_any x A1 A2 c1 c2 k1 k2 u wx (hx.to hk.1) h1 h2 hu)
  have HY := Lib.hid (fun wx bs (hk : Kp w bs wx) u (hu : chkR y = u) => qCheck_any y A3 A4 c3 c4 k3 k4 u wx (hy.to hk.1) h3 h4 hu)
  rw [e1] at HX
  rw [e2] at HY
  have hK := ((Kp.refl w).alloc #[.bool n1, .slice A1 k1 c1, .slice A2 k2 c2, .bool n2, .slice A3 k3 c3, .slice A4 k4 c4] 63 _ rfl).alloc #[.bool false, .slice none 0 0, .slice none 0 0] 27 (w.heap.size + 1) (by simp)
  have HK := Lib.hid hK
  clear hK hx hy h1 h2 h3 h4 e1 e2
  by_cases ho : okR x
  · have HOX := Lib.hid (chkR_ok ho)
    by_cases ho2 : okR y
    · have HOY := Lib.hid (chkR_ok ho2)
      have HF := Lib.hid (hF ⟨ho, ho2⟩)
      clear hF hN ho ho2
      go_enter Try.func48, Try.ntmps48
      go_wp2_with (first
        | (with_reducible refine wpList_load_fst (by kernel_rfl) (.tmp 7) rfl w.heap.size rfl HK.out.blk1 ?_))
      refine (HX.out _ _ HK.out 0 HOX.out).mono ?_
      rintro e w1 ⟨rfl, hb1⟩
      have HK1 := Lib.hid (HK.out.next hb1)
      clear hb1
      go_wp2_with (first
        | (with_reducible refine wpList_load_snd (by kernel_rfl) (.tmp 12) rfl w.heap.size rfl HK1.out.blk1 ?_))
      refine (HY.out _ _ HK1.out 0 HOY.out).mono ?_
      rintro e w2 ⟨rfl, hb2⟩
      have HK2 := Lib.hid (HK1.out.next hb2)
      clear hb2
      go_wp2_with fail
      refine (HF.out _ HK2.out.1).mono ?_
      rintro e w3 ⟨A5, c5, A6, c6, rfl, hs5, hb3⟩
      have HK3 := Lib.hid (HK2.out.next hb3)
      have HS5 := Lib.hid hs5
      have HB := Lib.hid HK3.out.blk0
      clear hb3 hs5
      go_wp2_with (first
        | (with_reducible refine wpList_store_rq rfl (.tmp 4) (.tmp 20) rfl (w.heap.size + 1) rfl HB.out rfl (A := A5) (c := c5) (B := A6) (d := c6) (x := z) rfl ?_; intro w6 hb6 hg6))
      refine rq_ret2 rfl rfl hb6 rfl rfl ⟨A5, c5, A6, c6, rfl, HS5.out.off HB.out (noU_rq _ _ _ _ _ _ _) hg6, below_own HK3.out.1 hg6 (by omega)⟩
    · have HOY := Lib.hid (chkR_no ho2)
      obtain ⟨rfl, rfl⟩ := hN (fun h => ho2 h.2)
      clear hF hN ho ho2
      go_enter Try.func48, Try.ntmps48
      go_wp2_with (first
        | (with_reducible refine wpList_load_fst (by kernel_rfl) (.tmp 7) rfl w.heap.size rfl HK.out.blk1 ?_))
      refine (HX.out _ _ HK.out 0 HOX.out).mono ?_
      rintro e w1 ⟨rfl, hb1⟩
      have HK1 := Lib.hid (HK.out.next hb1)
      clear hb1
      go_wp2_with (first
        | (with_reducible refine wpList_load_snd (by kernel_rfl) (.tmp 12) rfl w.heap.size rfl HK1.out.blk1 ?_))
      refine (HY.out _ _ HK1.out 8 HOY.out).mono ?_
      rintro e w2 ⟨rfl, hb2⟩
      have HK2 := Lib.hid (HK1.out.next hb2)
      have HK3 := Lib.hid (HK2.out.alloc #[.bool false, .slice none 0 0, .slice none 0 0] 27 _ rfl)
      have HB := Lib.hid HK3.out.blk1
      clear hb2
      go_wp2_with (first
        | (with_reducible refine wpList_load_rq (by kernel_rfl) (.tmp 6) rfl w2.heap.size rfl HK3.out.blk0 rfl ?_)
        | (with_reducible refine wpList_store_rq rfl (.tmp 4) (.tmp 17) rfl (w.heap.size + 1) rfl HB.out rfl (A := none) (c := 0) (B := none) (d := 0) (x := Rq.zero) rfl ?_; intro w6 hb6 hg6))
      refine rq_ret2 rfl rfl hb6 rfl rfl ⟨none, 0, none, 0, rfl, RqS.zero _, below_own HK3.out.1 hg6 (by omega)⟩
  · have HOX := Lib.hid (chkR_no ho)
    obtain ⟨rfl, rfl⟩ := hN (fun h => ho h.1)
    clear hF hN ho
    go_enter Try.func48, Try.ntmps48
    go_wp2_with (first
      | (with_reducible refine wpList_load_fst (by kernel_rfl) (.tmp 7) rfl w.heap.size rfl HK.out.blk1 ?_))
    refine (HX.out _ _ HK.out 8 HOX.out).mono ?_
    rintro e w1 ⟨rfl, hb1⟩
    have HK1 := Lib.hid (HK.out.next hb1)
    have HK3 := Lib.hid (HK1.out.alloc #[.bool false, .slice none 0 0, .slice none 0 0] 27 _ rfl)
    have HB := Lib.hid HK3.out.blk1
    clear hb1
    go_wp2_with (first
      | (with_reducible refine wpList_load_rq (by kernel_rfl) (.tmp 6) rfl w1.heap.size rfl HK3.out.blk0 rfl ?_)
      | (with_reducible refine wpList_store_rq rfl (.tmp 4) (.tmp 17) rfl (w.heap.size + 1) rfl HB.out rfl (A := none) (c := 0) (B := none) (d := 0) (x := Rq.zero) rfl ?_; intro w6 hb6 hg6))
    refine rq_ret2 rfl rfl hb6 rfl rfl ⟨none, 0, none, 0, rfl, RqS.zero _, below_own HK3.out.1 hg6 (by omega)⟩
set_option maxRecDepth 100000 in
set_option maxHeartbeats 4000000 in
theorem performDiv_any (n1 n2 : Bool) (x y z : Rq) (er : Int) (A1 A2 A3 A4 : Option Addr) (c1 c2 c3 c4 k1 k2 k3 k4 : Nat) (w : World)
    (hx : RqS w A1 c1 A2 c2 x) (hy : RqS w A3 c3 A4 c4 y) (e1 : x.neg = n1) (e2 : y.neg = n2) (h1 : x.num.length = k1) (h2 : x.den.length = k2) (h3 : y.num.length = k3) (h4 : y.den.length = k4)
    (hF : okR x ∧ okR y → ∀ wx, Below w.heap.size w wx → Calls Try.prog 50 #[.agg #[.bool n1, .slice A1 k1 c1, .slice A2 k2 c2, .bool n2, .slice A3 k3 c3, .slice A4 k4 c4]] wx (RqE wx z er))
    (hN : ¬ (okR x ∧ okR y) → Rq.zero = z ∧ 8 = er) :
    Calls Try.prog 48 #[.agg #[.bool n1, .slice A1 k1 c1, .slice A2 k2 c2, .bool n2, .slice A3 k3 c3, .slice A4 k4 c4], .func (.func 50) #[.agg #[.bool n1, .slice A1 k1 c1, .slice A2 k2 c2, .bool n2, .slice A3 k3 c3, .slice A4 k4 c4]] #[]] w (RqE w z er) := by
  have HX := Lib.hid (fun wx bs (hk : Kp w bs wx) u (hu : chkR x = u) => qCheck_any x A1 A2 c1 c2 k1 k2 u wx (hx.to hk.1) h1 h2 hu)
  have HY := Lib.hid (fun wx bs (hk : Kp w bs wx) u (hu : chkR y = u) => qCheck_any y A3 A4 c3 c4 k3 k4 u wx (hy.to hk.1) h3 h4 hu)
  rw [e1] at HX
  rw [e2] at HY
  have hK := ((Kp.refl w).alloc #[.bool n1, .slice A1 k1 c1, .slice A2 k2 c2, .bool n2, .slice A3 k3 c3, .slice A4 k4 c4] 63 _ rfl).alloc #[.bool false, .slice none 0 0, .slice none 0 0] 27 (w.heap.size + 1) (by simp)
  have HK := Lib.hid hK
  clear hK hx hy h1 h2 h3 h4 e1 e2
  by_cases ho : okR x
  · have HOX := Lib.hid (chkR_ok ho)
    by_cases ho2 : okR y
    · have HOY := Lib.hid (chkR_ok ho2)
      have HF := Lib.hid (hF ⟨ho, ho2⟩)
      clear hF hN ho ho2
      go_enter Try.func48, Try.ntmps48
      go_wp2_with (first
        | (with_reducible refine wpList_load_fst (by kernel_rfl) (.tmp 7) rfl w.heap.size rfl HK.out.blk1 ?_))
      refine (HX.out _ _ HK.out 0 HOX.out).mono ?_
      rintro e w1 ⟨rfl, hb1⟩
      have HK1 := Lib.hid (HK.out.next hb1)
      clear hb1
      go_wp2_with (first
        | (with_reducible refine wpList_load_snd (by kernel_rfl) (.tmp 12) rfl w.heap.size rfl HK1.out.blk1 ?_))
      refine (HY.out _ _ HK1.out 0 HOY.out).mono ?_
      rintro e w2 ⟨rfl, hb2⟩
      have HK2 := Lib.hid (HK1.out.next hb2)
      clear hb2
      go_wp2_with fail
      refine (HF.out _ HK2.out.1).mono ?_
      rintro e w3 ⟨A5, c5, A6, c6, rfl, hs5, hb3⟩
      have HK3 := Lib.hid (HK2.out.next hb3)
      have HS5 := Lib.hid hs5
      have HB := Lib.hid HK3.out.blk0
      clear hb3 hs5
      go_wp2_with (first
        | (with_reducible refine wpList_store_rq rfl (.tmp 4) (.tmp 20) rfl (w.heap.size + 1) rfl HB.out rfl (A := A5) (c := c5) (B := A6) (d := c6) (x := z) rfl ?_; intro w6 hb6 hg6))
      refine rq_ret2 rfl rfl hb6 rfl rfl ⟨A5, c5, A6, c6, rfl, HS5.out.off HB.out (noU_rq _ _ _ _ _ _ _) hg6, below_own HK3.out.1 hg6 (by omega)⟩
    · have HOY := Lib.hid (chkR_no ho2)
      obtain ⟨rfl, rfl⟩ := hN (fun h => ho2 h.2)
      clear hF hN ho ho2
      go_enter Try.func48, Try.ntmps48
      go_wp2_with (first
        | (with_reducible refine wpList_load_fst (by kernel_rfl) (.tmp 7) rfl w.heap.size rfl HK.out.blk1 ?_))
      refine (HX.out _ _ HK.out 0 HOX.out).mono ?_
      rintro e w1 ⟨rfl, hb1⟩
      have HK1 := Lib.hid (HK.out.next hb1)
      clear hb1
      go_wp2_with (first
        | (with_reducible refine wpList_load_snd (by kernel_rfl) (.tmp 12) rfl w.heap.size rfl HK1.out.blk1 ?_))
      refine (HY.out _ _ HK1.out 8 HOY.out).mono ?_
      rintro e w2 ⟨rfl, hb2⟩
      have HK2 := Lib.hid (HK1.out.next hb2)
      have HK3 := Lib.hid (HK2.out.alloc #[.bool false, .slice none 0 0, .slice none 0 0] 27 _ rfl)
      have HB := Lib.hid HK3.out.blk1
      clear hb2
      go_wp2_with (first
        | (with_reducible refine wpList_load_rq (by kernel_rfl) (.tmp 6) rfl w2.heap.size rfl HK3.out.blk0 rfl ?_)
        | (with_reducible refine wpList_store_rq rfl (.tmp 4) (.tmp 17) rfl (w.heap.size + 1) rfl HB.out rfl (A := none) (c := 0) (B := none) (d := 0) (x := Rq.zero) rfl ?_; intro w6 hb6 hg6))
      refine rq_ret2 rfl rfl hb6 rfl rfl ⟨none, 0, none, 0, rfl, RqS.zero _, below_own HK3.out.1 hg6 (by omega)⟩
  · have HOX := Lib.hid (chkR_no ho)
    obtain ⟨rfl, rfl⟩ := hN (fun h => ho h.1)
    clear hF hN ho
    go_enter Try.func48, Try.ntmps48
    go_wp2_with (first
      | (with_reducible refine wpList_load_fst (by kernel_rfl) (.tmp 7) rfl w.heap.size rfl HK.out.blk1 ?_))
    refine (HX.out _ _ HK.out 8 HOX.out).mono ?_
    rintro e w1 ⟨rfl, hb1⟩
    have HK1 := Lib.hid (HK.out.next hb1)
    have HK3 := Lib.hid (HK1.out.alloc #[.bool false, .slice none 0 0, .slice none 0 0] 27 _ rfl)
    have HB := Lib.hid HK3.out.blk1
    clear hb1
    go_wp2_with (first
      | (with_reducible refine wpList_load_rq (by kernel_rfl) (.tmp 6) rfl w1.heap.size rfl HK3.out.blk0 rfl ?_)
      | (with_reducible refine wpList_store_rq rfl (.tmp 4) (.tmp 17) rfl (w.heap.size + 1) rfl HB.out rfl (A := none) (c := 0) (B := none) (d := 0) (x := Rq.zero) rfl ?_; intro w6 hb6 hg6))
    refine rq_ret2 rfl rfl hb6 rfl rfl ⟨none, 0, none, 0, rfl, RqS.zero _, below_own HK3.out.1 hg6 (by omega)⟩
end Go.Proofs.Ytefoccjphbbmhaa
