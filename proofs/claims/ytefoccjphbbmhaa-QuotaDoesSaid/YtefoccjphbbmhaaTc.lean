/- The reference's fixed-point numbers. Written by tools/refq17.py. -/
import Derived.Test.YtefoccjphbbmhaaTb
namespace Go.Proofs.Ytefoccjphbbmhaa
open Go.RowKit
set_option linter.unusedVariables false

theorem up_ceil (n : Nat) : (n + 999999999) / 1000000000 = if n % 1000000000 = 0 then n / 1000000000 else n / 1000000000 + 1 := by
  by_cases h : n % 1000000000 = 0
  · rw [if_pos h]; omega
  · rw [if_neg h]; omega
theorem limbs_prod {a b : Nat} (ha : a ≤ 1000000000000000) (hb : b ≤ 1000000000000000) : (limbs (a * b)).length ≤ 4 :=
  limbs_len_le.2 (Nat.lt_of_le_of_lt (prod_lt ha hb) (by decide))

set_option maxRecDepth 100000 in
set_option maxHeartbeats 1000000 in
theorem rin_any (a : Int) (w : World) : Calls Try.prog 33 #[.int .i64 a] w fun e w' => e = .returned (.bool (inQ a)) ∧ w' = w := by
  have HV := Lib.hid (show inQ a = (decide (0 ≤ a) && decide (a ≤ 1000000000000000)) by unfold inQ; rw [Bool.eq_iff_iff]; simp)
  obtain ⟨p, hp⟩ : ∃ p, decide (0 ≤ a) = p := ⟨_, rfl⟩
  obtain ⟨q, hq⟩ : ∃ p, decide (a ≤ 1000000000000000) = p := ⟨_, rfl⟩
  rw [hp, hq] at HV
  cases p <;> cases q
  all_goals
    go_enter Try.func33, Try.ntmps33
    go_wp2_with fail
    go_ret
    exact ⟨by rw [HV.out] <;> rfl, rfl⟩

/-- What divided answers. -/
def DvP (w : World) (q : Nat) (rest : Bool) (e : Ending) (w' : World) : Prop := ∃ A c, e = .returned (.tuple #[.slice A (limbs q).length c, .bool rest]) ∧ Sl w' A c (limbs q) ∧ Below w.heap.size w w'
set_option maxRecDepth 100000 in
set_option maxHeartbeats 2000000 in
theorem rdivided_any (a b c : Nat) (ha : a ≤ 1000000000000000) (hb : b ≤ 1000000000000000) (hc : c ≤ 1000000000000000) (h0 : c ≠ 0) (v : Bool) (hv : Hid (decide (a * b % c ≠ 0) = v)) (w : World) :
    Calls Try.prog 34 #[.int .i64 a, .int .i64 b, .int .i64 c] w (DvP w (a * b / c) v) := by
  have W1 : IntKind.u64.wrap (a : Int) = (a : Int) := wrapU a (by omega)
  have W2 : IntKind.u64.wrap (b : Int) = (b : Int) := wrapU b (by omega)
  have W3 : IntKind.u64.wrap (c : Int) = (c : Int) := wrapU c (by omega)
  have hp := limbs_prod ha hb
  obtain ⟨p, hpe⟩ : ∃ p, p = a * b := ⟨_, rfl⟩
  obtain ⟨q, hqe⟩ : ∃ q, q = p / c := ⟨_, rfl⟩
  obtain ⟨r, hre⟩ : ∃ r, r = p % c := ⟨_, rfl⟩
  have hcl := limbs_few (m := c) (by omega)
  rw [← hpe] at hp hv ⊢
  rw [← hre] at hv
  rw [← hqe]
  have H1 := Lib.hid (fun wx => rof_c a wx (limbs a) (by omega) rfl)
  have H2 := Lib.hid (fun wx => rof_c b wx (limbs b) (by omega) rfl)
  have H3 := Lib.hid (fun wx => rof_c c wx (limbs c) (by omega) rfl)
  have HM := Lib.hid (fun wx A c1 B c2 (h1 : Sl wx A c1 (limbs a)) (h2 : Sl wx B c2 (limbs b)) => rmul_c A B c1 c2 _ _ (limbs a) (limbs b) wx (limbs p) 0 h1 h2 rfl rfl (mulL (limbs_few (by omega)) (limbs_few (by omega)) hpe.symm (by omega)))
  obtain ⟨lr, hlr⟩ : ∃ l, l = limbs r := ⟨_, rfl⟩
  have HD := Lib.hid (fun wx A c1 B c2 (h1 : Sl wx A c1 (limbs p)) (h2 : Sl wx B c2 (limbs c)) => rdiv_c A B c1 c2 _ _ (limbs p) (limbs c) wx (limbs q) lr 0 h1 h2 rfl rfl (by rw [hlr]; exact divL (by omega) hcl h0 hqe.symm hre.symm))
  have K : decide (0 < lr.length) = v := by
    rw [← hv.out, decide_eq_decide, hlr, List.length_pos_iff]
    exact ⟨fun h e => h (by rw [e, limbs_zero]), fun h e => h (limbs_len_eq_zero.1 (by rw [e]; rfl))⟩
  have HK0 := Lib.hid (Kp.refl w)
  generalize limbs a = la at *
  generalize limbs b = lb at *
  generalize limbs c = lc at *
  generalize limbs p = lp at *
  clear hpe hqe hre hlr hv hp hcl h0 ha hb hc
  go_enter Try.func34, Try.ntmps34
  go_wp2_with fail
  refine (H1.out _).mono ?_
  rintro e w1 ⟨A1, c1, rfl, hs1, hb1⟩
  have HK1 := Lib.hid (HK0.out.next hb1)
  have HS1 := Lib.hid hs1
  clear hb1 hs1
  go_wp2_with fail
  refine (H2.out _).mono ?_
  rintro e w2 ⟨A2, c2, rfl, hs2, hb2⟩
  have HK2 := Lib.hid (HK1.out.next hb2)
  have HS1 := Lib.hid (HS1.out.to hb2)
  have HS2 := Lib.hid hs2
  clear hb2 hs2
  go_wp2_with fail
  refine (HM.out _ _ _ _ _ HS1.out HS2.out).mono ?_
  rintro e w3 ⟨A3, c3, rfl, hs3, hb3⟩
  have HK3 := Lib.hid (HK2.out.next hb3)
  have HS3 := Lib.hid hs3
  clear hb3 hs3
  go_wp2_with fail
  refine (H3.out _).mono ?_
  rintro e w4 ⟨A4, c4, rfl, hs4, hb4⟩
  have HK4 := Lib.hid (HK3.out.next hb4)
  have HS3 := Lib.hid (HS3.out.to hb4)
  have HS4 := Lib.hid hs4
  clear hb4 hs4
  go_wp2_with fail
  refine (HD.out _ _ _ _ _ HS3.out HS4.out).mono ?_
  rintro e w5 ⟨A5, A6, c5, c6, rfl, hs5, hs6, hb5⟩
  have HK5 := Lib.hid (HK4.out.next hb5)
  have HS5 := Lib.hid hs5
  clear hb5 hs5 hs6
  go_wp2_with fail
  go_ret2
  exact ⟨A5, c5, by rw [← K] <;> rfl, HS5.out, HK5.out.1⟩

set_option maxRecDepth 100000 in
set_option maxHeartbeats 2000000 in
theorem rtold_any (q : Nat) (A : Option Addr) (c k : Nat) (v er : Int) (w : World) (hs : Sl w A c (limbs q)) (hk : (limbs q).length = k) (hk2 : k ≤ 96) (hM : Hid (fixQ q = (v, er))) :
    Calls Try.prog 35 #[.slice A k c] w fun e w' => e = .returned (.tuple #[.int .i64 v, .int .i64 er]) ∧ w' = w := by
  have hck : chk (limbs q) = 0 := chk_limbs (by omega)
  have hlen : k ≤ 2 ↔ q < 18446744073709551616 := by rw [← hk, limbs_len_le, bp_2]
  by_cases h2 : q < 18446744073709551616
  · have HW := Lib.hid (rword_c A c k (limbs q) w q 0 hs hk (by show _ = _; rw [wordM_ok hck (by rw [hk]; exact hlen.2 h2), val_limbs]))
    by_cases h3 : q ≤ 1000000000000000
    · obtain ⟨rfl, rfl⟩ : (q : Int) = v ∧ 0 = er := by have := hM.out; rw [fixQ_ok h3] at this; simpa using this
      have K1 : decide (1000000000000000 < (q : Int)) = false := decide_eq_false (by omega)
      have K2 : decide (1000000000000000 < q) = false := decide_eq_false (by omega)
      have W : IntKind.i64.wrap (q : Int) = (q : Int) := i64w (by omega) (by omega)
      clear hM hlen hck hk hs
      go_enter Try.func35, Try.ntmps35
      go_wp2_with fail
      refine HW.out.mono ?_
      rintro e w1 ⟨rfl, rfl⟩
      go_wp2_with fail
      go_ret2
      exact ⟨rfl, rfl⟩
    · obtain ⟨rfl, rfl⟩ : 0 = v ∧ 30 = er := by have := hM.out; rw [fixQ_great h3] at this; simpa using this
      have K1 : decide (1000000000000000 < (q : Int)) = true := decide_eq_true (by omega)
      have K2 : decide (1000000000000000 < q) = true := decide_eq_true (by omega)
      clear hM hlen hck hk hs
      go_enter Try.func35, Try.ntmps35
      go_wp2_with fail
      refine HW.out.mono ?_
      rintro e w1 ⟨rfl, rfl⟩
      go_wp2_with fail
      go_ret2
      exact ⟨rfl, rfl⟩
  · have HW := Lib.hid (rword_c A c k (limbs q) w 0 30 hs hk (by show _ = _; rw [wordM_great hck (by rw [hk]; exact fun h => h2 (hlen.1 h))]))
    obtain ⟨rfl, rfl⟩ : 0 = v ∧ 30 = er := by have := hM.out; rw [fixQ_great (by omega)] at this; simpa using this
    clear hM hlen hck hk hs
    go_enter Try.func35, Try.ntmps35
    go_wp2_with fail
    refine HW.out.mono ?_
    rintro e w1 ⟨rfl, rfl⟩
    go_wp2_with fail
    go_ret2
    exact ⟨rfl, rfl⟩

set_option maxRecDepth 100000 in
set_option maxHeartbeats 2000000 in
theorem rdown_bad_a (a b : Int) (v er : Int) (hM : Hid (shareM a b 1000000000 = (v, er))) (w : World) (hin : inQ a = false) :
    Calls Try.prog 16 #[.int .i64 a, .int .i64 b] w fun e w' => e = .returned (.tuple #[.int .i64 v, .int .i64 er]) ∧ Below w.heap.size w w' := by
  obtain ⟨rfl, rfl⟩ : 0 = v ∧ 2 = er := by have := hM.out; rw [shareM_bad (fun h => by rw [h.1] at hin; cases hin)] at this; simpa using this
  have Ia := Lib.hid (fun wx => rin_any a wx)
  rw [hin] at Ia
  clear hM hin
  go_enter Try.func16, Try.ntmps16
  go_wp2_with fail
  refine (Ia.out _).mono ?_
  rintro e wz ⟨rfl, rfl⟩
  go_wp2_with fail
  go_ret2
  exact ⟨rfl, Below.refl _ _⟩

set_option maxRecDepth 100000 in
set_option maxHeartbeats 2000000 in
theorem rdown_bad_b (a b : Int) (v er : Int) (hM : Hid (shareM a b 1000000000 = (v, er))) (w : World) (hin : inQ b = false) (ga : inQ a = true) :
    Calls Try.prog 16 #[.int .i64 a, .int .i64 b] w fun e w' => e = .returned (.tuple #[.int .i64 v, .int .i64 er]) ∧ Below w.heap.size w w' := by
  obtain ⟨rfl, rfl⟩ : 0 = v ∧ 2 = er := by have := hM.out; rw [shareM_bad (fun h => by rw [h.2.1] at hin; cases hin)] at this; simpa using this
  have Ia := Lib.hid (fun wx => rin_any a wx)
  rw [ga] at Ia
  have Ib := Lib.hid (fun wx => rin_any b wx)
  rw [hin] at Ib
  clear hM hin
  go_enter Try.func16, Try.ntmps16
  go_wp2_with fail
  refine (Ia.out _).mono ?_
  rintro e wz ⟨rfl, rfl⟩
  go_wp2_with fail
  refine (Ib.out _).mono ?_
  rintro e wz ⟨rfl, rfl⟩
  go_wp2_with fail
  go_ret2
  exact ⟨rfl, Below.refl _ _⟩

set_option maxRecDepth 100000 in
set_option maxHeartbeats 2000000 in
theorem rdown_ok (a b : Nat) (v er : Int) (hM : Hid (shareM a b 1000000000 = (v, er))) (w : World) (ha : a ≤ 1000000000000000) (hb : b ≤ 1000000000000000) :
    Calls Try.prog 16 #[.int .i64 a, .int .i64 b] w fun e w' => e = .returned (.tuple #[.int .i64 v, .int .i64 er]) ∧ Below w.heap.size w w' := by
  have IA := Lib.hid (fun wx => rin_any (a : Int) wx)
  have IB := Lib.hid (fun wx => rin_any (b : Int) wx)
  rw [inQ_of ha] at IA
  rw [inQ_of hb] at IB
  have hq := (shareM_ok (c := 1000000000) ha hb (by omega) (by omega)).symm.trans hM.out
  obtain ⟨r, hr⟩ : ∃ r, decide (a * b % 1000000000 ≠ 0) = r := ⟨_, rfl⟩
  have HD := Lib.hid (fun wx => rdivided_any a b 1000000000 ha hb (by omega) (by omega) r hr wx)
  have hl : (limbs (a * b / 1000000000)).length ≤ 96 := len_le (Nat.le_trans (limbs_prod ha hb) (by omega)) (Nat.div_le_self _ _)
  obtain ⟨q, hqe⟩ : ∃ q, q = a * b / 1000000000 := ⟨_, rfl⟩
  rw [← hqe] at hq HD hl
  obtain ⟨k, hk⟩ : ∃ k, (limbs q).length = k := ⟨_, rfl⟩
  rw [hk] at hl
  have HT := Lib.hid (fun wx A c (h : Sl wx A c (limbs q)) => rtold_any q A c k v er wx h hk hl hq)
  unfold DvP at HD
  rw [hk] at HD
  clear hM hq hr hqe hk hl
  go_enter Try.func16, Try.ntmps16
  go_wp2_with fail
  refine (IA.out _).mono ?_
  rintro e wz ⟨rfl, rfl⟩
  go_wp2_with fail
  refine (IB.out _).mono ?_
  rintro e wz ⟨rfl, rfl⟩
  go_wp2_with fail
  refine (HD.out _).mono ?_
  rintro e w1 ⟨A, c, rfl, hs, hb⟩
  have HB := Lib.hid hb
  have HS := Lib.hid hs
  clear hb hs
  go_wp2_with fail
  refine (HT.out _ _ _ HS.out).mono ?_
  rintro e wz ⟨rfl, rfl⟩
  go_wp2_with fail
  go_ret2
  exact ⟨rfl, HB.out⟩

set_option maxRecDepth 100000 in
set_option maxHeartbeats 2000000 in
theorem rshare_bad_a (a b c : Int) (v er : Int) (hM : Hid (shareM a b c = (v, er))) (w : World) (hin : inQ a = false) :
    Calls Try.prog 20 #[.int .i64 a, .int .i64 b, .int .i64 c] w fun e w' => e = .returned (.tuple #[.int .i64 v, .int .i64 er]) ∧ Below w.heap.size w w' := by
  obtain ⟨rfl, rfl⟩ : 0 = v ∧ 2 = er := by have := hM.out; rw [shareM_bad (fun h => by rw [h.1] at hin; cases hin)] at this; simpa using this
  have Ia := Lib.hid (fun wx => rin_any a wx)
  rw [hin] at Ia
  clear hM hin
  go_enter Try.func20, Try.ntmps20
  go_wp2_with fail
  refine (Ia.out _).mono ?_
  rintro e wz ⟨rfl, rfl⟩
  go_wp2_with fail
  go_ret2
  exact ⟨rfl, Below.refl _ _⟩

set_option maxRecDepth 100000 in
set_option maxHeartbeats 2000000 in
theorem rshare_bad_b (a b c : Int) (v er : Int) (hM : Hid (shareM a b c = (v, er))) (w : World) (hin : inQ b = false) (ga : inQ a = true) :
    Calls Try.prog 20 #[.int .i64 a, .int .i64 b, .int .i64 c] w fun e w' => e = .returned (.tuple #[.int .i64 v, .int .i64 er]) ∧ Below w.heap.size w w' := by
  obtain ⟨rfl, rfl⟩ : 0 = v ∧ 2 = er := by have := hM.out; rw [shareM_bad (fun h => by rw [h.2.1] at hin; cases hin)] at this; simpa using this
  have Ia := Lib.hid (fun wx => rin_any a wx)
  rw [ga] at Ia
  have Ib := Lib.hid (fun wx => rin_any b wx)
  rw [hin] at Ib
  clear hM hin
  go_enter Try.func20, Try.ntmps20
  go_wp2_with fail
  refine (Ia.out _).mono ?_
  rintro e wz ⟨rfl, rfl⟩
  go_wp2_with fail
  refine (Ib.out _).mono ?_
  rintro e wz ⟨rfl, rfl⟩
  go_wp2_with fail
  go_ret2
  exact ⟨rfl, Below.refl _ _⟩

set_option maxRecDepth 100000 in
set_option maxHeartbeats 2000000 in
theorem rshare_bad_c (a b c : Int) (v er : Int) (hM : Hid (shareM a b c = (v, er))) (w : World) (hin : inQ c = false) (ga : inQ a = true) (gb : inQ b = true) :
    Calls Try.prog 20 #[.int .i64 a, .int .i64 b, .int .i64 c] w fun e w' => e = .returned (.tuple #[.int .i64 v, .int .i64 er]) ∧ Below w.heap.size w w' := by
  obtain ⟨rfl, rfl⟩ : 0 = v ∧ 2 = er := by have := hM.out; rw [shareM_bad (fun h => by rw [h.2.2] at hin; cases hin)] at this; simpa using this
  have Ia := Lib.hid (fun wx => rin_any a wx)
  rw [ga] at Ia
  have Ib := Lib.hid (fun wx => rin_any b wx)
  rw [gb] at Ib
  have Ic := Lib.hid (fun wx => rin_any c wx)
  rw [hin] at Ic
  clear hM hin
  go_enter Try.func20, Try.ntmps20
  go_wp2_with fail
  refine (Ia.out _).mono ?_
  rintro e wz ⟨rfl, rfl⟩
  go_wp2_with fail
  refine (Ib.out _).mono ?_
  rintro e wz ⟨rfl, rfl⟩
  go_wp2_with fail
  refine (Ic.out _).mono ?_
  rintro e wz ⟨rfl, rfl⟩
  go_wp2_with fail
  go_ret2
  exact ⟨rfl, Below.refl _ _⟩

set_option maxRecDepth 100000 in
set_option maxHeartbeats 2000000 in
theorem rshare_zero (a b c : Nat) (v er : Int) (hM : Hid (shareM a b c = (v, er))) (w : World) (ha : a ≤ 1000000000000000) (hb : b ≤ 1000000000000000) (hc : c ≤ 1000000000000000) (h0 : c = 0) :
    Calls Try.prog 20 #[.int .i64 a, .int .i64 b, .int .i64 c] w fun e w' => e = .returned (.tuple #[.int .i64 v, .int .i64 er]) ∧ Below w.heap.size w w' := by
  have hq : shareM (a : Int) (b : Int) (c : Int) = (0, 40) := by rw [h0]; exact shareM_zero ⟨inQ_of ha, inQ_of hb⟩
  obtain ⟨rfl, rfl⟩ : 0 = v ∧ 40 = er := by have := hM.out; rw [hq] at this; simpa using this
  have IA := Lib.hid (fun wx => rin_any (a : Int) wx)
  have IB := Lib.hid (fun wx => rin_any (b : Int) wx)
  have IC := Lib.hid (fun wx => rin_any (c : Int) wx)
  rw [inQ_of ha] at IA
  rw [inQ_of hb] at IB
  rw [inQ_of hc] at IC
  have K0 : ((c : Int) == 0) = true := by rw [h0]; rfl
  clear hM hq h0
  go_enter Try.func20, Try.ntmps20
  go_wp2_with fail
  refine (IA.out _).mono ?_
  rintro e wz ⟨rfl, rfl⟩
  go_wp2_with fail
  refine (IB.out _).mono ?_
  rintro e wz ⟨rfl, rfl⟩
  go_wp2_with fail
  refine (IC.out _).mono ?_
  rintro e wz ⟨rfl, rfl⟩
  go_wp2_with fail
  go_ret2
  exact ⟨rfl, Below.refl _ _⟩

set_option maxRecDepth 100000 in
set_option maxHeartbeats 2000000 in
theorem rshare_ok (a b c : Nat) (v er : Int) (hM : Hid (shareM a b c = (v, er))) (w : World) (ha : a ≤ 1000000000000000) (hb : b ≤ 1000000000000000) (hc : c ≤ 1000000000000000) (h0 : c ≠ 0) :
    Calls Try.prog 20 #[.int .i64 a, .int .i64 b, .int .i64 c] w fun e w' => e = .returned (.tuple #[.int .i64 v, .int .i64 er]) ∧ Below w.heap.size w w' := by
  have IA := Lib.hid (fun wx => rin_any (a : Int) wx)
  have IB := Lib.hid (fun wx => rin_any (b : Int) wx)
  have IC := Lib.hid (fun wx => rin_any (c : Int) wx)
  rw [inQ_of ha] at IA
  rw [inQ_of hb] at IB
  rw [inQ_of hc] at IC
  have K0 : ((c : Int) == 0) = false := by rw [beq_eq_false_iff_ne]; omega
  have hq := (shareM_ok ha hb hc h0).symm.trans hM.out
  obtain ⟨r, hr⟩ : ∃ r, decide (a * b % c ≠ 0) = r := ⟨_, rfl⟩
  have HD := Lib.hid (fun wx => rdivided_any a b c ha hb hc h0 r hr wx)
  have hl : (limbs (a * b / c)).length ≤ 96 := len_le (Nat.le_trans (limbs_prod ha hb) (by omega)) (Nat.div_le_self _ _)
  obtain ⟨q, hqe⟩ : ∃ q, q = a * b / c := ⟨_, rfl⟩
  rw [← hqe] at hq HD hl
  obtain ⟨k, hk⟩ : ∃ k, (limbs q).length = k := ⟨_, rfl⟩
  rw [hk] at hl
  have HT := Lib.hid (fun wx A c (h : Sl wx A c (limbs q)) => rtold_any q A c k v er wx h hk hl hq)
  unfold DvP at HD
  rw [hk] at HD
  clear hM hq hr hqe hk hl h0
  go_enter Try.func20, Try.ntmps20
  go_wp2_with fail
  refine (IA.out _).mono ?_
  rintro e wz ⟨rfl, rfl⟩
  go_wp2_with fail
  refine (IB.out _).mono ?_
  rintro e wz ⟨rfl, rfl⟩
  go_wp2_with fail
  refine (IC.out _).mono ?_
  rintro e wz ⟨rfl, rfl⟩
  go_wp2_with fail
  refine (HD.out _).mono ?_
  rintro e w1 ⟨A, c', rfl, hs, hb⟩
  have HB := Lib.hid hb
  have HS := Lib.hid hs
  clear hb hs
  go_wp2_with fail
  refine (HT.out _ _ _ HS.out).mono ?_
  rintro e wz ⟨rfl, rfl⟩
  go_wp2_with fail
  go_ret2
  exact ⟨rfl, HB.out⟩

set_option maxRecDepth 100000 in
set_option maxHeartbeats 2000000 in
theorem rup_bad_a (a b : Int) (v er : Int) (hM : Hid (upM a b = (v, er))) (w : World) (hin : inQ a = false) :
    Calls Try.prog 18 #[.int .i64 a, .int .i64 b] w fun e w' => e = .returned (.tuple #[.int .i64 v, .int .i64 er]) ∧ Below w.heap.size w w' := by
  obtain ⟨rfl, rfl⟩ : 0 = v ∧ 2 = er := by have := hM.out; rw [upM_bad (fun h => by rw [h.1] at hin; cases hin)] at this; simpa using this
  have Ia := Lib.hid (fun wx => rin_any a wx)
  rw [hin] at Ia
  clear hM hin
  go_enter Try.func18, Try.ntmps18
  go_wp2_with fail
  refine (Ia.out _).mono ?_
  rintro e wz ⟨rfl, rfl⟩
  go_wp2_with fail
  go_ret2
  exact ⟨rfl, Below.refl _ _⟩

set_option maxRecDepth 100000 in
set_option maxHeartbeats 2000000 in
theorem rup_bad_b (a b : Int) (v er : Int) (hM : Hid (upM a b = (v, er))) (w : World) (hin : inQ b = false) (ga : inQ a = true) :
    Calls Try.prog 18 #[.int .i64 a, .int .i64 b] w fun e w' => e = .returned (.tuple #[.int .i64 v, .int .i64 er]) ∧ Below w.heap.size w w' := by
  obtain ⟨rfl, rfl⟩ : 0 = v ∧ 2 = er := by have := hM.out; rw [upM_bad (fun h => by rw [h.2] at hin; cases hin)] at this; simpa using this
  have Ia := Lib.hid (fun wx => rin_any a wx)
  rw [ga] at Ia
  have Ib := Lib.hid (fun wx => rin_any b wx)
  rw [hin] at Ib
  clear hM hin
  go_enter Try.func18, Try.ntmps18
  go_wp2_with fail
  refine (Ia.out _).mono ?_
  rintro e wz ⟨rfl, rfl⟩
  go_wp2_with fail
  refine (Ib.out _).mono ?_
  rintro e wz ⟨rfl, rfl⟩
  go_wp2_with fail
  go_ret2
  exact ⟨rfl, Below.refl _ _⟩

set_option maxRecDepth 100000 in
set_option maxHeartbeats 2000000 in
theorem rup_exact (a b : Nat) (v er : Int) (hM : Hid (upM a b = (v, er))) (w : World) (ha : a ≤ 1000000000000000) (hb : b ≤ 1000000000000000) (h0 : a * b % 1000000000 = 0) :
    Calls Try.prog 18 #[.int .i64 a, .int .i64 b] w fun e w' => e = .returned (.tuple #[.int .i64 v, .int .i64 er]) ∧ Below w.heap.size w w' := by
  have IA := Lib.hid (fun wx => rin_any (a : Int) wx)
  have IB := Lib.hid (fun wx => rin_any (b : Int) wx)
  rw [inQ_of ha] at IA
  rw [inQ_of hb] at IB
  have hq := (upM_ok ha hb).symm.trans hM.out
  rw [up_ceil, if_pos h0] at hq
  have HD := Lib.hid (fun wx => rdivided_any a b 1000000000 ha hb (by omega) (by omega) false (decide_eq_false (fun h => h h0)) wx)
  have hl0 : (limbs (a * b / 1000000000)).length ≤ 95 := len_le (Nat.le_trans (limbs_prod ha hb) (by omega)) (Nat.div_le_self _ _)
  obtain ⟨q, hqe⟩ : ∃ q, q = a * b / 1000000000 := ⟨_, rfl⟩
  rw [← hqe] at hq HD hl0
  obtain ⟨k, hk⟩ : ∃ k, (limbs q).length = k := ⟨_, rfl⟩
  rw [hk] at hl0
  have HT := Lib.hid (fun wx A c (h : Sl wx A c (limbs q)) => rtold_any q A c k v er wx h hk (by omega) hq)
  unfold DvP at HD
  rw [hk] at HD
  clear hM hq hqe hk hl0 h0
  go_enter Try.func18, Try.ntmps18
  go_wp2_with fail
  refine (IA.out _).mono ?_
  rintro e wz ⟨rfl, rfl⟩
  go_wp2_with fail
  refine (IB.out _).mono ?_
  rintro e wz ⟨rfl, rfl⟩
  go_wp2_with fail
  refine (HD.out _).mono ?_
  rintro e w1 ⟨A, c', rfl, hs, hb⟩
  have HB := Lib.hid hb
  have HS := Lib.hid hs
  clear hb hs
  go_wp2_with fail
  refine (HT.out _ _ _ HS.out).mono ?_
  rintro e wz ⟨rfl, rfl⟩
  go_wp2_with fail
  go_ret2
  exact ⟨rfl, HB.out⟩

set_option maxRecDepth 100000 in
set_option maxHeartbeats 2000000 in
theorem rup_more (a b : Nat) (v er : Int) (hM : Hid (upM a b = (v, er))) (w : World) (ha : a ≤ 1000000000000000) (hb : b ≤ 1000000000000000) (h0 : a * b % 1000000000 ≠ 0) :
    Calls Try.prog 18 #[.int .i64 a, .int .i64 b] w fun e w' => e = .returned (.tuple #[.int .i64 v, .int .i64 er]) ∧ Below w.heap.size w w' := by
  have IA := Lib.hid (fun wx => rin_any (a : Int) wx)
  have IB := Lib.hid (fun wx => rin_any (b : Int) wx)
  rw [inQ_of ha] at IA
  rw [inQ_of hb] at IB
  have hq := (upM_ok ha hb).symm.trans hM.out
  rw [up_ceil, if_neg h0] at hq
  have HD := Lib.hid (fun wx => rdivided_any a b 1000000000 ha hb (by omega) (by omega) true (decide_eq_true h0) wx)
  have hl0 : (limbs (a * b / 1000000000)).length ≤ 95 := len_le (Nat.le_trans (limbs_prod ha hb) (by omega)) (Nat.div_le_self _ _)
  obtain ⟨q, hqe⟩ : ∃ q, q = a * b / 1000000000 := ⟨_, rfl⟩
  rw [← hqe] at hq HD hl0
  have hl1 : (limbs (q + 1)).length ≤ 96 := len_add hl0 (by rw [limbs_one]; decide)
  have HA := Lib.hid (fun wx A1 c1 A2 c2 (hs1 : Sl wx A1 c1 (limbs q)) (hs2 : Sl wx A2 c2 [1]) => radd_c A1 A2 c1 c2 _ 1 (limbs q) [1] wx (limbs (q + 1)) 0 hs1 hs2 rfl rfl (by rw [← limbs_one]; exact addL (by omega) (by rw [limbs_one]; decide) rfl hl1))
  have HLI := Lib.hid (fun wx => Sl.lit wx [1] #[.int .u32 1] rfl (by decide))
  obtain ⟨k, hk⟩ : ∃ k, (limbs (q + 1)).length = k := ⟨_, rfl⟩
  rw [hk] at hl1
  have HT := Lib.hid (fun wx A c (h : Sl wx A c (limbs (q + 1))) => rtold_any (q + 1) A c k v er wx h hk hl1 hq)
  unfold DvP at HD
  unfold ResP at HA
  rw [hk] at HA
  generalize limbs (q + 1) = lq1 at *
  generalize limbs q = lq at *
  clear hM hq hqe hk hl0 hl1 h0
  go_enter Try.func18, Try.ntmps18
  go_wp2_with fail
  refine (IA.out _).mono ?_
  rintro e wz ⟨rfl, rfl⟩
  go_wp2_with fail
  refine (IB.out _).mono ?_
  rintro e wz ⟨rfl, rfl⟩
  go_wp2_with fail
  refine (HD.out _).mono ?_
  rintro e w1 ⟨A, c', rfl, hs, hb⟩
  have HB := Lib.hid hb
  have HS := Lib.hid hs
  clear hb hs
  go_wp2_with fail
  refine (HA.out _ _ _ _ _ (HS.out.to (below_new _ _)) (HLI.out _)).mono ?_
  rintro e w2 ⟨A2, c2, rfl, hs2, hb2⟩
  have HB2 := Lib.hid ((HB.out.trans ((below_new w1 (.cells #[.int .u32 1] 55)).mono HB.out.size)).trans (hb2.mono (Nat.le_trans HB.out.size (by simp))))
  have HS2 := Lib.hid hs2
  clear hb2 hs2
  go_wp2_with fail
  refine (HT.out _ _ _ HS2.out).mono ?_
  rintro e wz ⟨rfl, rfl⟩
  go_wp2_with fail
  go_ret2
  exact ⟨rfl, HB2.out⟩

set_option maxRecDepth 100000 in
set_option maxHeartbeats 1000000 in
theorem rratio_any (a : Int) (z : Rq) (er : Int) (hM : Hid (ratioM a = (z, er))) (w : World) :
    Calls Try.prog 22 #[.int .i64 a] w (RqE w z er) := by
  have HK1 := Lib.hid ((Kp.refl w).alloc #[.bool false, .slice none 0 0, .slice none 0 0] 27 _ rfl)
  have HF := Lib.hid (fun wx => rin_any a wx)
  cases hin : inQ a with
  | false =>
    rw [hin] at HF
    obtain ⟨rfl, rfl⟩ : Rq.zero = z ∧ 2 = er := by have := hM.out; rw [ratioM_no hin] at this; simpa using this
    clear hM hin
    have HB := Lib.hid HK1.out.blk0
    go_enter Try.func22, Try.ntmps22
    go_wp2_with fail
    refine (HF.out _).mono ?_
    rintro e w1 ⟨rfl, rfl⟩
    go_wp2_with (first
      | (with_reducible refine wpList_store_rq rfl (.tmp 2) (.tmp 7) rfl w.heap.size rfl HB.out rfl (A := none) (c := 0) (B := none) (d := 0) (x := Rq.zero) rfl ?_; intro w6 hb6 hg6))
    refine rq_ret2 rfl rfl hb6 rfl rfl ⟨none, 0, none, 0, rfl, RqS.zero _, below_own HK1.out.1 hg6 (by omega)⟩
  | true =>
    rw [hin] at HF
    obtain ⟨h1, h2⟩ := inQ_yes hin
    have HO := Lib.hid (fun wx => rOf4_any a 1000000000 z er (by omega) (by omega) (by omega) (by omega) (by have := hM.out; rw [ratioM_yes hin] at this; exact this) wx)
    clear hM hin
    go_enter Try.func22, Try.ntmps22
    go_wp2_with fail
    refine (HF.out _).mono ?_
    rintro e w1 ⟨rfl, rfl⟩
    go_wp2_with fail
    refine (HO.out _).mono ?_
    rintro e w2 ⟨A1, c1, A2, c2, rfl, hs, hb⟩
    have HK2 := Lib.hid (HK1.out.next hb)
    have HS := Lib.hid hs
    have HB := Lib.hid HK2.out.blk0
    clear hb hs
    go_wp2_with (first
      | (with_reducible refine wpList_store_rq rfl (.tmp 2) (.tmp 10) rfl w.heap.size rfl HB.out rfl (A := A1) (c := c1) (B := A2) (d := c2) (x := z) rfl ?_; intro w6 hb6 hg6))
    refine rq_ret2 rfl rfl hb6 rfl rfl ⟨A1, c1, A2, c2, rfl, HS.out.off HB.out (noU_rq _ _ _ _ _ _ _) hg6, below_own HK2.out.1 hg6 (by omega)⟩

theorem rdown_any (a b : Int) (v er : Int) (hM : Hid (shareM a b 1000000000 = (v, er))) (w : World) :
    Calls Try.prog 16 #[.int .i64 a, .int .i64 b] w fun e w' => e = .returned (.tuple #[.int .i64 v, .int .i64 er]) ∧ Below w.heap.size w w' := by
  cases ha : inQ a with
  | false => exact rdown_bad_a a b v er hM w ha
  | true =>
    cases hb : inQ b with
    | false => exact rdown_bad_b a b v er hM w hb ha
    | true =>
      obtain ⟨x, rfl, hx⟩ := inQ_nat ha
      obtain ⟨y, rfl, hy⟩ := inQ_nat hb
      exact rdown_ok x y v er hM w hx hy
theorem rshare_any (a b c : Int) (v er : Int) (hM : Hid (shareM a b c = (v, er))) (w : World) :
    Calls Try.prog 20 #[.int .i64 a, .int .i64 b, .int .i64 c] w fun e w' => e = .returned (.tuple #[.int .i64 v, .int .i64 er]) ∧ Below w.heap.size w w' := by
  cases ha : inQ a with
  | false => exact rshare_bad_a a b c v er hM w ha
  | true =>
    cases hb : inQ b with
    | false => exact rshare_bad_b a b c v er hM w hb ha
    | true =>
      cases hc : inQ c with
      | false => exact rshare_bad_c a b c v er hM w hc ha hb
      | true =>
        obtain ⟨x, rfl, hx⟩ := inQ_nat ha
        obtain ⟨y, rfl, hy⟩ := inQ_nat hb
        obtain ⟨z, rfl, hz⟩ := inQ_nat hc
        by_cases h0 : z = 0
        · exact rshare_zero x y z v er hM w hx hy hz h0
        · exact rshare_ok x y z v er hM w hx hy hz h0
theorem rup_any (a b : Int) (v er : Int) (hM : Hid (upM a b = (v, er))) (w : World) :
    Calls Try.prog 18 #[.int .i64 a, .int .i64 b] w fun e w' => e = .returned (.tuple #[.int .i64 v, .int .i64 er]) ∧ Below w.heap.size w w' := by
  cases ha : inQ a with
  | false => exact rup_bad_a a b v er hM w ha
  | true =>
    cases hb : inQ b with
    | false => exact rup_bad_b a b v er hM w hb ha
    | true =>
      obtain ⟨x, rfl, hx⟩ := inQ_nat ha
      obtain ⟨y, rfl, hy⟩ := inQ_nat hb
      by_cases h0 : x * y % 1000000000 = 0
      · exact rup_exact x y v er hM w hx hy h0
      · exact rup_more x y v er hM w hx hy h0
end Go.Proofs.Ytefoccjphbbmhaa
