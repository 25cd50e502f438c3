/- The reference's Billionths: errors; all together. -/
import Derived.Test.YtefoccjphbbmhaaTf
namespace Go.Proofs.Ytefoccjphbbmhaa
open Go.RowKit
set_option linter.unusedVariables false

set_option maxRecDepth 100000 in
set_option maxHeartbeats 4000000 in
theorem rbill_great (x : Rq) (A B : Option Addr) (c d k1 k2 : Nat) (w : World) (hr : RqS w A c B d x) (ho : okR x) (e1 : x.neg = false) (h1 : x.num.length = k1) (h2 : x.den.length = k2)
    (hg : ¬ (k1 ≤ 90 ∧ k2 ≤ 90 ∧ val x.num / val x.den ≤ 1000000)) :
    Calls Try.prog 24 #[.agg #[.bool false, .slice A k1 c, .slice B k2 d]] w fun e w' => e = .returned (.tuple #[.int .i64 0, .int .i64 30]) ∧ Below w.heap.size w w' := by
  have HC := Lib.hid (fun wx bs (hk : Kp w bs wx) => rCheck4_any x A B c d k1 k2 0 wx (hr.to hk.1) h1 h2 (chkR_ok ho))
  rw [e1] at HC
  obtain ⟨wh, hwh⟩ : ∃ z, z = val x.num / val x.den := ⟨_, rfl⟩
  rw [← hwh] at hg
  obtain ⟨fl, fe, hF⟩ : ∃ fl fe, intM false wh = (fl, fe) := ⟨_, _, rfl⟩
  have HF := Lib.hid (fun wx bs (hk : Kp w bs wx) => rFloor4_any x A B c d k1 k2 fl fe wx (hr.to hk.1) h1 h2 ho e1 (by rw [← hwh]; exact hF))
  have HK := Lib.hid ((Kp.refl w).alloc #[.bool false, .slice A k1 c, .slice B k2 d] 27 _ rfl)
  clear hr ho e1 h1 h2 hwh
  rw [intM_f] at hF
  by_cases g1 : 90 < k1
  · have d1 : decide (90 < k1) = true := decide_eq_true (by omega)
    have d3 : decide (90 < (k1 : Int)) = true := decide_eq_true (by omega)
    clear hF hg
    go_enter Try.func24, Try.ntmps24
    go_wp2_with (first | (with_reducible refine wpList_load_rq (by kernel_rfl) (.tmp 1) rfl w.heap.size rfl HK.out.blk0 rfl ?_))
    refine (HC.out _ _ HK.out).mono ?_
    rintro e w1 ⟨rfl, hb1⟩
    have HK1 := Lib.hid (HK.out.next hb1)
    have x0 := HK1.out.blk0.at_ 0 rfl
    clear hb1
    go_wp2_with (first | (with_reducible refine wpList_load_rq (by kernel_rfl) (.tmp 1) rfl w.heap.size rfl HK1.out.blk0 rfl ?_))
    refine (HF.out _ _ HK1.out).mono ?_
    rintro e w2 ⟨rfl, hb2⟩
    have HK2 := Lib.hid (HK1.out.next hb2)
    clear hb2 x0
    have x1 := HK2.out.blk0.at_ 1 rfl
    have x2 := HK2.out.blk0.at_ 2 rfl
    go_wp2_with fail
    go_ret2
    exact ⟨rfl, HK2.out.1⟩
  · have d1 : decide (90 < k1) = false := decide_eq_false (by omega)
    have d3 : decide (90 < (k1 : Int)) = false := decide_eq_false (by omega)
    by_cases g2 : 90 < k2
    · have d2 : decide (90 < k2) = true := decide_eq_true (by omega)
      have d4 : decide (90 < (k2 : Int)) = true := decide_eq_true (by omega)
      clear hF hg
      go_enter Try.func24, Try.ntmps24
      go_wp2_with (first | (with_reducible refine wpList_load_rq (by kernel_rfl) (.tmp 1) rfl w.heap.size rfl HK.out.blk0 rfl ?_))
      refine (HC.out _ _ HK.out).mono ?_
      rintro e w1 ⟨rfl, hb1⟩
      have HK1 := Lib.hid (HK.out.next hb1)
      have x0 := HK1.out.blk0.at_ 0 rfl
      clear hb1
      go_wp2_with (first | (with_reducible refine wpList_load_rq (by kernel_rfl) (.tmp 1) rfl w.heap.size rfl HK1.out.blk0 rfl ?_))
      refine (HF.out _ _ HK1.out).mono ?_
      rintro e w2 ⟨rfl, hb2⟩
      have HK2 := Lib.hid (HK1.out.next hb2)
      clear hb2 x0
      have x1 := HK2.out.blk0.at_ 1 rfl
      have x2 := HK2.out.blk0.at_ 2 rfl
      go_wp2_with fail
      go_ret2
      exact ⟨rfl, HK2.out.1⟩
    · have d2 : decide (90 < k2) = false := decide_eq_false (by omega)
      have d4 : decide (90 < (k2 : Int)) = false := decide_eq_false (by omega)
      by_cases g3 : wh ≤ 9223372036854775807
      · obtain ⟨rfl, rfl⟩ : (wh : Int) = fl ∧ 0 = fe := by rw [if_pos g3] at hF; simpa using hF
        have d5 : decide (1000000 < (wh : Int)) = true := decide_eq_true (by omega)
        have d6 : decide (1000000 < wh) = true := decide_eq_true (by omega)
        clear hF hg
        go_enter Try.func24, Try.ntmps24
        go_wp2_with (first | (with_reducible refine wpList_load_rq (by kernel_rfl) (.tmp 1) rfl w.heap.size rfl HK.out.blk0 rfl ?_))
        refine (HC.out _ _ HK.out).mono ?_
        rintro e w1 ⟨rfl, hb1⟩
        have HK1 := Lib.hid (HK.out.next hb1)
        have x0 := HK1.out.blk0.at_ 0 rfl
        clear hb1
        go_wp2_with (first | (with_reducible refine wpList_load_rq (by kernel_rfl) (.tmp 1) rfl w.heap.size rfl HK1.out.blk0 rfl ?_))
        refine (HF.out _ _ HK1.out).mono ?_
        rintro e w2 ⟨rfl, hb2⟩
        have HK2 := Lib.hid (HK1.out.next hb2)
        clear hb2 x0
        have x1 := HK2.out.blk0.at_ 1 rfl
        have x2 := HK2.out.blk0.at_ 2 rfl
        go_wp2_with fail
        go_ret2
        exact ⟨rfl, HK2.out.1⟩
      · obtain ⟨rfl, rfl⟩ : 0 = fl ∧ 30 = fe := by rw [if_neg g3] at hF; simpa using hF
        clear hF hg
        go_enter Try.func24, Try.ntmps24
        go_wp2_with (first | (with_reducible refine wpList_load_rq (by kernel_rfl) (.tmp 1) rfl w.heap.size rfl HK.out.blk0 rfl ?_))
        refine (HC.out _ _ HK.out).mono ?_
        rintro e w1 ⟨rfl, hb1⟩
        have HK1 := Lib.hid (HK.out.next hb1)
        have x0 := HK1.out.blk0.at_ 0 rfl
        clear hb1
        go_wp2_with (first | (with_reducible refine wpList_load_rq (by kernel_rfl) (.tmp 1) rfl w.heap.size rfl HK1.out.blk0 rfl ?_))
        refine (HF.out _ _ HK1.out).mono ?_
        rintro e w2 ⟨rfl, hb2⟩
        have HK2 := Lib.hid (HK1.out.next hb2)
        clear hb2 x0
        have x1 := HK2.out.blk0.at_ 1 rfl
        have x2 := HK2.out.blk0.at_ 2 rfl
        go_wp2_with fail
        go_ret2
        exact ⟨rfl, HK2.out.1⟩

set_option maxRecDepth 100000 in
set_option maxHeartbeats 4000000 in
theorem rbill_bad (x : Rq) (A1 A2 : Option Addr) (c1 c2 k1 k2 : Nat) (w : World) (hr : RqS w A1 c1 A2 c2 x) (h1 : x.num.length = k1) (h2 : x.den.length = k2) (ho : ¬ (okR x ∧ x.neg = false)) :
    Calls Try.prog 24 #[.agg #[.bool x.neg, .slice A1 k1 c1, .slice A2 k2 c2]] w fun e w' => e = .returned (.tuple #[.int .i64 0, .int .i64 2]) ∧ Below w.heap.size w w' := by
  have HC := Lib.hid (fun wx bs (hk : Kp w bs wx) u (hu : chkR x = u) => rCheck4_any x A1 A2 c1 c2 k1 k2 u wx (hr.to hk.1) h1 h2 hu)
  by_cases hk : okR x
  · have HOK := Lib.hid (chkR_ok hk)
    have hn : x.neg = true := by
      cases h : x.neg with
      | true => rfl
      | false => exact absurd ⟨hk, h⟩ ho
    rw [hn] at HC ⊢
    have HK := Lib.hid ((Kp.refl w).alloc #[.bool true, .slice A1 k1 c1, .slice A2 k2 c2] 27 _ rfl)
    clear hr h1 h2 ho hk hn
    go_enter Try.func24, Try.ntmps24
    go_wp2_with fail
    refine (HC.out _ _ HK.out 0 HOK.out).mono ?_
    rintro e w1 ⟨rfl, hb1⟩
    have HK1 := Lib.hid (HK.out.next hb1)
    have x0 := HK1.out.blk0.at_ 0 rfl
    clear hb1
    go_wp2_with fail
    go_ret2
    exact ⟨rfl, HK1.out.1⟩
  · have HOK := Lib.hid (chkR_no hk)
    obtain ⟨n, hn⟩ : ∃ n, x.neg = n := ⟨_, rfl⟩
    rw [hn] at HC ⊢
    have HK := Lib.hid ((Kp.refl w).alloc #[.bool n, .slice A1 k1 c1, .slice A2 k2 c2] 27 _ rfl)
    clear hr h1 h2 ho hk hn
    go_enter Try.func24, Try.ntmps24
    go_wp2_with fail
    refine (HC.out _ _ HK.out 8 HOK.out).mono ?_
    rintro e w1 ⟨rfl, hb1⟩
    have HK1 := Lib.hid (HK.out.next hb1)
    clear hb1
    go_wp2_with fail
    go_ret2
    exact ⟨rfl, HK1.out.1⟩

theorem rbill_any (x : Rq) (A1 A2 : Option Addr) (c1 c2 k1 k2 : Nat) (v er : Int) (w : World) (hr : RqS w A1 c1 A2 c2 x) (h1 : x.num.length = k1) (h2 : x.den.length = k2) (hM : Hid (billM x = (v, er))) :
    Calls Try.prog 24 #[.agg #[.bool x.neg, .slice A1 k1 c1, .slice A2 k2 c2]] w fun e w' => e = .returned (.tuple #[.int .i64 v, .int .i64 er]) ∧ Below w.heap.size w w' := by
  by_cases ho : okR x ∧ x.neg = false
  · have hq := hM.out
    by_cases hg : k1 ≤ 90 ∧ k2 ≤ 90 ∧ val x.num / val x.den ≤ 1000000
    · rw [billM_ok ho (by rw [h1, h2]; exact ⟨hg.1, hg.2.1⟩)] at hq
      obtain ⟨m, hm, _⟩ := limbs_of_chk (chk2_zero ho.1.1).1
      obtain ⟨n, hn, _⟩ := limbs_of_chk (chk2_zero ho.1.1).2
      have n0 := ho.1.2.1
      have hw := hg.2.2
      rw [hn, val_limbs] at n0
      rw [hm, hn, val_limbs, val_limbs] at hq hw
      rw [ho.2]
      exact rbill_mid x A1 A2 c1 c2 k1 k2 m n v er w hr ho.1 ho.2 hm hn (by rw [← hm]; exact h1) (by rw [← hn]; exact h2) hg.1 hg.2.1 n0 hw hq
    · obtain ⟨rfl, rfl⟩ : 0 = v ∧ 30 = er := by
        by_cases hl : k1 ≤ 90 ∧ k2 ≤ 90
        · rw [billM_ok ho (by rw [h1, h2]; exact hl), fixQ_great (whole_great (by have := ho.1.2.1; omega) (fun h => hg ⟨hl.1, hl.2, h⟩))] at hq
          simpa using hq
        · rw [billM_long ho (by rw [h1, h2]; exact hl)] at hq
          simpa using hq
      rw [ho.2]
      exact rbill_great x A1 A2 c1 c2 k1 k2 w hr ho.1 ho.2 h1 h2 hg
  · have hq := hM.out
    rw [billM_arg ho] at hq
    obtain ⟨rfl, rfl⟩ : 0 = v ∧ 2 = er := by simpa using hq
    exact rbill_bad x A1 A2 c1 c2 k1 k2 w hr h1 h2 ho
end Go.Proofs.Ytefoccjphbbmhaa
