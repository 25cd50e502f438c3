/- ContestWords. -/
import Derived.Test.YtdjifopdlkppoaaDoorAliveC
namespace Go.Proofs.YtdjifopdlkppoaaDoor
open Go.RowKit
set_option linter.unusedVariables false

theorem rule_cases (y : List UInt8) : ((ruleM y) = (0, 6) ∧ wordM 0 = ([], 2)) ∨ ((ruleM y).2 = 0 ∧ wordM (ruleM y).1 = (y, 0) ∧ (ruleM y).1 ≤ 16) := by
  by_cases h : (ruleM y).2 = 0
  · have := word_rule h
    exact .inr ⟨h, this.1, ((ruleB_iff _).1 this.2).2⟩
  · exact .inl ⟨ruleM_err h, rfl⟩
theorem other_cases {r : Nat} (o : Nat) (hr : ruleB r = true) :
    ((wordM o).2 = 2 ∧ (wordM o).1 = []) ∨ ((wordM o).2 = 0 ∧ ((wordM r).1 == (wordM o).1) = true ∧ ((r : Int) == (o : Int)) = true) ∨ ((wordM o).2 = 0 ∧ ((wordM r).1 == (wordM o).1) = false ∧ ((r : Int) == (o : Int)) = false) := by
  cases ho : ruleB o with
  | false => exact .inl (by unfold wordM; rw [ho]; exact ⟨rfl, rfl⟩)
  | true =>
    have h2 : (wordM o).2 = 0 := by unfold wordM; rw [ho]; rfl
    by_cases e : r = o
    · subst e
      exact .inr (.inl ⟨h2, by rw [beq_iff_eq], by rw [beq_iff_eq]⟩)
    · exact .inr (.inr ⟨h2, by rw [beq_eq_false_iff_ne]; exact fun h => e (word_inj hr ho h), by rw [beq_eq_false_iff_ne]; omega⟩)
theorem most_cases {r : Nat} (n : Int) (hr : ruleB r = true) :
    (mostM r n = (0, 2) ∧ decide (1 ≤ n) = false) ∨ (mostM r n = (0, 2) ∧ decide (1 ≤ n) = true ∧ decide (n ≤ 10) = false) ∨ (mostM r n = (n, 0) ∧ decide (1 ≤ n) = true ∧ decide (n ≤ 10) = true ∧ decide (n < 1) = false) ∨
      (mostM r n = (1, 0) ∧ decide (1 ≤ n) = true ∧ decide (n ≤ 10) = true ∧ decide (n < 1) = false ∧ kindM r = 2) := by
  unfold mostM
  rw [hr]
  by_cases h1 : 1 ≤ n
  · by_cases h2 : n ≤ 10
    · rw [decide_eq_true h1, decide_eq_true h2]
      by_cases hm : marksM r n = n
      · refine .inr (.inr (.inl ⟨by simp [hm], rfl, rfl, by simp; omega⟩))
      · have hk := marksM_kind hr n hm
        have h1' : marksM r n = 1 := by unfold marksM at hm ⊢; split; rfl; rename_i hc; rw [if_neg hc] at hm; exact absurd rfl hm
        exact .inr (.inr (.inr ⟨by simp [h1'], rfl, rfl, by simp; omega, hk⟩))
    · rw [decide_eq_true h1, decide_eq_false h2]
      exact .inr (.inl ⟨rfl, rfl, rfl⟩)
  · rw [decide_eq_false h1]
    exact .inl ⟨rfl, rfl⟩
theorem kind_cases {r : Nat} : kindM r = 1 ∨ kindM r = 2 ∨ kindM r = 3 := by have := kindM_range r; omega

set_option maxRecDepth 100000 in
set_option maxHeartbeats 2000000 in
theorem words_valid_a0 {T : World → Prop} (HK : Hid (Con T)) (r o k u : Nat) (f h j : Int) (m n : Int) (s t y : List UInt8) (v : Nat) (w : World) (HT : Hid (T w)) (hbd : decide ((1000 : Int) < (y.length : Int)) = false)
    (C1 : Hid (∀ wx, T wx → Calls Tryd.prog 37 #[.int .u8 r] wx fun e w' => e = .returned (.tuple #[.string ⟨s.toArray⟩, .int .i64 0]) ∧ Below wx.heap.size wx w'))
    (C2 : Hid (∀ wx, T wx → Calls Tryd.prog 37 #[.int .u8 o] wx fun e w' => e = .returned (.tuple #[.string ⟨t.toArray⟩, .int .i64 f]) ∧ Below wx.heap.size wx w'))
    (C3 : Hid (∀ wx, T wx → Calls Tryd.prog 33 #[.int .u8 r] wx fun e w' => e = .returned (.tuple #[.int .u8 (k : Nat), .int .i64 0]) ∧ Below wx.heap.size wx w'))
    (C4 : Hid (∀ wx, T wx → Calls Tryd.prog 35 #[.int .u8 r, .int .i64 n] wx fun e w' => e = .returned (.tuple #[.int .i64 m, .int .i64 h]) ∧ Below wx.heap.size wx w'))
    (C5 : Hid (∀ wx, T wx → Calls Tryd.prog 23 #[.string ⟨s.toArray⟩] wx fun e w' => e = .returned (.tuple #[.int .u8 (r : Nat), .int .i64 0]) ∧ Below wx.heap.size wx w'))
    (C6 : Hid (∀ wx, T wx → Calls Tryd.prog 23 #[.string ⟨y.toArray⟩] wx fun e w' => e = .returned (.tuple #[.int .u8 (v : Nat), .int .i64 j]) ∧ Below wx.heap.size wx w'))
    (HYC : Hid (((v, j) = (0, 6) ∧ wordM 0 = ([], 2)) ∨ (j = 0 ∧ wordM v = (y, 0) ∧ v ≤ 16)))
    (HM : Hid (((m, h) = (0, 2) ∧ decide (1 ≤ n) = false) ∨ ((m, h) = (0, 2) ∧ decide (1 ≤ n) = true ∧ decide (n ≤ 10) = false) ∨ ((m, h) = (n, 0) ∧ decide (1 ≤ n) = true ∧ decide (n ≤ 10) = true ∧ decide (n < 1) = false) ∨
      ((m, h) = (1, 0) ∧ decide (1 ≤ n) = true ∧ decide (n ≤ 10) = true ∧ decide (n < 1) = false ∧ k = 2)))
    (hd1 : decide ((1 : Int) ≤ (r : Int)) = true) (hd2 : decide ((r : Int) ≤ 16) = true) (hsne : (s == []) = false) (hk : k = 2) (hf : f = 2) :
    Calls Tryd.prog 8 #[.int .u8 r, .int .u8 o, .int .i64 n, .string ⟨y.toArray⟩] w fun e w' => e = .returned (.bool true) ∧ Below w.heap.size w w' := by
  have HA := Lib.hid (fun wx h => aliveC_any HK.out wx h)
  obtain rfl := hk
  obtain rfl := hf
  go_enter Tryd.func8, Tryd.ntmps8
  go_wp2_with fail
  refine (HA.out _ HT.out).mono ?_
  rintro e w1 ⟨rfl, hb⟩
  have B1 := Lib.hid hb
  clear hb
  go_wp2_with fail
  refine (C1.out _ (HK.out.keep HT.out B1.out)).mono ?_
  rintro e w2 ⟨rfl, hb⟩
  have B2 := Lib.hid (B1.out.trans (hb.mono B1.out.size))
  clear hb
  go_wp2_with fail
  refine (C2.out _ (HK.out.keep HT.out B2.out)).mono ?_
  rintro e w3 ⟨rfl, hb⟩
  have B3 := Lib.hid (B2.out.trans (hb.mono B2.out.size))
  clear hb
  go_wp2_with fail
  refine (C3.out _ (HK.out.keep HT.out B3.out)).mono ?_
  rintro e w4 ⟨rfl, hb⟩
  have B4 := Lib.hid (B3.out.trans (hb.mono B3.out.size))
  clear hb
  go_wp2_with fail
  refine (C4.out _ (HK.out.keep HT.out B4.out)).mono ?_
  rintro e w5 ⟨rfl, hb⟩
  have B5 := Lib.hid (B4.out.trans (hb.mono B4.out.size))
  clear hb
  rcases HM.out with ⟨he, hn1⟩ | ⟨he, hn1, hn2⟩ | ⟨he, hn1, hn2, hn3⟩ | ⟨he, hn1, hn2, hn3, hn4⟩
  all_goals
    first
      | (exfalso; omega)
      | skip
  all_goals
    obtain ⟨rfl, rfl⟩ := Prod.mk.inj he
    clear he HM
    go_wp2_with fail
    refine (C5.out _ (HK.out.keep HT.out B5.out)).mono ?_
    rintro e w6 ⟨rfl, hb⟩
    have B6 := Lib.hid (B5.out.trans (hb.mono B5.out.size))
    clear hb
    go_wp2_with fail
    refine (C6.out _ (HK.out.keep HT.out B6.out)).mono ?_
    rintro e w7 ⟨rfl, hb⟩
    have B7 := Lib.hid (B6.out.trans (hb.mono B6.out.size))
    clear hb
    rcases HYC.out with ⟨he, hw0⟩ | ⟨he, hw0, hv16⟩
    · obtain ⟨rfl, rfl⟩ := Prod.mk.inj he
      have HW := Lib.hid hw0
      clear hw0 he HYC
      go_wp2_with fail
      refine (HK.out.word 0 _ (by omega) (HK.out.keep HT.out B7.out)).mono ?_
      rintro e w8 ⟨rfl, hb⟩
      have B8 := Lib.hid (B7.out.trans (hb.mono B7.out.size))
      clear hb
      rw [HW.out]
      go_wp2_with fail
      go_ret
      exact ⟨rfl, B8.out⟩
    · obtain rfl : j = 0 := he
      have HW := Lib.hid (show wordM v = (y, 0) from hw0)
      have HV := Lib.hid (show v ≤ 255 from Nat.le_trans hv16 (by omega))
      clear hw0 HYC hv16
      go_wp2_with fail
      refine (HK.out.word v _ HV.out (HK.out.keep HT.out B7.out)).mono ?_
      rintro e w8 ⟨rfl, hb⟩
      have B8 := Lib.hid (B7.out.trans (hb.mono B7.out.size))
      clear hb
      rw [HW.out]
      go_wp2_with fail
      go_ret
      exact ⟨rfl, B8.out⟩

set_option maxRecDepth 100000 in
set_option maxHeartbeats 2000000 in
theorem words_valid_a1 {T : World → Prop} (HK : Hid (Con T)) (r o k u : Nat) (f h j : Int) (m n : Int) (s t y : List UInt8) (v : Nat) (w : World) (HT : Hid (T w)) (hbd : decide ((1000 : Int) < (y.length : Int)) = false)
    (C1 : Hid (∀ wx, T wx → Calls Tryd.prog 37 #[.int .u8 r] wx fun e w' => e = .returned (.tuple #[.string ⟨s.toArray⟩, .int .i64 0]) ∧ Below wx.heap.size wx w'))
    (C2 : Hid (∀ wx, T wx → Calls Tryd.prog 37 #[.int .u8 o] wx fun e w' => e = .returned (.tuple #[.string ⟨t.toArray⟩, .int .i64 f]) ∧ Below wx.heap.size wx w'))
    (C3 : Hid (∀ wx, T wx → Calls Tryd.prog 33 #[.int .u8 r] wx fun e w' => e = .returned (.tuple #[.int .u8 (k : Nat), .int .i64 0]) ∧ Below wx.heap.size wx w'))
    (C4 : Hid (∀ wx, T wx → Calls Tryd.prog 35 #[.int .u8 r, .int .i64 n] wx fun e w' => e = .returned (.tuple #[.int .i64 m, .int .i64 h]) ∧ Below wx.heap.size wx w'))
    (C5 : Hid (∀ wx, T wx → Calls Tryd.prog 23 #[.string ⟨s.toArray⟩] wx fun e w' => e = .returned (.tuple #[.int .u8 (r : Nat), .int .i64 0]) ∧ Below wx.heap.size wx w'))
    (C6 : Hid (∀ wx, T wx → Calls Tryd.prog 23 #[.string ⟨y.toArray⟩] wx fun e w' => e = .returned (.tuple #[.int .u8 (v : Nat), .int .i64 j]) ∧ Below wx.heap.size wx w'))
    (HYC : Hid (((v, j) = (0, 6) ∧ wordM 0 = ([], 2)) ∨ (j = 0 ∧ wordM v = (y, 0) ∧ v ≤ 16)))
    (HM : Hid (((m, h) = (0, 2) ∧ decide (1 ≤ n) = false) ∨ ((m, h) = (0, 2) ∧ decide (1 ≤ n) = true ∧ decide (n ≤ 10) = false) ∨ ((m, h) = (n, 0) ∧ decide (1 ≤ n) = true ∧ decide (n ≤ 10) = true ∧ decide (n < 1) = false) ∨
      ((m, h) = (1, 0) ∧ decide (1 ≤ n) = true ∧ decide (n ≤ 10) = true ∧ decide (n < 1) = false ∧ k = 2)))
    (hd1 : decide ((1 : Int) ≤ (r : Int)) = true) (hd2 : decide ((r : Int) ≤ 16) = true) (hsne : (s == []) = false) (hk : k = 2) (hf : f = 0 ∧ (s == t) = true ∧ ((r : Int) == (o : Int)) = true) :
    Calls Tryd.prog 8 #[.int .u8 r, .int .u8 o, .int .i64 n, .string ⟨y.toArray⟩] w fun e w' => e = .returned (.bool true) ∧ Below w.heap.size w w' := by
  have HA := Lib.hid (fun wx h => aliveC_any HK.out wx h)
  obtain rfl := hk
  obtain ⟨rfl, hst, hro⟩ := hf
  go_enter Tryd.func8, Tryd.ntmps8
  go_wp2_with fail
  refine (HA.out _ HT.out).mono ?_
  rintro e w1 ⟨rfl, hb⟩
  have B1 := Lib.hid hb
  clear hb
  go_wp2_with fail
  refine (C1.out _ (HK.out.keep HT.out B1.out)).mono ?_
  rintro e w2 ⟨rfl, hb⟩
  have B2 := Lib.hid (B1.out.trans (hb.mono B1.out.size))
  clear hb
  go_wp2_with fail
  refine (C2.out _ (HK.out.keep HT.out B2.out)).mono ?_
  rintro e w3 ⟨rfl, hb⟩
  have B3 := Lib.hid (B2.out.trans (hb.mono B2.out.size))
  clear hb
  go_wp2_with fail
  refine (C3.out _ (HK.out.keep HT.out B3.out)).mono ?_
  rintro e w4 ⟨rfl, hb⟩
  have B4 := Lib.hid (B3.out.trans (hb.mono B3.out.size))
  clear hb
  go_wp2_with fail
  refine (C4.out _ (HK.out.keep HT.out B4.out)).mono ?_
  rintro e w5 ⟨rfl, hb⟩
  have B5 := Lib.hid (B4.out.trans (hb.mono B4.out.size))
  clear hb
  rcases HM.out with ⟨he, hn1⟩ | ⟨he, hn1, hn2⟩ | ⟨he, hn1, hn2, hn3⟩ | ⟨he, hn1, hn2, hn3, hn4⟩
  all_goals
    first
      | (exfalso; omega)
      | skip
  all_goals
    obtain ⟨rfl, rfl⟩ := Prod.mk.inj he
    clear he HM
    go_wp2_with fail
    refine (C5.out _ (HK.out.keep HT.out B5.out)).mono ?_
    rintro e w6 ⟨rfl, hb⟩
    have B6 := Lib.hid (B5.out.trans (hb.mono B5.out.size))
    clear hb
    go_wp2_with fail
    refine (C6.out _ (HK.out.keep HT.out B6.out)).mono ?_
    rintro e w7 ⟨rfl, hb⟩
    have B7 := Lib.hid (B6.out.trans (hb.mono B6.out.size))
    clear hb
    rcases HYC.out with ⟨he, hw0⟩ | ⟨he, hw0, hv16⟩
    · obtain ⟨rfl, rfl⟩ := Prod.mk.inj he
      have HW := Lib.hid hw0
      clear hw0 he HYC
      go_wp2_with fail
      refine (HK.out.word 0 _ (by omega) (HK.out.keep HT.out B7.out)).mono ?_
      rintro e w8 ⟨rfl, hb⟩
      have B8 := Lib.hid (B7.out.trans (hb.mono B7.out.size))
      clear hb
      rw [HW.out]
      go_wp2_with fail
      go_ret
      exact ⟨rfl, B8.out⟩
    · obtain rfl : j = 0 := he
      have HW := Lib.hid (show wordM v = (y, 0) from hw0)
      have HV := Lib.hid (show v ≤ 255 from Nat.le_trans hv16 (by omega))
      clear hw0 HYC hv16
      go_wp2_with fail
      refine (HK.out.word v _ HV.out (HK.out.keep HT.out B7.out)).mono ?_
      rintro e w8 ⟨rfl, hb⟩
      have B8 := Lib.hid (B7.out.trans (hb.mono B7.out.size))
      clear hb
      rw [HW.out]
      go_wp2_with fail
      go_ret
      exact ⟨rfl, B8.out⟩

set_option maxRecDepth 100000 in
set_option maxHeartbeats 2000000 in
theorem words_valid_a2 {T : World → Prop} (HK : Hid (Con T)) (r o k u : Nat) (f h j : Int) (m n : Int) (s t y : List UInt8) (v : Nat) (w : World) (HT : Hid (T w)) (hbd : decide ((1000 : Int) < (y.length : Int)) = false)
    (C1 : Hid (∀ wx, T wx → Calls Tryd.prog 37 #[.int .u8 r] wx fun e w' => e = .returned (.tuple #[.string ⟨s.toArray⟩, .int .i64 0]) ∧ Below wx.heap.size wx w'))
    (C2 : Hid (∀ wx, T wx → Calls Tryd.prog 37 #[.int .u8 o] wx fun e w' => e = .returned (.tuple #[.string ⟨t.toArray⟩, .int .i64 f]) ∧ Below wx.heap.size wx w'))
    (C3 : Hid (∀ wx, T wx → Calls Tryd.prog 33 #[.int .u8 r] wx fun e w' => e = .returned (.tuple #[.int .u8 (k : Nat), .int .i64 0]) ∧ Below wx.heap.size wx w'))
    (C4 : Hid (∀ wx, T wx → Calls Tryd.prog 35 #[.int .u8 r, .int .i64 n] wx fun e w' => e = .returned (.tuple #[.int .i64 m, .int .i64 h]) ∧ Below wx.heap.size wx w'))
    (C5 : Hid (∀ wx, T wx → Calls Tryd.prog 23 #[.string ⟨s.toArray⟩] wx fun e w' => e = .returned (.tuple #[.int .u8 (r : Nat), .int .i64 0]) ∧ Below wx.heap.size wx w'))
    (C6 : Hid (∀ wx, T wx → Calls Tryd.prog 23 #[.string ⟨y.toArray⟩] wx fun e w' => e = .returned (.tuple #[.int .u8 (v : Nat), .int .i64 j]) ∧ Below wx.heap.size wx w'))
    (HYC : Hid (((v, j) = (0, 6) ∧ wordM 0 = ([], 2)) ∨ (j = 0 ∧ wordM v = (y, 0) ∧ v ≤ 16)))
    (HM : Hid (((m, h) = (0, 2) ∧ decide (1 ≤ n) = false) ∨ ((m, h) = (0, 2) ∧ decide (1 ≤ n) = true ∧ decide (n ≤ 10) = false) ∨ ((m, h) = (n, 0) ∧ decide (1 ≤ n) = true ∧ decide (n ≤ 10) = true ∧ decide (n < 1) = false) ∨
      ((m, h) = (1, 0) ∧ decide (1 ≤ n) = true ∧ decide (n ≤ 10) = true ∧ decide (n < 1) = false ∧ k = 2)))
    (hd1 : decide ((1 : Int) ≤ (r : Int)) = true) (hd2 : decide ((r : Int) ≤ 16) = true) (hsne : (s == []) = false) (hk : k = 2) (hf : f = 0 ∧ (s == t) = false ∧ ((r : Int) == (o : Int)) = false) :
    Calls Tryd.prog 8 #[.int .u8 r, .int .u8 o, .int .i64 n, .string ⟨y.toArray⟩] w fun e w' => e = .returned (.bool true) ∧ Below w.heap.size w w' := by
  have HA := Lib.hid (fun wx h => aliveC_any HK.out wx h)
  obtain rfl := hk
  obtain ⟨rfl, hst, hro⟩ := hf
  go_enter Tryd.func8, Tryd.ntmps8
  go_wp2_with fail
  refine (HA.out _ HT.out).mono ?_
  rintro e w1 ⟨rfl, hb⟩
  have B1 := Lib.hid hb
  clear hb
  go_wp2_with fail
  refine (C1.out _ (HK.out.keep HT.out B1.out)).mono ?_
  rintro e w2 ⟨rfl, hb⟩
  have B2 := Lib.hid (B1.out.trans (hb.mono B1.out.size))
  clear hb
  go_wp2_with fail
  refine (C2.out _ (HK.out.keep HT.out B2.out)).mono ?_
  rintro e w3 ⟨rfl, hb⟩
  have B3 := Lib.hid (B2.out.trans (hb.mono B2.out.size))
  clear hb
  go_wp2_with fail
  refine (C3.out _ (HK.out.keep HT.out B3.out)).mono ?_
  rintro e w4 ⟨rfl, hb⟩
  have B4 := Lib.hid (B3.out.trans (hb.mono B3.out.size))
  clear hb
  go_wp2_with fail
  refine (C4.out _ (HK.out.keep HT.out B4.out)).mono ?_
  rintro e w5 ⟨rfl, hb⟩
  have B5 := Lib.hid (B4.out.trans (hb.mono B4.out.size))
  clear hb
  rcases HM.out with ⟨he, hn1⟩ | ⟨he, hn1, hn2⟩ | ⟨he, hn1, hn2, hn3⟩ | ⟨he, hn1, hn2, hn3, hn4⟩
  all_goals
    first
      | (exfalso; omega)
      | skip
  all_goals
    obtain ⟨rfl, rfl⟩ := Prod.mk.inj he
    clear he HM
    go_wp2_with fail
    refine (C5.out _ (HK.out.keep HT.out B5.out)).mono ?_
    rintro e w6 ⟨rfl, hb⟩
    have B6 := Lib.hid (B5.out.trans (hb.mono B5.out.size))
    clear hb
    go_wp2_with fail
    refine (C6.out _ (HK.out.keep HT.out B6.out)).mono ?_
    rintro e w7 ⟨rfl, hb⟩
    have B7 := Lib.hid (B6.out.trans (hb.mono B6.out.size))
    clear hb
    rcases HYC.out with ⟨he, hw0⟩ | ⟨he, hw0, hv16⟩
    · obtain ⟨rfl, rfl⟩ := Prod.mk.inj he
      have HW := Lib.hid hw0
      clear hw0 he HYC
      go_wp2_with fail
      refine (HK.out.word 0 _ (by omega) (HK.out.keep HT.out B7.out)).mono ?_
      rintro e w8 ⟨rfl, hb⟩
      have B8 := Lib.hid (B7.out.trans (hb.mono B7.out.size))
      clear hb
      rw [HW.out]
      go_wp2_with fail
      go_ret
      exact ⟨rfl, B8.out⟩
    · obtain rfl : j = 0 := he
      have HW := Lib.hid (show wordM v = (y, 0) from hw0)
      have HV := Lib.hid (show v ≤ 255 from Nat.le_trans hv16 (by omega))
      clear hw0 HYC hv16
      go_wp2_with fail
      refine (HK.out.word v _ HV.out (HK.out.keep HT.out B7.out)).mono ?_
      rintro e w8 ⟨rfl, hb⟩
      have B8 := Lib.hid (B7.out.trans (hb.mono B7.out.size))
      clear hb
      rw [HW.out]
      go_wp2_with fail
      go_ret
      exact ⟨rfl, B8.out⟩

set_option maxRecDepth 100000 in
set_option maxHeartbeats 2000000 in
theorem words_valid_b0 {T : World → Prop} (HK : Hid (Con T)) (r o k u : Nat) (f h j : Int) (m n : Int) (s t y : List UInt8) (v : Nat) (w : World) (HT : Hid (T w)) (hbd : decide ((1000 : Int) < (y.length : Int)) = false)
    (C1 : Hid (∀ wx, T wx → Calls Tryd.prog 37 #[.int .u8 r] wx fun e w' => e = .returned (.tuple #[.string ⟨s.toArray⟩, .int .i64 0]) ∧ Below wx.heap.size wx w'))
    (C2 : Hid (∀ wx, T wx → Calls Tryd.prog 37 #[.int .u8 o] wx fun e w' => e = .returned (.tuple #[.string ⟨t.toArray⟩, .int .i64 f]) ∧ Below wx.heap.size wx w'))
    (C3 : Hid (∀ wx, T wx → Calls Tryd.prog 33 #[.int .u8 r] wx fun e w' => e = .returned (.tuple #[.int .u8 (k : Nat), .int .i64 0]) ∧ Below wx.heap.size wx w'))
    (C4 : Hid (∀ wx, T wx → Calls Tryd.prog 35 #[.int .u8 r, .int .i64 n] wx fun e w' => e = .returned (.tuple #[.int .i64 m, .int .i64 h]) ∧ Below wx.heap.size wx w'))
    (C5 : Hid (∀ wx, T wx → Calls Tryd.prog 23 #[.string ⟨s.toArray⟩] wx fun e w' => e = .returned (.tuple #[.int .u8 (r : Nat), .int .i64 0]) ∧ Below wx.heap.size wx w'))
    (C6 : Hid (∀ wx, T wx → Calls Tryd.prog 23 #[.string ⟨y.toArray⟩] wx fun e w' => e = .returned (.tuple #[.int .u8 (v : Nat), .int .i64 j]) ∧ Below wx.heap.size wx w'))
    (HYC : Hid (((v, j) = (0, 6) ∧ wordM 0 = ([], 2)) ∨ (j = 0 ∧ wordM v = (y, 0) ∧ v ≤ 16)))
    (HM : Hid (((m, h) = (0, 2) ∧ decide (1 ≤ n) = false) ∨ ((m, h) = (0, 2) ∧ decide (1 ≤ n) = true ∧ decide (n ≤ 10) = false) ∨ ((m, h) = (n, 0) ∧ decide (1 ≤ n) = true ∧ decide (n ≤ 10) = true ∧ decide (n < 1) = false) ∨
      ((m, h) = (1, 0) ∧ decide (1 ≤ n) = true ∧ decide (n ≤ 10) = true ∧ decide (n < 1) = false ∧ k = 2)))
    (hd1 : decide ((1 : Int) ≤ (r : Int)) = true) (hd2 : decide ((r : Int) ≤ 16) = true) (hsne : (s == []) = false) (hk : k = 1 ∨ k = 3) (hf : f = 2) :
    Calls Tryd.prog 8 #[.int .u8 r, .int .u8 o, .int .i64 n, .string ⟨y.toArray⟩] w fun e w' => e = .returned (.bool true) ∧ Below w.heap.size w w' := by
  have HA := Lib.hid (fun wx h => aliveC_any HK.out wx h)
  have hk1 : decide ((k : Int) < 1) = false := by simp; omega
  have hk3 : decide ((3 : Int) < (k : Int)) = false := by simp; omega
  have hk2 : ((k : Int) != 2) = true := by rw [bne_iff_ne]; omega
  have hk4 : ((k : Int) == 2) = false := by rw [beq_eq_false_iff_ne]; omega
  have hk5 : ¬ (k : Int) = 2 := by omega
  obtain rfl := hf
  go_enter Tryd.func8, Tryd.ntmps8
  go_wp2_with fail
  refine (HA.out _ HT.out).mono ?_
  rintro e w1 ⟨rfl, hb⟩
  have B1 := Lib.hid hb
  clear hb
  go_wp2_with fail
  refine (C1.out _ (HK.out.keep HT.out B1.out)).mono ?_
  rintro e w2 ⟨rfl, hb⟩
  have B2 := Lib.hid (B1.out.trans (hb.mono B1.out.size))
  clear hb
  go_wp2_with fail
  refine (C2.out _ (HK.out.keep HT.out B2.out)).mono ?_
  rintro e w3 ⟨rfl, hb⟩
  have B3 := Lib.hid (B2.out.trans (hb.mono B2.out.size))
  clear hb
  go_wp2_with fail
  refine (C3.out _ (HK.out.keep HT.out B3.out)).mono ?_
  rintro e w4 ⟨rfl, hb⟩
  have B4 := Lib.hid (B3.out.trans (hb.mono B3.out.size))
  clear hb
  go_wp2_with fail
  refine (C4.out _ (HK.out.keep HT.out B4.out)).mono ?_
  rintro e w5 ⟨rfl, hb⟩
  have B5 := Lib.hid (B4.out.trans (hb.mono B4.out.size))
  clear hb
  rcases HM.out with ⟨he, hn1⟩ | ⟨he, hn1, hn2⟩ | ⟨he, hn1, hn2, hn3⟩ | ⟨he, hn1, hn2, hn3, hn4⟩
  all_goals
    first
      | (exfalso; omega)
      | skip
  all_goals
    obtain ⟨rfl, rfl⟩ := Prod.mk.inj he
    clear he HM
    go_wp2_with fail
    refine (C5.out _ (HK.out.keep HT.out B5.out)).mono ?_
    rintro e w6 ⟨rfl, hb⟩
    have B6 := Lib.hid (B5.out.trans (hb.mono B5.out.size))
    clear hb
    go_wp2_with fail
    refine (C6.out _ (HK.out.keep HT.out B6.out)).mono ?_
    rintro e w7 ⟨rfl, hb⟩
    have B7 := Lib.hid (B6.out.trans (hb.mono B6.out.size))
    clear hb
    rcases HYC.out with ⟨he, hw0⟩ | ⟨he, hw0, hv16⟩
    · obtain ⟨rfl, rfl⟩ := Prod.mk.inj he
      have HW := Lib.hid hw0
      clear hw0 he HYC
      go_wp2_with fail
      refine (HK.out.word 0 _ (by omega) (HK.out.keep HT.out B7.out)).mono ?_
      rintro e w8 ⟨rfl, hb⟩
      have B8 := Lib.hid (B7.out.trans (hb.mono B7.out.size))
      clear hb
      rw [HW.out]
      go_wp2_with fail
      go_ret
      exact ⟨rfl, B8.out⟩
    · obtain rfl : j = 0 := he
      have HW := Lib.hid (show wordM v = (y, 0) from hw0)
      have HV := Lib.hid (show v ≤ 255 from Nat.le_trans hv16 (by omega))
      clear hw0 HYC hv16
      go_wp2_with fail
      refine (HK.out.word v _ HV.out (HK.out.keep HT.out B7.out)).mono ?_
      rintro e w8 ⟨rfl, hb⟩
      have B8 := Lib.hid (B7.out.trans (hb.mono B7.out.size))
      clear hb
      rw [HW.out]
      go_wp2_with fail
      go_ret
      exact ⟨rfl, B8.out⟩

set_option maxRecDepth 100000 in
set_option maxHeartbeats 2000000 in
theorem words_valid_b1 {T : World → Prop} (HK : Hid (Con T)) (r o k u : Nat) (f h j : Int) (m n : Int) (s t y : List UInt8) (v : Nat) (w : World) (HT : Hid (T w)) (hbd : decide ((1000 : Int) < (y.length : Int)) = false)
    (C1 : Hid (∀ wx, T wx → Calls Tryd.prog 37 #[.int .u8 r] wx fun e w' => e = .returned (.tuple #[.string ⟨s.toArray⟩, .int .i64 0]) ∧ Below wx.heap.size wx w'))
    (C2 : Hid (∀ wx, T wx → Calls Tryd.prog 37 #[.int .u8 o] wx fun e w' => e = .returned (.tuple #[.string ⟨t.toArray⟩, .int .i64 f]) ∧ Below wx.heap.size wx w'))
    (C3 : Hid (∀ wx, T wx → Calls Tryd.prog 33 #[.int .u8 r] wx fun e w' => e = .returned (.tuple #[.int .u8 (k : Nat), .int .i64 0]) ∧ Below wx.heap.size wx w'))
    (C4 : Hid (∀ wx, T wx → Calls Tryd.prog 35 #[.int .u8 r, .int .i64 n] wx fun e w' => e = .returned (.tuple #[.int .i64 m, .int .i64 h]) ∧ Below wx.heap.size wx w'))
    (C5 : Hid (∀ wx, T wx → Calls Tryd.prog 23 #[.string ⟨s.toArray⟩] wx fun e w' => e = .returned (.tuple #[.int .u8 (r : Nat), .int .i64 0]) ∧ Below wx.heap.size wx w'))
    (C6 : Hid (∀ wx, T wx → Calls Tryd.prog 23 #[.string ⟨y.toArray⟩] wx fun e w' => e = .returned (.tuple #[.int .u8 (v : Nat), .int .i64 j]) ∧ Below wx.heap.size wx w'))
    (HYC : Hid (((v, j) = (0, 6) ∧ wordM 0 = ([], 2)) ∨ (j = 0 ∧ wordM v = (y, 0) ∧ v ≤ 16)))
    (HM : Hid (((m, h) = (0, 2) ∧ decide (1 ≤ n) = false) ∨ ((m, h) = (0, 2) ∧ decide (1 ≤ n) = true ∧ decide (n ≤ 10) = false) ∨ ((m, h) = (n, 0) ∧ decide (1 ≤ n) = true ∧ decide (n ≤ 10) = true ∧ decide (n < 1) = false) ∨
      ((m, h) = (1, 0) ∧ decide (1 ≤ n) = true ∧ decide (n ≤ 10) = true ∧ decide (n < 1) = false ∧ k = 2)))
    (hd1 : decide ((1 : Int) ≤ (r : Int)) = true) (hd2 : decide ((r : Int) ≤ 16) = true) (hsne : (s == []) = false) (hk : k = 1 ∨ k = 3) (hf : f = 0 ∧ (s == t) = true ∧ ((r : Int) == (o : Int)) = true) :
    Calls Tryd.prog 8 #[.int .u8 r, .int .u8 o, .int .i64 n, .string ⟨y.toArray⟩] w fun e w' => e = .returned (.bool true) ∧ Below w.heap.size w w' := by
  have HA := Lib.hid (fun wx h => aliveC_any HK.out wx h)
  have hk1 : decide ((k : Int) < 1) = false := by simp; omega
  have hk3 : decide ((3 : Int) < (k : Int)) = false := by simp; omega
  have hk2 : ((k : Int) != 2) = true := by rw [bne_iff_ne]; omega
  have hk4 : ((k : Int) == 2) = false := by rw [beq_eq_false_iff_ne]; omega
  have hk5 : ¬ (k : Int) = 2 := by omega
  obtain ⟨rfl, hst, hro⟩ := hf
  go_enter Tryd.func8, Tryd.ntmps8
  go_wp2_with fail
  refine (HA.out _ HT.out).mono ?_
  rintro e w1 ⟨rfl, hb⟩
  have B1 := Lib.hid hb
  clear hb
  go_wp2_with fail
  refine (C1.out _ (HK.out.keep HT.out B1.out)).mono ?_
  rintro e w2 ⟨rfl, hb⟩
  have B2 := Lib.hid (B1.out.trans (hb.mono B1.out.size))
  clear hb
  go_wp2_with fail
  refine (C2.out _ (HK.out.keep HT.out B2.out)).mono ?_
  rintro e w3 ⟨rfl, hb⟩
  have B3 := Lib.hid (B2.out.trans (hb.mono B2.out.size))
  clear hb
  go_wp2_with fail
  refine (C3.out _ (HK.out.keep HT.out B3.out)).mono ?_
  rintro e w4 ⟨rfl, hb⟩
  have B4 := Lib.hid (B3.out.trans (hb.mono B3.out.size))
  clear hb
  go_wp2_with fail
  refine (C4.out _ (HK.out.keep HT.out B4.out)).mono ?_
  rintro e w5 ⟨rfl, hb⟩
  have B5 := Lib.hid (B4.out.trans (hb.mono B4.out.size))
  clear hb
  rcases HM.out with ⟨he, hn1⟩ | ⟨he, hn1, hn2⟩ | ⟨he, hn1, hn2, hn3⟩ | ⟨he, hn1, hn2, hn3, hn4⟩
  all_goals
    first
      | (exfalso; omega)
      | skip
  all_goals
    obtain ⟨rfl, rfl⟩ := Prod.mk.inj he
    clear he HM
    go_wp2_with fail
    refine (C5.out _ (HK.out.keep HT.out B5.out)).mono ?_
    rintro e w6 ⟨rfl, hb⟩
    have B6 := Lib.hid (B5.out.trans (hb.mono B5.out.size))
    clear hb
    go_wp2_with fail
    refine (C6.out _ (HK.out.keep HT.out B6.out)).mono ?_
    rintro e w7 ⟨rfl, hb⟩
    have B7 := Lib.hid (B6.out.trans (hb.mono B6.out.size))
    clear hb
    rcases HYC.out with ⟨he, hw0⟩ | ⟨he, hw0, hv16⟩
    · obtain ⟨rfl, rfl⟩ := Prod.mk.inj he
      have HW := Lib.hid hw0
      clear hw0 he HYC
      go_wp2_with fail
      refine (HK.out.word 0 _ (by omega) (HK.out.keep HT.out B7.out)).mono ?_
      rintro e w8 ⟨rfl, hb⟩
      have B8 := Lib.hid (B7.out.trans (hb.mono B7.out.size))
      clear hb
      rw [HW.out]
      go_wp2_with fail
      go_ret
      exact ⟨rfl, B8.out⟩
    · obtain rfl : j = 0 := he
      have HW := Lib.hid (show wordM v = (y, 0) from hw0)
      have HV := Lib.hid (show v ≤ 255 from Nat.le_trans hv16 (by omega))
      clear hw0 HYC hv16
      go_wp2_with fail
      refine (HK.out.word v _ HV.out (HK.out.keep HT.out B7.out)).mono ?_
      rintro e w8 ⟨rfl, hb⟩
      have B8 := Lib.hid (B7.out.trans (hb.mono B7.out.size))
      clear hb
      rw [HW.out]
      go_wp2_with fail
      go_ret
      exact ⟨rfl, B8.out⟩

set_option maxRecDepth 100000 in
set_option maxHeartbeats 2000000 in
theorem words_valid_b2 {T : World → Prop} (HK : Hid (Con T)) (r o k u : Nat) (f h j : Int) (m n : Int) (s t y : List UInt8) (v : Nat) (w : World) (HT : Hid (T w)) (hbd : decide ((1000 : Int) < (y.length : Int)) = false)
    (C1 : Hid (∀ wx, T wx → Calls Tryd.prog 37 #[.int .u8 r] wx fun e w' => e = .returned (.tuple #[.string ⟨s.toArray⟩, .int .i64 0]) ∧ Below wx.heap.size wx w'))
    (C2 : Hid (∀ wx, T wx → Calls Tryd.prog 37 #[.int .u8 o] wx fun e w' => e = .returned (.tuple #[.string ⟨t.toArray⟩, .int .i64 f]) ∧ Below wx.heap.size wx w'))
    (C3 : Hid (∀ wx, T wx → Calls Tryd.prog 33 #[.int .u8 r] wx fun e w' => e = .returned (.tuple #[.int .u8 (k : Nat), .int .i64 0]) ∧ Below wx.heap.size wx w'))
    (C4 : Hid (∀ wx, T wx → Calls Tryd.prog 35 #[.int .u8 r, .int .i64 n] wx fun e w' => e = .returned (.tuple #[.int .i64 m, .int .i64 h]) ∧ Below wx.heap.size wx w'))
    (C5 : Hid (∀ wx, T wx → Calls Tryd.prog 23 #[.string ⟨s.toArray⟩] wx fun e w' => e = .returned (.tuple #[.int .u8 (r : Nat), .int .i64 0]) ∧ Below wx.heap.size wx w'))
    (C6 : Hid (∀ wx, T wx → Calls Tryd.prog 23 #[.string ⟨y.toArray⟩] wx fun e w' => e = .returned (.tuple #[.int .u8 (v : Nat), .int .i64 j]) ∧ Below wx.heap.size wx w'))
    (HYC : Hid (((v, j) = (0, 6) ∧ wordM 0 = ([], 2)) ∨ (j = 0 ∧ wordM v = (y, 0) ∧ v ≤ 16)))
    (HM : Hid (((m, h) = (0, 2) ∧ decide (1 ≤ n) = false) ∨ ((m, h) = (0, 2) ∧ decide (1 ≤ n) = true ∧ decide (n ≤ 10) = false) ∨ ((m, h) = (n, 0) ∧ decide (1 ≤ n) = true ∧ decide (n ≤ 10) = true ∧ decide (n < 1) = false) ∨
      ((m, h) = (1, 0) ∧ decide (1 ≤ n) = true ∧ decide (n ≤ 10) = true ∧ decide (n < 1) = false ∧ k = 2)))
    (hd1 : decide ((1 : Int) ≤ (r : Int)) = true) (hd2 : decide ((r : Int) ≤ 16) = true) (hsne : (s == []) = false) (hk : k = 1 ∨ k = 3) (hf : f = 0 ∧ (s == t) = false ∧ ((r : Int) == (o : Int)) = false) :
    Calls Tryd.prog 8 #[.int .u8 r, .int .u8 o, .int .i64 n, .string ⟨y.toArray⟩] w fun e w' => e = .returned (.bool true) ∧ Below w.heap.size w w' := by
  have HA := Lib.hid (fun wx h => aliveC_any HK.out wx h)
  have hk1 : decide ((k : Int) < 1) = false := by simp; omega
  have hk3 : decide ((3 : Int) < (k : Int)) = false := by simp; omega
  have hk2 : ((k : Int) != 2) = true := by rw [bne_iff_ne]; omega
  have hk4 : ((k : Int) == 2) = false := by rw [beq_eq_false_iff_ne]; omega
  have hk5 : ¬ (k : Int) = 2 := by omega
  obtain ⟨rfl, hst, hro⟩ := hf
  go_enter Tryd.func8, Tryd.ntmps8
  go_wp2_with fail
  refine (HA.out _ HT.out).mono ?_
  rintro e w1 ⟨rfl, hb⟩
  have B1 := Lib.hid hb
  clear hb
  go_wp2_with fail
  refine (C1.out _ (HK.out.keep HT.out B1.out)).mono ?_
  rintro e w2 ⟨rfl, hb⟩
  have B2 := Lib.hid (B1.out.trans (hb.mono B1.out.size))
  clear hb
  go_wp2_with fail
  refine (C2.out _ (HK.out.keep HT.out B2.out)).mono ?_
  rintro e w3 ⟨rfl, hb⟩
  have B3 := Lib.hid (B2.out.trans (hb.mono B2.out.size))
  clear hb
  go_wp2_with fail
  refine (C3.out _ (HK.out.keep HT.out B3.out)).mono ?_
  rintro e w4 ⟨rfl, hb⟩
  have B4 := Lib.hid (B3.out.trans (hb.mono B3.out.size))
  clear hb
  go_wp2_with fail
  refine (C4.out _ (HK.out.keep HT.out B4.out)).mono ?_
  rintro e w5 ⟨rfl, hb⟩
  have B5 := Lib.hid (B4.out.trans (hb.mono B4.out.size))
  clear hb
  rcases HM.out with ⟨he, hn1⟩ | ⟨he, hn1, hn2⟩ | ⟨he, hn1, hn2, hn3⟩ | ⟨he, hn1, hn2, hn3, hn4⟩
  all_goals
    first
      | (exfalso; omega)
      | skip
  all_goals
    obtain ⟨rfl, rfl⟩ := Prod.mk.inj he
    clear he HM
    go_wp2_with fail
    refine (C5.out _ (HK.out.keep HT.out B5.out)).mono ?_
    rintro e w6 ⟨rfl, hb⟩
    have B6 := Lib.hid (B5.out.trans (hb.mono B5.out.size))
    clear hb
    go_wp2_with fail
    refine (C6.out _ (HK.out.keep HT.out B6.out)).mono ?_
    rintro e w7 ⟨rfl, hb⟩
    have B7 := Lib.hid (B6.out.trans (hb.mono B6.out.size))
    clear hb
    rcases HYC.out with ⟨he, hw0⟩ | ⟨he, hw0, hv16⟩
    · obtain ⟨rfl, rfl⟩ := Prod.mk.inj he
      have HW := Lib.hid hw0
      clear hw0 he HYC
      go_wp2_with fail
      refine (HK.out.word 0 _ (by omega) (HK.out.keep HT.out B7.out)).mono ?_
      rintro e w8 ⟨rfl, hb⟩
      have B8 := Lib.hid (B7.out.trans (hb.mono B7.out.size))
      clear hb
      rw [HW.out]
      go_wp2_with fail
      go_ret
      exact ⟨rfl, B8.out⟩
    · obtain rfl : j = 0 := he
      have HW := Lib.hid (show wordM v = (y, 0) from hw0)
      have HV := Lib.hid (show v ≤ 255 from Nat.le_trans hv16 (by omega))
      clear hw0 HYC hv16
      go_wp2_with fail
      refine (HK.out.word v _ HV.out (HK.out.keep HT.out B7.out)).mono ?_
      rintro e w8 ⟨rfl, hb⟩
      have B8 := Lib.hid (B7.out.trans (hb.mono B7.out.size))
      clear hb
      rw [HW.out]
      go_wp2_with fail
      go_ret
      exact ⟨rfl, B8.out⟩

set_option maxRecDepth 100000 in
set_option maxHeartbeats 4000000 in
theorem contestWords_any {T : World → Prop} (K : Con T) (r o : Nat) (n : Int) (y : List UInt8) (w : World) (hr : r ≤ 255) (ho : o ≤ 255) (hn : (Lit.int .i64 n).wf = true) (hy : y.length ≤ 140737488351232) (hT : T w) :
    Calls Tryd.prog 8 #[.int .u8 r, .int .u8 o, .int .i64 n, .string ⟨y.toArray⟩] w fun e w' => e = .returned (.bool true) ∧ Below w.heap.size w w' := by
  have HK := Lib.hid K
  have HT := Lib.hid hT
  have HA := Lib.hid (fun wx h => aliveC_any K wx h)
  by_cases hb : 1000 < y.length
  · have hbd : decide ((1000 : Int) < (y.length : Int)) = true := by simp; omega
    clear hb hT K
    go_enter Tryd.func8, Tryd.ntmps8
    go_wp2_with fail
    refine (HA.out _ HT.out).mono ?_
    rintro e w1 ⟨rfl, hb⟩
    go_wp2_with fail
    go_ret
    exact ⟨rfl, hb⟩
  · have hbd : decide ((1000 : Int) < (y.length : Int)) = false := by simp; omega
    have C1 := Lib.hid (fun wx h => K.word r wx hr h)
    have C2 := Lib.hid (fun wx h => K.word o wx ho h)
    have C3 := Lib.hid (fun wx h => K.kind r wx hr h)
    have C4 := Lib.hid (fun wx h => K.most r n wx hr hn h)
    have C6 := Lib.hid (fun wx h => K.rule y wx hy h)
    have HYC := Lib.hid (rule_cases y)
    obtain ⟨v, j, hv⟩ : ∃ v j, ruleM y = (v, j) := ⟨_, _, rfl⟩
    rw [hv] at C6 HYC
    cases hrb : ruleB r with
    | false =>
      have e1 : wordM r = ([], 2) := by unfold wordM; rw [hrb]; rfl
      have e3 : kindE r = (0, 2) := by unfold kindE; rw [hrb]; rfl
      have e4 : mostM r n = (0, 2) := by unfold mostM; rw [hrb]; rfl
      rw [e1] at C1
      rw [e3] at C3
      rw [e4] at C4
      obtain ⟨t, f, ht⟩ : ∃ t f, wordM o = (t, f) := ⟨_, _, rfl⟩
      rw [ht] at C2
      have h16 : (decide ((1 : Int) ≤ (r : Int)) = false) ∨ (decide ((1 : Int) ≤ (r : Int)) = true ∧ decide ((r : Int) ≤ 16) = false) := by
        by_cases h : 1 ≤ r
        · refine .inr ⟨by simp; omega, ?_⟩
          simp [ruleB] at hrb
          simp; omega
        · exact .inl (by simp; omega)
      clear hb hv hrb e1 e3 e4 ht hr ho hn hy hT K
      rcases h16 with hd1 | ⟨hd1, hd2⟩
      all_goals
        go_enter Tryd.func8, Tryd.ntmps8
        go_wp2_with fail
        refine (HA.out _ HT.out).mono ?_
        rintro e w1 ⟨rfl, hb⟩
        have B1 := Lib.hid hb
        clear hb
        go_wp2_with fail
        refine (C1.out _ (HK.out.keep HT.out B1.out)).mono ?_
        rintro e w2 ⟨rfl, hb⟩
        have B2 := Lib.hid (B1.out.trans (hb.mono B1.out.size))
        clear hb
        go_wp2_with fail
        refine (C2.out _ (HK.out.keep HT.out B2.out)).mono ?_
        rintro e w3 ⟨rfl, hb⟩
        have B3 := Lib.hid (B2.out.trans (hb.mono B2.out.size))
        clear hb
        go_wp2_with fail
        refine (C3.out _ (HK.out.keep HT.out B3.out)).mono ?_
        rintro e w4 ⟨rfl, hb⟩
        have B4 := Lib.hid (B3.out.trans (hb.mono B3.out.size))
        clear hb
        go_wp2_with fail
        refine (C4.out _ (HK.out.keep HT.out B4.out)).mono ?_
        rintro e w5 ⟨rfl, hb⟩
        have B5 := Lib.hid (B4.out.trans (hb.mono B4.out.size))
        clear hb
        go_wp2_with fail
        refine (HK.out.rule [] _ (Nat.zero_le _) (HK.out.keep HT.out B5.out)).mono ?_
        rintro e w6 ⟨rfl, hb⟩
        have B6 := Lib.hid (B5.out.trans (hb.mono B5.out.size))
        clear hb
        rw [show ruleM [] = (0, 6) from rfl]
        go_wp2_with fail
        refine (C6.out _ (HK.out.keep HT.out B6.out)).mono ?_
        rintro e w7 ⟨rfl, hb⟩
        have B7 := Lib.hid (B6.out.trans (hb.mono B6.out.size))
        clear hb
        rcases HYC.out with ⟨he, hw0⟩ | ⟨he, hw0, hv16⟩
        · obtain ⟨rfl, rfl⟩ := Prod.mk.inj he
          have HW := Lib.hid hw0
          clear hw0 he HYC
          go_wp2_with fail
          refine (HK.out.word 0 _ (by omega) (HK.out.keep HT.out B7.out)).mono ?_
          rintro e w8 ⟨rfl, hb⟩
          have B8 := Lib.hid (B7.out.trans (hb.mono B7.out.size))
          clear hb
          rw [HW.out]
          go_wp2_with fail
          go_ret
          exact ⟨rfl, B8.out⟩
        · obtain rfl : j = 0 := he
          have HW := Lib.hid (show wordM v = (y, 0) from hw0)
          have HV := Lib.hid (show v ≤ 255 from Nat.le_trans hv16 (by omega))
          clear hw0 HYC hv16
          go_wp2_with fail
          refine (HK.out.word v _ HV.out (HK.out.keep HT.out B7.out)).mono ?_
          rintro e w8 ⟨rfl, hb⟩
          have B8 := Lib.hid (B7.out.trans (hb.mono B7.out.size))
          clear hb
          rw [HW.out]
          go_wp2_with fail
          go_ret
          exact ⟨rfl, B8.out⟩
    | true =>
      have hd1 : decide ((1 : Int) ≤ (r : Int)) = true := by have := (ruleB_iff r).1 hrb; simp; omega
      have hd2 : decide ((r : Int) ≤ 16) = true := by have := (ruleB_iff r).1 hrb; simp; omega
      have HO := Lib.hid (other_cases o hrb)
      have HM := Lib.hid (most_cases n hrb)
      have HKC := Lib.hid (kind_cases (r := r))
      have hsne : ((wordM r).1 == []) = false := by rw [beq_eq_false_iff_ne]; exact word_ne hrb
      have HRW := Lib.hid (rule_word hrb)
      have hwl := wordM_len r
      have e3 : kindE r = (kindM r, 0) := by unfold kindE; rw [hrb]; rfl
      rw [e3] at C3
      obtain ⟨k, hk⟩ : ∃ k, kindM r = k := ⟨_, rfl⟩
      rw [hk] at C3 HKC HM
      obtain ⟨s, e1⟩ : ∃ s, wordM r = (s, 0) := ⟨(wordM r).1, by unfold wordM; rw [hrb]; rfl⟩
      rw [e1] at C1 hsne HRW HO hwl
      obtain ⟨t, f, ht⟩ : ∃ t f, wordM o = (t, f) := ⟨_, _, rfl⟩
      rw [ht] at C2 HO
      obtain ⟨m, h, hm⟩ : ∃ m h, mostM r n = (m, h) := ⟨_, _, rfl⟩
      rw [hm] at C4 HM
      have C5 := Lib.hid (fun wx h => K.rule s wx (Nat.le_trans hwl (by omega)) h)
      rw [HRW.out] at C5
      simp only at hsne
      clear hb hv hrb e1 e3 ht hm hk hr ho hn hy hT K hwl HRW
      have hfc := HO.out
      have hkc := HKC.out
      rcases hfc with hf | hf | hf
      · by_cases h2 : k = 2
        · exact words_valid_a0 HK r o k 0 f h j m n s t y v w HT hbd C1 C2 C3 C4 C5 C6 HYC HM hd1 hd2 hsne h2 hf.1
        · exact words_valid_b0 HK r o k 0 f h j m n s t y v w HT hbd C1 C2 C3 C4 C5 C6 HYC HM hd1 hd2 hsne (by omega) hf.1
      · by_cases h2 : k = 2
        · exact words_valid_a1 HK r o k 0 f h j m n s t y v w HT hbd C1 C2 C3 C4 C5 C6 HYC HM hd1 hd2 hsne h2 hf
        · exact words_valid_b1 HK r o k 0 f h j m n s t y v w HT hbd C1 C2 C3 C4 C5 C6 HYC HM hd1 hd2 hsne (by omega) hf
      · by_cases h2 : k = 2
        · exact words_valid_a2 HK r o k 0 f h j m n s t y v w HT hbd C1 C2 C3 C4 C5 C6 HYC HM hd1 hd2 hsne h2 hf
        · exact words_valid_b2 HK r o k 0 f h j m n s t y v w HT hbd C1 C2 C3 C4 C5 C6 HYC HM hd1 hd2 hsne (by omega) hf
end Go.Proofs.YtdjifopdlkppoaaDoor
