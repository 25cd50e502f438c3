/- ContestBack. -/
import Derived.Test.YtdjifopdlkppoaaDoorAliveC
import Derived.Test.YtdjifopdlkppoaaDoorCell
namespace Go.Proofs.YtdjifopdlkppoaaDoor
open Go.RowKit
set_option linter.unusedVariables false

theorem readM_may (b : List UInt8) : (readM b).1 = zeroCt ∨ mayB (readM b).1 = true := by
  by_cases h : (readM b).2 = 0
  · exact .inr (checkM_ok.1 (bytes_read h).2)
  · exact .inl (readM_err h)
theorem may_ok {x : Ct} (h : x = zeroCt ∨ mayB x = true) {w : World} {A : Option Addr} {c : Nat} (hr : Rf sv w w.heap.size A c x.cands) : CtOk w A c x := by
  rcases h with rfl | h
  · exact ⟨hr, by decide, by decide, by decide, by decide⟩
  · obtain ⟨h1, h2, h3, h4, h5, h6, h7, h8, h9⟩ := (mayB_iff x).1 h
    have hb := (ruleB_iff x.rule).1 h4
    refine ⟨hr, ?_, fun y hy => ?_, by omega, by omega⟩
    · have := ((nameB_iff _).1 h1).2.1; omega
    · have := ((nameB_iff _).1 (h7 y hy)).2.1; omega
theorem zero_bytes : bytesM zeroCt = ([], 8) := by decide +kernel

set_option maxRecDepth 100000 in
set_option maxHeartbeats 4000000 in
theorem contestBack_any {T : World → Prop} (K : Con T) (x : Ct) (A : Option Addr) (c : Nat) (A2 : Option Addr) (c2 : Nat) (l : List UInt8) (w : World) (hc : CtOk w A c x) (hl : Rf bv w w.heap.size A2 c2 l) (hT : T w) :
    Calls Tryd.prog 7 #[cv A c x, .slice A2 l.length c2] w fun e w' => e = .returned (.bool true) ∧ Below w.heap.size w w' := by
  have HK := Lib.hid K
  have HT := Lib.hid hT
  have HA := Lib.hid (fun wx h => aliveC_any K wx h)
  have HC := Lib.hid hc
  have HL := Lib.hid hl
  have HG := Lib.hid (fun wx (hb : Below w.heap.size w wx) => great_any x A c wx ((hc.below hb).rd))
  have HB0 := Lib.hid (show Blk (w.alloc (.cells (cvs A c x) 26)) w.heap.size 26 (cvs A c x) from Blk.new w _ _)
  have B0 := Lib.hid (below_new w (.cells (cvs A c x) 26))
  clear K hT hc hl
  unfold cv
  cases hg : greatM x with
  | true =>
    have HGB := Lib.hid hg
    clear hg
    unfold cvs at B0 ⊢
    go_enter Tryd.func7, Tryd.ntmps7
    go_wp2_with fail
    refine (HA.out _ (HK.out.keep HT.out B0.out)).mono ?_
    rintro e w1 ⟨rfl, hb⟩
    have B1 := Lib.hid (B0.out.trans (hb.mono B0.out.size))
    have HB1 := Lib.hid (HB0.out.below hb HB0.out.lt)
    clear hb
    go_wp2_with (with_reducible refine wpList_load_ct (by kernel_rfl) (.tmp 2) rfl w.heap.size rfl (A := A) (c := c) (x := x) HB1.out ?_)
    refine (HG.out _ B1.out).mono ?_
    rintro e w2 ⟨rfl, hb⟩
    rw [HGB.out]
    go_wp2_with fail
    go_ret
    exact ⟨rfl, B1.out.trans (hb.mono B1.out.size)⟩
  | false =>
    have HGB := Lib.hid hg
    clear hg
    by_cases hbig : 20000 < l.length
    · have hbd : decide ((20000 : Int) < (l.length : Int)) = true := by simp; omega
      clear hbig
      unfold cvs at B0 ⊢
      go_enter Tryd.func7, Tryd.ntmps7
      go_wp2_with fail
      refine (HA.out _ (HK.out.keep HT.out B0.out)).mono ?_
      rintro e w1 ⟨rfl, hb⟩
      have B1 := Lib.hid (B0.out.trans (hb.mono B0.out.size))
      have HB1 := Lib.hid (HB0.out.below hb HB0.out.lt)
      clear hb
      go_wp2_with (with_reducible refine wpList_load_ct (by kernel_rfl) (.tmp 2) rfl w.heap.size rfl (A := A) (c := c) (x := x) HB1.out ?_)
      refine (HG.out _ B1.out).mono ?_
      rintro e w2 ⟨rfl, hb⟩
      rw [HGB.out]
      go_wp2_with fail
      go_ret
      exact ⟨rfl, B1.out.trans (hb.mono B1.out.size)⟩
    · have hbd : decide ((20000 : Int) < (l.length : Int)) = false := by simp; omega
      have HLL := Lib.hid (show l.length ≤ 100000 by omega)
      clear hbig
      obtain ⟨y, g, hy⟩ : ∃ y g, readM l = (y, g) := ⟨_, _, rfl⟩
      have HRY := Lib.hid hy
      have HYM := Lib.hid (show y = zeroCt ∨ mayB y = true by have := readM_may l; rw [hy] at this; exact this)
      have HGC := Lib.hid (show (g = 0 ∧ bytesM y = (l, 0)) ∨ (g ≠ 0 ∧ y = zeroCt) by
        by_cases h : g = 0
        · have := bytes_read (b := l) (by rw [hy]; exact h)
          rw [hy] at this
          exact .inl ⟨h, this.1⟩
        · have := readM_err (b := l) (by rw [hy]; exact h)
          rw [hy] at this
          exact .inr ⟨h, this⟩)
      clear hy
      have HXC := Lib.hid (checkM_cases x)
      obtain ⟨bx, ex, hbx⟩ : ∃ b e, bytesM x = (b, e) := ⟨_, _, rfl⟩
      have HBX := Lib.hid hbx
      have HBL := Lib.hid (show bx.length ≤ 100000 by
        by_cases h : checkM x = 0
        · have h1 := textM_short (checkM_ok.1 h)
          have h2 : bytesM x = (textM x, 0) := by unfold bytesM; rw [if_neg (by omega)]
          rw [h2] at hbx
          obtain ⟨rfl, rfl⟩ := Prod.mk.inj hbx
          omega
        · rw [bytesM_err h] at hbx
          obtain ⟨rfl, rfl⟩ := Prod.mk.inj hbx
          simp)
      clear hbx
      unfold cvs at B0 ⊢
      go_enter Tryd.func7, Tryd.ntmps7
      go_wp2_with fail
      refine (HA.out _ (HK.out.keep HT.out B0.out)).mono ?_
      rintro e w1 ⟨rfl, hb⟩
      have B1 := Lib.hid (B0.out.trans (hb.mono B0.out.size))
      have HB1 := Lib.hid (HB0.out.below hb HB0.out.lt)
      clear hb
      go_wp2_with (with_reducible refine wpList_load_ct (by kernel_rfl) (.tmp 2) rfl w.heap.size rfl (A := A) (c := c) (x := x) HB1.out ?_)
      refine (HG.out _ B1.out).mono ?_
      rintro e w2 ⟨rfl, hb⟩
      rw [HGB.out]
      have B2 := Lib.hid (B1.out.trans (hb.mono B1.out.size))
      have HB2 := Lib.hid (HB1.out.below hb HB1.out.lt)
      clear hb
      go_wp2_with (with_reducible refine wpList_load_ct (by kernel_rfl) (.tmp 2) rfl w.heap.size rfl (A := A) (c := c) (x := x) HB2.out ?_)
      refine (HK.out.bytes x A c _ (HC.out.below B2.out) (HK.out.keep HT.out B2.out)).mono ?_
      rintro e w3 ⟨A3, c3, r3, e3, rfl, hq, ho, hb⟩
      rw [HBX.out] at hq
      obtain ⟨rfl, rfl⟩ := Prod.mk.inj hq
      clear hq
      have B3 := Lib.hid (B2.out.trans (hb.mono B2.out.size))
      have HB3 := Lib.hid (HB2.out.below hb HB2.out.lt)
      have HR3 := Lib.hid ho.rd
      clear hb ho
      go_wp2_with fail
      refine (HK.out.read r3 A3 c3 _ HR3.out HBL.out (HK.out.keep HT.out B3.out)).mono ?_
      rintro e w4 ⟨A4, c4, x4, e4, rfl, hq, hr4, hb⟩
      have HQ4 := Lib.hid hq
      clear hq
      have B4 := Lib.hid (B3.out.trans (hb.mono B3.out.size))
      have HB4 := Lib.hid (HB3.out.below hb HB3.out.lt)
      have HR4 := Lib.hid hr4
      have HZ4 := Lib.hid (Blk.new w4 26 #[.string ⟨#[]⟩, .slice none 0 0, .int .i64 0, .int .u8 0])
      clear hb hr4
      have HX4M := Lib.hid (show x4 = zeroCt ∨ mayB x4 = true by have := readM_may r3; rw [← HQ4.out] at this; exact this)
      have hx0 := HXC.out
      rcases hx0 with h0 | h0 | h0
      · have e1 := read_bytes h0
        rw [HBX.out] at e1
        have e2 := HQ4.out
        rw [e1] at e2
        obtain ⟨e5, rfl⟩ := Prod.mk.inj e2
        have HX4E := Lib.hid e5
        obtain rfl : e3 = 0 := by
          have h1 := HBX.out
          unfold bytesM at h1
          rw [if_neg (by omega)] at h1
          exact (Prod.mk.inj h1).2.symm
        clear e1 e2 e5 h0
        go_wp2_with (first
          | (with_reducible refine wpList_store_ct rfl (.tmp 8) (.tmp 35) rfl w4.heap.size rfl HZ4.out rfl (A := A4) (c := c4) (x := x4) rfl ?_; intro w5 hb5 hg5; have HB5 := Lib.hid hb5; have HX5 := Lib.hid ((HB4.out.alloc _).grown hg5 (by have := HB4.out.lt; simp <;> omega)); have B5 := Lib.hid ((B4.out.alloc B4.out.size _).grown hg5 (B4.out.alloc B4.out.size _).size (fun k e => by cases e; exact B4.out.size)); have HR5 := Lib.hid (((HR4.out.alloc (Nat.le_refl _) _).grown hg5 (by rw [World.size_alloc]; omega) (HR4.out.ne (Nat.le_refl _))).more (Nat.le_trans (by rw [World.size_alloc]; omega) hg5.size)); clear hb5 hg5)
          | (with_reducible refine wpList_load_ct (by kernel_rfl) (.tmp 2) rfl w.heap.size rfl (A := A) (c := c) (x := x) HX5.out ?_)
          | (with_reducible refine wpList_load_ct (by kernel_rfl) (.tmp 8) rfl w4.heap.size rfl (A := A4) (c := c4) (x := x4) HB5.out ?_))
        refine (HK.out.same x x4 A A4 c c4 _ (HC.out.below B5.out) (may_ok HX4M.out HR5.out) (HK.out.keep HT.out B5.out)).mono ?_
        rintro e w6 ⟨rfl, hb⟩
        have B6 := Lib.hid (B5.out.trans (hb.mono B5.out.size))
        clear hb
        rw [show decide (x = x4) = true by rw [HX4E.out]; exact decide_eq_true rfl]
        go_wp2_with fail
        refine (HK.out.read l A2 c2 _ ((HL.out.below B6.out).more B6.out.size) HLL.out (HK.out.keep HT.out B6.out)).mono ?_
        rintro e w7 ⟨A7, c7, x7, g7, rfl, hq, hr7, hb⟩
        have B7 := Lib.hid (B6.out.trans (hb.mono B6.out.size))
        have HR7 := Lib.hid hr7
        have HZ7 := Lib.hid (Blk.new w7 26 #[.string ⟨#[]⟩, .slice none 0 0, .int .i64 0, .int .u8 0])
        clear hb hr7
        obtain ⟨e7, rfl⟩ := Prod.mk.inj (hq.trans HRY.out)
        have E7 := Lib.hid e7
        clear hq e7
        rcases HGC.out with ⟨rfl, hby⟩ | ⟨hgn, hyz⟩
        · have HBY := Lib.hid hby
          clear hby
          go_wp2_with (first
            | (with_reducible refine wpList_store_ct rfl (.tmp 10) (.tmp 67) rfl w7.heap.size rfl HZ7.out rfl (A := A7) (c := c7) (x := x7) rfl ?_; intro w8 hb8 hg8; have HB8 := Lib.hid hb8; have B8 := Lib.hid ((B7.out.alloc B7.out.size _).grown hg8 (B7.out.alloc B7.out.size _).size (fun k e => by cases e; exact B7.out.size)); have HR8 := Lib.hid (((HR7.out.alloc (Nat.le_refl _) _).grown hg8 (by rw [World.size_alloc]; omega) (HR7.out.ne (Nat.le_refl _))).more (Nat.le_trans (by rw [World.size_alloc]; omega) hg8.size)); clear hb8 hg8)
            | (with_reducible refine wpList_load_ct (by kernel_rfl) (.tmp 10) rfl w7.heap.size rfl (A := A7) (c := c7) (x := x7) HB8.out ?_))
          refine (HK.out.bytes x7 A7 c7 _ (may_ok (by rw [E7.out]; exact HYM.out) HR8.out) (HK.out.keep HT.out B8.out)).mono ?_
          rintro e w9 ⟨A9, c9, r9, e9, rfl, hq, ho, hb⟩
          have B9 := Lib.hid (B8.out.trans (hb.mono B8.out.size))
          obtain ⟨e10, rfl⟩ := Prod.mk.inj (hq.trans (show bytesM x7 = (l, 0) by rw [E7.out]; exact HBY.out))
          have hbe : (r9 == l) = true := by rw [beq_iff_eq]; exact e10
          have hk1 := run_string_f (P := Tryd.prog) w9 37 9 5 Tryd.underlying37 Tryd.underlying5 Tryd.underlying9 ho.rd
          have hk2 := run_string_f (P := Tryd.prog) w9 37 9 5 Tryd.underlying37 Tryd.underlying5 Tryd.underlying9 (HL.out.below B9.out)
          clear hb ho hq e10
          go_wp2_with fail
          go_ret
          exact ⟨rfl, B9.out⟩
        · have HYZ := Lib.hid hyz
          have hg1 : (g7 == 0) = false := by rw [beq_eq_false_iff_ne]; exact hgn
          have hg2 : (g7 != 0) = true := by rw [bne_iff_ne]; exact hgn
          clear hyz
          go_wp2_with (first
            | (with_reducible refine wpList_store_ct rfl (.tmp 10) (.tmp 67) rfl w7.heap.size rfl HZ7.out rfl (A := A7) (c := c7) (x := x7) rfl ?_; intro w8 hb8 hg8; have HB8 := Lib.hid hb8; have B8 := Lib.hid ((B7.out.alloc B7.out.size _).grown hg8 (B7.out.alloc B7.out.size _).size (fun k e => by cases e; exact B7.out.size)); have HR8 := Lib.hid (((HR7.out.alloc (Nat.le_refl _) _).grown hg8 (by rw [World.size_alloc]; omega) (HR7.out.ne (Nat.le_refl _))).more (Nat.le_trans (by rw [World.size_alloc]; omega) hg8.size)); clear hb8 hg8)
            | (with_reducible refine wpList_load_ct (by kernel_rfl) (.tmp 10) rfl w7.heap.size rfl (A := A7) (c := c7) (x := x7) HB8.out ?_))
          refine (HK.out.bytes x7 A7 c7 _ (may_ok (by rw [E7.out]; exact HYM.out) HR8.out) (HK.out.keep HT.out B8.out)).mono ?_
          rintro e w9 ⟨A9, c9, r9, e9, rfl, hq, ho, hb⟩
          have B9 := Lib.hid (B8.out.trans (hb.mono B8.out.size))
          have HB9 := Lib.hid (HB8.out.below hb HB8.out.lt)
          have HR9 := Lib.hid ((HR8.out.below hb).more hb.size)
          obtain ⟨rfl, rfl⟩ := Prod.mk.inj (hq.trans (show bytesM x7 = ([], 8) by rw [E7.out, HYZ.out]; exact zero_bytes))
          clear hb ho hq
          go_wp2_with (with_reducible refine wpList_load_ct (by kernel_rfl) (.tmp 10) rfl w7.heap.size rfl (A := A7) (c := c7) (x := x7) HB9.out ?_)
          refine (show Calls Tryd.prog _ #[_, .agg #[.string ⟨#[]⟩, .slice none 0 0, .int .i64 0, .int .u8 0]] _ _ from HK.out.same x7 zeroCt A7 none c7 0 _ (may_ok (by rw [E7.out]; exact HYM.out) HR9.out) (may_ok (.inl rfl) (Rf.empty _ _)) (HK.out.keep HT.out B9.out)).mono ?_
          rintro e w10 ⟨rfl, hb⟩
          have B10 := Lib.hid (B9.out.trans (hb.mono B9.out.size))
          clear hb
          rw [show decide (x7 = zeroCt) = true by rw [E7.out, HYZ.out]; exact decide_eq_true rfl]
          go_wp2_with fail
          go_ret
          exact ⟨rfl, B10.out⟩
      · obtain ⟨rfl, rfl⟩ := Prod.mk.inj (HBX.out.symm.trans (bytesM_err (by rw [h0]; decide)))
        have H0 := Lib.hid h0
        rw [h0]
        clear h0
        go_wp2_with (first
          | (with_reducible refine wpList_store_ct rfl (.tmp 8) (.tmp 35) rfl w4.heap.size rfl HZ4.out rfl (A := A4) (c := c4) (x := x4) rfl ?_; intro w5 hb5 hg5; have HB5 := Lib.hid hb5; have HX5 := Lib.hid ((HB4.out.alloc _).grown hg5 (by have := HB4.out.lt; simp <;> omega)); have B5 := Lib.hid ((B4.out.alloc B4.out.size _).grown hg5 (B4.out.alloc B4.out.size _).size (fun k e => by cases e; exact B4.out.size)); have HR5 := Lib.hid (((HR4.out.alloc (Nat.le_refl _) _).grown hg5 (by rw [World.size_alloc]; omega) (HR4.out.ne (Nat.le_refl _))).more (Nat.le_trans (by rw [World.size_alloc]; omega) hg5.size)); clear hb5 hg5)
          | (with_reducible refine wpList_load_ct (by kernel_rfl) (.tmp 2) rfl w.heap.size rfl (A := A) (c := c) (x := x) HX5.out ?_)
          | (with_reducible refine wpList_load_ct (by kernel_rfl) (.tmp 8) rfl w4.heap.size rfl (A := A4) (c := c4) (x := x4) HB5.out ?_))
        refine (HK.out.check x A c _ (HC.out.below B5.out) (HK.out.keep HT.out B5.out)).mono ?_
        rintro e w6 ⟨rfl, hb⟩
        have B6 := Lib.hid (B5.out.trans (hb.mono B5.out.size))
        clear hb
        rw [H0.out]
        go_wp2_with fail
        refine (HK.out.read l A2 c2 _ ((HL.out.below B6.out).more B6.out.size) HLL.out (HK.out.keep HT.out B6.out)).mono ?_
        rintro e w7 ⟨A7, c7, x7, g7, rfl, hq, hr7, hb⟩
        have B7 := Lib.hid (B6.out.trans (hb.mono B6.out.size))
        have HR7 := Lib.hid hr7
        have HZ7 := Lib.hid (Blk.new w7 26 #[.string ⟨#[]⟩, .slice none 0 0, .int .i64 0, .int .u8 0])
        clear hb hr7
        obtain ⟨e7, rfl⟩ := Prod.mk.inj (hq.trans HRY.out)
        have E7 := Lib.hid e7
        clear hq e7
        rcases HGC.out with ⟨rfl, hby⟩ | ⟨hgn, hyz⟩
        · have HBY := Lib.hid hby
          clear hby
          go_wp2_with (first
            | (with_reducible refine wpList_store_ct rfl (.tmp 10) (.tmp 67) rfl w7.heap.size rfl HZ7.out rfl (A := A7) (c := c7) (x := x7) rfl ?_; intro w8 hb8 hg8; have HB8 := Lib.hid hb8; have B8 := Lib.hid ((B7.out.alloc B7.out.size _).grown hg8 (B7.out.alloc B7.out.size _).size (fun k e => by cases e; exact B7.out.size)); have HR8 := Lib.hid (((HR7.out.alloc (Nat.le_refl _) _).grown hg8 (by rw [World.size_alloc]; omega) (HR7.out.ne (Nat.le_refl _))).more (Nat.le_trans (by rw [World.size_alloc]; omega) hg8.size)); clear hb8 hg8)
            | (with_reducible refine wpList_load_ct (by kernel_rfl) (.tmp 10) rfl w7.heap.size rfl (A := A7) (c := c7) (x := x7) HB8.out ?_))
          refine (HK.out.bytes x7 A7 c7 _ (may_ok (by rw [E7.out]; exact HYM.out) HR8.out) (HK.out.keep HT.out B8.out)).mono ?_
          rintro e w9 ⟨A9, c9, r9, e9, rfl, hq, ho, hb⟩
          have B9 := Lib.hid (B8.out.trans (hb.mono B8.out.size))
          obtain ⟨e10, rfl⟩ := Prod.mk.inj (hq.trans (show bytesM x7 = (l, 0) by rw [E7.out]; exact HBY.out))
          have hbe : (r9 == l) = true := by rw [beq_iff_eq]; exact e10
          have hk1 := run_string_f (P := Tryd.prog) w9 37 9 5 Tryd.underlying37 Tryd.underlying5 Tryd.underlying9 ho.rd
          have hk2 := run_string_f (P := Tryd.prog) w9 37 9 5 Tryd.underlying37 Tryd.underlying5 Tryd.underlying9 (HL.out.below B9.out)
          clear hb ho hq e10
          go_wp2_with fail
          go_ret
          exact ⟨rfl, B9.out⟩
        · have HYZ := Lib.hid hyz
          have hg1 : (g7 == 0) = false := by rw [beq_eq_false_iff_ne]; exact hgn
          have hg2 : (g7 != 0) = true := by rw [bne_iff_ne]; exact hgn
          clear hyz
          go_wp2_with (first
            | (with_reducible refine wpList_store_ct rfl (.tmp 10) (.tmp 67) rfl w7.heap.size rfl HZ7.out rfl (A := A7) (c := c7) (x := x7) rfl ?_; intro w8 hb8 hg8; have HB8 := Lib.hid hb8; have B8 := Lib.hid ((B7.out.alloc B7.out.size _).grown hg8 (B7.out.alloc B7.out.size _).size (fun k e => by cases e; exact B7.out.size)); have HR8 := Lib.hid (((HR7.out.alloc (Nat.le_refl _) _).grown hg8 (by rw [World.size_alloc]; omega) (HR7.out.ne (Nat.le_refl _))).more (Nat.le_trans (by rw [World.size_alloc]; omega) hg8.size)); clear hb8 hg8)
            | (with_reducible refine wpList_load_ct (by kernel_rfl) (.tmp 10) rfl w7.heap.size rfl (A := A7) (c := c7) (x := x7) HB8.out ?_))
          refine (HK.out.bytes x7 A7 c7 _ (may_ok (by rw [E7.out]; exact HYM.out) HR8.out) (HK.out.keep HT.out B8.out)).mono ?_
          rintro e w9 ⟨A9, c9, r9, e9, rfl, hq, ho, hb⟩
          have B9 := Lib.hid (B8.out.trans (hb.mono B8.out.size))
          have HB9 := Lib.hid (HB8.out.below hb HB8.out.lt)
          have HR9 := Lib.hid ((HR8.out.below hb).more hb.size)
          obtain ⟨rfl, rfl⟩ := Prod.mk.inj (hq.trans (show bytesM x7 = ([], 8) by rw [E7.out, HYZ.out]; exact zero_bytes))
          clear hb ho hq
          go_wp2_with (with_reducible refine wpList_load_ct (by kernel_rfl) (.tmp 10) rfl w7.heap.size rfl (A := A7) (c := c7) (x := x7) HB9.out ?_)
          refine (show Calls Tryd.prog _ #[_, .agg #[.string ⟨#[]⟩, .slice none 0 0, .int .i64 0, .int .u8 0]] _ _ from HK.out.same x7 zeroCt A7 none c7 0 _ (may_ok (by rw [E7.out]; exact HYM.out) HR9.out) (may_ok (.inl rfl) (Rf.empty _ _)) (HK.out.keep HT.out B9.out)).mono ?_
          rintro e w10 ⟨rfl, hb⟩
          have B10 := Lib.hid (B9.out.trans (hb.mono B9.out.size))
          clear hb
          rw [show decide (x7 = zeroCt) = true by rw [E7.out, HYZ.out]; exact decide_eq_true rfl]
          go_wp2_with fail
          go_ret
          exact ⟨rfl, B10.out⟩
      · obtain ⟨rfl, rfl⟩ := Prod.mk.inj (HBX.out.symm.trans (bytesM_err (by rw [h0]; decide)))
        have H0 := Lib.hid h0
        rw [h0]
        clear h0
        go_wp2_with (first
          | (with_reducible refine wpList_store_ct rfl (.tmp 8) (.tmp 35) rfl w4.heap.size rfl HZ4.out rfl (A := A4) (c := c4) (x := x4) rfl ?_; intro w5 hb5 hg5; have HB5 := Lib.hid hb5; have HX5 := Lib.hid ((HB4.out.alloc _).grown hg5 (by have := HB4.out.lt; simp <;> omega)); have B5 := Lib.hid ((B4.out.alloc B4.out.size _).grown hg5 (B4.out.alloc B4.out.size _).size (fun k e => by cases e; exact B4.out.size)); have HR5 := Lib.hid (((HR4.out.alloc (Nat.le_refl _) _).grown hg5 (by rw [World.size_alloc]; omega) (HR4.out.ne (Nat.le_refl _))).more (Nat.le_trans (by rw [World.size_alloc]; omega) hg5.size)); clear hb5 hg5)
          | (with_reducible refine wpList_load_ct (by kernel_rfl) (.tmp 2) rfl w.heap.size rfl (A := A) (c := c) (x := x) HX5.out ?_)
          | (with_reducible refine wpList_load_ct (by kernel_rfl) (.tmp 8) rfl w4.heap.size rfl (A := A4) (c := c4) (x := x4) HB5.out ?_))
        refine (HK.out.check x A c _ (HC.out.below B5.out) (HK.out.keep HT.out B5.out)).mono ?_
        rintro e w6 ⟨rfl, hb⟩
        have B6 := Lib.hid (B5.out.trans (hb.mono B5.out.size))
        clear hb
        rw [H0.out]
        go_wp2_with fail
        refine (HK.out.read l A2 c2 _ ((HL.out.below B6.out).more B6.out.size) HLL.out (HK.out.keep HT.out B6.out)).mono ?_
        rintro e w7 ⟨A7, c7, x7, g7, rfl, hq, hr7, hb⟩
        have B7 := Lib.hid (B6.out.trans (hb.mono B6.out.size))
        have HR7 := Lib.hid hr7
        have HZ7 := Lib.hid (Blk.new w7 26 #[.string ⟨#[]⟩, .slice none 0 0, .int .i64 0, .int .u8 0])
        clear hb hr7
        obtain ⟨e7, rfl⟩ := Prod.mk.inj (hq.trans HRY.out)
        have E7 := Lib.hid e7
        clear hq e7
        rcases HGC.out with ⟨rfl, hby⟩ | ⟨hgn, hyz⟩
        · have HBY := Lib.hid hby
          clear hby
          go_wp2_with (first
            | (with_reducible refine wpList_store_ct rfl (.tmp 10) (.tmp 67) rfl w7.heap.size rfl HZ7.out rfl (A := A7) (c := c7) (x := x7) rfl ?_; intro w8 hb8 hg8; have HB8 := Lib.hid hb8; have B8 := Lib.hid ((B7.out.alloc B7.out.size _).grown hg8 (B7.out.alloc B7.out.size _).size (fun k e => by cases e; exact B7.out.size)); have HR8 := Lib.hid (((HR7.out.alloc (Nat.le_refl _) _).grown hg8 (by rw [World.size_alloc]; omega) (HR7.out.ne (Nat.le_refl _))).more (Nat.le_trans (by rw [World.size_alloc]; omega) hg8.size)); clear hb8 hg8)
            | (with_reducible refine wpList_load_ct (by kernel_rfl) (.tmp 10) rfl w7.heap.size rfl (A := A7) (c := c7) (x := x7) HB8.out ?_))
          refine (HK.out.bytes x7 A7 c7 _ (may_ok (by rw [E7.out]; exact HYM.out) HR8.out) (HK.out.keep HT.out B8.out)).mono ?_
          rintro e w9 ⟨A9, c9, r9, e9, rfl, hq, ho, hb⟩
          have B9 := Lib.hid (B8.out.trans (hb.mono B8.out.size))
          obtain ⟨e10, rfl⟩ := Prod.mk.inj (hq.trans (show bytesM x7 = (l, 0) by rw [E7.out]; exact HBY.out))
          have hbe : (r9 == l) = true := by rw [beq_iff_eq]; exact e10
          have hk1 := run_string_f (P := Tryd.prog) w9 37 9 5 Tryd.underlying37 Tryd.underlying5 Tryd.underlying9 ho.rd
          have hk2 := run_string_f (P := Tryd.prog) w9 37 9 5 Tryd.underlying37 Tryd.underlying5 Tryd.underlying9 (HL.out.below B9.out)
          clear hb ho hq e10
          go_wp2_with fail
          go_ret
          exact ⟨rfl, B9.out⟩
        · have HYZ := Lib.hid hyz
          have hg1 : (g7 == 0) = false := by rw [beq_eq_false_iff_ne]; exact hgn
          have hg2 : (g7 != 0) = true := by rw [bne_iff_ne]; exact hgn
          clear hyz
          go_wp2_with (first
            | (with_reducible refine wpList_store_ct rfl (.tmp 10) (.tmp 67) rfl w7.heap.size rfl HZ7.out rfl (A := A7) (c := c7) (x := x7) rfl ?_; intro w8 hb8 hg8; have HB8 := Lib.hid hb8; have B8 := Lib.hid ((B7.out.alloc B7.out.size _).grown hg8 (B7.out.alloc B7.out.size _).size (fun k e => by cases e; exact B7.out.size)); have HR8 := Lib.hid (((HR7.out.alloc (Nat.le_refl _) _).grown hg8 (by rw [World.size_alloc]; omega) (HR7.out.ne (Nat.le_refl _))).more (Nat.le_trans (by rw [World.size_alloc]; omega) hg8.size)); clear hb8 hg8)
            | (with_reducible refine wpList_load_ct (by kernel_rfl) (.tmp 10) rfl w7.heap.size rfl (A := A7) (c := c7) (x := x7) HB8.out ?_))
          refine (HK.out.bytes x7 A7 c7 _ (may_ok (by rw [E7.out]; exact HYM.out) HR8.out) (HK.out.keep HT.out B8.out)).mono ?_
          rintro e w9 ⟨A9, c9, r9, e9, rfl, hq, ho, hb⟩
          have B9 := Lib.hid (B8.out.trans (hb.mono B8.out.size))
          have HB9 := Lib.hid (HB8.out.below hb HB8.out.lt)
          have HR9 := Lib.hid ((HR8.out.below hb).more hb.size)
          obtain ⟨rfl, rfl⟩ := Prod.mk.inj (hq.trans (show bytesM x7 = ([], 8) by rw [E7.out, HYZ.out]; exact zero_bytes))
          clear hb ho hq
          go_wp2_with (with_reducible refine wpList_load_ct (by kernel_rfl) (.tmp 10) rfl w7.heap.size rfl (A := A7) (c := c7) (x := x7) HB9.out ?_)
          refine (show Calls Tryd.prog _ #[_, .agg #[.string ⟨#[]⟩, .slice none 0 0, .int .i64 0, .int .u8 0]] _ _ from HK.out.same x7 zeroCt A7 none c7 0 _ (may_ok (by rw [E7.out]; exact HYM.out) HR9.out) (may_ok (.inl rfl) (Rf.empty _ _)) (HK.out.keep HT.out B9.out)).mono ?_
          rintro e w10 ⟨rfl, hb⟩
          have B10 := Lib.hid (B9.out.trans (hb.mono B9.out.size))
          clear hb
          rw [show decide (x7 = zeroCt) = true by rw [E7.out, HYZ.out]; exact decide_eq_true rfl]
          go_wp2_with fail
          go_ret
          exact ⟨rfl, B10.out⟩
end Go.Proofs.YtdjifopdlkppoaaDoor
