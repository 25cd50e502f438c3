/- ContestBytes. -/
import Derived.Test.YtdjifopdlkppoaaDoorLawBack
import Derived.Test.YtdjifopdlkppoaaDoorRefRd
import Derived.Test.YtdjifopdlkppoaaDoorRefBy
import Derived.Test.YtdjifopdlkppoaaDoorRefSa
namespace Go.Proofs.YtdjifopdlkppoaaDoor
open Go.RowKit
set_option linter.unusedVariables false

theorem may_len {x : Ct} (h : x = zeroCt ∨ mayB x = true) : x.cands.length ≤ 4000000000 := by
  rcases h with rfl | h
  · decide
  · have := ((mayB_iff x).1 h).2.2.1; omega

set_option maxRecDepth 100000 in
set_option maxHeartbeats 4000000 in
theorem contestBytes_any {T : World → Prop} (K : Con T) (x : Ct) (A : Option Addr) (c : Nat) (A2 : Option Addr) (c2 : Nat) (l : List UInt8) (w : World) (hc : CtOk w A c x) (hl : Rf bv w w.heap.size A2 c2 l) (hT : T w) :
    Calls Tryd.prog 6 #[cv A c x, .slice A2 l.length c2] w fun e w' => e = .returned (.bool true) ∧ Below w.heap.size w w' := by
  have HK := Lib.hid K
  have HT := Lib.hid hT
  have HC := Lib.hid hc
  have HL := Lib.hid hl
  have HG := Lib.hid (fun wx (hb : Below w.heap.size w wx) => great_any x A c wx ((hc.below hb).rd))
  have HB0 := Lib.hid (show Blk (w.alloc (.cells (cvs A c x) 26)) w.heap.size 26 (cvs A c x) from Blk.new w _ _)
  have B0 := Lib.hid (below_new w (.cells (cvs A c x) 26))
  clear K hT hc hl
  unfold cv
  unfold cvs at B0 ⊢
  cases hg : greatM x with
  | true =>
    have HGB := Lib.hid hg
    clear hg
    go_enter Tryd.func6, Tryd.ntmps6
    go_wp2_with fail
    refine (HG.out _ B0.out).mono ?_
    rintro e w1 ⟨rfl, hb⟩
    rw [HGB.out]
    go_wp2_with fail
    go_ret
    exact ⟨rfl, B0.out.trans (hb.mono B0.out.size)⟩
  | false =>
    have HGB := Lib.hid hg
    have HGN := Lib.hid (greatM_no hg)
    clear hg
    by_cases hbig : 20000 < l.length
    · have hbd : decide ((20000 : Int) < (l.length : Int)) = true := by simp; omega
      clear hbig
      go_enter Tryd.func6, Tryd.ntmps6
      go_wp2_with fail
      refine (HG.out _ B0.out).mono ?_
      rintro e w1 ⟨rfl, hb⟩
      rw [HGB.out]
      go_wp2_with fail
      go_ret
      exact ⟨rfl, B0.out.trans (hb.mono B0.out.size)⟩
    · have hbd : decide ((20000 : Int) < (l.length : Int)) = false := by simp; omega
      have HLL := Lib.hid (show l.length ≤ 100000 by omega)
      clear hbig
      obtain ⟨bi, hbi, hz0, hz1, hz2⟩ := bInfo7_parts
      have HBI := Lib.hid hbi
      have HZ0 := Lib.hid hz0
      have HZ1 := Lib.hid hz1
      have HZ2 := Lib.hid hz2
      clear hbi hz0 hz1 hz2
      obtain ⟨y, g, hy⟩ : ∃ y g, readM l = (y, g) := ⟨_, _, rfl⟩
      have HRY := Lib.hid hy
      have HYM := Lib.hid (show y = zeroCt ∨ mayB y = true by have := readM_may l; rw [hy] at this; exact this)
      clear hy
      obtain ⟨bx, ex, hbx⟩ : ∃ b e, bytesM x = (b, e) := ⟨_, _, rfl⟩
      have HBX := Lib.hid hbx
      clear hbx
      go_enter Tryd.func6, Tryd.ntmps6
      go_wp2_with fail
      refine (HG.out _ B0.out).mono ?_
      rintro e w1 ⟨rfl, hb⟩
      rw [HGB.out]
      have B1 := Lib.hid (B0.out.trans (hb.mono B0.out.size))
      have HB1 := Lib.hid (HB0.out.below hb HB0.out.lt)
      have HOW := Lib.hid (ow_zero (f := bv) (w := w1) 5 w1.heap.size (Nat.le_refl _))
      have HRL := Lib.hid ((HL.out.below B1.out).alloc B1.out.size (.cells #[] 5))
      have HLE := Lib.hid (show ([] : List UInt8).length + l.length ≤ 4000000000 by have := HLL.out; simp; omega)
      have HSA := Lib.hid (show w1.heap.size ≤ (w1.alloc (.cells #[] 5)).heap.size by simp)
      clear hb
      go_wp2_with (first
        | (with_reducible refine wpList_load_ct (by kernel_rfl) (.tmp 2) rfl w.heap.size rfl (A := A) (c := c) (x := x) HB4.out ?_)
        | (at_builtin; (refine wpList_append_f _ bv_one rfl (.tmp 21) (.tmp 22) 37 rfl w1.heap.size 5 1 bi _ Tryd.underlying37 HBI.out HZ0.out HZ1.out HZ2.out (by omega) rfl [] l rfl rfl HOW.out HRL.out HLE.out HSA.out ?_); intro A4 c4 w4 r4 hr4 hown4 hg4 hbl4; have HB4 := Lib.hid ((HB1.out.alloc (.cells #[] 5)).grown hg4 (by have := HB1.out.lt; simp [blk]; omega)); have B4 := Lib.hid ((B1.out.alloc B1.out.size (.cells #[] 5)).grown hg4 (by have := B1.out.size; simp only [World.size_alloc]; omega) (fun k e => by have := B1.out.size; simp [blk] at e; omega))))
      have HRE4 := Lib.hid (show r4 = l by rw [hr4.out]; rfl)
      have HR4 := Lib.hid hown4.rd
      clear hr4 hown4 hg4 hbl4
      refine (HK.out.bytes x A c _ (HC.out.below B4.out) (HK.out.keep HT.out B4.out)).mono ?_
      rintro e w5 ⟨A5, c5, r5, e5, rfl, hq, ho, hb⟩
      rw [HBX.out] at hq
      obtain ⟨rfl, rfl⟩ := Prod.mk.inj hq
      clear hq
      have B5 := Lib.hid (B4.out.trans (hb.mono B4.out.size))
      have HB5 := Lib.hid (HB4.out.below hb HB4.out.lt)
      have HR45 := Lib.hid ((HR4.out.below hb).more hb.size)
      have HR5 := Lib.hid ho.rd
      clear hb ho
      go_wp2_with (with_reducible refine wpList_load_ct (by kernel_rfl) (.tmp 2) rfl w.heap.size rfl (A := A) (c := c) (x := x) HB5.out ?_)
      refine (refBytes_any x A c _ (HC.out.below B5.out) (by have := HGN.out.2.1; omega) (fun y hy => by have := HGN.out.2.2 y hy; omega)).mono ?_
      rintro e w6 ⟨A6, c6, r6, e6, rfl, hq, ho, hb⟩
      rw [HBX.out] at hq
      obtain ⟨rfl, rfl⟩ := Prod.mk.inj hq
      clear hq
      have B6 := Lib.hid (B5.out.trans (hb.mono B5.out.size))
      have HR46 := Lib.hid ((HR45.out.below hb).more hb.size)
      have HR56 := Lib.hid ((HR5.out.below hb).more hb.size)
      have HR6 := Lib.hid ho.rd
      clear hb ho
      go_wp2_with fail
      have hrd := HK.out.read r4 A4 c4 _ HR46.out (by rw [HRE4.out]; exact HLL.out) (HK.out.keep HT.out B6.out)
      rw [show readM r4 = (y, g) by rw [HRE4.out]; exact HRY.out] at hrd
      refine hrd.mono ?_
      clear hrd
      rintro e w7 ⟨A7, c7, x7, g7, rfl, hq, hr7, hb⟩
      obtain ⟨rfl, rfl⟩ := Prod.mk.inj hq
      clear hq
      have B7 := Lib.hid (B6.out.trans (hb.mono B6.out.size))
      have HR47 := Lib.hid ((HR46.out.below hb).more hb.size)
      have HR57 := Lib.hid ((HR56.out.below hb).more hb.size)
      have HR67 := Lib.hid ((HR6.out.below hb).more hb.size)
      have HR7 := Lib.hid hr7
      have HZ7 := Lib.hid (Blk.new w7 26 #[.string ⟨#[]⟩, .slice none 0 0, .int .i64 0, .int .u8 0])
      have BN7 := Lib.hid (below_new w7 (.cells #[.string ⟨#[]⟩, .slice none 0 0, .int .i64 0, .int .u8 0] 26))
      clear hb hr7
      go_wp2_with ((with_reducible refine wpList_store_ct rfl (.tmp 10) (.tmp 37) rfl w7.heap.size rfl HZ7.out rfl (A := A7) (c := c7) (x := x7) rfl ?_); intro w8 hb8 hg8; have HB8 := Lib.hid hb8)
      have hb78 : Below w7.heap.size w7 w8 := BN7.out.grown hg8 BN7.out.size (fun k e => by cases e; exact Nat.le_refl _)
      have B8 := Lib.hid (B7.out.trans (hb78.mono B7.out.size))
      have HR48 := Lib.hid ((HR47.out.below hb78).more hb78.size)
      have HR58 := Lib.hid ((HR57.out.below hb78).more hb78.size)
      have HR68 := Lib.hid ((HR67.out.below hb78).more hb78.size)
      have HR8 := Lib.hid ((HR7.out.below hb78).more hb78.size)
      clear hb78 hg8 hb8
      refine (refRead_any l A2 c2 _ ((HL.out.below B8.out).more B8.out.size) HLL.out).mono ?_
      rintro e w9 ⟨A9, c9, x9, g9, rfl, hq, hr9, hb⟩
      rw [HRY.out] at hq
      obtain ⟨rfl, rfl⟩ := Prod.mk.inj hq
      clear hq
      have B9 := Lib.hid (B8.out.trans (hb.mono B8.out.size))
      have HB89 := Lib.hid (HB8.out.below hb HB8.out.lt)
      have HR49 := Lib.hid ((HR48.out.below hb).more hb.size)
      have HR59 := Lib.hid ((HR58.out.below hb).more hb.size)
      have HR69 := Lib.hid ((HR68.out.below hb).more hb.size)
      have HR89 := Lib.hid ((HR8.out.below hb).more hb.size)
      have HR9 := Lib.hid hr9
      have HZ9 := Lib.hid (Blk.new w9 26 #[.string ⟨#[]⟩, .slice none 0 0, .int .i64 0, .int .u8 0])
      have BN9 := Lib.hid (below_new w9 (.cells #[.string ⟨#[]⟩, .slice none 0 0, .int .i64 0, .int .u8 0] 26))
      clear hb hr9
      have hk5 : ∀ wx, Below w9.heap.size w9 wx → _ := fun wx hb => run_string_f (P := Tryd.prog) wx 37 9 5 Tryd.underlying37 Tryd.underlying5 Tryd.underlying9 (HR59.out.below hb)
      have hk6 : ∀ wx, Below w9.heap.size w9 wx → _ := fun wx hb => run_string_f (P := Tryd.prog) wx 37 9 5 Tryd.underlying37 Tryd.underlying5 Tryd.underlying9 (HR69.out.below hb)
      have HK5 := Lib.hid hk5
      have HK6 := Lib.hid hk6
      clear hk5 hk6
      go_wp2_with (first
        | ((with_reducible refine wpList_store_ct rfl (.tmp 12) (.tmp 42) rfl w9.heap.size rfl HZ9.out rfl (A := A9) (c := c9) (x := x9) rfl ?_); intro w10 hb10 hg10; have HB10 := Lib.hid hb10; have HBW := Lib.hid (BN9.out.grown hg10 BN9.out.size (fun k e => by cases e; exact Nat.le_refl _)); have hk5 := HK5.out _ HBW.out; have hk6 := HK6.out _ HBW.out; have HB810 := Lib.hid (HB89.out.below HBW.out HB89.out.lt))
        | (with_reducible refine wpList_load_ct (by kernel_rfl) (.tmp 10) rfl w7.heap.size rfl (A := A7) (c := c7) (x := x9) HB810.out ?_)
        | (with_reducible refine wpList_load_ct (by kernel_rfl) (.tmp 12) rfl w9.heap.size rfl (A := A9) (c := c9) (x := x9) HB10.out ?_))
      have B10 := Lib.hid (B9.out.trans (HBW.out.mono B9.out.size))
      refine (refSame_any x9 x9 A7 A9 c7 c9 _ ((HR89.out.below HBW.out).more HBW.out.size) ((HR9.out.below HBW.out).more HBW.out.size) (may_len HYM.out)).mono ?_
      rintro e w11 ⟨rfl, hb⟩
      rw [show decide (x9 = x9) = true from decide_eq_true rfl]
      have B11 := Lib.hid (B10.out.trans (hb.mono B10.out.size))
      have hk4 := run_string_f (P := Tryd.prog) w11 37 9 5 Tryd.underlying37 Tryd.underlying5 Tryd.underlying9 ((HR49.out.below HBW.out).below (hb.mono HBW.out.size))
      have hkl := run_string_f (P := Tryd.prog) w11 37 9 5 Tryd.underlying37 Tryd.underlying5 Tryd.underlying9 (HL.out.below B11.out)
      have hbe : (r4 == l) = true := by rw [beq_iff_eq]; exact HRE4.out
      clear hb
      go_wp2_with fail
      go_ret
      exact ⟨rfl, B11.out⟩
end Go.Proofs.YtdjifopdlkppoaaDoor
