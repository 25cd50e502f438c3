/- DrawSamples. -/
import Derived.Test.YtipclieldokfnaaDoorRefS
namespace Go.Proofs.YtipclieldokfnaaDoor
open Go.RowKit
set_option linter.unusedVariables false

theorem nums_len (s : List UInt8) (f : Nat) (m : Int) (b : Nat) : (sampleM s f m b).1.length ≤ 4096 := by
  unfold sampleM
  split
  · split
    · simp
    · unfold numsA
      cases h : numsM s (samReqs f m.toNat b) with
      | none => simp
      | some l =>
        have := numsM_len s h
        rw [samReqs_len] at this
        show l.length ≤ 4096
        omega
  · simp

set_option maxRecDepth 100000 in
set_option maxHeartbeats 1000000 in
theorem drawSamples_any (s : List UInt8) (f m b : Int) (w : World) (hs : s.length = 32) (hf : (Lit.int .u32 f).wf = true) (hm : (Lit.int .i64 m).wf = true) (hb : (Lit.int .u64 b).wf = true) (hT : Tab w) :
    Calls Tryd.prog 5 #[ab s, .int .u32 f, .int .i64 m, .int .u64 b] w fun e w' => e = .returned (.bool true) ∧ Below w.heap.size w w' := by
  have hfb := bounds_u32 hf
  have hbb := bounds_u64 hb
  obtain ⟨f, rfl⟩ := Int.eq_ofNat_of_zero_le (show 0 ≤ f by omega)
  obtain ⟨b, rfl⟩ := Int.eq_ofNat_of_zero_le (show 0 ≤ b by omega)
  have HS := Lib.hid hs
  have HT := Lib.hid hT
  have hbw := fun (o : Obj) => below_new w o
  obtain ⟨q, hq⟩ : ∃ q, q = sampleM s f m b := ⟨_, rfl⟩
  have HQL := Lib.hid (show q.1.length ≤ 4096 by rw [hq]; exact nums_len s f m b)
  have HA := Lib.hid (show ∀ wx : World, Tab wx → Calls Tryd.prog 14 #[ab s, .int .u32 f, .int .i64 m, .int .u64 b] wx (NumsErr wx q) from fun wx h => by
    rw [hq]
    exact sample_any s f m b wx hs (by omega) hm (by omega) h)
  have HB := Lib.hid (show ∀ wx : World, Calls Tryd.prog 18 #[ab s, .int .u32 f, .int .i64 m, .int .u64 b] wx (NumsErr wx q) from fun wx => by
    rw [hq]
    exact refSample_any s f m b wx hs (by omega) hm (by omega))
  unfold ab at HA HB ⊢
  obtain ⟨cs, hcs⟩ : ∃ cs, (s.map bv).toArray = cs := ⟨_, rfl⟩
  have HCS := Lib.hid hcs
  have HBX := Lib.hid (Hb.new bv w 22 s cs hcs)
  rw [hcs] at HA HB ⊢
  clear hcs hs hT hm hf hb hfb hbb hq
  by_cases h1 : 100 < m ∧ m ≤ 4096
  · obtain ⟨g1, g2⟩ := h1
    go_enter Tryd.func5, Tryd.ntmps5
    go_wp2_with fail
    go_ret
    exact ⟨rfl, hbw _⟩
  · have d1 : 100 < m → decide (m ≤ 4096) = false := fun h => by simp; omega
    by_cases h2 : 100 < m
    · have d2 := d1 h2
      clear d1 h1
      go_enter Tryd.func5, Tryd.ntmps5
      go_wp2_with ((with_reducible refine wpList_load_hb rfl _ (.tmp 4) rfl _ rfl HBX.out Tryd.underlying22 (by rw [HS.out]; exact size32) ?_); rw [HCS.out])
      refine (HA.out _ (HT.out.below (hbw _))).mono ?_
      rintro e w1 ⟨A1, c1, r1, e1, rfl, hq1, ho1, hb1⟩
      have HB1 := Lib.hid ((hbw (.cells cs 22)).trans (hb1.mono (by simp)))
      have hbx := HBX.out.below hb1 (by simp)
      have HR1 := Lib.hid ho1.rd
      subst hq1
      clear hb1 ho1
      go_wp2_with ((with_reducible refine wpList_load_hb rfl _ (.tmp 4) rfl _ rfl hbx Tryd.underlying22 (by rw [HS.out]; exact size32) ?_); rw [HCS.out])
      refine (HB.out w1).mono ?_
      rintro e w2 ⟨A2, c2, r2, e2, rfl, hq2, ho2, hb2⟩
      obtain ⟨rfl, rfl⟩ := Prod.mk.inj hq2
      have HB2 := Lib.hid (HB1.out.trans (hb2.mono HB1.out.size))
      have HR2 := Lib.hid ho2.rd
      have HR12 := Lib.hid (HR1.out.below hb2)
      clear hb2 hbx hq2 ho2
      go_wp2_with fail
      have hsm := sameNumbers_any A1 A2 c1 c2 _ _ r2 r2 w2 HR12.out HR2.out (by have : r2.length ≤ 4096 := HQL.out; omega) (by have : r2.length ≤ 4096 := HQL.out; omega)
      refine hsm.mono ?_
      clear hsm
      rintro e w3 ⟨rfl, n3, rfl⟩
      rw [show decide (r2 = r2) = true by simp]
      go_wp2_with fail
      go_ret
      exact ⟨rfl, HB2.out.trans (below_drewN _ _ n3)⟩
    · have d2 : decide (100 < m) = false := by simp; omega
      clear d1 h1
      go_enter Tryd.func5, Tryd.ntmps5
      go_wp2_with ((with_reducible refine wpList_load_hb rfl _ (.tmp 4) rfl _ rfl HBX.out Tryd.underlying22 (by rw [HS.out]; exact size32) ?_); rw [HCS.out])
      refine (HA.out _ (HT.out.below (hbw _))).mono ?_
      rintro e w1 ⟨A1, c1, r1, e1, rfl, hq1, ho1, hb1⟩
      have HB1 := Lib.hid ((hbw (.cells cs 22)).trans (hb1.mono (by simp)))
      have hbx := HBX.out.below hb1 (by simp)
      have HR1 := Lib.hid ho1.rd
      subst hq1
      clear hb1 ho1
      go_wp2_with ((with_reducible refine wpList_load_hb rfl _ (.tmp 4) rfl _ rfl hbx Tryd.underlying22 (by rw [HS.out]; exact size32) ?_); rw [HCS.out])
      refine (HB.out w1).mono ?_
      rintro e w2 ⟨A2, c2, r2, e2, rfl, hq2, ho2, hb2⟩
      obtain ⟨rfl, rfl⟩ := Prod.mk.inj hq2
      have HB2 := Lib.hid (HB1.out.trans (hb2.mono HB1.out.size))
      have HR2 := Lib.hid ho2.rd
      have HR12 := Lib.hid (HR1.out.below hb2)
      clear hb2 hbx hq2 ho2
      go_wp2_with fail
      have hsm := sameNumbers_any A1 A2 c1 c2 _ _ r2 r2 w2 HR12.out HR2.out (by have : r2.length ≤ 4096 := HQL.out; omega) (by have : r2.length ≤ 4096 := HQL.out; omega)
      refine hsm.mono ?_
      clear hsm
      rintro e w3 ⟨rfl, n3, rfl⟩
      rw [show decide (r2 = r2) = true by simp]
      go_wp2_with fail
      go_ret
      exact ⟨rfl, HB2.out.trans (below_drewN _ _ n3)⟩
end Go.Proofs.YtipclieldokfnaaDoor
