/- DrawLots. -/
import Derived.Test.YtipclieldokfnaaDoorRefL
namespace Go.Proofs.YtipclieldokfnaaDoor
open Go.RowKit
set_option linter.unusedVariables false

theorem lots_len (s : List UInt8) (n : Int) : (lotM s n).1.length ≤ 64 := by
  unfold lotM
  split
  · cases h : numsM s (lotReqs n.toNat) with
    | none => simp
    | some l => simp [lotS_len]; omega
  · simp

set_option maxRecDepth 100000 in
set_option maxHeartbeats 1000000 in
theorem drawLots_any (s : List UInt8) (n : Int) (w : World) (hs : s.length = 32) (hn : (Lit.int .i64 n).wf = true) (hT : Tab w) :
    Calls Tryd.prog 6 #[ab s, .int .i64 n] w fun e w' => e = .returned (.bool true) ∧ Below w.heap.size w w' := by
  have HS := Lib.hid hs
  have HT := Lib.hid hT
  have hbw := fun (o : Obj) => below_new w o
  obtain ⟨q, hq⟩ : ∃ q, q = lotM s n := ⟨_, rfl⟩
  have HQL := Lib.hid (show q.1.length ≤ 64 by rw [hq]; exact lots_len s n)
  have HA := Lib.hid (show ∀ wx : World, Tab wx → Calls Tryd.prog 13 #[ab s, .int .i64 n] wx (IntsErr wx q) from fun wx h => by
    rw [hq]
    exact lot_any s n wx hs hn h)
  have HB := Lib.hid (show ∀ wx : World, Calls Tryd.prog 20 #[ab s, .int .i64 n] wx (IntsErr wx q) from fun wx => by
    rw [hq]
    exact refLot_any s n wx hs hn)
  unfold ab at HA HB ⊢
  obtain ⟨cs, hcs⟩ : ∃ cs, (s.map bv).toArray = cs := ⟨_, rfl⟩
  have HCS := Lib.hid hcs
  have HBX := Lib.hid (Hb.new bv w 22 s cs hcs)
  rw [hcs] at HA HB ⊢
  clear hcs hs hT hn hq
  go_enter Tryd.func6, Tryd.ntmps6
  go_wp2_with ((with_reducible refine wpList_load_hb rfl _ (.tmp 2) rfl _ rfl HBX.out Tryd.underlying22 (by rw [HS.out]; exact size32) ?_); rw [HCS.out])
  refine (HA.out _ (HT.out.below (hbw _))).mono ?_
  rintro e w1 ⟨A1, c1, r1, e1, rfl, hq1, ho1, hb1⟩
  have HB1 := Lib.hid ((hbw (.cells cs 22)).trans (hb1.mono (by simp)))
  have hbx := HBX.out.below hb1 (by simp)
  have HR1 := Lib.hid ho1.rd
  subst hq1
  clear hb1 ho1
  go_wp2_with ((with_reducible refine wpList_load_hb rfl _ (.tmp 2) rfl _ rfl hbx Tryd.underlying22 (by rw [HS.out]; exact size32) ?_); rw [HCS.out])
  refine (HB.out w1).mono ?_
  rintro e w2 ⟨A2, c2, r2, e2, rfl, hq2, ho2, hb2⟩
  obtain ⟨rfl, rfl⟩ := Prod.mk.inj hq2
  have HB2 := Lib.hid (HB1.out.trans (hb2.mono HB1.out.size))
  have HR2 := Lib.hid ho2.rd
  have HR12 := Lib.hid (HR1.out.below hb2)
  clear hb2 hbx hq2 ho2
  go_wp2_with fail
  have hsm := sameInts_any A1 A2 c1 c2 _ _ r2 r2 w2 HR12.out HR2.out (by have : r2.length ≤ 64 := HQL.out; omega) (by have : r2.length ≤ 64 := HQL.out; omega)
  refine hsm.mono ?_
  clear hsm
  rintro e w3 ⟨rfl, n3, rfl⟩
  rw [show decide (r2 = r2) = true by simp]
  go_wp2_with fail
  go_ret
  exact ⟨rfl, HB2.out.trans (below_drewN _ _ n3)⟩
end Go.Proofs.YtipclieldokfnaaDoor
