/- DrawPerm. -/
import Derived.Test.YtipclieldokfnaaDoorAlive
namespace Go.Proofs.YtipclieldokfnaaDoor
open Go.RowKit
set_option linter.unusedVariables false

set_option maxRecDepth 100000 in
set_option maxHeartbeats 1000000 in
theorem drawPerm_any (s : List UInt8) (n : Int) (w : World) (hs : s.length = 32) (hn : (Lit.int .i64 n).wf = true) (hT : Tab w) :
    Calls Tryd.prog 8 #[ab s, .int .i64 n] w fun e w' => e = .returned (.bool true) ∧ Below w.heap.size w w' := by
  have HS := Lib.hid hs
  have HT := Lib.hid hT
  have hbw := fun (o : Obj) => below_new w o
  have HL := Lib.hid (show ∀ wx : World, Tab wx → Calls Tryd.prog 13 #[ab s, .int .i64 n] wx (IntsErr wx (lotM s n)) from fun wx h => lot_any s n wx hs hn h)
  unfold ab at HL ⊢
  obtain ⟨cs, hcs⟩ : ∃ cs, (s.map bv).toArray = cs := ⟨_, rfl⟩
  have HCS := Lib.hid hcs
  have HBX := Lib.hid (Hb.new bv w 22 s cs hcs)
  rw [hcs] at HL ⊢
  clear hcs hs hT hn
  by_cases hr : 0 ≤ n ∧ n ≤ 64
  · obtain ⟨k, rfl⟩ := Int.eq_ofNat_of_zero_le hr.1
    have hk : k ≤ 64 := by omega
    have d1 : decide ((k : Int) < 0) = false := by simp
    have d2 : decide ((64 : Int) < (k : Int)) = false := by simp; omega
    have hM : lotM s (k : Int) = match numsM s (lotReqs k) with | some xs => (lotS k xs (k - 1), 0) | none => ([], 6) := by
      unfold lotM
      rw [if_pos ⟨by omega, by omega⟩, Int.toNat_natCast]; rfl
    cases hnm : numsM s (lotReqs k) with
    | none =>
      rw [hnm] at hM
      have HM := Lib.hid hM
      clear hM hnm hr
      go_enter Tryd.func8, Tryd.ntmps8
      go_wp2_with fail
      refine (alive_any _ (HT.out.below (hbw _))).mono ?_
      rintro e w1 ⟨rfl, hb1⟩
      have HB1 := Lib.hid ((hbw _).trans (hb1.mono (by simp)))
      have hbx := HBX.out.below hb1 (by simp)
      clear hb1
      go_wp2_with ((with_reducible refine wpList_load_hb rfl _ (.tmp 2) rfl _ rfl hbx Tryd.underlying22 (by rw [HS.out]; exact size32) ?_); rw [HCS.out])
      refine (HL.out w1 (HT.out.below HB1.out)).mono ?_
      rintro e w2 ⟨A', c', r, er, rfl, h2, h3, hb2⟩
      rw [HM.out] at h2
      obtain ⟨rfl, rfl⟩ := Prod.mk.inj h2
      have HB2 := Lib.hid (HB1.out.trans (hb2.mono HB1.out.size))
      clear h2 h3 hb2
      go_wp2_with fail
      go_ret
      exact ⟨rfl, HB2.out⟩
    | some xs =>
      rw [hnm] at hM
      have hp := lotM_perm hnm
      have hpl := hp.len
      obtain ⟨L, hL⟩ : ∃ L, L = lotS k xs (k - 1) := ⟨_, rfl⟩
      have HM := Lib.hid (show lotM s (k : Int) = (L, 0) by rw [hM, hL])
      rw [← hL] at hp hpl
      have HP := Lib.hid hp
      have HPL := Lib.hid hpl
      clear hM hnm hr hp hpl hL
      go_enter Tryd.func8, Tryd.ntmps8
      go_wp2_with fail
      refine (alive_any _ (HT.out.below (hbw _))).mono ?_
      rintro e w1 ⟨rfl, hb1⟩
      have HB1 := Lib.hid ((hbw _).trans (hb1.mono (by simp)))
      have hbx := HBX.out.below hb1 (by simp)
      clear hb1
      go_wp2_with ((with_reducible refine wpList_load_hb rfl _ (.tmp 2) rfl _ rfl hbx Tryd.underlying22 (by rw [HS.out]; exact size32) ?_); rw [HCS.out])
      refine (HL.out w1 (HT.out.below HB1.out)).mono ?_
      rintro e w2 ⟨A', c', r, er, rfl, h2, h3, hb2⟩
      rw [HM.out] at h2
      obtain ⟨rfl, rfl⟩ := Prod.mk.inj h2
      have HB2 := Lib.hid (HB1.out.trans (hb2.mono HB1.out.size))
      have HR := Lib.hid h3.rd
      have hlk : ((r.length : Int) == (k : Int)) = true := by rw [beq_iff_eq, HPL.out]
      clear h2 h3 hb2
      go_wp2_with fail
      refine (perm_any A' c' _ r k w2 HR.out HP.out (by rw [HPL.out]; omega)).mono ?_
      rintro e w3 ⟨rfl, n3, rfl⟩
      go_wp2_with fail
      go_ret
      exact ⟨rfl, HB2.out.trans (below_drewN _ _ n3)⟩
  · have HM := Lib.hid (show lotM s n = ([], 2) by unfold lotM; rw [if_neg hr])
    by_cases h1 : n < 0
    · clear hr
      go_enter Tryd.func8, Tryd.ntmps8
      go_wp2_with fail
      refine (alive_any _ (HT.out.below (hbw _))).mono ?_
      rintro e w1 ⟨rfl, hb1⟩
      have HB1 := Lib.hid ((hbw _).trans (hb1.mono (by simp)))
      have hbx := HBX.out.below hb1 (by simp)
      clear hb1
      go_wp2_with ((with_reducible refine wpList_load_hb rfl _ (.tmp 2) rfl _ rfl hbx Tryd.underlying22 (by rw [HS.out]; exact size32) ?_); rw [HCS.out])
      refine (HL.out w1 (HT.out.below HB1.out)).mono ?_
      rintro e w2 ⟨A', c', r, er, rfl, h2, h3, hb2⟩
      rw [HM.out] at h2
      obtain ⟨rfl, rfl⟩ := Prod.mk.inj h2
      have HB2 := Lib.hid (HB1.out.trans (hb2.mono HB1.out.size))
      clear h2 h3 hb2
      go_wp2_with fail
      go_ret
      exact ⟨rfl, HB2.out⟩
    · have d1 : decide (n < 0) = false := by simp; omega
      have h2 : 64 < n := by omega
      clear hr h1
      go_enter Tryd.func8, Tryd.ntmps8
      go_wp2_with fail
      refine (alive_any _ (HT.out.below (hbw _))).mono ?_
      rintro e w1 ⟨rfl, hb1⟩
      have HB1 := Lib.hid ((hbw _).trans (hb1.mono (by simp)))
      have hbx := HBX.out.below hb1 (by simp)
      clear hb1
      go_wp2_with ((with_reducible refine wpList_load_hb rfl _ (.tmp 2) rfl _ rfl hbx Tryd.underlying22 (by rw [HS.out]; exact size32) ?_); rw [HCS.out])
      refine (HL.out w1 (HT.out.below HB1.out)).mono ?_
      rintro e w2 ⟨A', c', r, er, rfl, h2, h3, hb2⟩
      rw [HM.out] at h2
      obtain ⟨rfl, rfl⟩ := Prod.mk.inj h2
      have HB2 := Lib.hid (HB1.out.trans (hb2.mono HB1.out.size))
      clear h2 h3 hb2
      go_wp2_with fail
      go_ret
      exact ⟨rfl, HB2.out⟩
end Go.Proofs.YtipclieldokfnaaDoor
