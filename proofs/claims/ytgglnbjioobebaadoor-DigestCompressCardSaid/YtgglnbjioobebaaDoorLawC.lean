/- The reference's Pad and Compress; DigestCompress. -/
import Derived.Test.YtgglnbjioobebaaDoorLawS
import Derived.Test.YtgglnbjioobebaaDoorLawL
namespace Go.Proofs.YtgglnbjioobebaaDoor
open Go.RowKit
set_option linter.unusedVariables false

set_option maxHeartbeats 1000000 in
theorem refPad_any (A : Option Addr) (c B : Nat) (l : List UInt8) (w : World) (hr : Rf bv w B A c l) (hB : B ≤ w.heap.size) (hl : l.length ≤ 100000) :
    Calls Tryd.prog 19 #[.slice A l.length c] w fun e w' => ∃ A' c', e = .returned (.tuple #[.slice A' (padM l).1.length c', .int .i64 (padM l).2]) ∧ Rf bv w' w'.heap.size A' c' (padM l).1 ∧ Below w.heap.size w w' := by
  by_cases hbig : 8192 < l.length
  · have HM := Lib.hid (show padM l = ([], 4) by unfold padM; rw [if_pos hbig])
    go_enter Tryd.func19, Tryd.ntmps19
    go_wp2_with fail
    go_ret2
    rw [HM.out]
    exact ⟨none, 0, rfl, Rf.empty _ _, Below.refl _ _⟩
  · have HM := Lib.hid (show padM l = (padB l, 0) by unfold padM; rw [if_neg hbig])
    go_enter Tryd.func19, Tryd.ntmps19
    go_wp2_with fail
    refine (padded_any A c B l _ hr hB (by omega)).mono ?_
    rintro e w1 ⟨A1, c1, rfl, ho, hb⟩
    go_wp2_with fail
    go_ret2
    rw [HM.out]
    exact ⟨A1, c1, rfl, ho.rd, hb⟩
set_option maxHeartbeats 1000000 in
theorem refComp_any (S : List UInt32) (A : Option Addr) (c B : Nat) (l : List UInt8) (w : World) (hS : S.length = 8) (hr : Rf bv w B A c l) (hB : B ≤ w.heap.size) (hl : l.length ≤ 1000000000) :
    Calls Tryd.prog 20 #[aw S, .slice A l.length c] w fun e w' => e = .returned (.tuple #[aw (compM S l).1, .int .i64 (compM S l).2]) ∧ Below w.heap.size w w' := by
  have hb8 := fun (o1 o2 : Obj) => ((Below.refl _ w).alloc (Nat.le_refl w.heap.size) o1).alloc (by simp) o2
  obtain ⟨sa, sb, sc, sd, se, sf, sg, sh, rfl⟩ := len8 hS
  unfold aw
  simp only [List.map_cons, List.map_nil, uv]
  by_cases h64 : l.length = 64
  · have HM := Lib.hid (show compM [sa, sb, sc, sd, se, sf, sg, sh] l = (comp [sa, sb, sc, sd, se, sf, sg, sh] l, 0) by unfold compM; rw [if_pos h64])
    have HL := Lib.hid h64
    rw [h64]
    clear h64 hl
    go_enter Tryd.func20, Tryd.ntmps20
    go_wp2_with fail
    refine (after_any [sa, sb, sc, sd, se, sf, sg, sh] A c B l _ rfl (hr.below ((hb8 _ _).mono hB)) (by simp; omega) HL.out).mono ?_
    rintro e w1 ⟨rfl, hb1⟩
    unfold aw
    have hz := Hb.below (Hb.new1 uv w _ _ (List.replicate 8 0) _ z8) hb1 (by simp)
    have hb := (hb8 _ _).trans (hb1.mono (by simp; omega))
    clear hb1
    go_wp2_with ((with_reducible refine wpList_store_hb uv_one rfl _ (.tmp 4) (.tmp 12) rfl _ (comp [sa, sb, sc, sd, se, sf, sg, sh] l) rfl rfl hz size8 (List.length_replicate ..) (comp_len l rfl) ?_); intro w3 h3 hg3)
    refine bodyPost_cell_tmp (f := uv) (g := w.heap.size + 1) (t := 30) (L := comp [sa, sb, sc, sd, se, sf, sg, sh] l) rfl rfl h3 Tryd.underlying30 (by rw [comp_len l rfl]; exact size8) rfl ⟨by rw [HM.out]; rfl, ?_⟩
    exact hb.grown hg3 hb.size (fun k e => by cases e; omega)
  · have HM := Lib.hid (show compM [sa, sb, sc, sd, se, sf, sg, sh] l = (zero8, 2) by unfold compM; rw [if_neg h64])
    have h64' : ((l.length : Int) != 64) = true := by simp; omega
    go_enter Tryd.func20, Tryd.ntmps20
    go_wp2_with ((with_reducible refine wpList_store_cs uv_one rfl _ (.tmp 4) (.tmp 9) rfl _ (List.replicate 8 0) _ z8 rfl rfl (Hb.new1 uv w _ _ (List.replicate 8 0) _ z8) size8 (List.length_replicate ..) (List.length_replicate ..) ?_); intro w3 h3 hg3)
    refine bodyPost_cell_tmp (f := uv) (g := w.heap.size + 1) (t := 30) (L := List.replicate 8 0) rfl rfl h3 Tryd.underlying30 size8 rfl ⟨by rw [HM.out]; rfl, (hb8 _ _).grown hg3 (hb8 _ _).size (fun k e => by cases e; omega)⟩
end Go.Proofs.YtgglnbjioobebaaDoor
