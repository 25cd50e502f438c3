/- mayor, alive. -/
import Derived.Test.YtdjifopdlkppoaaDoorCon
namespace Go.Proofs.YtdjifopdlkppoaaDoor
open Go.RowKit
set_option linter.unusedVariables false

def mayorC : Ct := ⟨[109, 97, 121, 111, 114], [[97, 110, 110], [98, 111, 98]], 1, 7⟩
set_option maxRecDepth 100000 in
set_option maxHeartbeats 400000 in
theorem mayor_any (w : World) :
    Calls Tryd.prog 11 #[] w fun e w' => e = .returned (cv (some ⟨w.heap.size + 1, 0, none⟩) 2 mayorC) ∧ Rf sv w' w'.heap.size (some ⟨w.heap.size + 1, 0, none⟩) 2 mayorC.cands ∧ Below w.heap.size w w' := by
  go_enter Tryd.func11, Tryd.ntmps11
  go_wp2_with fail
  have hb1 : Blk ((w.alloc (.cells (cvs (some ⟨w.heap.size + 1, 0, none⟩) 2 mayorC) 26)).alloc (.cells ([[97, 110, 110], [98, 111, 98]].map sv).toArray 9)) w.heap.size 26 (cvs (some ⟨w.heap.size + 1, 0, none⟩) 2 mayorC) := (Blk.new w _ _).alloc _
  have hb2 : Hb sv ((w.alloc (.cells (cvs (some ⟨w.heap.size + 1, 0, none⟩) 2 mayorC) 26)).alloc (.cells ([[97, 110, 110], [98, 111, 98]].map sv).toArray 9)) (w.heap.size + 1) 9 [[97, 110, 110], [98, 111, 98]] := by
    have h := Blk.new (w.alloc (.cells (cvs (some ⟨w.heap.size + 1, 0, none⟩) 2 mayorC) 26)) 9 ([[97, 110, 110], [98, 111, 98]].map sv).toArray
    rw [World.size_alloc] at h
    exact h
  refine bodyPost_ret (results_cell_row rfl _ _ w.heap.size 26 (cvs (some ⟨w.heap.size + 1, 0, none⟩) 2 mayorC) (0, 0) _ rfl hb1 Tryd.underlying26 rfl (by kernel_rfl)) rfl ⟨rfl, hb2.rf_all (c := 2) (Nat.le_refl _) (by unfold maxLen; omega), ((Below.refl _ w).alloc (Nat.le_refl _) _).alloc (by rw [World.size_alloc]; omega) _⟩

theorem mayor_ok : checkM mayorC = 0 := by decide +kernel
theorem mayor_bytes : bytesM mayorC = ([0, 5, 109, 97, 121, 111, 114, 0, 2, 1, 7, 0, 3, 97, 110, 110, 0, 3, 98, 111, 98], 0) := by decide +kernel
set_option maxRecDepth 100000 in
set_option maxHeartbeats 400000 in
theorem aliveC_any {T : World → Prop} (K : Con T) (w : World) (hT : T w) :
    Calls Tryd.prog 25 #[] w fun e w' => e = .returned (.bool true) ∧ Below w.heap.size w w' := by
  have HK := Lib.hid K
  have HT := Lib.hid hT
  clear K hT
  go_enter Tryd.func25, Tryd.ntmps25
  go_wp2_with fail
  refine (HK.out.kind 9 _ (by omega) HT.out).mono ?_
  rintro e w1 ⟨rfl, hb⟩
  have B1 := Lib.hid hb
  clear hb
  rw [show kindE 9 = (1, 0) from rfl]
  go_wp2_with fail
  refine (HK.out.most 14 5 _ (by omega) rfl (HK.out.keep HT.out B1.out)).mono ?_
  rintro e w2 ⟨rfl, hb⟩
  have B2 := Lib.hid (B1.out.trans (hb.mono B1.out.size))
  clear hb
  rw [show mostM 14 5 = (1, 0) from rfl]
  go_wp2_with fail
  refine (mayor_any _).mono ?_
  rintro e w3 ⟨rfl, hr, hb⟩
  have B3 := Lib.hid (B2.out.trans (hb.mono B2.out.size))
  clear hb
  have HC := Lib.hid (show CtOk w3 (some ⟨w2.heap.size + 1, 0, none⟩) 2 mayorC from ⟨hr, by decide, by decide, by decide, by decide⟩)
  clear hr
  go_wp2_with fail
  refine (HK.out.bytes mayorC _ _ _ HC.out (HK.out.keep HT.out B3.out)).mono ?_
  rintro e w4 ⟨A, c, r, er, rfl, hq, ho, hb⟩
  rw [mayor_bytes] at hq
  obtain ⟨hre, rfl⟩ := Prod.mk.inj hq
  have hbe : (r == [0, 5, 109, 97, 121, 111, 114, 0, 2, 1, 7, 0, 3, 97, 110, 110, 0, 3, 98, 111, 98]) = true := by rw [hre]; rfl
  have B4 := Lib.hid (B3.out.trans (hb.mono B3.out.size))
  have hk1 := run_string_f (P := Tryd.prog) w4 37 9 5 Tryd.underlying37 Tryd.underlying5 Tryd.underlying9 ho.rd
  clear hb ho hq hre
  go_wp2_with fail
  go_ret
  exact ⟨rfl, B4.out⟩
end Go.Proofs.YtdjifopdlkppoaaDoor
