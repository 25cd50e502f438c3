/- ContestNames. Written by tools/names7.py. -/
import Derived.Test.YtdjifopdlkppoaaDoorAliveC
import Derived.Test.YtdjifopdlkppoaaDoorCdR
import Derived.Test.YtdjifopdlkppoaaDoorTwin
namespace Go.Proofs.YtdjifopdlkppoaaDoor
open Go.RowKit
set_option linter.unusedVariables false
set_option linter.unusedSimpArgs false

set_option maxRecDepth 100000 in
set_option maxHeartbeats 400000 in
theorem mayor2_any (w : World) :
    Calls Tryd.prog 11 #[] w fun e w' => e = .returned (cv (some ⟨w.heap.size + 1, 0, none⟩) 2 mayorC) ∧ Hb sv w' (w.heap.size + 1) 9 mayorC.cands ∧ Below w.heap.size w w' ∧ w'.heap.size = w.heap.size + 1 + 1 := by
  go_enter Tryd.func11, Tryd.ntmps11
  go_wp2_with fail
  have hb1 : Blk ((w.alloc (.cells (cvs (some ⟨w.heap.size + 1, 0, none⟩) 2 mayorC) 26)).alloc (.cells ([[97, 110, 110], [98, 111, 98]].map sv).toArray 9)) w.heap.size 26 (cvs (some ⟨w.heap.size + 1, 0, none⟩) 2 mayorC) := (Blk.new w _ _).alloc _
  have hb2 : Hb sv ((w.alloc (.cells (cvs (some ⟨w.heap.size + 1, 0, none⟩) 2 mayorC) 26)).alloc (.cells ([[97, 110, 110], [98, 111, 98]].map sv).toArray 9)) (w.heap.size + 1) 9 [[97, 110, 110], [98, 111, 98]] := by
    have h := Blk.new (w.alloc (.cells (cvs (some ⟨w.heap.size + 1, 0, none⟩) 2 mayorC) 26)) 9 ([[97, 110, 110], [98, 111, 98]].map sv).toArray
    rw [World.size_alloc] at h
    exact h
  refine bodyPost_ret (results_cell_row rfl _ _ w.heap.size 26 (cvs (some ⟨w.heap.size + 1, 0, none⟩) 2 mayorC) (0, 0) _ rfl hb1 Tryd.underlying26 rfl (by kernel_rfl)) rfl ⟨rfl, hb2, ((Below.refl _ w).alloc (Nat.le_refl _) _).alloc (by rw [World.size_alloc]; omega) _, ?_⟩
  exact (World.size_alloc _ _).trans (by rw [World.size_alloc])

/-- What a closure of ContestNames is given: a contest in a block, its candidates in another. -/
structure Given (w : World) (B b g : Nat) : Prop where
  ct : Blk w b 26 (cvs (some ⟨g, 0, none⟩) 2 mayorC)
  cs : Hb sv w g 9 mayorC.cands
  ne : g ≠ b
  hb : B ≤ b
  hg : B ≤ g
def Turns (B b : Nat) (x : Ct) (w : World) (e : Ending) (w' : World) : Prop :=
  e = .returned (.tuple #[]) ∧ (∃ A c, Blk w' b 26 (cvs A c x) ∧ Rf sv w' w'.heap.size A c x.cands) ∧ Below B w w'
theorem below_set (w : World) (B : Nat) (p : Addr) (u : Value) (h : B ≤ p.block) : Below B w (w.setCell p u) := (Below.refl B w).setCell h u

set_option maxRecDepth 100000 in
theorem turn2 (w : World) (B b g : Nat) (h : Given w B b g) : Calls Tryd.prog 13 #[.pointer (some ⟨b, 0, none⟩)] w (Turns B b ⟨[109, 97, 121, 111, 114], [[97, 110, 110], [98, 111, 98]], 2, 7⟩ w) := by
  have HB := Lib.hid h.ct
  have HH := Lib.hid h.cs
  have HN := Lib.hid h.ne
  have H1 := Lib.hid h.hb
  have H2 := Lib.hid h.hg
  have HR := Lib.hid (h.cs.rf_all (c := 2) (Nat.le_refl _) (by unfold maxLen; omega))
  have c0 : w.cell? ⟨b, 0, none⟩ = some (.string ⟨#[109, 97, 121, 111, 114]⟩) := h.ct.cell 0
  have c1 : w.cell? ⟨b, 1, none⟩ = some (.slice (some ⟨g, 0, none⟩) 2 2) := h.ct.cell 1
  have c2 : w.cell? ⟨b, 2, none⟩ = some (.int .i64 1) := h.ct.cell 2
  have c3 : w.cell? ⟨b, 3, none⟩ = some (.int .u8 7) := h.ct.cell 3
  have f0 : w.frozen? ⟨b, 0, none⟩ = false := h.ct.frozen 0
  have f1 : w.frozen? ⟨b, 1, none⟩ = false := h.ct.frozen 1
  have f2 : w.frozen? ⟨b, 2, none⟩ = false := h.ct.frozen 2
  have f3 : w.frozen? ⟨b, 3, none⟩ = false := h.ct.frozen 3
  have d1 : w.cell? ⟨g, 1, none⟩ = some (.string ⟨#[98, 111, 98]⟩) := h.cs.cell (i := 1) (by decide)
  have e1 : w.frozen? ⟨g, 1, none⟩ = false := h.cs.frozen 1
  clear h
  go_enter Tryd.func13, Tryd.ntmps13
  go_wp2_with fail
  first
    | refine ⟨rfl, _, results_none rfl _ _ _, rfl, ?_, ?_⟩
    | refine bodyPost_ret (results_none rfl _ _ _) rfl ⟨rfl, ?_, ?_⟩
  · exact ⟨some ⟨g, 0, none⟩, 2, (HB.out.set_ 2 (.int .i64 2)), (HH.out.away (p := ⟨b, 2, none⟩) HN.out (.int .i64 2)).rf_all (c := 2) (Nat.le_refl _) (by unfold maxLen; omega)⟩
  · exact ((Below.refl B w).setCell (p := ⟨b, 2, none⟩) H1.out (.int .i64 2))

set_option maxRecDepth 100000 in
set_option maxHeartbeats 400000 in
theorem turned2 {T : World → Prop} (K : Con T) (w : World) (hT : T w) : Calls Tryd.prog 10 #[.func (.func 13) #[] #[]] w fun e w' => e = .returned (.int .i64 8) ∧ Below w.heap.size w w' := by
  have HK := Lib.hid K
  have HT := Lib.hid hT
  have HCK := Lib.hid (show checkM ⟨[109, 97, 121, 111, 114], [[97, 110, 110], [98, 111, 98]], 2, 7⟩ = 8 by decide +kernel)
  clear K hT
  go_enter Tryd.func10, Tryd.ntmps10
  go_wp2_with fail
  refine (mayor2_any _).mono ?_
  rintro e w1 ⟨rfl, hh, hbw, hs⟩
  have HZ := Lib.hid (Blk.new w1 26 #[.string ⟨#[]⟩, .slice none 0 0, .int .i64 0, .int .u8 0])
  have HH := Lib.hid (hh.alloc (.cells #[.string ⟨#[]⟩, .slice none 0 0, .int .i64 0, .int .u8 0] 26))
  have HS := Lib.hid hs
  have B1 := Lib.hid (hbw.alloc hbw.size (.cells #[.string ⟨#[]⟩, .slice none 0 0, .int .i64 0, .int .u8 0] 26))
  clear hh hbw hs
  go_wp2_with ((with_reducible refine wpList_store_ct rfl (.tmp 3) (.tmp 4) rfl w1.heap.size rfl HZ.out rfl (A := some ⟨w.heap.size + 1, 0, none⟩) (c := 2) (x := mayorC) rfl ?_); intro w2 hb2 hg2)
  have HGV := Lib.hid (show Given w2 w.heap.size w1.heap.size (w.heap.size + 1) from ⟨hb2, HH.out.grown hg2 (by have := HS.out; simp; omega), by have := HS.out; omega, by have := HS.out; omega, by omega⟩)
  have B2 := Lib.hid (show Below w.heap.size w w2 from B1.out.grown hg2 B1.out.size (fun k e => by cases e; have := HS.out; omega))
  clear hb2 hg2
  refine (turn2 w2 w.heap.size w1.heap.size (w.heap.size + 1) HGV.out).mono ?_
  rintro e w3 ⟨rfl, ⟨A', c', hb3, hr3⟩, hbw3⟩
  have HB3 := Lib.hid hb3
  have HOK := Lib.hid (show CtOk w3 A' c' ⟨[109, 97, 121, 111, 114], [[97, 110, 110], [98, 111, 98]], 2, 7⟩ from ⟨hr3, by decide, by decide, by decide, by decide⟩)
  have B3 := Lib.hid (B2.out.trans hbw3)
  clear hb3 hr3 hbw3
  go_wp2_with (with_reducible refine wpList_load_ct (by kernel_rfl) (.tmp 3) rfl w1.heap.size rfl (A := A') (c := c') (x := ⟨[109, 97, 121, 111, 114], [[97, 110, 110], [98, 111, 98]], 2, 7⟩) HB3.out ?_)
  refine (HK.out.check _ A' c' w3 HOK.out (HK.out.keep HT.out B3.out)).mono ?_
  rintro e w4 ⟨rfl, hb⟩
  rw [HCK.out]
  have B4 := Lib.hid (B3.out.trans (hb.mono B3.out.size))
  clear hb
  go_wp2_with fail
  go_ret
  exact ⟨rfl, B4.out⟩

set_option maxRecDepth 100000 in
theorem turn3 (w : World) (B b g : Nat) (h : Given w B b g) : Calls Tryd.prog 14 #[.pointer (some ⟨b, 0, none⟩)] w (Turns B b ⟨[109, 97, 121, 111, 114], [[97, 110, 110], [98, 111, 98]], 1, 17⟩ w) := by
  have HB := Lib.hid h.ct
  have HH := Lib.hid h.cs
  have HN := Lib.hid h.ne
  have H1 := Lib.hid h.hb
  have H2 := Lib.hid h.hg
  have HR := Lib.hid (h.cs.rf_all (c := 2) (Nat.le_refl _) (by unfold maxLen; omega))
  have c0 : w.cell? ⟨b, 0, none⟩ = some (.string ⟨#[109, 97, 121, 111, 114]⟩) := h.ct.cell 0
  have c1 : w.cell? ⟨b, 1, none⟩ = some (.slice (some ⟨g, 0, none⟩) 2 2) := h.ct.cell 1
  have c2 : w.cell? ⟨b, 2, none⟩ = some (.int .i64 1) := h.ct.cell 2
  have c3 : w.cell? ⟨b, 3, none⟩ = some (.int .u8 7) := h.ct.cell 3
  have f0 : w.frozen? ⟨b, 0, none⟩ = false := h.ct.frozen 0
  have f1 : w.frozen? ⟨b, 1, none⟩ = false := h.ct.frozen 1
  have f2 : w.frozen? ⟨b, 2, none⟩ = false := h.ct.frozen 2
  have f3 : w.frozen? ⟨b, 3, none⟩ = false := h.ct.frozen 3
  have d1 : w.cell? ⟨g, 1, none⟩ = some (.string ⟨#[98, 111, 98]⟩) := h.cs.cell (i := 1) (by decide)
  have e1 : w.frozen? ⟨g, 1, none⟩ = false := h.cs.frozen 1
  clear h
  go_enter Tryd.func14, Tryd.ntmps14
  go_wp2_with fail
  first
    | refine ⟨rfl, _, results_none rfl _ _ _, rfl, ?_, ?_⟩
    | refine bodyPost_ret (results_none rfl _ _ _) rfl ⟨rfl, ?_, ?_⟩
  · exact ⟨some ⟨g, 0, none⟩, 2, (HB.out.set_ 3 (.int .u8 17)), (HH.out.away (p := ⟨b, 3, none⟩) HN.out (.int .u8 17)).rf_all (c := 2) (Nat.le_refl _) (by unfold maxLen; omega)⟩
  · exact ((Below.refl B w).setCell (p := ⟨b, 3, none⟩) H1.out (.int .u8 17))

set_option maxRecDepth 100000 in
set_option maxHeartbeats 400000 in
theorem turned3 {T : World → Prop} (K : Con T) (w : World) (hT : T w) : Calls Tryd.prog 10 #[.func (.func 14) #[] #[]] w fun e w' => e = .returned (.int .i64 8) ∧ Below w.heap.size w w' := by
  have HK := Lib.hid K
  have HT := Lib.hid hT
  have HCK := Lib.hid (show checkM ⟨[109, 97, 121, 111, 114], [[97, 110, 110], [98, 111, 98]], 1, 17⟩ = 8 by decide +kernel)
  clear K hT
  go_enter Tryd.func10, Tryd.ntmps10
  go_wp2_with fail
  refine (mayor2_any _).mono ?_
  rintro e w1 ⟨rfl, hh, hbw, hs⟩
  have HZ := Lib.hid (Blk.new w1 26 #[.string ⟨#[]⟩, .slice none 0 0, .int .i64 0, .int .u8 0])
  have HH := Lib.hid (hh.alloc (.cells #[.string ⟨#[]⟩, .slice none 0 0, .int .i64 0, .int .u8 0] 26))
  have HS := Lib.hid hs
  have B1 := Lib.hid (hbw.alloc hbw.size (.cells #[.string ⟨#[]⟩, .slice none 0 0, .int .i64 0, .int .u8 0] 26))
  clear hh hbw hs
  go_wp2_with ((with_reducible refine wpList_store_ct rfl (.tmp 3) (.tmp 4) rfl w1.heap.size rfl HZ.out rfl (A := some ⟨w.heap.size + 1, 0, none⟩) (c := 2) (x := mayorC) rfl ?_); intro w2 hb2 hg2)
  have HGV := Lib.hid (show Given w2 w.heap.size w1.heap.size (w.heap.size + 1) from ⟨hb2, HH.out.grown hg2 (by have := HS.out; simp; omega), by have := HS.out; omega, by have := HS.out; omega, by omega⟩)
  have B2 := Lib.hid (show Below w.heap.size w w2 from B1.out.grown hg2 B1.out.size (fun k e => by cases e; have := HS.out; omega))
  clear hb2 hg2
  refine (turn3 w2 w.heap.size w1.heap.size (w.heap.size + 1) HGV.out).mono ?_
  rintro e w3 ⟨rfl, ⟨A', c', hb3, hr3⟩, hbw3⟩
  have HB3 := Lib.hid hb3
  have HOK := Lib.hid (show CtOk w3 A' c' ⟨[109, 97, 121, 111, 114], [[97, 110, 110], [98, 111, 98]], 1, 17⟩ from ⟨hr3, by decide, by decide, by decide, by decide⟩)
  have B3 := Lib.hid (B2.out.trans hbw3)
  clear hb3 hr3 hbw3
  go_wp2_with (with_reducible refine wpList_load_ct (by kernel_rfl) (.tmp 3) rfl w1.heap.size rfl (A := A') (c := c') (x := ⟨[109, 97, 121, 111, 114], [[97, 110, 110], [98, 111, 98]], 1, 17⟩) HB3.out ?_)
  refine (HK.out.check _ A' c' w3 HOK.out (HK.out.keep HT.out B3.out)).mono ?_
  rintro e w4 ⟨rfl, hb⟩
  rw [HCK.out]
  have B4 := Lib.hid (B3.out.trans (hb.mono B3.out.size))
  clear hb
  go_wp2_with fail
  go_ret
  exact ⟨rfl, B4.out⟩

set_option maxRecDepth 100000 in
theorem turn4 (w : World) (B b g : Nat) (h : Given w B b g) : Calls Tryd.prog 15 #[.pointer (some ⟨b, 0, none⟩)] w (Turns B b ⟨[109, 97, 121, 111, 114], [[97, 110, 110], [97, 110, 110]], 1, 7⟩ w) := by
  have HB := Lib.hid h.ct
  have HH := Lib.hid h.cs
  have HN := Lib.hid h.ne
  have H1 := Lib.hid h.hb
  have H2 := Lib.hid h.hg
  have HR := Lib.hid (h.cs.rf_all (c := 2) (Nat.le_refl _) (by unfold maxLen; omega))
  have c0 : w.cell? ⟨b, 0, none⟩ = some (.string ⟨#[109, 97, 121, 111, 114]⟩) := h.ct.cell 0
  have c1 : w.cell? ⟨b, 1, none⟩ = some (.slice (some ⟨g, 0, none⟩) 2 2) := h.ct.cell 1
  have c2 : w.cell? ⟨b, 2, none⟩ = some (.int .i64 1) := h.ct.cell 2
  have c3 : w.cell? ⟨b, 3, none⟩ = some (.int .u8 7) := h.ct.cell 3
  have f0 : w.frozen? ⟨b, 0, none⟩ = false := h.ct.frozen 0
  have f1 : w.frozen? ⟨b, 1, none⟩ = false := h.ct.frozen 1
  have f2 : w.frozen? ⟨b, 2, none⟩ = false := h.ct.frozen 2
  have f3 : w.frozen? ⟨b, 3, none⟩ = false := h.ct.frozen 3
  have d1 : w.cell? ⟨g, 1, none⟩ = some (.string ⟨#[98, 111, 98]⟩) := h.cs.cell (i := 1) (by decide)
  have e1 : w.frozen? ⟨g, 1, none⟩ = false := h.cs.frozen 1
  clear h
  go_enter Tryd.func15, Tryd.ntmps15
  go_wp2_with fail
  first
    | refine ⟨rfl, _, results_none rfl _ _ _, rfl, ?_, ?_⟩
    | refine bodyPost_ret (results_none rfl _ _ _) rfl ⟨rfl, ?_, ?_⟩
  · exact ⟨some ⟨g, 0, none⟩, 2, HB.out.far (p := ⟨g, 1, none⟩) (fun e => HN.out e.symm) _, (HH.out.set_ 1 [97, 110, 110] _ rfl).rf_all (c := 2) (Nat.le_refl _) (by unfold maxLen; omega)⟩
  · exact (Below.refl B w).setCell (p := ⟨g, 1, none⟩) H2.out _

set_option maxRecDepth 100000 in
set_option maxHeartbeats 400000 in
theorem turned4 {T : World → Prop} (K : Con T) (w : World) (hT : T w) : Calls Tryd.prog 10 #[.func (.func 15) #[] #[]] w fun e w' => e = .returned (.int .i64 8) ∧ Below w.heap.size w w' := by
  have HK := Lib.hid K
  have HT := Lib.hid hT
  have HCK := Lib.hid (show checkM ⟨[109, 97, 121, 111, 114], [[97, 110, 110], [97, 110, 110]], 1, 7⟩ = 8 by decide +kernel)
  clear K hT
  go_enter Tryd.func10, Tryd.ntmps10
  go_wp2_with fail
  refine (mayor2_any _).mono ?_
  rintro e w1 ⟨rfl, hh, hbw, hs⟩
  have HZ := Lib.hid (Blk.new w1 26 #[.string ⟨#[]⟩, .slice none 0 0, .int .i64 0, .int .u8 0])
  have HH := Lib.hid (hh.alloc (.cells #[.string ⟨#[]⟩, .slice none 0 0, .int .i64 0, .int .u8 0] 26))
  have HS := Lib.hid hs
  have B1 := Lib.hid (hbw.alloc hbw.size (.cells #[.string ⟨#[]⟩, .slice none 0 0, .int .i64 0, .int .u8 0] 26))
  clear hh hbw hs
  go_wp2_with ((with_reducible refine wpList_store_ct rfl (.tmp 3) (.tmp 4) rfl w1.heap.size rfl HZ.out rfl (A := some ⟨w.heap.size + 1, 0, none⟩) (c := 2) (x := mayorC) rfl ?_); intro w2 hb2 hg2)
  have HGV := Lib.hid (show Given w2 w.heap.size w1.heap.size (w.heap.size + 1) from ⟨hb2, HH.out.grown hg2 (by have := HS.out; simp; omega), by have := HS.out; omega, by have := HS.out; omega, by omega⟩)
  have B2 := Lib.hid (show Below w.heap.size w w2 from B1.out.grown hg2 B1.out.size (fun k e => by cases e; have := HS.out; omega))
  clear hb2 hg2
  refine (turn4 w2 w.heap.size w1.heap.size (w.heap.size + 1) HGV.out).mono ?_
  rintro e w3 ⟨rfl, ⟨A', c', hb3, hr3⟩, hbw3⟩
  have HB3 := Lib.hid hb3
  have HOK := Lib.hid (show CtOk w3 A' c' ⟨[109, 97, 121, 111, 114], [[97, 110, 110], [97, 110, 110]], 1, 7⟩ from ⟨hr3, by decide, by decide, by decide, by decide⟩)
  have B3 := Lib.hid (B2.out.trans hbw3)
  clear hb3 hr3 hbw3
  go_wp2_with (with_reducible refine wpList_load_ct (by kernel_rfl) (.tmp 3) rfl w1.heap.size rfl (A := A') (c := c') (x := ⟨[109, 97, 121, 111, 114], [[97, 110, 110], [97, 110, 110]], 1, 7⟩) HB3.out ?_)
  refine (HK.out.check _ A' c' w3 HOK.out (HK.out.keep HT.out B3.out)).mono ?_
  rintro e w4 ⟨rfl, hb⟩
  rw [HCK.out]
  have B4 := Lib.hid (B3.out.trans (hb.mono B3.out.size))
  clear hb
  go_wp2_with fail
  go_ret
  exact ⟨rfl, B4.out⟩

set_option maxRecDepth 100000 in
theorem turn5 (w : World) (B b g : Nat) (h : Given w B b g) : Calls Tryd.prog 16 #[.pointer (some ⟨b, 0, none⟩)] w (Turns B b ⟨[109, 97, 121, 111, 114], [], 1, 7⟩ w) := by
  have HB := Lib.hid h.ct
  have HH := Lib.hid h.cs
  have HN := Lib.hid h.ne
  have H1 := Lib.hid h.hb
  have H2 := Lib.hid h.hg
  have HR := Lib.hid (h.cs.rf_all (c := 2) (Nat.le_refl _) (by unfold maxLen; omega))
  have c0 : w.cell? ⟨b, 0, none⟩ = some (.string ⟨#[109, 97, 121, 111, 114]⟩) := h.ct.cell 0
  have c1 : w.cell? ⟨b, 1, none⟩ = some (.slice (some ⟨g, 0, none⟩) 2 2) := h.ct.cell 1
  have c2 : w.cell? ⟨b, 2, none⟩ = some (.int .i64 1) := h.ct.cell 2
  have c3 : w.cell? ⟨b, 3, none⟩ = some (.int .u8 7) := h.ct.cell 3
  have f0 : w.frozen? ⟨b, 0, none⟩ = false := h.ct.frozen 0
  have f1 : w.frozen? ⟨b, 1, none⟩ = false := h.ct.frozen 1
  have f2 : w.frozen? ⟨b, 2, none⟩ = false := h.ct.frozen 2
  have f3 : w.frozen? ⟨b, 3, none⟩ = false := h.ct.frozen 3
  have d1 : w.cell? ⟨g, 1, none⟩ = some (.string ⟨#[98, 111, 98]⟩) := h.cs.cell (i := 1) (by decide)
  have e1 : w.frozen? ⟨g, 1, none⟩ = false := h.cs.frozen 1
  clear h
  go_enter Tryd.func16, Tryd.ntmps16
  go_wp2_with fail
  first
    | refine ⟨rfl, _, results_none rfl _ _ _, rfl, ?_, ?_⟩
    | refine bodyPost_ret (results_none rfl _ _ _) rfl ⟨rfl, ?_, ?_⟩
  · exact ⟨none, 0, HB.out.set_ 1 _, Rf.empty _ _⟩
  · exact (Below.refl B w).setCell (p := ⟨b, 1, none⟩) H1.out _

set_option maxRecDepth 100000 in
set_option maxHeartbeats 400000 in
theorem turned5 {T : World → Prop} (K : Con T) (w : World) (hT : T w) : Calls Tryd.prog 10 #[.func (.func 16) #[] #[]] w fun e w' => e = .returned (.int .i64 8) ∧ Below w.heap.size w w' := by
  have HK := Lib.hid K
  have HT := Lib.hid hT
  have HCK := Lib.hid (show checkM ⟨[109, 97, 121, 111, 114], [], 1, 7⟩ = 8 by decide +kernel)
  clear K hT
  go_enter Tryd.func10, Tryd.ntmps10
  go_wp2_with fail
  refine (mayor2_any _).mono ?_
  rintro e w1 ⟨rfl, hh, hbw, hs⟩
  have HZ := Lib.hid (Blk.new w1 26 #[.string ⟨#[]⟩, .slice none 0 0, .int .i64 0, .int .u8 0])
  have HH := Lib.hid (hh.alloc (.cells #[.string ⟨#[]⟩, .slice none 0 0, .int .i64 0, .int .u8 0] 26))
  have HS := Lib.hid hs
  have B1 := Lib.hid (hbw.alloc hbw.size (.cells #[.string ⟨#[]⟩, .slice none 0 0, .int .i64 0, .int .u8 0] 26))
  clear hh hbw hs
  go_wp2_with ((with_reducible refine wpList_store_ct rfl (.tmp 3) (.tmp 4) rfl w1.heap.size rfl HZ.out rfl (A := some ⟨w.heap.size + 1, 0, none⟩) (c := 2) (x := mayorC) rfl ?_); intro w2 hb2 hg2)
  have HGV := Lib.hid (show Given w2 w.heap.size w1.heap.size (w.heap.size + 1) from ⟨hb2, HH.out.grown hg2 (by have := HS.out; simp; omega), by have := HS.out; omega, by have := HS.out; omega, by omega⟩)
  have B2 := Lib.hid (show Below w.heap.size w w2 from B1.out.grown hg2 B1.out.size (fun k e => by cases e; have := HS.out; omega))
  clear hb2 hg2
  refine (turn5 w2 w.heap.size w1.heap.size (w.heap.size + 1) HGV.out).mono ?_
  rintro e w3 ⟨rfl, ⟨A', c', hb3, hr3⟩, hbw3⟩
  have HB3 := Lib.hid hb3
  have HOK := Lib.hid (show CtOk w3 A' c' ⟨[109, 97, 121, 111, 114], [], 1, 7⟩ from ⟨hr3, by decide, by decide, by decide, by decide⟩)
  have B3 := Lib.hid (B2.out.trans hbw3)
  clear hb3 hr3 hbw3
  go_wp2_with (with_reducible refine wpList_load_ct (by kernel_rfl) (.tmp 3) rfl w1.heap.size rfl (A := A') (c := c') (x := ⟨[109, 97, 121, 111, 114], [], 1, 7⟩) HB3.out ?_)
  refine (HK.out.check _ A' c' w3 HOK.out (HK.out.keep HT.out B3.out)).mono ?_
  rintro e w4 ⟨rfl, hb⟩
  rw [HCK.out]
  have B4 := Lib.hid (B3.out.trans (hb.mono B3.out.size))
  clear hb
  go_wp2_with fail
  go_ret
  exact ⟨rfl, B4.out⟩

set_option maxRecDepth 100000 in
theorem turn6 (w : World) (B b g : Nat) (h : Given w B b g) : Calls Tryd.prog 17 #[.pointer (some ⟨b, 0, none⟩)] w (Turns B b ⟨[109, 97, 121, 111, 114], List.replicate 11 [], 1, 7⟩ w) := by
  have HB := Lib.hid h.ct
  have HH := Lib.hid h.cs
  have HN := Lib.hid h.ne
  have H1 := Lib.hid h.hb
  have H2 := Lib.hid h.hg
  have HR := Lib.hid (h.cs.rf_all (c := 2) (Nat.le_refl _) (by unfold maxLen; omega))
  have c0 : w.cell? ⟨b, 0, none⟩ = some (.string ⟨#[109, 97, 121, 111, 114]⟩) := h.ct.cell 0
  have c1 : w.cell? ⟨b, 1, none⟩ = some (.slice (some ⟨g, 0, none⟩) 2 2) := h.ct.cell 1
  have c2 : w.cell? ⟨b, 2, none⟩ = some (.int .i64 1) := h.ct.cell 2
  have c3 : w.cell? ⟨b, 3, none⟩ = some (.int .u8 7) := h.ct.cell 3
  have f0 : w.frozen? ⟨b, 0, none⟩ = false := h.ct.frozen 0
  have f1 : w.frozen? ⟨b, 1, none⟩ = false := h.ct.frozen 1
  have f2 : w.frozen? ⟨b, 2, none⟩ = false := h.ct.frozen 2
  have f3 : w.frozen? ⟨b, 3, none⟩ = false := h.ct.frozen 3
  have d1 : w.cell? ⟨g, 1, none⟩ = some (.string ⟨#[98, 111, 98]⟩) := h.cs.cell (i := 1) (by decide)
  have e1 : w.frozen? ⟨g, 1, none⟩ = false := h.cs.frozen 1
  clear h
  go_enter Tryd.func17, Tryd.ntmps17
  go_wp2_with (at_make; refine wpList_make_sv _ rfl _ _ rfl 11 rfl rfl (by omega) ?_; intro w3 hu3 hb3 hs3; have HB3 := Lib.hid (HB.out.below hb3 HB.out.lt); have HU3 := Lib.hid hu3; have k1 : w3.cell? ⟨b, 1, none⟩ = some (.slice (some ⟨g, 0, none⟩) 2 2) := HB3.out.cell 1; have k2 : w3.frozen? ⟨b, 1, none⟩ = false := HB3.out.frozen 1; have HW3 := Lib.hid (hb3.mono (Nat.le_trans H1.out (Nat.le_of_lt HB.out.lt))))
  first
    | refine ⟨rfl, _, results_none rfl _ _ _, rfl, ?_, ?_⟩
    | refine bodyPost_ret (results_none rfl _ _ _) rfl ⟨rfl, ?_, ?_⟩
  · exact ⟨some ⟨w.heap.size, 0, none⟩, 11, HB3.out.set_ 1 _, (HU3.out.away (p := ⟨b, 1, none⟩) (fun e => by have := HB.out.lt; simp at e; omega) _).rf_all (c := 11) (Nat.le_refl _) (by unfold maxLen; omega)⟩
  · exact HW3.out.setCell (p := ⟨b, 1, none⟩) H1.out _

set_option maxRecDepth 100000 in
set_option maxHeartbeats 400000 in
theorem turned6 {T : World → Prop} (K : Con T) (w : World) (hT : T w) : Calls Tryd.prog 10 #[.func (.func 17) #[] #[]] w fun e w' => e = .returned (.int .i64 4) ∧ Below w.heap.size w w' := by
  have HK := Lib.hid K
  have HT := Lib.hid hT
  have HCK := Lib.hid (show checkM ⟨[109, 97, 121, 111, 114], List.replicate 11 [], 1, 7⟩ = 4 by decide +kernel)
  clear K hT
  go_enter Tryd.func10, Tryd.ntmps10
  go_wp2_with fail
  refine (mayor2_any _).mono ?_
  rintro e w1 ⟨rfl, hh, hbw, hs⟩
  have HZ := Lib.hid (Blk.new w1 26 #[.string ⟨#[]⟩, .slice none 0 0, .int .i64 0, .int .u8 0])
  have HH := Lib.hid (hh.alloc (.cells #[.string ⟨#[]⟩, .slice none 0 0, .int .i64 0, .int .u8 0] 26))
  have HS := Lib.hid hs
  have B1 := Lib.hid (hbw.alloc hbw.size (.cells #[.string ⟨#[]⟩, .slice none 0 0, .int .i64 0, .int .u8 0] 26))
  clear hh hbw hs
  go_wp2_with ((with_reducible refine wpList_store_ct rfl (.tmp 3) (.tmp 4) rfl w1.heap.size rfl HZ.out rfl (A := some ⟨w.heap.size + 1, 0, none⟩) (c := 2) (x := mayorC) rfl ?_); intro w2 hb2 hg2)
  have HGV := Lib.hid (show Given w2 w.heap.size w1.heap.size (w.heap.size + 1) from ⟨hb2, HH.out.grown hg2 (by have := HS.out; simp; omega), by have := HS.out; omega, by have := HS.out; omega, by omega⟩)
  have B2 := Lib.hid (show Below w.heap.size w w2 from B1.out.grown hg2 B1.out.size (fun k e => by cases e; have := HS.out; omega))
  clear hb2 hg2
  refine (turn6 w2 w.heap.size w1.heap.size (w.heap.size + 1) HGV.out).mono ?_
  rintro e w3 ⟨rfl, ⟨A', c', hb3, hr3⟩, hbw3⟩
  have HB3 := Lib.hid hb3
  have HOK := Lib.hid (show CtOk w3 A' c' ⟨[109, 97, 121, 111, 114], List.replicate 11 [], 1, 7⟩ from ⟨hr3, by decide, by decide, by decide, by decide⟩)
  have B3 := Lib.hid (B2.out.trans hbw3)
  clear hb3 hr3 hbw3
  go_wp2_with (with_reducible refine wpList_load_ct (by kernel_rfl) (.tmp 3) rfl w1.heap.size rfl (A := A') (c := c') (x := ⟨[109, 97, 121, 111, 114], List.replicate 11 [], 1, 7⟩) HB3.out ?_)
  refine (HK.out.check _ A' c' w3 HOK.out (HK.out.keep HT.out B3.out)).mono ?_
  rintro e w4 ⟨rfl, hb⟩
  rw [HCK.out]
  have B4 := Lib.hid (B3.out.trans (hb.mono B3.out.size))
  clear hb
  go_wp2_with fail
  go_ret
  exact ⟨rfl, B4.out⟩

set_option maxRecDepth 100000 in
theorem turn7 (w : World) (B b g : Nat) (h : Given w B b g) : Calls Tryd.prog 18 #[.pointer (some ⟨b, 0, none⟩)] w (Turns B b ⟨[97, 32, 98], [[97, 110, 110], [98, 111, 98]], 1, 7⟩ w) := by
  have HB := Lib.hid h.ct
  have HH := Lib.hid h.cs
  have HN := Lib.hid h.ne
  have H1 := Lib.hid h.hb
  have H2 := Lib.hid h.hg
  have HR := Lib.hid (h.cs.rf_all (c := 2) (Nat.le_refl _) (by unfold maxLen; omega))
  have c0 : w.cell? ⟨b, 0, none⟩ = some (.string ⟨#[109, 97, 121, 111, 114]⟩) := h.ct.cell 0
  have c1 : w.cell? ⟨b, 1, none⟩ = some (.slice (some ⟨g, 0, none⟩) 2 2) := h.ct.cell 1
  have c2 : w.cell? ⟨b, 2, none⟩ = some (.int .i64 1) := h.ct.cell 2
  have c3 : w.cell? ⟨b, 3, none⟩ = some (.int .u8 7) := h.ct.cell 3
  have f0 : w.frozen? ⟨b, 0, none⟩ = false := h.ct.frozen 0
  have f1 : w.frozen? ⟨b, 1, none⟩ = false := h.ct.frozen 1
  have f2 : w.frozen? ⟨b, 2, none⟩ = false := h.ct.frozen 2
  have f3 : w.frozen? ⟨b, 3, none⟩ = false := h.ct.frozen 3
  have d1 : w.cell? ⟨g, 1, none⟩ = some (.string ⟨#[98, 111, 98]⟩) := h.cs.cell (i := 1) (by decide)
  have e1 : w.frozen? ⟨g, 1, none⟩ = false := h.cs.frozen 1
  clear h
  go_enter Tryd.func18, Tryd.ntmps18
  go_wp2_with fail
  first
    | refine ⟨rfl, _, results_none rfl _ _ _, rfl, ?_, ?_⟩
    | refine bodyPost_ret (results_none rfl _ _ _) rfl ⟨rfl, ?_, ?_⟩
  · exact ⟨some ⟨g, 0, none⟩, 2, (HB.out.set_ 0 (.string ⟨#[97, 32, 98]⟩)), (HH.out.away (p := ⟨b, 0, none⟩) HN.out (.string ⟨#[97, 32, 98]⟩)).rf_all (c := 2) (Nat.le_refl _) (by unfold maxLen; omega)⟩
  · exact ((Below.refl B w).setCell (p := ⟨b, 0, none⟩) H1.out (.string ⟨#[97, 32, 98]⟩))

set_option maxRecDepth 100000 in
set_option maxHeartbeats 400000 in
theorem turned7 {T : World → Prop} (K : Con T) (w : World) (hT : T w) : Calls Tryd.prog 10 #[.func (.func 18) #[] #[]] w fun e w' => e = .returned (.int .i64 8) ∧ Below w.heap.size w w' := by
  have HK := Lib.hid K
  have HT := Lib.hid hT
  have HCK := Lib.hid (show checkM ⟨[97, 32, 98], [[97, 110, 110], [98, 111, 98]], 1, 7⟩ = 8 by decide +kernel)
  clear K hT
  go_enter Tryd.func10, Tryd.ntmps10
  go_wp2_with fail
  refine (mayor2_any _).mono ?_
  rintro e w1 ⟨rfl, hh, hbw, hs⟩
  have HZ := Lib.hid (Blk.new w1 26 #[.string ⟨#[]⟩, .slice none 0 0, .int .i64 0, .int .u8 0])
  have HH := Lib.hid (hh.alloc (.cells #[.string ⟨#[]⟩, .slice none 0 0, .int .i64 0, .int .u8 0] 26))
  have HS := Lib.hid hs
  have B1 := Lib.hid (hbw.alloc hbw.size (.cells #[.string ⟨#[]⟩, .slice none 0 0, .int .i64 0, .int .u8 0] 26))
  clear hh hbw hs
  go_wp2_with ((with_reducible refine wpList_store_ct rfl (.tmp 3) (.tmp 4) rfl w1.heap.size rfl HZ.out rfl (A := some ⟨w.heap.size + 1, 0, none⟩) (c := 2) (x := mayorC) rfl ?_); intro w2 hb2 hg2)
  have HGV := Lib.hid (show Given w2 w.heap.size w1.heap.size (w.heap.size + 1) from ⟨hb2, HH.out.grown hg2 (by have := HS.out; simp; omega), by have := HS.out; omega, by have := HS.out; omega, by omega⟩)
  have B2 := Lib.hid (show Below w.heap.size w w2 from B1.out.grown hg2 B1.out.size (fun k e => by cases e; have := HS.out; omega))
  clear hb2 hg2
  refine (turn7 w2 w.heap.size w1.heap.size (w.heap.size + 1) HGV.out).mono ?_
  rintro e w3 ⟨rfl, ⟨A', c', hb3, hr3⟩, hbw3⟩
  have HB3 := Lib.hid hb3
  have HOK := Lib.hid (show CtOk w3 A' c' ⟨[97, 32, 98], [[97, 110, 110], [98, 111, 98]], 1, 7⟩ from ⟨hr3, by decide, by decide, by decide, by decide⟩)
  have B3 := Lib.hid (B2.out.trans hbw3)
  clear hb3 hr3 hbw3
  go_wp2_with (with_reducible refine wpList_load_ct (by kernel_rfl) (.tmp 3) rfl w1.heap.size rfl (A := A') (c := c') (x := ⟨[97, 32, 98], [[97, 110, 110], [98, 111, 98]], 1, 7⟩) HB3.out ?_)
  refine (HK.out.check _ A' c' w3 HOK.out (HK.out.keep HT.out B3.out)).mono ?_
  rintro e w4 ⟨rfl, hb⟩
  rw [HCK.out]
  have B4 := Lib.hid (B3.out.trans (hb.mono B3.out.size))
  clear hb
  go_wp2_with fail
  go_ret
  exact ⟨rfl, B4.out⟩

set_option maxRecDepth 100000 in
theorem turn8 (w : World) (B b g : Nat) (h : Given w B b g) : Calls Tryd.prog 19 #[.pointer (some ⟨b, 0, none⟩)] w (Turns B b ⟨[109, 97, 121, 111, 114], [[97, 110, 110], [98, 111, 98]], 3, 11⟩ w) := by
  have HB := Lib.hid h.ct
  have HH := Lib.hid h.cs
  have HN := Lib.hid h.ne
  have H1 := Lib.hid h.hb
  have H2 := Lib.hid h.hg
  have HR := Lib.hid (h.cs.rf_all (c := 2) (Nat.le_refl _) (by unfold maxLen; omega))
  have c0 : w.cell? ⟨b, 0, none⟩ = some (.string ⟨#[109, 97, 121, 111, 114]⟩) := h.ct.cell 0
  have c1 : w.cell? ⟨b, 1, none⟩ = some (.slice (some ⟨g, 0, none⟩) 2 2) := h.ct.cell 1
  have c2 : w.cell? ⟨b, 2, none⟩ = some (.int .i64 1) := h.ct.cell 2
  have c3 : w.cell? ⟨b, 3, none⟩ = some (.int .u8 7) := h.ct.cell 3
  have f0 : w.frozen? ⟨b, 0, none⟩ = false := h.ct.frozen 0
  have f1 : w.frozen? ⟨b, 1, none⟩ = false := h.ct.frozen 1
  have f2 : w.frozen? ⟨b, 2, none⟩ = false := h.ct.frozen 2
  have f3 : w.frozen? ⟨b, 3, none⟩ = false := h.ct.frozen 3
  have d1 : w.cell? ⟨g, 1, none⟩ = some (.string ⟨#[98, 111, 98]⟩) := h.cs.cell (i := 1) (by decide)
  have e1 : w.frozen? ⟨g, 1, none⟩ = false := h.cs.frozen 1
  clear h
  go_enter Tryd.func19, Tryd.ntmps19
  go_wp2_with fail
  first
    | refine ⟨rfl, _, results_none rfl _ _ _, rfl, ?_, ?_⟩
    | refine bodyPost_ret (results_none rfl _ _ _) rfl ⟨rfl, ?_, ?_⟩
  · exact ⟨some ⟨g, 0, none⟩, 2, ((HB.out.set_ 3 (.int .u8 11)).set_ 2 (.int .i64 3)), ((HH.out.away (p := ⟨b, 3, none⟩) HN.out (.int .u8 11)).away (p := ⟨b, 2, none⟩) HN.out (.int .i64 3)).rf_all (c := 2) (Nat.le_refl _) (by unfold maxLen; omega)⟩
  · exact (((Below.refl B w).setCell (p := ⟨b, 3, none⟩) H1.out (.int .u8 11)).setCell (p := ⟨b, 2, none⟩) H1.out (.int .i64 3))

set_option maxRecDepth 100000 in
set_option maxHeartbeats 400000 in
theorem turned8 {T : World → Prop} (K : Con T) (w : World) (hT : T w) : Calls Tryd.prog 10 #[.func (.func 19) #[] #[]] w fun e w' => e = .returned (.int .i64 8) ∧ Below w.heap.size w w' := by
  have HK := Lib.hid K
  have HT := Lib.hid hT
  have HCK := Lib.hid (show checkM ⟨[109, 97, 121, 111, 114], [[97, 110, 110], [98, 111, 98]], 3, 11⟩ = 8 by decide +kernel)
  clear K hT
  go_enter Tryd.func10, Tryd.ntmps10
  go_wp2_with fail
  refine (mayor2_any _).mono ?_
  rintro e w1 ⟨rfl, hh, hbw, hs⟩
  have HZ := Lib.hid (Blk.new w1 26 #[.string ⟨#[]⟩, .slice none 0 0, .int .i64 0, .int .u8 0])
  have HH := Lib.hid (hh.alloc (.cells #[.string ⟨#[]⟩, .slice none 0 0, .int .i64 0, .int .u8 0] 26))
  have HS := Lib.hid hs
  have B1 := Lib.hid (hbw.alloc hbw.size (.cells #[.string ⟨#[]⟩, .slice none 0 0, .int .i64 0, .int .u8 0] 26))
  clear hh hbw hs
  go_wp2_with ((with_reducible refine wpList_store_ct rfl (.tmp 3) (.tmp 4) rfl w1.heap.size rfl HZ.out rfl (A := some ⟨w.heap.size + 1, 0, none⟩) (c := 2) (x := mayorC) rfl ?_); intro w2 hb2 hg2)
  have HGV := Lib.hid (show Given w2 w.heap.size w1.heap.size (w.heap.size + 1) from ⟨hb2, HH.out.grown hg2 (by have := HS.out; simp; omega), by have := HS.out; omega, by have := HS.out; omega, by omega⟩)
  have B2 := Lib.hid (show Below w.heap.size w w2 from B1.out.grown hg2 B1.out.size (fun k e => by cases e; have := HS.out; omega))
  clear hb2 hg2
  refine (turn8 w2 w.heap.size w1.heap.size (w.heap.size + 1) HGV.out).mono ?_
  rintro e w3 ⟨rfl, ⟨A', c', hb3, hr3⟩, hbw3⟩
  have HB3 := Lib.hid hb3
  have HOK := Lib.hid (show CtOk w3 A' c' ⟨[109, 97, 121, 111, 114], [[97, 110, 110], [98, 111, 98]], 3, 11⟩ from ⟨hr3, by decide, by decide, by decide, by decide⟩)
  have B3 := Lib.hid (B2.out.trans hbw3)
  clear hb3 hr3 hbw3
  go_wp2_with (with_reducible refine wpList_load_ct (by kernel_rfl) (.tmp 3) rfl w1.heap.size rfl (A := A') (c := c') (x := ⟨[109, 97, 121, 111, 114], [[97, 110, 110], [98, 111, 98]], 3, 11⟩) HB3.out ?_)
  refine (HK.out.check _ A' c' w3 HOK.out (HK.out.keep HT.out B3.out)).mono ?_
  rintro e w4 ⟨rfl, hb⟩
  rw [HCK.out]
  have B4 := Lib.hid (B3.out.trans (hb.mono B3.out.size))
  clear hb
  go_wp2_with fail
  go_ret
  exact ⟨rfl, B4.out⟩

set_option maxRecDepth 100000 in
theorem turn9 (w : World) (B b g : Nat) (h : Given w B b g) : Calls Tryd.prog 20 #[.pointer (some ⟨b, 0, none⟩)] w (Turns B b ⟨[109, 97, 121, 111, 114], [[97, 110, 110], [98, 111, 98]], 10, 16⟩ w) := by
  have HB := Lib.hid h.ct
  have HH := Lib.hid h.cs
  have HN := Lib.hid h.ne
  have H1 := Lib.hid h.hb
  have H2 := Lib.hid h.hg
  have HR := Lib.hid (h.cs.rf_all (c := 2) (Nat.le_refl _) (by unfold maxLen; omega))
  have c0 : w.cell? ⟨b, 0, none⟩ = some (.string ⟨#[109, 97, 121, 111, 114]⟩) := h.ct.cell 0
  have c1 : w.cell? ⟨b, 1, none⟩ = some (.slice (some ⟨g, 0, none⟩) 2 2) := h.ct.cell 1
  have c2 : w.cell? ⟨b, 2, none⟩ = some (.int .i64 1) := h.ct.cell 2
  have c3 : w.cell? ⟨b, 3, none⟩ = some (.int .u8 7) := h.ct.cell 3
  have f0 : w.frozen? ⟨b, 0, none⟩ = false := h.ct.frozen 0
  have f1 : w.frozen? ⟨b, 1, none⟩ = false := h.ct.frozen 1
  have f2 : w.frozen? ⟨b, 2, none⟩ = false := h.ct.frozen 2
  have f3 : w.frozen? ⟨b, 3, none⟩ = false := h.ct.frozen 3
  have d1 : w.cell? ⟨g, 1, none⟩ = some (.string ⟨#[98, 111, 98]⟩) := h.cs.cell (i := 1) (by decide)
  have e1 : w.frozen? ⟨g, 1, none⟩ = false := h.cs.frozen 1
  clear h
  go_enter Tryd.func20, Tryd.ntmps20
  go_wp2_with fail
  first
    | refine ⟨rfl, _, results_none rfl _ _ _, rfl, ?_, ?_⟩
    | refine bodyPost_ret (results_none rfl _ _ _) rfl ⟨rfl, ?_, ?_⟩
  · exact ⟨some ⟨g, 0, none⟩, 2, ((HB.out.set_ 3 (.int .u8 16)).set_ 2 (.int .i64 10)), ((HH.out.away (p := ⟨b, 3, none⟩) HN.out (.int .u8 16)).away (p := ⟨b, 2, none⟩) HN.out (.int .i64 10)).rf_all (c := 2) (Nat.le_refl _) (by unfold maxLen; omega)⟩
  · exact (((Below.refl B w).setCell (p := ⟨b, 3, none⟩) H1.out (.int .u8 16)).setCell (p := ⟨b, 2, none⟩) H1.out (.int .i64 10))

set_option maxRecDepth 100000 in
set_option maxHeartbeats 400000 in
theorem turned9 {T : World → Prop} (K : Con T) (w : World) (hT : T w) : Calls Tryd.prog 10 #[.func (.func 20) #[] #[]] w fun e w' => e = .returned (.int .i64 0) ∧ Below w.heap.size w w' := by
  have HK := Lib.hid K
  have HT := Lib.hid hT
  have HCK := Lib.hid (show checkM ⟨[109, 97, 121, 111, 114], [[97, 110, 110], [98, 111, 98]], 10, 16⟩ = 0 by decide +kernel)
  clear K hT
  go_enter Tryd.func10, Tryd.ntmps10
  go_wp2_with fail
  refine (mayor2_any _).mono ?_
  rintro e w1 ⟨rfl, hh, hbw, hs⟩
  have HZ := Lib.hid (Blk.new w1 26 #[.string ⟨#[]⟩, .slice none 0 0, .int .i64 0, .int .u8 0])
  have HH := Lib.hid (hh.alloc (.cells #[.string ⟨#[]⟩, .slice none 0 0, .int .i64 0, .int .u8 0] 26))
  have HS := Lib.hid hs
  have B1 := Lib.hid (hbw.alloc hbw.size (.cells #[.string ⟨#[]⟩, .slice none 0 0, .int .i64 0, .int .u8 0] 26))
  clear hh hbw hs
  go_wp2_with ((with_reducible refine wpList_store_ct rfl (.tmp 3) (.tmp 4) rfl w1.heap.size rfl HZ.out rfl (A := some ⟨w.heap.size + 1, 0, none⟩) (c := 2) (x := mayorC) rfl ?_); intro w2 hb2 hg2)
  have HGV := Lib.hid (show Given w2 w.heap.size w1.heap.size (w.heap.size + 1) from ⟨hb2, HH.out.grown hg2 (by have := HS.out; simp; omega), by have := HS.out; omega, by have := HS.out; omega, by omega⟩)
  have B2 := Lib.hid (show Below w.heap.size w w2 from B1.out.grown hg2 B1.out.size (fun k e => by cases e; have := HS.out; omega))
  clear hb2 hg2
  refine (turn9 w2 w.heap.size w1.heap.size (w.heap.size + 1) HGV.out).mono ?_
  rintro e w3 ⟨rfl, ⟨A', c', hb3, hr3⟩, hbw3⟩
  have HB3 := Lib.hid hb3
  have HOK := Lib.hid (show CtOk w3 A' c' ⟨[109, 97, 121, 111, 114], [[97, 110, 110], [98, 111, 98]], 10, 16⟩ from ⟨hr3, by decide, by decide, by decide, by decide⟩)
  have B3 := Lib.hid (B2.out.trans hbw3)
  clear hb3 hr3 hbw3
  go_wp2_with (with_reducible refine wpList_load_ct (by kernel_rfl) (.tmp 3) rfl w1.heap.size rfl (A := A') (c := c') (x := ⟨[109, 97, 121, 111, 114], [[97, 110, 110], [98, 111, 98]], 10, 16⟩) HB3.out ?_)
  refine (HK.out.check _ A' c' w3 HOK.out (HK.out.keep HT.out B3.out)).mono ?_
  rintro e w4 ⟨rfl, hb⟩
  rw [HCK.out]
  have B4 := Lib.hid (B3.out.trans (hb.mono B3.out.size))
  clear hb
  go_wp2_with fail
  go_ret
  exact ⟨rfl, B4.out⟩

set_option maxRecDepth 100000 in
theorem turn10 (w : World) (B b g : Nat) (h : Given w B b g) : Calls Tryd.prog 21 #[.pointer (some ⟨b, 0, none⟩)] w (Turns B b ⟨[109, 97, 121, 111, 114], [[97, 110, 110], [98, 111, 98]], 2, 4⟩ w) := by
  have HB := Lib.hid h.ct
  have HH := Lib.hid h.cs
  have HN := Lib.hid h.ne
  have H1 := Lib.hid h.hb
  have H2 := Lib.hid h.hg
  have HR := Lib.hid (h.cs.rf_all (c := 2) (Nat.le_refl _) (by unfold maxLen; omega))
  have c0 : w.cell? ⟨b, 0, none⟩ = some (.string ⟨#[109, 97, 121, 111, 114]⟩) := h.ct.cell 0
  have c1 : w.cell? ⟨b, 1, none⟩ = some (.slice (some ⟨g, 0, none⟩) 2 2) := h.ct.cell 1
  have c2 : w.cell? ⟨b, 2, none⟩ = some (.int .i64 1) := h.ct.cell 2
  have c3 : w.cell? ⟨b, 3, none⟩ = some (.int .u8 7) := h.ct.cell 3
  have f0 : w.frozen? ⟨b, 0, none⟩ = false := h.ct.frozen 0
  have f1 : w.frozen? ⟨b, 1, none⟩ = false := h.ct.frozen 1
  have f2 : w.frozen? ⟨b, 2, none⟩ = false := h.ct.frozen 2
  have f3 : w.frozen? ⟨b, 3, none⟩ = false := h.ct.frozen 3
  have d1 : w.cell? ⟨g, 1, none⟩ = some (.string ⟨#[98, 111, 98]⟩) := h.cs.cell (i := 1) (by decide)
  have e1 : w.frozen? ⟨g, 1, none⟩ = false := h.cs.frozen 1
  clear h
  go_enter Tryd.func21, Tryd.ntmps21
  go_wp2_with fail
  first
    | refine ⟨rfl, _, results_none rfl _ _ _, rfl, ?_, ?_⟩
    | refine bodyPost_ret (results_none rfl _ _ _) rfl ⟨rfl, ?_, ?_⟩
  · exact ⟨some ⟨g, 0, none⟩, 2, ((HB.out.set_ 3 (.int .u8 4)).set_ 2 (.int .i64 2)), ((HH.out.away (p := ⟨b, 3, none⟩) HN.out (.int .u8 4)).away (p := ⟨b, 2, none⟩) HN.out (.int .i64 2)).rf_all (c := 2) (Nat.le_refl _) (by unfold maxLen; omega)⟩
  · exact (((Below.refl B w).setCell (p := ⟨b, 3, none⟩) H1.out (.int .u8 4)).setCell (p := ⟨b, 2, none⟩) H1.out (.int .i64 2))

set_option maxRecDepth 100000 in
set_option maxHeartbeats 400000 in
theorem turned10 {T : World → Prop} (K : Con T) (w : World) (hT : T w) : Calls Tryd.prog 10 #[.func (.func 21) #[] #[]] w fun e w' => e = .returned (.int .i64 0) ∧ Below w.heap.size w w' := by
  have HK := Lib.hid K
  have HT := Lib.hid hT
  have HCK := Lib.hid (show checkM ⟨[109, 97, 121, 111, 114], [[97, 110, 110], [98, 111, 98]], 2, 4⟩ = 0 by decide +kernel)
  clear K hT
  go_enter Tryd.func10, Tryd.ntmps10
  go_wp2_with fail
  refine (mayor2_any _).mono ?_
  rintro e w1 ⟨rfl, hh, hbw, hs⟩
  have HZ := Lib.hid (Blk.new w1 26 #[.string ⟨#[]⟩, .slice none 0 0, .int .i64 0, .int .u8 0])
  have HH := Lib.hid (hh.alloc (.cells #[.string ⟨#[]⟩, .slice none 0 0, .int .i64 0, .int .u8 0] 26))
  have HS := Lib.hid hs
  have B1 := Lib.hid (hbw.alloc hbw.size (.cells #[.string ⟨#[]⟩, .slice none 0 0, .int .i64 0, .int .u8 0] 26))
  clear hh hbw hs
  go_wp2_with ((with_reducible refine wpList_store_ct rfl (.tmp 3) (.tmp 4) rfl w1.heap.size rfl HZ.out rfl (A := some ⟨w.heap.size + 1, 0, none⟩) (c := 2) (x := mayorC) rfl ?_); intro w2 hb2 hg2)
  have HGV := Lib.hid (show Given w2 w.heap.size w1.heap.size (w.heap.size + 1) from ⟨hb2, HH.out.grown hg2 (by have := HS.out; simp; omega), by have := HS.out; omega, by have := HS.out; omega, by omega⟩)
  have B2 := Lib.hid (show Below w.heap.size w w2 from B1.out.grown hg2 B1.out.size (fun k e => by cases e; have := HS.out; omega))
  clear hb2 hg2
  refine (turn10 w2 w.heap.size w1.heap.size (w.heap.size + 1) HGV.out).mono ?_
  rintro e w3 ⟨rfl, ⟨A', c', hb3, hr3⟩, hbw3⟩
  have HB3 := Lib.hid hb3
  have HOK := Lib.hid (show CtOk w3 A' c' ⟨[109, 97, 121, 111, 114], [[97, 110, 110], [98, 111, 98]], 2, 4⟩ from ⟨hr3, by decide, by decide, by decide, by decide⟩)
  have B3 := Lib.hid (B2.out.trans hbw3)
  clear hb3 hr3 hbw3
  go_wp2_with (with_reducible refine wpList_load_ct (by kernel_rfl) (.tmp 3) rfl w1.heap.size rfl (A := A') (c := c') (x := ⟨[109, 97, 121, 111, 114], [[97, 110, 110], [98, 111, 98]], 2, 4⟩) HB3.out ?_)
  refine (HK.out.check _ A' c' w3 HOK.out (HK.out.keep HT.out B3.out)).mono ?_
  rintro e w4 ⟨rfl, hb⟩
  rw [HCK.out]
  have B4 := Lib.hid (B3.out.trans (hb.mono B3.out.size))
  clear hb
  go_wp2_with fail
  go_ret
  exact ⟨rfl, B4.out⟩

theorem split_good : Oc.splitM [0, 1, 65, 0, 2, 1, 1] = ([[65], [1, 1]], 0) := by
  have h := Oc.splitM_flat (L := [[65], [1, 1]]) (fun x hx => by
    rcases List.mem_cons.1 hx with e | hx
    · subst e; decide
    · obtain rfl := List.mem_singleton.1 hx; decide) (by decide)
  rwa [show Oc.flat [[65], [1, 1]] = [0, 1, 65, 0, 2, 1, 1] by decide +kernel] at h
theorem split_short : Oc.splitM [0, 1, 65, 0, 2, 1, 1, 0, 1] = ([], 10) := by
  refine Oc.splitM_no (by decide) ?_
  have h := Oc.no_flat [[65], [1, 1]] [0, 1] (fun x hx => by
    rcases List.mem_cons.1 hx with e | hx
    · subst e; decide
    · obtain rfl := List.mem_singleton.1 hx; decide) (by decide) (fun x r hx e => by
      have hl := congrArg List.length e
      rw [List.length_append, Oc.fld_len] at hl
      simp only [List.length_cons, List.length_nil] at hl
      obtain rfl : x = [] := List.eq_nil_of_length_eq_zero (by omega)
      obtain rfl : r = [] := List.eq_nil_of_length_eq_zero (by omega)
      revert e
      decide +kernel)
  rwa [show Oc.flat [[65], [1, 1]] = [0, 1, 65, 0, 2, 1, 1] by decide +kernel] at h
theorem read_short : readM [0, 1, 65, 0, 2, 1, 1, 0, 1] = (zeroCt, 10) := by rw [readM_e (by rw [split_short]; decide), split_short]
theorem read_few : readM [0, 1, 65, 0, 2, 1, 1] = (zeroCt, 11) := readM_bad (x := ⟨[65], [], 1, 1⟩) (by rw [split_good]) (by rw [split_good]; rfl) (by decide)

set_option maxRecDepth 100000 in
set_option maxHeartbeats 4000000 in
theorem contestNames_any {T : World → Prop} (K : Con T) (w : World) (hT : T w) :
    Calls Tryd.prog 3 #[] w fun e w' => e = .returned (.bool true) ∧ Below w.heap.size w w' := by
  have HK := Lib.hid K
  have HT := Lib.hid hT
  have HA := Lib.hid (fun wx h => aliveC_any K wx h)
  have T2 := Lib.hid (fun wx h => turned2 K wx h)
  have T3 := Lib.hid (fun wx h => turned3 K wx h)
  have T4 := Lib.hid (fun wx h => turned4 K wx h)
  have T5 := Lib.hid (fun wx h => turned5 K wx h)
  have T6 := Lib.hid (fun wx h => turned6 K wx h)
  have T7 := Lib.hid (fun wx h => turned7 K wx h)
  have T8 := Lib.hid (fun wx h => turned8 K wx h)
  have T9 := Lib.hid (fun wx h => turned9 K wx h)
  have T10 := Lib.hid (fun wx h => turned10 K wx h)
  clear K hT
  have B0 := Lib.hid (Below.refl w.heap.size w)
  go_enter Tryd.func3, Tryd.ntmps3
  go_wp2_with fail
  refine (T2.out _ (HK.out.keep HT.out B0.out)).mono ?_
  rintro e w2 ⟨rfl, hb⟩
  have B2 := Lib.hid (B0.out.trans (hb.mono B0.out.size))
  clear hb
  go_wp2_with fail
  refine (T3.out _ (HK.out.keep HT.out B2.out)).mono ?_
  rintro e w3 ⟨rfl, hb⟩
  have B3 := Lib.hid (B2.out.trans (hb.mono B2.out.size))
  clear hb
  go_wp2_with fail
  refine (T4.out _ (HK.out.keep HT.out B3.out)).mono ?_
  rintro e w4 ⟨rfl, hb⟩
  have B4 := Lib.hid (B3.out.trans (hb.mono B3.out.size))
  clear hb
  go_wp2_with fail
  refine (T5.out _ (HK.out.keep HT.out B4.out)).mono ?_
  rintro e w5 ⟨rfl, hb⟩
  have B5 := Lib.hid (B4.out.trans (hb.mono B4.out.size))
  clear hb
  go_wp2_with fail
  refine (T6.out _ (HK.out.keep HT.out B5.out)).mono ?_
  rintro e w6 ⟨rfl, hb⟩
  have B6 := Lib.hid (B5.out.trans (hb.mono B5.out.size))
  clear hb
  go_wp2_with fail
  refine (T7.out _ (HK.out.keep HT.out B6.out)).mono ?_
  rintro e w7 ⟨rfl, hb⟩
  have B7 := Lib.hid (B6.out.trans (hb.mono B6.out.size))
  clear hb
  go_wp2_with fail
  refine (T8.out _ (HK.out.keep HT.out B7.out)).mono ?_
  rintro e w8 ⟨rfl, hb⟩
  have B8 := Lib.hid (B7.out.trans (hb.mono B7.out.size))
  clear hb
  go_wp2_with fail
  refine (T9.out _ (HK.out.keep HT.out B8.out)).mono ?_
  rintro e w9 ⟨rfl, hb⟩
  have B9 := Lib.hid (B8.out.trans (hb.mono B8.out.size))
  clear hb
  go_wp2_with fail
  refine (T10.out _ (HK.out.keep HT.out B9.out)).mono ?_
  rintro e w10 ⟨rfl, hb⟩
  have B10 := Lib.hid (B9.out.trans (hb.mono B9.out.size))
  clear hb
  go_wp2_with fail
  refine (mayor_any _).mono ?_
  rintro e w20 ⟨rfl, hr, hb⟩
  have B20 := Lib.hid (B10.out.trans (hb.mono B10.out.size))
  have HOK20 := Lib.hid (show CtOk w20 _ 2 mayorC from ⟨hr, by decide, by decide, by decide, by decide⟩)
  clear hb hr
  go_wp2_with fail
  refine (HK.out.place mayorC [98, 111, 98] _ 2 w20 HOK20.out (by decide) (HK.out.keep HT.out B20.out)).mono ?_
  rintro e w21 ⟨rfl, hb⟩
  rw [show placeM mayorC [98, 111, 98] = (1, 0) by decide +kernel]
  have B21 := Lib.hid (B20.out.trans (hb.mono B20.out.size))
  clear hb
  go_wp2_with fail
  refine (mayor_any _).mono ?_
  rintro e w22 ⟨rfl, hr, hb⟩
  have B22 := Lib.hid (B21.out.trans (hb.mono B21.out.size))
  have HOK22 := Lib.hid (show CtOk w22 _ 2 mayorC from ⟨hr, by decide, by decide, by decide, by decide⟩)
  clear hb hr
  go_wp2_with fail
  refine (HK.out.place mayorC [99, 97, 116] _ 2 w22 HOK22.out (by decide) (HK.out.keep HT.out B22.out)).mono ?_
  rintro e w23 ⟨rfl, hb⟩
  rw [show placeM mayorC [99, 97, 116] = (0, 6) by decide +kernel]
  have B23 := Lib.hid (B22.out.trans (hb.mono B22.out.size))
  clear hb
  go_wp2_with fail
  refine (HK.out.rule [109, 101, 101, 107] _ (by decide) (HK.out.keep HT.out B23.out)).mono ?_
  rintro e w24 ⟨rfl, hb⟩
  rw [show ruleM [109, 101, 101, 107] = (12, 0) by decide +kernel]
  have B24 := Lib.hid (B23.out.trans (hb.mono B23.out.size))
  clear hb
  go_wp2_with fail
  refine (HK.out.rule [] _ (by decide) (HK.out.keep HT.out B24.out)).mono ?_
  rintro e w25 ⟨rfl, hb⟩
  rw [show ruleM [] = (0, 6) by decide +kernel]
  have B25 := Lib.hid (B24.out.trans (hb.mono B24.out.size))
  clear hb
  go_wp2_with fail
  have hrf26 : Rf bv (w25.alloc (.cells #[.int .u8 0, .int .u8 1, .int .u8 65, .int .u8 0, .int .u8 2, .int .u8 1, .int .u8 1, .int .u8 0, .int .u8 1] 5)) (w25.alloc (.cells #[.int .u8 0, .int .u8 1, .int .u8 65, .int .u8 0, .int .u8 2, .int .u8 1, .int .u8 1, .int .u8 0, .int .u8 1] 5)).heap.size (some ⟨w25.heap.size, 0, none⟩) 9 ([0, 1, 65, 0, 2, 1, 1, 0, 1] : List UInt8) := (show Hb bv (w25.alloc (.cells #[.int .u8 0, .int .u8 1, .int .u8 65, .int .u8 0, .int .u8 2, .int .u8 1, .int .u8 1, .int .u8 0, .int .u8 1] 5)) w25.heap.size 5 ([0, 1, 65, 0, 2, 1, 1, 0, 1] : List UInt8) from Blk.new w25 _ _).rf_all (c := 9) (Nat.le_refl _) (by unfold maxLen; omega)
  have BA26 := Lib.hid (B25.out.alloc B25.out.size (.cells #[.int .u8 0, .int .u8 1, .int .u8 65, .int .u8 0, .int .u8 2, .int .u8 1, .int .u8 1, .int .u8 0, .int .u8 1] 5))
  have hrd26 := HK.out.read [0, 1, 65, 0, 2, 1, 1, 0, 1] _ 9 _ hrf26 (by decide) (HK.out.keep HT.out BA26.out)
  rw [read_short] at hrd26
  refine hrd26.mono ?_
  clear hrd26 hrf26
  rintro e w26 ⟨A26, c26, x26, e26, rfl, hq, hr, hb⟩
  obtain ⟨rfl, rfl⟩ := Prod.mk.inj hq
  have B26 := Lib.hid (BA26.out.trans (hb.mono BA26.out.size))
  have HZ26 := Lib.hid (Blk.new w26 26 #[.string ⟨#[]⟩, .slice none 0 0, .int .i64 0, .int .u8 0])
  have BN26 := Lib.hid (B26.out.alloc B26.out.size (.cells #[.string ⟨#[]⟩, .slice none 0 0, .int .i64 0, .int .u8 0] 26))
  clear hb hr hq
  go_wp2_with ((with_reducible refine wpList_store_ct rfl (.tmp 19) (.tmp 63) rfl w26.heap.size rfl HZ26.out rfl (A := A26) (c := c26) (x := zeroCt) rfl ?_); intro w27 hb27 hg27; have B27 := Lib.hid (BN26.out.grown hg27 BN26.out.size (fun k e => by cases e; exact B26.out.size)))
  have hrf28 : Rf bv (w27.alloc (.cells #[.int .u8 0, .int .u8 1, .int .u8 65, .int .u8 0, .int .u8 2, .int .u8 1, .int .u8 1] 5)) (w27.alloc (.cells #[.int .u8 0, .int .u8 1, .int .u8 65, .int .u8 0, .int .u8 2, .int .u8 1, .int .u8 1] 5)).heap.size (some ⟨w27.heap.size, 0, none⟩) 7 ([0, 1, 65, 0, 2, 1, 1] : List UInt8) := (show Hb bv (w27.alloc (.cells #[.int .u8 0, .int .u8 1, .int .u8 65, .int .u8 0, .int .u8 2, .int .u8 1, .int .u8 1] 5)) w27.heap.size 5 ([0, 1, 65, 0, 2, 1, 1] : List UInt8) from Blk.new w27 _ _).rf_all (c := 7) (Nat.le_refl _) (by unfold maxLen; omega)
  have BA28 := Lib.hid (B27.out.alloc B27.out.size (.cells #[.int .u8 0, .int .u8 1, .int .u8 65, .int .u8 0, .int .u8 2, .int .u8 1, .int .u8 1] 5))
  have hrd28 := HK.out.read [0, 1, 65, 0, 2, 1, 1] _ 7 _ hrf28 (by decide) (HK.out.keep HT.out BA28.out)
  rw [read_few] at hrd28
  refine hrd28.mono ?_
  clear hrd28 hrf28
  rintro e w28 ⟨A28, c28, x28, e28, rfl, hq, hr, hb⟩
  obtain ⟨rfl, rfl⟩ := Prod.mk.inj hq
  have B28 := Lib.hid (BA28.out.trans (hb.mono BA28.out.size))
  have HZ28 := Lib.hid (Blk.new w28 26 #[.string ⟨#[]⟩, .slice none 0 0, .int .i64 0, .int .u8 0])
  have BN28 := Lib.hid (B28.out.alloc B28.out.size (.cells #[.string ⟨#[]⟩, .slice none 0 0, .int .i64 0, .int .u8 0] 26))
  clear hb hr hq
  go_wp2_with ((with_reducible refine wpList_store_ct rfl (.tmp 21) (.tmp 68) rfl w28.heap.size rfl HZ28.out rfl (A := A28) (c := c28) (x := zeroCt) rfl ?_); intro w29 hb29 hg29; have B29 := Lib.hid (BN28.out.grown hg29 BN28.out.size (fun k e => by cases e; exact B28.out.size)))
  refine (HA.out _ (HK.out.keep HT.out B29.out)).mono ?_
  rintro e w30 ⟨rfl, hb⟩
  have B30 := Lib.hid (B29.out.trans (hb.mono B29.out.size))
  clear hb
  go_wp2_with fail
  go_ret
  exact ⟨rfl, B30.out⟩
end Go.Proofs.YtdjifopdlkppoaaDoor
