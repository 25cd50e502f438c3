/- A contest in a block of the call's own: loaded and stored whole; the reference's Twin. -/
import Derived.Test.YtdjifopdlkppoaaDoorRefC
namespace Go.Proofs.YtdjifopdlkppoaaDoor
open Go.RowKit
set_option linter.unusedVariables false

theorem grown_setRow' (w : World) (g : Nat) (cs : Array Value) : w.grownBy (w.setRow g cs) (some g) :=
  ⟨rfl, rfl, rfl, by simp, fun k _ hk => setRow_other w g k cs (fun e => hk (by rw [e]))⟩
theorem size_ct : (Tryd.prog.info? 26).map (·.size) = some 4 := by kernel_rfl
theorem wpList_load_ct {w : World} {ops : Array Oper} {rest : List Oper} {o : Oper} {a : Act} {Q : Exit → Act → World → Prop} (hw : Region.wanted o (yielded ops a.tmps) = true) (y : Operand) (ho : o.op = .load 26 y)
    (g : Nat) (hx : a.eval y = .pointer (some ⟨g, 0, none⟩)) {A : Option Addr} {c : Nat} {x : Ct} (hB : Blk w g 26 (cvs A c x)) (h : wpList Tryd.prog ops Q rest (a.put o.dst (cv A c x)) w) : wpList Tryd.prog ops Q (o :: rest) a w :=
  BigFrame.wpList_want hw fun K hK => wp_load_row _ y ho g hx 26 _ _ _ hB Tryd.underlying26 rfl size_ct (hK _ _ h)
theorem wpList_store_ct {w : World} {ops : Array Oper} {rest : List Oper} {o : Oper} {a : Act} {Q : Exit → Act → World → Prop} (hgd : o.guard = none) (y z : Operand) (ho : o.op = .store 26 y z)
    (g : Nat) (hx : a.eval y = .pointer (some ⟨g, 0, none⟩)) {old : Array Value} (hB : Blk w g 26 old) (hold : old.size = 4) {A : Option Addr} {c : Nat} {x : Ct} (hy : a.eval z = cv A c x)
    (h : ∀ w', Blk w' g 26 (cvs A c x) → w.grownBy w' (some g) → wpList Tryd.prog ops Q rest (a.put o.dst undef) w') : wpList Tryd.prog ops Q (o :: rest) a w :=
  wpList_store_row hgd _ y z ho g (cvs A c x) hx hy 26 old hB size_ct hold (by simp [cvs, Value.oneCell']) (h _ (setRow_heap w g _ _ _ _ hB) (grown_setRow' w g _))
theorem ct_ret {fn : Func} {p : Tmp} (h : fn.results = #[.cell p 26]) {a : Act} {w : World} {g : Nat} {A : Option Addr} {c : Nat} {x : Ct} {Q : Ending → World → Prop}
    (hp : a.tmps.getD p undef = .pointer (some ⟨g, 0, none⟩)) (hB : Blk w g 26 (cvs A c x)) (hd : a.defers = []) (hQ : Q (.returned (cv A c x)) w) : bodyPost Tryd.prog fn Q .ret a w :=
  bodyPost_ret (results_cell_row h a.tmps w g _ _ _ _ hp hB Tryd.underlying26 rfl size_ct) hd hQ
theorem zero_ct : (cvs none 0 ⟨[], [], 0, 0⟩) = #[.string ⟨#[]⟩, .slice none 0 0, .int .i64 0, .int .u8 0] := rfl
theorem sInfo : (Tryd.prog.info? 9).map (fun i => (i.zero, i.size, i.bytes)) = some (some (.string ⟨#[]⟩), 1, 16) := by kernel_rfl
theorem sInfo_parts : ∃ i, Tryd.prog.info? 9 = some i ∧ i.zero = some (.string ⟨#[]⟩) ∧ i.size = 1 ∧ i.bytes = 16 := by
  have h := sInfo
  cases hi : Tryd.prog.info? 9 with
  | none => rw [hi] at h; cases h
  | some i => rw [hi] at h; simp at h; exact ⟨i, rfl, h.1, h.2.1, h.2.2⟩

set_option maxRecDepth 100000 in
set_option maxHeartbeats 400000 in
theorem refTwin_any (x : Ct) (A : Option Addr) (c : Nat) (w : World) (hr : Rf sv w w.heap.size A c x.cands) (hl : x.cands.length ≤ 1000000) :
    Calls Tryd.prog 27 #[cv A c x] w fun e w' => ∃ (A' : Option Addr) (c' : Nat), e = .returned (cv A' c' x) ∧ Ow sv w' w.heap.size 9 A' c' x.cands ∧ Below w.heap.size w w' := by
  obtain ⟨bi, hbi, hz0, hz1, hz2⟩ := sInfo_parts
  have HBI := Lib.hid hbi
  have HZ0 := Lib.hid hz0
  have HZ1 := Lib.hid hz1
  have HZ2 := Lib.hid hz2
  clear hbi hz0 hz1 hz2
  have HOW := Lib.hid (show Ow sv (((w.alloc (.cells (cvs A c x) 26)).alloc (.cells #[.string ⟨#[]⟩, .slice none 0 0, .int .i64 0, .int .u8 0] 26)).alloc (.cells #[] 9)) (w.heap.size + 1 + 1) 9 (some ⟨w.heap.size + 1 + 1, 0, none⟩) 0 [] by
    have h := ow_zero (f := sv) (w := ((w.alloc (.cells (cvs A c x) 26)).alloc (.cells #[.string ⟨#[]⟩, .slice none 0 0, .int .i64 0, .int .u8 0] 26))) 9 (w.heap.size + 1 + 1) (by simp only [World.size_alloc]; omega)
    simp only [World.size_alloc] at h
    exact h)
  have HB1 := Lib.hid (show Blk (((w.alloc (.cells (cvs A c x) 26)).alloc (.cells #[.string ⟨#[]⟩, .slice none 0 0, .int .i64 0, .int .u8 0] 26)).alloc (.cells #[] 9)) w.heap.size 26 (cvs A c x) from ((Blk.new w _ _).alloc _).alloc _)
  have HB2 := Lib.hid (show Blk (((w.alloc (.cells (cvs A c x) 26)).alloc (.cells #[.string ⟨#[]⟩, .slice none 0 0, .int .i64 0, .int .u8 0] 26)).alloc (.cells #[] 9)) (w.heap.size + 1) 26 #[.string ⟨#[]⟩, .slice none 0 0, .int .i64 0, .int .u8 0] by
    have h := (Blk.new (w.alloc (.cells (cvs A c x) 26)) 26 #[.string ⟨#[]⟩, .slice none 0 0, .int .i64 0, .int .u8 0]).alloc (.cells #[] 9)
    rwa [World.size_alloc] at h)
  have HRL := Lib.hid (show Rf sv (((w.alloc (.cells (cvs A c x) 26)).alloc (.cells #[.string ⟨#[]⟩, .slice none 0 0, .int .i64 0, .int .u8 0] 26)).alloc (.cells #[] 9)) w.heap.size A c x.cands from (((hr.alloc (Nat.le_refl _) _).alloc (by simp only [World.size_alloc]; omega) _).alloc (by simp only [World.size_alloc]; omega) _))
  have HBW := Lib.hid (show Below w.heap.size w (((w.alloc (.cells (cvs A c x) 26)).alloc (.cells #[.string ⟨#[]⟩, .slice none 0 0, .int .i64 0, .int .u8 0] 26)).alloc (.cells #[] 9)) from ((((Below.refl _ w).alloc (Nat.le_refl _) _).alloc (by simp only [World.size_alloc]; omega) _).alloc (by simp only [World.size_alloc]; omega) _))
  have HSZ := Lib.hid (show (((w.alloc (.cells (cvs A c x) 26)).alloc (.cells #[.string ⟨#[]⟩, .slice none 0 0, .int .i64 0, .int .u8 0] 26)).alloc (.cells #[] 9)).heap.size = w.heap.size + 1 + 1 + 1 by simp only [World.size_alloc])
  unfold cv
  unfold cvs at HOW HB1 HB2 HRL HBW HSZ ⊢
  go_enter Tryd.func27, Tryd.ntmps27
  go_wp2_with (first
    | (with_reducible refine wpList_load_ct (by kernel_rfl) (.tmp 1) rfl w.heap.size rfl (A := A4) (c := c4) (x := x) HB5.out ?_)
    | (with_reducible refine wpList_store_ct rfl (.tmp 2) (.tmp 8) rfl (w.heap.size + 1) rfl HB6.out rfl (A := A4) (c := c4) (x := x) rfl ?_; intro w6 hb6 hg6)
    | (at_builtin; refine wpList_append_f _ sv_one rfl (.tmp 3) (.tmp 5) 24 rfl (w.heap.size + 1 + 1) 9 16 bi _ Tryd.underlying24 HBI.out HZ0.out HZ1.out HZ2.out (by omega) rfl [] x.cands rfl rfl HOW.out HRL.out (by simp only [List.length_nil]; omega) (by rw [HSZ.out]; omega) ?_; intro A4 c4 w4 r4 hr4 hown4 hg4 hb4; have hb4a := Lib.hid (HB1.out.grown hg4 (by simp [blk] <;> omega)); have hb4b := Lib.hid (HB2.out.grown hg4 (by simp [blk] <;> omega)); have hbw4 := Lib.hid (HBW.out.grown hg4 (by rw [HSZ.out]; omega) (fun k e => by simp [blk] at e; omega)); have hc4 : w4.cell? ⟨w.heap.size, 1, none⟩ = some (.slice A x.cands.length c) := hb4a.out.cell 1; have hf4 : w4.frozen? ⟨w.heap.size, 1, none⟩ = false := hb4a.out.frozen 1; have hre4 : r4 = x.cands := (by rw [hr4.out]; rfl); subst hre4; have HB5 := Lib.hid (show Blk (w4.setCell ⟨w.heap.size, 1, none⟩ (.slice A4 x.cands.length c4)) w.heap.size 26 (cvs A4 c4 x) from hb4a.out.set_ 1 _); have HB6 := Lib.hid (hb4b.out.far (p := ⟨w.heap.size, 1, none⟩) (by simp) (.slice A4 x.cands.length c4))))
  have hne : ∀ g, g < w.heap.size + 1 + 1 → blk A4 = none ∨ blk A4 ≠ some g := fun g hg => by
    cases hb : blk A4 with
    | none => exact .inl rfl
    | some k => exact .inr (fun e => by have := (hown4.blk_ge k hb).1; obtain rfl := Option.some.inj e; omega)
  refine ct_ret (g := w.heap.size + 1) rfl rfl hb6 rfl ⟨A4, c4, rfl, ?_, ?_⟩
  · exact (((hown4.kept (grown_set w4 ⟨w.heap.size, 1, none⟩ _) (hne _ (by simp <;> omega))).kept hg6 (hne _ (by omega))).lower (by omega))
  · have h1 := hbw4.out.size
    exact (hbw4.out.grown (grown_set w4 ⟨w.heap.size, 1, none⟩ (.slice A4 x.cands.length c4)) h1 (fun k e => by cases e; exact Nat.le_refl _)).grown hg6 (Nat.le_trans h1 (grown_set w4 ⟨w.heap.size, 1, none⟩ (.slice A4 x.cands.length c4)).size) (fun k e => by cases e; omega)
end Go.Proofs.YtdjifopdlkppoaaDoor
