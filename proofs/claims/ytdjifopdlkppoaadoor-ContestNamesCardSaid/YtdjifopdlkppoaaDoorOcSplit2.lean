/- octet's Split. -/
import Derived.Test.YtdjifopdlkppoaaDoorOcSplit
namespace Go.Proofs.YtdjifopdlkppoaaDoor.Oc
open Go.RowKit Go.Shelf
set_option linter.unusedVariables false
attribute [local go_sem] Oper.semAt_some

theorem own_row_cells {w : World} {base e s n : Nat} {v : Value} {xs : List Value} (h : w.ownsRow base e s v n xs) {row : Option Nat} (hr : ∀ r, row = some r → ∃ o : Obj, w.heap[r]? = some o ∧ o.isCells = false) : v.ownBlock = none ∨ v.ownBlock ≠ row := by
  rcases h.2 with ⟨rfl, _⟩ | ⟨g, cap, cur, rfl, _, hg, _⟩
  · exact .inl rfl
  · refine .inr fun e' => ?_
    obtain ⟨o, ho, hc⟩ := hr g (by simpa [Value.ownBlock] using e'.symm)
    rw [hg] at ho; cases ho; cases hc
theorem OwnL.obj {w w' : World} {base c : Nat} {A : Option Addr} {xs : List El} (h : OwnL w base A c xs) {row : Option Nat} (hg : w.grownBy w' row) (hr : ∀ r, row = some r → ∃ o : Obj, w.heap[r]? = some o ∧ o.isCells = false) : OwnL w' base A c xs :=
  ⟨World.ownsRow.kept h.1 hg (own_row_cells h.1 hr), fun x hx => World.ownsRow.kept (h.2 x hx) hg (own_row_cells (h.2 x hx) hr)⟩
theorem boxed_obj {w w' : World} {b t : Nat} {v : Value} (h : Boxed w b t v) {row : Option Nat} (hg : w.grownBy w' row) (hr : ∀ r, row = some r → ∃ o : Obj, w.heap[r]? = some o ∧ o.isCells = false) : Boxed w' b t v :=
  h.kept hg (fun e => by obtain ⟨o, ho, hc⟩ := hr b e.symm; rw [show w.heap[b]? = _ from h] at ho; cases ho; cases hc)

theorem blk_apart' {A : Option Addr} {B0 Bl : Nat} (h : ∀ k, blk A = some k → B0 ≤ k) (hB : Bl < B0) : blk A = none ∨ blk A ≠ some Bl := by
  cases e : blk A with
  | none => exact .inl rfl
  | some g =>
    refine .inr fun e2 => ?_
    have := h g e
    have := Option.some.inj e2
    omega

theorem wpListIn_append_el {F : Fence} {n : Nat} (w : World) {ops : Array Oper} {rest : List Oper} {o : Oper} {a : Act} {Q : Exit → Act → World → Prop} (hgd : o.guard = none) (s y : Operand)
    (ho : o.op = .call { callee := .builtin .append, args := #[s, y], argTypes := #[70, 70] })
    (base : Nat) {A : Option Addr} {c : Nat} (xs : List El) (x : El) (hs : a.eval s = .slice A xs.length c) (hy : a.eval y = .slice (some ⟨w.heap.size, 0, none⟩) 1 1) (hown : OwnL w base A c xs) (hx : Own w base 5 x.A x.c x.l) (hle : xs.length ≤ 1000000) (hbase : base ≤ w.heap.size)
    (h : ∀ A' c' w' ys, Hid (ys = xs ++ [x]) → OwnL w' base A' c' ys → (w.alloc (.cells #[x.v] 37)).grownBy w' (blk A) → (blk A' = blk A ∨ blk A' = some (w.heap.size + 1)) → wpListIn F n Tryd.prog ops Q rest (a.put o.dst (.slice A' ys.length c')) w') :
    wpListIn F n Tryd.prog ops Q (o :: rest) a (w.alloc (.cells #[x.v] 37)) := by
  refine wpListIn_plain hgd fun K hK => ?_
  obtain ⟨A', c', w', hrun, h2, h3, h4⟩ := run_append_el w base x o.type hown hx hle hbase
  unfold Oper.wpIn
  refine ⟨?_, ?_⟩
  · simp [Oper.about, ho, resolve, Target.leads, Sem.run_pure]
  · rw [Oper.semAt_plain F _ _ (by rw [ho]; intro c hc'; cases hc')]
    simp only [execOp, ho, resolve, invoke, builtin, Sem.run_bind, Sem.run_pure, Result.andThen_ok, List.map_toArray, List.map_cons, List.map_nil, hs, hy, hrun]
    exact hK _ _ (h A' c' w' _ rfl h2 h3 h4)

/-- What the loop's body leaves when it has appended: in one piece. -/
theorem split_step {W w3 : World} {n0 Bl B0 c c3 : Nat} {A A3 : Option Addr} {pre : List Yd} {y : Yd} {zs : List El} {v : Value} (hB : Bl < B0) (hn : n0 + 1 < Bl) (hbx : Boxed W Bl 70 v) (hown : OwnL W B0 A c (els pre)) (hws : B0 ≤ W.heap.size)
    (hbr : Boxed W n0 70 (.slice none 0 0)) (hbe : Boxed W (n0 + 1) 23 (.int .i64 0)) (hzs : zs = els pre ++ [y.x]) (hown3 : OwnL w3 B0 A3 c3 zs) (hg3 : (W.alloc (.cells #[y.x.v] 37)).grownBy w3 (blk A)) :
    Boxed w3 Bl 70 v ∧ KeepsOthers W (w3.setCell ⟨Bl, 0, none⟩ (.slice A3 zs.length c3)) ∧ KeepSplit B0 Bl W (w3.setCell ⟨Bl, 0, none⟩ (.slice A3 zs.length c3)) ∧
      Boxed (w3.setCell ⟨Bl, 0, none⟩ (.slice A3 zs.length c3)) Bl 70 (.slice A3 (els (pre ++ [y])).length c3) ∧ OwnL (w3.setCell ⟨Bl, 0, none⟩ (.slice A3 zs.length c3)) B0 A3 c3 (els (pre ++ [y])) ∧
      Boxed (w3.setCell ⟨Bl, 0, none⟩ (.slice A3 zs.length c3)) n0 70 (.slice none 0 0) ∧ Boxed (w3.setCell ⟨Bl, 0, none⟩ (.slice A3 zs.length c3)) (n0 + 1) 23 (.int .i64 0) ∧
      Below n0 W (w3.setCell ⟨Bl, 0, none⟩ (.slice A3 zs.length c3)) ∧ B0 ≤ (w3.setCell ⟨Bl, 0, none⟩ (.slice A3 zs.length c3)).heap.size := by
  have hne : ∀ k, k < B0 → some k ≠ blk A := fun k hk e => by have := (hown.blk_ge k e.symm).1; omega
  have hsz := hg3.size
  rw [World.size_alloc] at hsz
  have hbx3 := (hbx.alloc (.cells #[y.x.v] 37)).kept hg3 (hne _ hB)
  have hgs := grownBy_setCell' w3 Bl (.slice A3 zs.length c3)
  have hset := hgs.size
  have he : els (pre ++ [y]) = zs := by rw [els_snoc, hzs]
  refine ⟨hbx3, ?_, ⟨by omega, fun k hk hkl => ?_⟩, ?_, ?_, ?_, ?_, ?_, by omega⟩
  · refine ((KeepsOthers.alloc W _).trans (KeepsOthers.of_grownBy hg3 fun j o ej hj => ?_)).trans (KeepsOthers.setCell _ _ _)
    rcases (hown.alloc (.cells #[y.x.v] 37)).1.2 with ⟨hv, _⟩ | ⟨g, cap, cur, hv, _, hgb, _⟩
    · simp only [Value.slice.injEq] at hv
      rw [hv.1] at ej
      simp [blk] at ej
    · simp only [Value.slice.injEq] at hv
      rw [hv.1] at ej
      simp [blk] at ej
      subst ej
      rw [hgb] at hj; cases hj; rfl
  · exact (hgs.block k (by omega) (by simpa using hkl)).trans ((hg3.block k (by rw [World.size_alloc]; omega) (hne k hk)).trans (Below.heap_alloc W _ k (by omega)))
  · rw [he]; exact hbx3.set _
  · rw [he]
    exact hown3.kept hgs (blk_apart' (fun k hk => (hown3.blk_ge k hk).1) hB) (fun x hx => blk_apart' (fun k hk => ((hown3.2 x hx).blk_ge k hk).1) hB)
  · exact ((hbr.alloc _).kept hg3 (hne _ (by omega))).kept hgs (by simp; omega)
  · exact ((hbe.alloc _).kept hg3 (hne _ (by omega))).kept hgs (by simp; omega)
  · exact (((Below.refl n0 W).alloc (by omega) _).grown hg3 (by rw [World.size_alloc]; omega) (fun k e => by have := (hown.blk_ge k e).1; omega)).setCell (p := ⟨Bl, 0, none⟩) (by show n0 ≤ Bl; omega) _

set_option maxRecDepth 100000 in
set_option maxHeartbeats 2000000 in
theorem split_any (A : Option Addr) (c : Nat) (l : List UInt8) (w : World) (hr : Rd w w.heap.size A c l) (hl : l.length ≤ 200000) :
    Calls Tryd.prog 45 #[.slice A l.length c] w (ListErr w (splitM l)) := by
  refine (callsIn_wide (n := 6)).1 ?_
  refine callsIn_of_wp_marks Tryd.func45 rfl trivial ?_ rfl
  simp only [Tryd.ntmps45, List.size_toArray, List.length_cons, List.length_nil, Nat.reduceAdd, Nat.reduceSub, Array.replicate_succ, Array.replicate_zero, List.push_toArray, List.append_toArray, List.nil_append, List.cons_append]
  by_cases hbig : 16384 < l.length
  · rw [splitM_big hbig]
    have hi : (16384 : Int) < l.length := by omega
    gi_wp2_with fail
    refine ⟨.tuple #[.slice none 0 0, .int .i64 4], ?_, ?_⟩
    · simp [results, Tryd.f45, go_sem]
    · exact ⟨none, 0, [], rfl, rfl, OwnL.nil _ _, ((Below.refl _ w).alloc (Nat.le_refl _) _).alloc (by simp) _⟩
  have hi : ¬ (16384 : Int) < l.length := by omega
  have hle : l.length ≤ 16384 := by omega
  gi_wp2_with fail
  refine ⟨trivial, (callsIn_wide.2 (fields_call A c l.length _)).mono ?_⟩
  rintro e w' ⟨rfl, rfl⟩
  gi_wp2_with fail
  have bR0 := Boxed.new w 70 (.slice none 0 0)
  have bE0 := Boxed.new (w.alloc (.cells #[.slice none 0 0] 70)) 23 (.int .i64 0)
  have bL0 := Boxed.new ((w.alloc (.cells #[.slice none 0 0] 70)).alloc (.cells #[.int .i64 0] 23)) 70 (.slice none 0 0)
  have bB0 := Boxed.new (((w.alloc (.cells #[.slice none 0 0] 70)).alloc (.cells #[.int .i64 0] 23)).alloc (.cells #[.slice none 0 0] 70)) 37 (.slice A l.length c)
  have hb0 : Below w.heap.size w ((((w.alloc (.cells #[.slice none 0 0] 70)).alloc (.cells #[.int .i64 0] 23)).alloc (.cells #[.slice none 0 0] 70)).alloc (.cells #[.slice A l.length c] 37)) :=
    ((((Below.refl _ w).alloc (Nat.le_refl _) _).alloc (by simp) _).alloc (by simp; omega) _).alloc (by simp; omega) _
  have bR := ((bR0.alloc (.cells #[.int .i64 0] 23)).alloc (.cells #[.slice none 0 0] 70)).alloc (.cells #[.slice A l.length c] 37)
  have bE := (bE0.alloc (.cells #[.slice none 0 0] 70)).alloc (.cells #[.slice A l.length c] 37)
  have bL := bL0.alloc (.cells #[.slice A l.length c] 37)
  have bB := bB0
  have hsz : ((((w.alloc (.cells #[.slice none 0 0] 70)).alloc (.cells #[.int .i64 0] 23)).alloc (.cells #[.slice none 0 0] 70)).alloc (.cells #[.slice A l.length c] 37)).heap.size = w.heap.size + 1 + 1 + 1 + 1 := by simp
  simp only [World.size_alloc] at bE bL bB
  clear bR0 bE0 bL0 bB0
  generalize hW0 : ((((w.alloc (.cells #[.slice none 0 0] 70)).alloc (.cells #[.int .i64 0] 23)).alloc (.cells #[.slice none 0 0] 70)).alloc (.cells #[.slice A l.length c] 37)) = W0 at *
  clear hW0
  have HSZ := Lib.hid hsz
  have hge : w.heap.size + 1 + 1 + 1 + 1 ≤ W0.heap.size := by omega
  refine wpIn_range_new (F := Fence.wide) (n := 6) rfl (by omega) (gf := 72) (lb := #[.pointer (some ⟨w.heap.size + 1 + 1 + 1, 0, none⟩)]) rfl trivial (enters_of Tryd.func72 (by kernel_rfl) rfl)
    (fields_seq A c w.heap.size (w.heap.size + 1 + 1 + 1) (w.heap.size + 1 + 1) W0.heap.size l W0 5 (by omega) (hr.below hb0) hl bB.cell (by omega) (by omega) (by omega) (by omega) rfl)
    (fun h k => ⟨Nat.le_trans h.1 k.1, fun i h1 h2 => (k.2 i h1 h2).trans (h.2 i h1 h2)⟩)
    (fun W r o o' hr' h1 h2 => ⟨by simp, fun k hk _ => World.putObj_heap_other (by omega)⟩)
    (fun y s X Y row hs hg hrow => ⟨World.ownsRow.kept hs.1 hg (own_row_cells hs.1 (fun r e => (hrow r e).2)), hs.2⟩) (fun _ => rfl)
    (fun pre W => (∃ A' c', Boxed W (w.heap.size + 1 + 1) 70 (.slice A' (els pre).length c') ∧ OwnL W W0.heap.size A' c' (els pre)) ∧ (∀ y ∈ pre, y.e = 0) ∧ Boxed W w.heap.size 70 (.slice none 0 0) ∧ Boxed W (w.heap.size + 1) 23 (.int .i64 0) ∧ Below w.heap.size w W ∧ W0.heap.size ≤ W.heap.size)
    (fun c' pre W => c' = .ret ∧ ∃ init y, pre = init ++ [y] ∧ y.e ≠ 0 ∧ Boxed W w.heap.size 70 (.slice none 0 0) ∧ Boxed W (w.heap.size + 1) 23 (.int .i64 y.e) ∧ Below w.heap.size w W)
    ?hI ?hIx ?h0
    (fun y => { tmps := #[.slice A l.length c, undef, .pointer (some ⟨w.heap.size, 0, none⟩), .pointer (some ⟨w.heap.size + 1, 0, none⟩), .pointer (some ⟨w.heap.size + 1 + 1, 0, none⟩), .slice y.x.A y.x.l.length y.x.c, .int .i64 y.e, .slice A l.length c, .int .i64 l.length, .bool false, .slice A l.length c,
      .func (.func 72) #[] #[.pointer (some ⟨w.heap.size + 1 + 1 + 1, 0, none⟩)], .slice y.x.A y.x.l.length y.x.c, .int .i64 y.e, undef, undef, undef, undef, undef, undef, undef, undef], defers := [] }) ?assign ?body ?done ?stop
  case hI =>
    rintro s X Y row ⟨⟨A', c', h1, h2⟩, h3, h4, h5, h6, h7⟩ hg hrow
    have hro := fun r e => (hrow r e).2
    exact ⟨⟨A', c', boxed_obj h1 hg hro, h2.obj hg hro⟩, h3, boxed_obj h4 hg hro, boxed_obj h5 hg hro, h6.grown hg h6.size (fun k e => by have := (hrow k e).1; omega), Nat.le_trans h7 hg.size⟩
  case hIx =>
    rintro c' s X Y row ⟨h0, init, y, h1, h2, h3, h4, h5⟩ hg hrow
    have hro := fun r e => (hrow r e).2
    exact ⟨h0, init, y, h1, h2, boxed_obj h3 hg hro, boxed_obj h4 hg hro, h5.grown hg h5.size (fun k e => by have := (hrow k e).1; omega)⟩
  case h0 => exact ⟨⟨none, 0, bL, OwnL.nil _ _⟩, (fun _ h => by cases h), bR, bE, hb0, Nat.le_refl _⟩
  case assign =>
    intro r y W K hK
    gi_wp2
    exact hK
  case body =>
    rintro r pre y W ⟨⟨A', c', hbx, hown⟩, hok, hbr, hbe, hbw, hws⟩ ⟨hmx, hmy⟩ hlt
    have hc1 := hbx.cell
    have hc2 := hbr.cell
    have hc3 := hbe.cell
    have hf1 := hbx.frozen
    have hf2 := hbr.frozen
    have hf3 := hbe.frozen
    by_cases he : y.e = 0
    · have heb : (y.e != 0) = false := by rw [bne_eq_false_iff_eq]; exact he
      have HE := Lib.hid he
      clear he
      gi_wp2_with (gi_at_builtin; refine wpListIn_append_el W rfl _ _ rfl W0.heap.size (els pre) y.x rfl rfl hown hmx (by rw [els_len]; omega) hws ?_; intro A3 c3 w3 zs hzs hown3 hg3 hb3; obtain ⟨s0, s1, s2, s3, s4, s5, s6, s7, s8⟩ := split_step (by omega) (by omega) hbx hown hws hbr hbe hzs.out hown3 hg3; have hc1' := s0.cell; have hf1' := s0.frozen)
      exact ⟨s1, s2, ⟨_, _, s3, s4⟩, fun z hz => by
        rcases List.mem_append.1 hz with h | h
        · exact hok z h
        · simp at h; subst h; exact HE.out, s5, s6, hbw.trans s7, s8⟩
    · have heb : (y.e != 0) = true := by rw [bne_iff_ne]; exact he
      have HE := Lib.hid he
      clear he
      gi_wp2_with fail
      refine ⟨(KeepsOthers.setCell _ _ _).trans (KeepsOthers.setCell _ _ _), rfl, pre, y, rfl, HE.out, ?_, ?_, ?_⟩
      · exact (hbr.set _).kept (grownBy_setCell' _ (w.heap.size + 1) _) (by simp)
      · exact (hbe.kept (grownBy_setCell' W w.heap.size _) (by simp)).set _
      · exact (hbw.setCell (p := ⟨w.heap.size, 0, none⟩) (Nat.le_refl _) _).setCell (p := ⟨w.heap.size + 1, 0, none⟩) (Nat.le_succ _) _
  case done =>
    rintro D ys W hD hS ⟨⟨A', c', hbx, hown⟩, hok, hbr, hbe, hbw, hws⟩ hK
    rcases hS with ⟨p, hcame, hp⟩ | ⟨init, y, p, rfl, _, _, h10, _⟩
    · have hq := hcame.2.done hp hle
      have HQ := Lib.hid hq
      have hc1 := hbx.cell
      have hc2 := hbr.cell
      have hc3 := hbe.cell
      have hf2 := hbr.frozen
      have hf3 := hbe.frozen
      clear hq
      gi_wp2_with fail
      obtain ⟨W2, hW2⟩ : ∃ W2, W2 = (W.setCell ⟨w.heap.size, 0, none⟩ (.slice A' (els ys).length c')).setCell ⟨w.heap.size + 1, 0, none⟩ (.int .i64 0) := ⟨_, rfl⟩
      rw [← hW2]
      have hK2 : W2.heap[D]? = some (.deferred (some [])) := by
        rw [hW2]; exact ((KeepsOthers.setCell W ⟨w.heap.size, 0, none⟩ (.slice A' (els ys).length c')).trans (KeepsOthers.setCell _ ⟨w.heap.size + 1, 0, none⟩ (.int .i64 0))).same D _ hK rfl
      have hb2 : Below w.heap.size w W2 := by
        rw [hW2]; exact (hbw.setCell (p := ⟨w.heap.size, 0, none⟩) (Nat.le_refl _) _).setCell (p := ⟨w.heap.size + 1, 0, none⟩) (Nat.le_succ _) _
      have hr2 : Boxed W2 w.heap.size 70 (.slice A' (els ys).length c') := by
        rw [hW2]; exact (hbr.set _).kept (grownBy_setCell' _ (w.heap.size + 1) _) (by simp)
      have he2 : Boxed W2 (w.heap.size + 1) 23 (.int .i64 0) := by
        rw [hW2]; exact (hbe.kept (grownBy_setCell' W w.heap.size _) (by simp)).set _
      have hown2 : OwnL W2 W0.heap.size A' c' (els ys) := by
        rw [hW2]
        have h1 := hown.kept (grownBy_setCell' W w.heap.size (.slice A' (els ys).length c')) (blk_apart' (fun k hk => (hown.blk_ge k hk).1) (by omega)) (fun x hx => blk_apart' (fun k hk => ((hown.2 x hx).blk_ge k hk).1) (by omega))
        exact h1.kept (grownBy_setCell' _ (w.heap.size + 1) (.int .i64 0)) (blk_apart' (fun k hk => (hown.blk_ge k hk).1) (by omega)) (fun x hx => blk_apart' (fun k hk => ((hown.2 x hx).blk_ge k hk).1) (by omega))
      have hgp := grownBy_putObj' W2 D (.deferred none)
      have hro : ∀ r, some D = some r → ∃ o : Obj, W2.heap[r]? = some o ∧ o.isCells = false := fun r e => by cases e; exact ⟨_, hK2, rfl⟩
      have hr3 := (boxed_obj hr2 hgp hro).cell
      have he3 := (boxed_obj he2 hgp hro).cell
      refine ⟨by simp, .inl ⟨_, _, rfl, run_takeDeferred hK2, ?_⟩⟩
      refine ⟨.tuple #[.slice A' (els ys).length c', .int .i64 0], ?_, ?_⟩
      · simp [results, Tryd.f45, go_sem, hr3, he3]
      · rw [HQ.out]
        exact ⟨A', c', els ys, rfl, rfl, (hown2.obj hgp hro).lower (by omega), hb2.trans (belowK_b (w := W0) (by omega) W2 D _ _ hD hK2 rfl rfl)⟩
    · have := hok y (by simp)
      rw [h10] at this
      cases this
  case stop =>
    rintro D c' pre W hD hSp ⟨rfl, init, y, rfl, hne, hbr, hbe, hbw⟩ hK
    rcases hSp with ⟨p, hcame⟩ | ⟨init', y', p, heq, hcame, hp, h10, hno⟩
    · exact absurd (hcame.1 y (by simp)) hne
    · have hyy : y = y' := by
        have := (List.append_inj' heq rfl).2
        simpa using this
      subst hyy
      have hq := hcame.2.stuck hp hle hno
      have HQ := Lib.hid hq
      have hgp := grownBy_putObj' W D (.deferred none)
      have hro : ∀ r, some D = some r → ∃ o : Obj, W.heap[r]? = some o ∧ o.isCells = false := fun r e => by cases e; exact ⟨_, hK, rfl⟩
      have hr3 := (boxed_obj hbr hgp hro).cell
      have he3 := (boxed_obj hbe hgp hro).cell
      rw [h10] at he3
      clear hq hcame heq
      gi_wp2_with fail
      refine ⟨by simp, .inl ⟨_, _, rfl, run_takeDeferred hK, ?_⟩⟩
      refine ⟨.tuple #[.slice none 0 0, .int .i64 10], ?_, ?_⟩
      · simp [results, Tryd.f45, go_sem, hr3, he3]
      · rw [HQ.out]
        exact ⟨none, 0, [], rfl, rfl, OwnL.nil _ _, hbw.trans (belowK_b (w := W0) (by omega) W D _ _ hD hK rfl rfl)⟩
end Go.Proofs.YtdjifopdlkppoaaDoor.Oc
