/- words' Words. -/
import Derived.Test.YtnnenhcofibhoaaDoorWords
namespace Go.Proofs.YtnnenhcofibhoaaDoor
open Go.RowKit Go.Shelf
set_option linter.unusedVariables false
attribute [local go_sem] Oper.semAt_some

theorem own_row_cells {w : World} {base e s n : Nat} {v : Value} {xs : List Value} (h : w.ownsRow base e s v n xs) {row : Option Nat} (hr : ∀ r, row = some r → ∃ o : Obj, w.heap[r]? = some o ∧ o.isCells = false) : v.ownBlock = none ∨ v.ownBlock ≠ row := by
  rcases h.2 with ⟨rfl, _⟩ | ⟨g, cap, cur, rfl, _, hg, _⟩
  · exact .inl rfl
  · refine .inr fun e' => ?_
    obtain ⟨o, ho, hc⟩ := hr g (by simpa [Value.ownBlock] using e'.symm)
    rw [hg] at ho; cases ho; cases hc
theorem Ow.obj {α : Type} {f : α → Value} {w w' : World} {base e c : Nat} {A : Option Addr} {xs : List α} (h : Ow f w base e A c xs) {row : Option Nat} (hg : w.grownBy w' row) (hr : ∀ r, row = some r → ∃ o : Obj, w.heap[r]? = some o ∧ o.isCells = false) : Ow f w' base e A c xs :=
  World.ownsRow.kept h hg (own_row_cells h hr)
theorem boxed_obj {w w' : World} {b t : Nat} {v : Value} (h : Boxed w b t v) {row : Option Nat} (hg : w.grownBy w' row) (hr : ∀ r, row = some r → ∃ o : Obj, w.heap[r]? = some o ∧ o.isCells = false) : Boxed w' b t v :=
  h.kept hg (fun e => by obtain ⟨o, ho, hc⟩ := hr b e.symm; rw [show w.heap[b]? = _ from h] at ho; cases ho; cases hc)
theorem blk_apart' {A : Option Addr} {B0 Bl : Nat} (h : ∀ k, blk A = some k → B0 ≤ k) (hB : Bl < B0) : blk A = none ∨ blk A ≠ some Bl := by
  cases e : blk A with
  | none => exact .inl rfl
  | some g =>
    refine .inr fun e2 => ?_
    have := h g e
    have := Option.some.inj e2
    omega

/-- append of one element as a step of a region that draws its order, inside a fence. -/
theorem stepIn_append_f {P : Program} {w : World} {F : Fence} {n : Nat} {α : Type} {f : α → Value} (hf : ∀ x, (f x).oneCell' = true) {ops : Array Oper} {o : Oper} {a : Act} {K : Act → World → Prop} {Q : Exit → Act → World → Prop} {E : Prop} (hgd : o.guard = none) (s x : Operand) (t : TypeId)
    (ho : o.op = .call { callee := .builtin .append, args := #[s, x], argTypes := #[t, t] })
    (base e bt : Nat) (i : TypeInfo) (z : Value) (ht : P.underlying t = some (.slice e)) (hi : P.info? e = some i) (hz : i.zero = some z) (hsize : i.size = 1) (hby : i.bytes = bt) (hbt : bt ≤ 24) (hzs : z.cells.size = 1)
    {A A2 : Option Addr} {c c2 B : Nat} (l m : List α) (hs : a.eval s = .slice A l.length c) (hx : a.eval x = .slice A2 m.length c2) (hown : Ow f w base e A c l) (hr : Rf f w B A2 c2 m)
    (hle : l.length + m.length ≤ 4000000000) (hbase : base ≤ w.heap.size)
    (h : ∀ A' c' w' r, Hid (r = l ++ m) → Ow f w' base e A' c' r → w.grownBy w' (blk A) → (blk A' = blk A ∨ blk A' = some w.heap.size) → K (a.put o.dst (.slice A' r.length c')) w') :
    if Region.wanted o (yielded ops a.tmps) = true then Oper.wpIn F n P o a w K Q else E := by
  have hw : Region.wanted o (yielded ops a.tmps) = true := by simp [Region.wanted, hgd]
  rw [if_pos hw]
  obtain ⟨A', c', w', hrun, h2, h3, h4⟩ := run_append_f (P := P) w hf base e bt t o.type i z ht hi hz hsize hby hbt hzs hown hr hle hbase
  unfold Oper.wpIn
  refine ⟨?_, ?_⟩
  · simp [Oper.about, ho, resolve, Target.leads, Sem.run_pure]
  · rw [Oper.semAt_plain F _ _ (by rw [ho]; intro c hc'; cases hc')]
    simp only [execOp, ho, resolve, invoke, builtin, Sem.run_bind, Sem.run_pure, Result.andThen_ok, List.map_toArray, List.map_cons, List.map_nil, hs, hx, hrun]
    exact h A' c' w' _ rfl h2 h3 h4

/-- What the loop's body leaves when it has appended: in one piece. -/
theorem words_step {W w3 : World} {n0 Bl B0 c c3 : Nat} {A A3 : Option Addr} {pre zs : List (List UInt8)} {y : List UInt8} {v : Value} (hB : Bl < B0) (hn : n0 + 1 < Bl) (hbx : Boxed W Bl 23 v) (hown : Ow sv W B0 9 A c pre) (hws : B0 ≤ W.heap.size)
    (hbr : Boxed W n0 23 (.slice none 0 0)) (hbe : Boxed W (n0 + 1) 22 (.int .i64 0)) (hzs : zs = pre ++ [y]) (hown3 : Ow sv w3 B0 9 A3 c3 zs) (hg3 : (W.alloc (.cells #[sv y] 9)).grownBy w3 (blk A)) :
    Boxed w3 Bl 23 v ∧ KeepsOthers W (w3.setCell ⟨Bl, 0, none⟩ (.slice A3 zs.length c3)) ∧ KeepSplit B0 Bl W (w3.setCell ⟨Bl, 0, none⟩ (.slice A3 zs.length c3)) ∧
      Boxed (w3.setCell ⟨Bl, 0, none⟩ (.slice A3 zs.length c3)) Bl 23 (.slice A3 (pre ++ [y]).length c3) ∧ Ow sv (w3.setCell ⟨Bl, 0, none⟩ (.slice A3 zs.length c3)) B0 9 A3 c3 (pre ++ [y]) ∧
      Boxed (w3.setCell ⟨Bl, 0, none⟩ (.slice A3 zs.length c3)) n0 23 (.slice none 0 0) ∧ Boxed (w3.setCell ⟨Bl, 0, none⟩ (.slice A3 zs.length c3)) (n0 + 1) 22 (.int .i64 0) ∧
      Below n0 W (w3.setCell ⟨Bl, 0, none⟩ (.slice A3 zs.length c3)) ∧ B0 ≤ (w3.setCell ⟨Bl, 0, none⟩ (.slice A3 zs.length c3)).heap.size := by
  have hne : ∀ k, k < B0 → some k ≠ blk A := fun k hk e => by have := (hown.blk_ge k e.symm).1; omega
  have hsz := hg3.size
  rw [World.size_alloc] at hsz
  have hbx3 := (hbx.alloc (.cells #[sv y] 9)).kept hg3 (hne _ hB)
  have hgs := grownBy_setCell' w3 Bl (.slice A3 zs.length c3)
  have hset := hgs.size
  subst hzs
  refine ⟨hbx3, ?_, ⟨by omega, fun k hk hkl => ?_⟩, ?_, ?_, ?_, ?_, ?_, by omega⟩
  · refine ((KeepsOthers.alloc W _).trans (KeepsOthers.of_grownBy hg3 fun j o ej hj => ?_)).trans (KeepsOthers.setCell _ _ _)
    rcases (hown.alloc (.cells #[sv y] 9)).2 with ⟨hv, _⟩ | ⟨g, cap, cur, hv, _, hgb, _⟩
    · simp only [Value.slice.injEq] at hv
      rw [hv.1] at ej
      simp [blk] at ej
    · simp only [Value.slice.injEq] at hv
      rw [hv.1] at ej
      simp [blk] at ej
      subst ej
      rw [hgb] at hj; cases hj; rfl
  · exact (hgs.block k (by omega) (by simpa using hkl)).trans ((hg3.block k (by rw [World.size_alloc]; omega) (hne k hk)).trans (Below.heap_alloc W _ k (by omega)))
  · exact hbx3.set _
  · exact hown3.kept hgs (blk_apart' (fun k hk => (hown3.blk_ge k hk).1) hB)
  · exact ((hbr.alloc _).kept hg3 (hne _ (by omega))).kept hgs (by simp; omega)
  · exact ((hbe.alloc _).kept hg3 (hne _ (by omega))).kept hgs (by simp; omega)
  · exact (((Below.refl n0 W).alloc (by omega) _).grown hg3 (by rw [World.size_alloc]; omega) (fun k e => by have := (hown.blk_ge k e).1; omega)).setCell (p := ⟨Bl, 0, none⟩) (by show n0 ≤ Bl; omega) _

set_option maxRecDepth 100000 in
set_option maxHeartbeats 2000000 in
theorem words_any (s : List UInt8) (w : World) (hl : s.length ≤ 200000) : Calls Tryd.prog 10 #[.string ⟨s.toArray⟩] w (ListErr w (wordsM s)) := by
  obtain ⟨i0, hi0, hz0, hz1, hz2⟩ := info_parts infoS
  refine (callsIn_wide (n := 6)).1 ?_
  refine callsIn_of_wp_marks Tryd.func10 rfl trivial ?_ rfl
  simp only [Tryd.ntmps10, List.size_toArray, List.length_cons, List.length_nil, Nat.reduceAdd, Nat.reduceSub, Array.replicate_succ, Array.replicate_zero, List.push_toArray, List.append_toArray, List.nil_append, List.cons_append]
  by_cases hbig : 16384 < s.length
  · rw [wordsM_big hbig]
    have hi : (16384 : Int) < s.length := by omega
    gi_wp2_with fail
    refine ⟨.tuple #[.slice none 0 0, .int .i64 4], ?_, ?_⟩
    · simp [results, Tryd.f10, go_sem]
    · exact listErr_bad 4 (((Below.refl _ w).alloc (Nat.le_refl _) _).alloc (by simp) _)
  have hi : ¬ (16384 : Int) < s.length := by omega
  have hle : s.length ≤ 16384 := by omega
  gi_wp2_with fail
  refine ⟨trivial, (callsIn_wide.2 (pieces_call s _)).mono ?_⟩
  rintro e w' ⟨rfl, rfl⟩
  gi_wp2_with fail
  have bR0 := Boxed.new w 23 (.slice none 0 0)
  have bE0 := Boxed.new (w.alloc (.cells #[.slice none 0 0] 23)) 22 (.int .i64 0)
  have bL0 := Boxed.new ((w.alloc (.cells #[.slice none 0 0] 23)).alloc (.cells #[.int .i64 0] 22)) 23 (.slice none 0 0)
  have bB0 := Boxed.new (((w.alloc (.cells #[.slice none 0 0] 23)).alloc (.cells #[.int .i64 0] 22)).alloc (.cells #[.slice none 0 0] 23)) 9 (.string ⟨s.toArray⟩)
  have hb0 : Below w.heap.size w ((((w.alloc (.cells #[.slice none 0 0] 23)).alloc (.cells #[.int .i64 0] 22)).alloc (.cells #[.slice none 0 0] 23)).alloc (.cells #[.string ⟨s.toArray⟩] 9)) :=
    ((((Below.refl _ w).alloc (Nat.le_refl _) _).alloc (by simp) _).alloc (by simp; omega) _).alloc (by simp; omega) _
  have bR := ((bR0.alloc (.cells #[.int .i64 0] 22)).alloc (.cells #[.slice none 0 0] 23)).alloc (.cells #[.string ⟨s.toArray⟩] 9)
  have bE := (bE0.alloc (.cells #[.slice none 0 0] 23)).alloc (.cells #[.string ⟨s.toArray⟩] 9)
  have bL := bL0.alloc (.cells #[.string ⟨s.toArray⟩] 9)
  have bB := bB0
  have hsz : ((((w.alloc (.cells #[.slice none 0 0] 23)).alloc (.cells #[.int .i64 0] 22)).alloc (.cells #[.slice none 0 0] 23)).alloc (.cells #[.string ⟨s.toArray⟩] 9)).heap.size = w.heap.size + 1 + 1 + 1 + 1 := by simp
  simp only [World.size_alloc] at bE bL bB
  clear bR0 bE0 bL0 bB0
  generalize hW0 : ((((w.alloc (.cells #[.slice none 0 0] 23)).alloc (.cells #[.int .i64 0] 22)).alloc (.cells #[.slice none 0 0] 23)).alloc (.cells #[.string ⟨s.toArray⟩] 9)) = W0 at *
  clear hW0
  have HSZ := Lib.hid hsz
  have hge : w.heap.size + 1 + 1 + 1 + 1 ≤ W0.heap.size := by omega
  refine wpIn_range_new (F := Fence.wide) (n := 6) rfl (by omega) (gf := 38) (lb := #[.pointer (some ⟨w.heap.size + 1 + 1 + 1, 0, none⟩)]) rfl trivial (enters_of Tryd.func38 (by kernel_rfl) rfl)
    (pieces_seq (w.heap.size + 1 + 1 + 1) (w.heap.size + 1 + 1) W0.heap.size s W0 5 (by omega) hl bB.cell (by omega) (by omega) rfl)
    (fun h k => ⟨Nat.le_trans h.1 k.1, fun i h1 h2 => (k.2 i h1 h2).trans (h.2 i h1 h2)⟩)
    (fun W r o o' hr' h1 h2 => ⟨by simp, fun k hk _ => World.putObj_heap_other (by omega)⟩)
    (fun y s X Y row hs hg hrow => hs) (fun _ => rfl)
    (fun pre W => (∃ A' c', Boxed W (w.heap.size + 1 + 1) 23 (.slice A' pre.length c') ∧ Ow sv W W0.heap.size 9 A' c' pre) ∧ (∀ y ∈ pre, isWordB y = true) ∧ Boxed W w.heap.size 23 (.slice none 0 0) ∧ Boxed W (w.heap.size + 1) 22 (.int .i64 0) ∧ Below w.heap.size w W ∧ W0.heap.size ≤ W.heap.size)
    (fun c' pre W => c' = .ret ∧ (∃ y ∈ pre, isWordB y = false) ∧ Boxed W w.heap.size 23 (.slice none 0 0) ∧ Boxed W (w.heap.size + 1) 22 (.int .i64 11) ∧ Below w.heap.size w W)
    ?hI ?hIx ?h0
    (fun y => { tmps := #[.string ⟨s.toArray⟩, undef, .pointer (some ⟨w.heap.size, 0, none⟩), .pointer (some ⟨w.heap.size + 1, 0, none⟩), .pointer (some ⟨w.heap.size + 1 + 1, 0, none⟩), .string ⟨y.toArray⟩, .string ⟨s.toArray⟩, .int .i64 s.length, .bool false, .string ⟨s.toArray⟩,
      .func (.func 38) #[] #[.pointer (some ⟨w.heap.size + 1 + 1 + 1, 0, none⟩)], .string ⟨y.toArray⟩, undef, undef, undef, undef, undef, undef, undef, undef, undef], defers := [] }) ?assign ?body ?done ?stop
  case hI =>
    rintro s X Y row ⟨⟨A', c', h1, h2⟩, h3, h4, h5, h6, h7⟩ hg hrow
    have hro := fun r e => (hrow r e).2
    exact ⟨⟨A', c', boxed_obj h1 hg hro, h2.obj hg hro⟩, h3, boxed_obj h4 hg hro, boxed_obj h5 hg hro, h6.grown hg h6.size (fun k e => by have := (hrow k e).1; omega), Nat.le_trans h7 hg.size⟩
  case hIx =>
    rintro c' s X Y row ⟨h0, h1, h3, h4, h5⟩ hg hrow
    have hro := fun r e => (hrow r e).2
    exact ⟨h0, h1, boxed_obj h3 hg hro, boxed_obj h4 hg hro, h5.grown hg h5.size (fun k e => by have := (hrow k e).1; omega)⟩
  case h0 => exact ⟨⟨none, 0, bL, Ow.nil _ _ _⟩, (fun _ h => by cases h), bR, bE, hb0, Nat.le_refl _⟩
  case assign =>
    intro r y W K hK
    gi_wp2
    exact hK
  case body =>
    rintro r pre y W ⟨⟨A', c', hbx, hown⟩, hok, hbr, hbe, hbw, hws⟩ hyl hlt
    have hc1 := hbx.cell
    have hc2 := hbr.cell
    have hc3 := hbe.cell
    have hf1 := hbx.frozen
    have hf2 := hbr.frozen
    have hf3 := hbe.frozen
    have hyl2 : y.length ≤ 4000000000 := by omega
    cases hwd : isWordB y with
    | false =>
      have HW := Lib.hid hwd
      clear hwd
      gi_wp2_with fail
      refine ⟨trivial, (CallsIn.inRound _ (callsIn_wide.2 (isWord_any y _ hyl2))).mono ?_⟩
      rintro e w1 ⟨rfl, rfl⟩
      rw [HW.out]
      gi_wp2_with fail
      refine ⟨(KeepsOthers.setCell _ _ _).trans (KeepsOthers.setCell _ _ _), rfl, ⟨y, by simp, HW.out⟩, ?_, ?_, ?_⟩
      · exact (hbr.set _).kept (grownBy_setCell' _ (w.heap.size + 1) _) (by simp)
      · exact (hbe.kept (grownBy_setCell' W w.heap.size _) (by simp)).set _
      · exact (hbw.setCell (p := ⟨w.heap.size, 0, none⟩) (Nat.le_refl _) _).setCell (p := ⟨w.heap.size + 1, 0, none⟩) (Nat.le_succ _) _
    | true =>
      have HW := Lib.hid hwd
      clear hwd
      gi_wp2_with fail
      refine ⟨trivial, (CallsIn.inRound _ (callsIn_wide.2 (isWord_any y _ hyl2))).mono ?_⟩
      rintro e w1 ⟨rfl, rfl⟩
      rw [HW.out]
      gi_wp2_with fail
      refine wpIn_region_any (by kernel_rfl) ?_
      change wpAnyIn _ _ _ _ _ _ _ _ _ (World.drew _)
      refine wpAnyIn_ready (rs := [0, 1]) (by kernel_rfl) (by simp) (AllReadyIn.cons rfl (fun K hK => ?_) (AllReadyIn.cons rfl (fun K hK => ?_) AllReadyIn.nil))
      · go_simp
        refine hK _ _ ?_
        clear hK K
        refine wpAnyIn_ready (rs := [1]) (by kernel_rfl) (by simp) (AllReadyIn.cons rfl (fun K hK => ?_) AllReadyIn.nil)
        go_simp
        refine hK _ _ ?_
        clear hK K
        refine wpAnyIn_ready (rs := [2]) (by kernel_rfl) (by simp) (AllReadyIn.cons rfl (fun K hK => ?_) AllReadyIn.nil)
        go_simp
        refine ⟨trivial, (CallsIn.inRound _ (callsIn_wide.2 (clone_any y _ hyl2))).mono ?_⟩
        rintro e w2 ⟨rfl, hb2⟩
        have hw2 : Below W.heap.size W w2 := (below_drewN W.heap.size W 1).trans hb2
        have g2 : W.grownBy w2 none := grown_of_below hw2 (Nat.le_refl _) none
        have hbx2 := hbx.kept g2 (by simp)
        have hbr2 := hbr.kept g2 (by simp)
        have hbe2 := hbe.kept g2 (by simp)
        have hown2 := hown.kept g2 (by cases blk A' <;> simp)
        have hcx2 := hbx2.cell
        have hws2 : W0.heap.size ≤ w2.heap.size := Nat.le_trans hws hw2.size
        have hlt2 : w.heap.size + 1 + 1 < w2.heap.size := by omega
        refine hK _ _ ?_
        clear hK K
        refine wpAnyIn_ready (rs := [3]) (by kernel_rfl) (by simp) (AllReadyIn.cons rfl (fun K hK => ?_) AllReadyIn.nil)
        go_simp
        refine hK _ _ ?_
        clear hK K
        refine wpAnyIn_ready (rs := [4]) (by kernel_rfl) (by simp) (AllReadyIn.cons rfl (fun K hK => ?_) AllReadyIn.nil)
        refine stepIn_append_f sv_one rfl (.tmp 15) (.tmp 18) 23 rfl W0.heap.size 9 16 i0 _ Tryd.underlying23 hi0 hz0 hz1 hz2 (by omega) rfl pre [y] rfl rfl (hown2.alloc _) (rf_one _ y _) (by simp; omega) (by simp; omega) ?_
        intro A3 c3 w3 zs hzs hown3 hg3 _
        obtain ⟨s0, s1, s2, s3, s4, s5, s6, s7, s8⟩ := words_step (by omega) (by omega) hbx2 hown2 hws2 hbr2 hbe2 hzs.out hown3 hg3
        have hc1' := s0.cell
        have hf1' := s0.frozen
        refine hK _ _ ?_
        clear hK K
        refine wpAnyIn_ready (rs := [5]) (by kernel_rfl) (by simp) (AllReadyIn.cons rfl (fun K hK => ?_) AllReadyIn.nil)
        go_simp
        refine hK _ _ ?_
        clear hK K
        refine wpAnyIn_done (by kernel_rfl) ?_ _
        exact ⟨(KeepsOthers.of_grownBy g2 (fun j o ej _ => by cases ej)).trans s1, ⟨Nat.le_trans hw2.size s2.1, fun k h1 h2 => (s2.2 k h1 h2).trans (hw2.block k (by omega))⟩, ⟨_, _, s3, s4⟩, fun z hz => by
          rcases List.mem_append.1 hz with h | h
          · exact hok z h
          · simp at h; rw [h]; exact HW.out, s5, s6, hbw.trans ((hw2.mono hbw.size).trans s7), s8⟩
      · go_simp
        refine hK _ _ ?_
        clear hK K
        refine wpAnyIn_ready (rs := [0, 2]) (by kernel_rfl) (by simp) (AllReadyIn.cons rfl (fun K hK => ?_) (AllReadyIn.cons rfl (fun K hK => ?_) AllReadyIn.nil))
        · go_simp
          refine hK _ _ ?_
          clear hK K
          refine wpAnyIn_ready (rs := [2]) (by kernel_rfl) (by simp) (AllReadyIn.cons rfl (fun K hK => ?_) AllReadyIn.nil)
          go_simp
          refine ⟨trivial, (CallsIn.inRound _ (callsIn_wide.2 (clone_any y _ hyl2))).mono ?_⟩
          rintro e w2 ⟨rfl, hb2⟩
          have hw2 : Below W.heap.size W w2 := (below_drewN W.heap.size W 1).trans hb2
          have g2 : W.grownBy w2 none := grown_of_below hw2 (Nat.le_refl _) none
          have hbx2 := hbx.kept g2 (by simp)
          have hbr2 := hbr.kept g2 (by simp)
          have hbe2 := hbe.kept g2 (by simp)
          have hown2 := hown.kept g2 (by cases blk A' <;> simp)
          have hcx2 := hbx2.cell
          have hws2 : W0.heap.size ≤ w2.heap.size := Nat.le_trans hws hw2.size
          have hlt2 : w.heap.size + 1 + 1 < w2.heap.size := by omega
          refine hK _ _ ?_
          clear hK K
          refine wpAnyIn_ready (rs := [3]) (by kernel_rfl) (by simp) (AllReadyIn.cons rfl (fun K hK => ?_) AllReadyIn.nil)
          go_simp
          refine hK _ _ ?_
          clear hK K
          refine wpAnyIn_ready (rs := [4]) (by kernel_rfl) (by simp) (AllReadyIn.cons rfl (fun K hK => ?_) AllReadyIn.nil)
          refine stepIn_append_f sv_one rfl (.tmp 15) (.tmp 18) 23 rfl W0.heap.size 9 16 i0 _ Tryd.underlying23 hi0 hz0 hz1 hz2 (by omega) rfl pre [y] rfl rfl (hown2.alloc _) (rf_one _ y _) (by simp; omega) (by simp; omega) ?_
          intro A3 c3 w3 zs hzs hown3 hg3 _
          obtain ⟨s0, s1, s2, s3, s4, s5, s6, s7, s8⟩ := words_step (by omega) (by omega) hbx2 hown2 hws2 hbr2 hbe2 hzs.out hown3 hg3
          have hc1' := s0.cell
          have hf1' := s0.frozen
          refine hK _ _ ?_
          clear hK K
          refine wpAnyIn_ready (rs := [5]) (by kernel_rfl) (by simp) (AllReadyIn.cons rfl (fun K hK => ?_) AllReadyIn.nil)
          go_simp
          refine hK _ _ ?_
          clear hK K
          refine wpAnyIn_done (by kernel_rfl) ?_ _
          exact ⟨(KeepsOthers.of_grownBy g2 (fun j o ej _ => by cases ej)).trans s1, ⟨Nat.le_trans hw2.size s2.1, fun k h1 h2 => (s2.2 k h1 h2).trans (hw2.block k (by omega))⟩, ⟨_, _, s3, s4⟩, fun z hz => by
            rcases List.mem_append.1 hz with h | h
            · exact hok z h
            · simp at h; rw [h]; exact HW.out, s5, s6, hbw.trans ((hw2.mono hbw.size).trans s7), s8⟩
        · go_simp
          refine ⟨trivial, (CallsIn.inRound _ (callsIn_wide.2 (clone_any y _ hyl2))).mono ?_⟩
          rintro e w2 ⟨rfl, hb2⟩
          have hw2 : Below W.heap.size W w2 := (below_drewN W.heap.size W 1).trans hb2
          have g2 : W.grownBy w2 none := grown_of_below hw2 (Nat.le_refl _) none
          have hbx2 := hbx.kept g2 (by simp)
          have hbr2 := hbr.kept g2 (by simp)
          have hbe2 := hbe.kept g2 (by simp)
          have hown2 := hown.kept g2 (by cases blk A' <;> simp)
          have hcx2 := hbx2.cell
          have hws2 : W0.heap.size ≤ w2.heap.size := Nat.le_trans hws hw2.size
          have hlt2 : w.heap.size + 1 + 1 < w2.heap.size := by omega
          refine hK _ _ ?_
          clear hK K
          refine wpAnyIn_ready (rs := [0, 3]) (by kernel_rfl) (by simp) (AllReadyIn.cons rfl (fun K hK => ?_) (AllReadyIn.cons rfl (fun K hK => ?_) AllReadyIn.nil))
          · go_simp
            refine hK _ _ ?_
            clear hK K
            refine wpAnyIn_ready (rs := [3]) (by kernel_rfl) (by simp) (AllReadyIn.cons rfl (fun K hK => ?_) AllReadyIn.nil)
            go_simp
            refine hK _ _ ?_
            clear hK K
            refine wpAnyIn_ready (rs := [4]) (by kernel_rfl) (by simp) (AllReadyIn.cons rfl (fun K hK => ?_) AllReadyIn.nil)
            refine stepIn_append_f sv_one rfl (.tmp 15) (.tmp 18) 23 rfl W0.heap.size 9 16 i0 _ Tryd.underlying23 hi0 hz0 hz1 hz2 (by omega) rfl pre [y] rfl rfl (hown2.alloc _) (rf_one _ y _) (by simp; omega) (by simp; omega) ?_
            intro A3 c3 w3 zs hzs hown3 hg3 _
            obtain ⟨s0, s1, s2, s3, s4, s5, s6, s7, s8⟩ := words_step (by omega) (by omega) hbx2 hown2 hws2 hbr2 hbe2 hzs.out hown3 hg3
            have hc1' := s0.cell
            have hf1' := s0.frozen
            refine hK _ _ ?_
            clear hK K
            refine wpAnyIn_ready (rs := [5]) (by kernel_rfl) (by simp) (AllReadyIn.cons rfl (fun K hK => ?_) AllReadyIn.nil)
            go_simp
            refine hK _ _ ?_
            clear hK K
            refine wpAnyIn_done (by kernel_rfl) ?_ _
            exact ⟨(KeepsOthers.of_grownBy g2 (fun j o ej _ => by cases ej)).trans s1, ⟨Nat.le_trans hw2.size s2.1, fun k h1 h2 => (s2.2 k h1 h2).trans (hw2.block k (by omega))⟩, ⟨_, _, s3, s4⟩, fun z hz => by
              rcases List.mem_append.1 hz with h | h
              · exact hok z h
              · simp at h; rw [h]; exact HW.out, s5, s6, hbw.trans ((hw2.mono hbw.size).trans s7), s8⟩
          · go_simp
            refine hK _ _ ?_
            clear hK K
            refine wpAnyIn_ready (rs := [0]) (by kernel_rfl) (by simp) (AllReadyIn.cons rfl (fun K hK => ?_) AllReadyIn.nil)
            go_simp
            refine hK _ _ ?_
            clear hK K
            refine wpAnyIn_ready (rs := [4]) (by kernel_rfl) (by simp) (AllReadyIn.cons rfl (fun K hK => ?_) AllReadyIn.nil)
            refine stepIn_append_f sv_one rfl (.tmp 15) (.tmp 18) 23 rfl W0.heap.size 9 16 i0 _ Tryd.underlying23 hi0 hz0 hz1 hz2 (by omega) rfl pre [y] rfl rfl (hown2.alloc _) (rf_one _ y _) (by simp; omega) (by simp; omega) ?_
            intro A3 c3 w3 zs hzs hown3 hg3 _
            obtain ⟨s0, s1, s2, s3, s4, s5, s6, s7, s8⟩ := words_step (by omega) (by omega) hbx2 hown2 hws2 hbr2 hbe2 hzs.out hown3 hg3
            have hc1' := s0.cell
            have hf1' := s0.frozen
            refine hK _ _ ?_
            clear hK K
            refine wpAnyIn_ready (rs := [5]) (by kernel_rfl) (by simp) (AllReadyIn.cons rfl (fun K hK => ?_) AllReadyIn.nil)
            go_simp
            refine hK _ _ ?_
            clear hK K
            refine wpAnyIn_done (by kernel_rfl) ?_ _
            exact ⟨(KeepsOthers.of_grownBy g2 (fun j o ej _ => by cases ej)).trans s1, ⟨Nat.le_trans hw2.size s2.1, fun k h1 h2 => (s2.2 k h1 h2).trans (hw2.block k (by omega))⟩, ⟨_, _, s3, s4⟩, fun z hz => by
              rcases List.mem_append.1 hz with h | h
              · exact hok z h
              · simp at h; rw [h]; exact HW.out, s5, s6, hbw.trans ((hw2.mono hbw.size).trans s7), s8⟩
  case done =>
    rintro D ys W hD hS ⟨⟨A', c', hbx, hown⟩, hok, hbr, hbe, hbw, hws⟩ hK
    have hq : wordsM s = (ys, 0) := by
      unfold AllOf piecesM at hS
      by_cases hn : s = []
      · rw [if_pos hn] at hS
        rw [hS, hn]
        rfl
      · rw [if_neg hn] at hS
        exact wordsM_done hbig hn hS.symm hok
    have HQ := Lib.hid hq
    have hc1 := hbx.cell
    have hc2 := hbr.cell
    have hc3 := hbe.cell
    have hf2 := hbr.frozen
    have hf3 := hbe.frozen
    clear hq
    gi_wp2_with fail
    obtain ⟨W2, hW2⟩ : ∃ W2, W2 = (W.setCell ⟨w.heap.size, 0, none⟩ (.slice A' ys.length c')).setCell ⟨w.heap.size + 1, 0, none⟩ (.int .i64 0) := ⟨_, rfl⟩
    rw [← hW2]
    have hK2 : W2.heap[D]? = some (.deferred (some [])) := by
      rw [hW2]; exact ((KeepsOthers.setCell W ⟨w.heap.size, 0, none⟩ (.slice A' ys.length c')).trans (KeepsOthers.setCell _ ⟨w.heap.size + 1, 0, none⟩ (.int .i64 0))).same D _ hK rfl
    have hb2 : Below w.heap.size w W2 := by
      rw [hW2]; exact (hbw.setCell (p := ⟨w.heap.size, 0, none⟩) (Nat.le_refl _) _).setCell (p := ⟨w.heap.size + 1, 0, none⟩) (Nat.le_succ _) _
    have hr2 : Boxed W2 w.heap.size 23 (.slice A' ys.length c') := by
      rw [hW2]; exact (hbr.set _).kept (grownBy_setCell' _ (w.heap.size + 1) _) (by simp)
    have he2 : Boxed W2 (w.heap.size + 1) 22 (.int .i64 0) := by
      rw [hW2]; exact (hbe.kept (grownBy_setCell' W w.heap.size _) (by simp)).set _
    have hown2 : Ow sv W2 W0.heap.size 9 A' c' ys := by
      rw [hW2]
      have h1 := hown.kept (grownBy_setCell' W w.heap.size (.slice A' ys.length c')) (blk_apart' (fun k hk => (hown.blk_ge k hk).1) (by omega))
      exact h1.kept (grownBy_setCell' _ (w.heap.size + 1) (.int .i64 0)) (blk_apart' (fun k hk => (hown.blk_ge k hk).1) (by omega))
    have hgp := grownBy_putObj' W2 D (.deferred none)
    have hro : ∀ r, some D = some r → ∃ o : Obj, W2.heap[r]? = some o ∧ o.isCells = false := fun r e => by cases e; exact ⟨_, hK2, rfl⟩
    have hr3 := (boxed_obj hr2 hgp hro).cell
    have he3 := (boxed_obj he2 hgp hro).cell
    refine ⟨by simp, .inl ⟨_, _, rfl, run_takeDeferred hK2, ?_⟩⟩
    refine ⟨.tuple #[.slice A' ys.length c', .int .i64 0], ?_, ?_⟩
    · simp [results, Tryd.f10, go_sem, hr3, he3]
    · rw [HQ.out]
      exact ⟨A', c', ys, rfl, rfl, (hown2.obj hgp hro).lower (by omega), hb2.trans (belowK_b (w := W0) (by omega) W2 D _ _ hD hK2 rfl rfl)⟩
  case stop =>
    rintro D c' pre W hD hSp ⟨rfl, ⟨y, hy, hyw⟩, hbr, hbe, hbw⟩ hK
    obtain ⟨hn, rest, hrest⟩ := hSp
    have hq := wordsM_bad hbig hn (x := y) (by rw [hrest]; exact List.mem_append_left _ hy) hyw
    have HQ := Lib.hid hq
    have hgp := grownBy_putObj' W D (.deferred none)
    have hro : ∀ r, some D = some r → ∃ o : Obj, W.heap[r]? = some o ∧ o.isCells = false := fun r e => by cases e; exact ⟨_, hK, rfl⟩
    have hr3 := (boxed_obj hbr hgp hro).cell
    have he3 := (boxed_obj hbe hgp hro).cell
    clear hq hrest hyw
    gi_wp2_with fail
    refine ⟨by simp, .inl ⟨_, _, rfl, run_takeDeferred hK, ?_⟩⟩
    refine ⟨.tuple #[.slice none 0 0, .int .i64 11], ?_, ?_⟩
    · simp [results, Tryd.f10, go_sem, hr3, he3]
    · rw [HQ.out]
      exact listErr_bad 11 (hbw.trans (belowK_b (w := W0) (by omega) W D _ _ hD hK rfl rfl))
end Go.Proofs.YtnnenhcofibhoaaDoor
