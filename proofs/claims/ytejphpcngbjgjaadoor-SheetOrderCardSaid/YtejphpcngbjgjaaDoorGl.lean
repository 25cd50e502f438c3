/- sheet's code: the reader of rankings: a loop in whose rounds a range over a function stands. sheet's code: the boxes that remain in doubt; which reader; a reading. -/
import Derived.Test.YtejphpcngbjgjaaDoorGk
import Derived.Scope
import Derived.WalkMore
namespace Go.Proofs.YtejphpcngbjgjaaDoor
open Go.RowKit Go.Shelf
set_option linter.unusedVariables false
set_option linter.unusedSimpArgs false
attribute [local go_sem] Oper.semAt_some

/-! ### The marks that each range over a function leaves among the deferred calls -/
def mk25 (D : Nat) : Deferred := { target := .collected D, args := #[] }
/-- The blocks for deferred calls are there, and empty. -/
def Marks (W : World) (Ds : List Nat) : Prop := Ds.Nodup ∧ ∀ D ∈ Ds, W.heap[D]? = some (.deferred (some []))
def putD (W : World) (Ds : List Nat) : World := Ds.foldl (fun X D => X.putObj D (.deferred none)) W
theorem Marks.lt {W : World} {Ds : List Nat} (h : Marks W Ds) {D : Nat} (hD : D ∈ Ds) : D < W.heap.size := (Array.getElem?_eq_some_iff.1 (h.2 D hD)).1
theorem Marks.keep {W W' : World} {Ds : List Nat} (h : Marks W Ds) (hk : KeepsOthers W W') : Marks W' Ds := ⟨h.1, fun D hD => hk.same D _ (h.2 D hD) rfl⟩
theorem Marks.below {W W' : World} {Ds : List Nat} (h : Marks W Ds) (hb : Below W.heap.size W W') : Marks W' Ds := ⟨h.1, fun D hD => (hb.block D (h.lt hD)).trans (h.2 D hD)⟩
theorem Marks.grown {W W' : World} {Ds : List Nat} {B : Nat} {row : Option Nat} (h : Marks W Ds) (hg : W.grownBy W' row) (hB : ∀ D ∈ Ds, D < B) (hr : ∀ r, row = some r → B ≤ r) : Marks W' Ds :=
  ⟨h.1, fun D hD => (hg.block D (h.lt hD) (fun e => by have := hr D e.symm; have := hB D hD; omega)).trans (h.2 D hD)⟩
theorem Marks.cons {W : World} {Ds : List Nat} {D : Nat} (h : Marks W Ds) (hD : W.heap[D]? = some (.deferred (some []))) (hn : ∀ x ∈ Ds, x < D) : Marks W (D :: Ds) :=
  ⟨List.nodup_cons.2 ⟨fun hx => by have := hn D hx; omega, h.1⟩, fun x hx => by
    rcases List.mem_cons.1 hx with rfl | hx
    · exact hD
    · exact h.2 x hx⟩
theorem Marks.put {W : World} {Ds : List Nat} {D : Nat} (h : Marks W (D :: Ds)) : Marks (W.putObj D (.deferred none)) Ds :=
  ⟨(List.nodup_cons.1 h.1).2, fun x hx => (World.putObj_heap_other (fun e => (List.nodup_cons.1 h.1).1 (by rw [← e]; exact hx))).trans (h.2 x (List.mem_cons_of_mem _ hx))⟩
/-- What abides the turn of a block that is no cells abides all the marks' ends. -/
theorem putD_keep {Pr : World → Prop} (hPr : ∀ X Y row, Pr X → X.grownBy Y row → (∀ r, row = some r → ∃ o : Obj, X.heap[r]? = some o ∧ o.isCells = false) → Pr Y) :
    ∀ {Ds : List Nat} {W : World}, Marks W Ds → Pr W → Pr (putD W Ds)
  | [], _, _, h => h
  | D :: Ds, W, hm, h => putD_keep hPr (Ds := Ds) (W := W.putObj D (.deferred none)) hm.put (hPr _ _ _ h (grownBy_putObj' W D (.deferred none)) (fun r e => by cases e; exact ⟨_, hm.2 D (List.mem_cons_self ..), rfl⟩))
theorem putD_below {B : Nat} : ∀ {Ds : List Nat} {W : World}, Marks W Ds → (∀ D ∈ Ds, B ≤ D) → B ≤ W.heap.size → Below B W (putD W Ds)
  | [], W, _, _, _ => Below.refl B W
  | D :: Ds, W, hm, hD, hB =>
    ((Below.refl B W).grown (grownBy_putObj' W D (.deferred none)) hB (fun k e => by cases e; exact hD D (List.mem_cons_self ..))).trans
      (putD_below (Ds := Ds) (W := W.putObj D (.deferred none)) hm.put (fun x hx => hD x (List.mem_cons_of_mem _ hx)) (by have := (grownBy_putObj' W D (.deferred none)).size; omega))
theorem leaves_marks {F : Fence} {n : Nat} {P : Program} {fn : Func} {tmps : Array Value} {R : Ending → World → Prop} : ∀ {Ds : List Nat} {W : World}, Marks W Ds →
    LeavesInM F n P fn tmps R [] .returning (putD W Ds) → LeavesInM F n P fn tmps R (Ds.map mk25) .returning W
  | [], _, _, h => h
  | D :: Ds, W, hm, h => ⟨by simp, .inl ⟨D, W.putObj D (.deferred none), rfl, run_takeDeferred (hm.2 D (List.mem_cons_self ..)), leaves_marks (Ds := Ds) hm.put h⟩⟩

/-- What the reader of rankings keeps in memory between two ranks. -/
structure RkMem (w W : World) (P0 : Array Value) (A : Option Addr) (c : Nat) (out : List Int) (ov : Int) (Ds : List Nat) : Prop where
  pap : Blk W w.heap.size 69 P0
  ov : Boxed W (w.heap.size + 1) 3 (.int .i64 ov)
  own : Ow zv W (w.heap.size + 2) 3 A c out
  mks : Marks W Ds
  dlo : ∀ D ∈ Ds, w.heap.size ≤ D
  bel : Below w.heap.size w W
  sz : w.heap.size + 2 ≤ W.heap.size
section
variable {w W W' : World} {P0 : Array Value} {A : Option Addr} {c : Nat} {out : List Int} {ov : Int} {Ds : List Nat}
theorem RkMem.below (h : RkMem w W P0 A c out ov Ds) (hb : Below W.heap.size W W') : RkMem w W' P0 A c out ov Ds :=
  ⟨h.pap.below hb h.pap.lt, h.ov.kept (grown_of_below hb (Nat.le_refl _) none) (by simp), h.own.below (Nat.le_refl _) hb, h.mks.below hb, h.dlo, h.bel.trans (hb.mono h.bel.size), Nat.le_trans h.sz hb.size⟩
theorem RkMem.turn (h : RkMem w W P0 A c out ov Ds) {row : Option Nat} {B : Nat} (hg : W.grownBy W' row) (hr : ∀ r, row = some r → B ≤ r ∧ ∃ o : Obj, W.heap[r]? = some o ∧ o.isCells = false) (hB : w.heap.size ≤ B) (hD : ∀ D ∈ Ds, D < B) : RkMem w W' P0 A c out ov Ds :=
  have hro := fun r e => (hr r e).2
  ⟨blk_obj25 h.pap hg hro, blk_obj25 h.ov hg hro, ow_obj25 h.own hg hro, h.mks.grown hg hD (fun r e => (hr r e).1), h.dlo, h.bel.grown hg h.bel.size (fun k e => by have := (hr k e).1; omega), Nat.le_trans h.sz hg.size⟩
theorem RkMem.box (h : RkMem w W P0 A c out ov Ds) {b : Nat} (hb : w.heap.size + 2 ≤ b) (hA : ∀ k, blk A = some k → k ≠ b) (v : Value) : RkMem w (W.setCell ⟨b, 0, none⟩ v) P0 A c out ov Ds :=
  have hg := grownBy_setCell' W b v
  ⟨h.pap.grown hg (by simp; omega), h.ov.kept hg (by simp; omega), h.own.kept hg (by
    cases e : blk A with
    | none => exact .inl rfl
    | some k => exact .inr (fun e2 => hA k e (Option.some.inj e2))), h.mks.keep (KeepsOthers.setCell _ _ _), h.dlo, h.bel.setCell (p := ⟨b, 0, none⟩) (by show w.heap.size ≤ b; omega) _, by have := hg.size; have := h.sz; omega⟩
theorem RkMem.over (h : RkMem w W P0 A c out ov Ds) (v : Int) : RkMem w (W.setCell ⟨w.heap.size + 1, 0, none⟩ (.int .i64 v)) P0 A c out v Ds :=
  have hg := grownBy_setCell' W (w.heap.size + 1) (.int .i64 v)
  ⟨h.pap.grown hg (by simp), h.ov.set _, h.own.kept hg (blk_apart25 (fun k hk => (h.own.blk_ge k hk).1) (by omega)), h.mks.keep (KeepsOthers.setCell _ _ _), h.dlo, h.bel.setCell (p := ⟨w.heap.size + 1, 0, none⟩) (Nat.le_succ _) _, by have := hg.size; have := h.sz; omega⟩
theorem RkMem.mark (h : RkMem w W P0 A c out ov Ds) {D : Nat} (hD : W.heap[D]? = some (.deferred (some []))) (hn : ∀ x ∈ Ds, x < D) (hl : w.heap.size ≤ D) : RkMem w W P0 A c out ov (D :: Ds) :=
  ⟨h.pap, h.ov, h.own, h.mks.cons hD hn, (fun x hx => by
    rcases List.mem_cons.1 hx with rfl | hx
    · exact hl
    · exact h.dlo x hx), h.bel, h.sz⟩
end
theorem KeepX.setCell {B0 : Nat} {X : Nat → Prop} {W : World} {b : Nat} (hx : X b) (hB : B0 ≤ W.heap.size) (v : Value) : KeepX B0 X W (W.setCell ⟨b, 0, none⟩ v) :=
  have hg := grownBy_setCell' W b v
  ⟨hg.size, fun k hk hn => hg.block k (by omega) (fun e => hn (by rw [Option.some.inj e]; exact hx))⟩
theorem grid_lt {c k n : Nat} (hc : c < n) (hk : k < n) : c * n + k < n * n := by
  have h1 : (c + 1) * n ≤ n * n := Nat.mul_le_mul_right n hc
  rw [Nat.add_mul] at h1
  omega
theorem grid_le {n : Nat} (h : n ≤ 100) : n * n ≤ 10000 := Nat.le_trans (Nat.mul_le_mul h h) (by decide)
theorem size_pap : (Tryd.prog.info? 69).map (·.size) = some 6 := by kernel_rfl
/-- A whole paper loaded, inside a fence. -/
theorem wpListIn_load_pap {F : Fence} {m : Nat} {w : World} {ops : Array Oper} {rest : List Oper} {o : Oper} {a : Act} {Q : Exit → Act → World → Prop} (hw : Region.wanted o (yielded ops a.tmps) = true) (y : Operand) (ho : o.op = .load 69 y)
    (g : Nat) (hx : a.eval y = .pointer (some ⟨g, 0, none⟩)) {l : Ly} {gs n : Nat} {s : Int} (hB : Blk w g 69 #[.int .u8 (l.kind : Nat), .int .i64 l.most, .int .i64 (l.cands : Nat), .int .i64 (l.cols : Nat), .slice (some ⟨gs, 0, none⟩) n n, .int .i64 s])
    (h : wpListIn F m Tryd.prog ops Q rest (a.put o.dst (.agg #[.int .u8 (l.kind : Nat), .int .i64 l.most, .int .i64 (l.cands : Nat), .int .i64 (l.cols : Nat), .slice (some ⟨gs, 0, none⟩) n n, .int .i64 s])) w) : wpListIn F m Tryd.prog ops Q (o :: rest) a w := by
  refine BigFrame.wpListIn_want hw fun K hK => ?_
  unfold Oper.wpIn
  refine ⟨by simp [Oper.about, ho], ?_⟩
  rw [Oper.semAt_plain F _ _ (by rw [ho]; intro c hc'; cases hc')]
  unfold execOp
  simp only [ho, hx, Instr.loadAt, Instr.sureAddr, Sem.run_bind, Sem.run_pure, Result.andThen_ok, run_loadVar_row w g 69 69 _ _ _ hB Tryd.underlying69 rfl size_pap]
  exact hK _ _ h
/-- An append to the marks: what it made and what it turned. -/
theorem RkMem.app {w W w8 : World} {P0 : Array Value} {A A8 : Option Addr} {c c8 : Nat} {out r8 : List Int} {ov : Int} {Ds : List Nat} {o : Obj} (h : RkMem w W P0 A c out ov Ds) (hg : (W.alloc o).grownBy w8 (blk A)) (ho : Ow zv w8 (w.heap.size + 2) 3 A8 c8 r8) : RkMem w w8 P0 A8 c8 r8 ov Ds :=
  have hge : ∀ k, blk A = some k → w.heap.size + 2 ≤ k := fun k e => (h.own.blk_ge k e).1
  have hsz := hg.size
  ⟨(h.pap.alloc o).grown hg (fun e => by have := hge _ e.symm; omega), (h.ov.alloc o).kept hg (fun e => by have := hge _ e.symm; omega), ho,
   h.mks.keep ((KeepsOthers.alloc W o).trans (KeepsOthers.of_grownBy hg fun j o' ej hj => by
    rcases (h.own.alloc o).2 with ⟨hv, _⟩ | ⟨g, cap, cur, hv, _, hgb, _⟩
    · simp only [Value.slice.injEq] at hv
      rw [hv.1] at ej
      simp [blk] at ej
    · simp only [Value.slice.injEq] at hv
      rw [hv.1] at ej
      simp [blk] at ej
      subst ej
      rw [hgb] at hj; cases hj; rfl)), h.dlo,
   (h.bel.alloc h.bel.size o).grown hg (by rw [World.size_alloc]; have := h.sz; omega) (fun k e => by have := hge k e; omega), by rw [World.size_alloc] at hsz; have := h.sz; omega⟩
theorem ranks_col {R : List Int} {n k : Nat} {s : Int} {out : List Int} {sk : Nat} (h : k < n) : ranksL (((List.range n).drop k).map fun j => colS (bitsR R) n n j) s out sk = ranksL (((colK R n k n).map fun i => ((i : Nat) : Int)) :: ((List.range n).drop (k + 1)).map fun j => colS (bitsR R) n n j) s out sk := by
  rw [ranksS_at _ _ _ _ _ _ h, colS_bits]
theorem ranksL_over {l : List Nat} (h : 2 ≤ l.length) (cs : List (List Int)) (s : Int) (out : List Int) (sk : Nat) : ranksL ((l.map fun i => ((i : Nat) : Int)) :: cs) s out sk = (out, 1) := by
  match l, h with
  | _ :: _ :: _, _ => rfl
/-- The last candidate that has come, or nobody. -/
def rkI : List Nat → Int
  | [] => -1
  | x :: _ => (x : Nat)

set_option maxRecDepth 100000 in
set_option maxHeartbeats 8000000 in
theorem ranking_any (l : Ly) (R : List Int) (g n : Nat) (s : Int) (w : World) (hu : Hb zv w g 88 R) (hR : R.length = n) (hn : n = l.cands * l.cands) (hcol : l.cols = l.cands) (hc : l.cands ≤ 100) (hs : 0 ≤ s) :
    Calls Tryd.prog 54 #[ppv l g n s] w (IntsOver w (ranksS (bitsR R) l.cands s)) := by
  obtain ⟨i0, hi0, hz0, hz1, hz2⟩ := info_parts zInfo
  have HU := Lib.hid hu
  have HRL := Lib.hid hR
  have HCO := Lib.hid hcol
  have HNN := Lib.hid hn
  have hglt := hu.lt
  clear hu hR hcol hn
  have HM := Lib.hid (fun (j : Nat) wx => markedIn_call l g n s j wx)
  unfold ppv pps at HM
  refine (callsIn_wide (n := 6)).1 ?_
  refine callsIn_of_wp_marks Tryd.func54 rfl trivial ?_ rfl
  simp only [Tryd.ntmps54, List.size_toArray, List.length_cons, List.length_nil, Nat.reduceAdd, Nat.reduceSub, Array.replicate_succ, Array.replicate_zero, List.push_toArray, List.append_toArray, List.nil_append, List.cons_append]
  unfold ppv pps
  gi_wp2_with fail
  refine wpIn_wide.2 (wp_scope_straight ((wpIn_wide (n := 6)).1 ?_))
  gi_wp2_with fail
  refine wpIn_label ?_
  gi_wp2_with fail
  obtain ⟨wA, hwA⟩ : ∃ wA, wA = (w.alloc (.cells #[.int .u8 (l.kind : Nat), .int .i64 l.most, .int .i64 (l.cands : Nat), .int .i64 (l.cols : Nat), .slice (some ⟨g, 0, none⟩) n n, .int .i64 s] 69)).alloc (.cells #[.int .i64 0] 3) := ⟨_, rfl⟩
  rw [← hwA]
  have hb0 : Below w.heap.size w wA := by rw [hwA]; exact (below_new w _).alloc (by simp) _
  have bP : Blk wA w.heap.size 69 #[.int .u8 (l.kind : Nat), .int .i64 l.most, .int .i64 (l.cands : Nat), .int .i64 (l.cols : Nat), .slice (some ⟨g, 0, none⟩) n n, .int .i64 s] := by rw [hwA]; exact (Blk.new w _ _).alloc _
  have bO : Boxed wA (w.heap.size + 1) 3 (.int .i64 0) := by
    have h := Boxed.new (w.alloc (.cells #[.int .u8 (l.kind : Nat), .int .i64 l.most, .int .i64 (l.cands : Nat), .int .i64 (l.cols : Nat), .slice (some ⟨g, 0, none⟩) n n, .int .i64 s] 69)) 3 (.int .i64 0)
    rw [World.size_alloc] at h
    rw [hwA]; exact h
  have hsz : w.heap.size + 2 ≤ wA.heap.size := by rw [hwA]; simp
  clear hwA
--BEGIN
  obtain ⟨Out, hOut⟩ : ∃ Out : Act → World → Prop, Out = fun a' w' => ∃ (u4 u11 u5 u6 u7 u12 u13 u14 u15 u16 u17 u18 u19 u20 u21 u22 u23 u24 u25 u26 u27 u28 u29 u30 u31 u32 u33 u34 u35 u36 u37 : Value) (A : Option Addr) (c : Nat) (out : List Int) (ov : Int) (Ds : List Nat), a' = { tmps := #[.agg #[.int .u8 (l.kind : Nat), .int .i64 l.most, .int .i64 (l.cands : Nat), .int .i64 (l.cols : Nat), .slice (some ⟨g, 0, none⟩) n n, .int .i64 s], .pointer (some ⟨w.heap.size, 0, none⟩), .slice A out.length c, .pointer (some ⟨w.heap.size + 1, 0, none⟩), u4, u5, u6, u7, .pointer (some ⟨w.heap.size, 0, none⟩), .pointer (some ⟨w.heap.size, 3, none⟩), .int .i64 (l.cols : Nat), u11, u12, u13, u14, u15, u16, u17, u18, u19, u20, u21, u22, u23, u24, u25, u26, u27, u28, u29, u30, u31, u32, u33, u34, u35, u36, u37, undef, undef], defers := Ds.map mk25 } ∧ Hid ((out, ov) = ranksS (bitsR R) l.cands s) ∧ RkMem w w' #[.int .u8 (l.kind : Nat), .int .i64 l.most, .int .i64 (l.cands : Nat), .int .i64 (l.cols : Nat), .slice (some ⟨g, 0, none⟩) n n, .int .i64 s] A c out ov Ds := ⟨_, rfl⟩
  obtain ⟨I, hI⟩ : ∃ I : Act → World → Prop, I = fun a' w' => ∃ (u5 u6 u7 u12 u13 u14 u15 u16 u17 u18 u19 u20 u21 u22 u23 u24 u25 u26 u27 u28 u29 u30 u31 u32 u33 u34 u35 u36 u37 : Value) (k sk : Nat) (A : Option Addr) (c : Nat) (out : List Int) (Ds : List Nat), a' = { tmps := #[.agg #[.int .u8 (l.kind : Nat), .int .i64 l.most, .int .i64 (l.cands : Nat), .int .i64 (l.cols : Nat), .slice (some ⟨g, 0, none⟩) n n, .int .i64 s], .pointer (some ⟨w.heap.size, 0, none⟩), .slice A out.length c, .pointer (some ⟨w.heap.size + 1, 0, none⟩), .int .i64 (sk : Nat), u5, u6, u7, .pointer (some ⟨w.heap.size, 0, none⟩), .pointer (some ⟨w.heap.size, 3, none⟩), .int .i64 (l.cols : Nat), .int .i64 (k : Nat), u12, u13, u14, u15, u16, u17, u18, u19, u20, u21, u22, u23, u24, u25, u26, u27, u28, u29, u30, u31, u32, u33, u34, u35, u36, u37, undef, undef], defers := Ds.map mk25 } ∧ k ≤ l.cands ∧ sk ≤ k ∧ out.length ≤ k ∧ (s = 0 ∨ (sk : Int) < s) ∧ Hid (ranksS (bitsR R) l.cands s = ranksL (((List.range l.cands).drop k).map fun j => colS (bitsR R) l.cands l.cands j) s out sk) ∧ RkMem w w' #[.int .u8 (l.kind : Nat), .int .i64 l.most, .int .i64 (l.cands : Nat), .int .i64 (l.cols : Nat), .slice (some ⟨g, 0, none⟩) n n, .int .i64 s] A c out 0 Ds := ⟨_, rfl⟩
  have HOut := Lib.hid hOut
  have HI := Lib.hid hI
  clear hOut hI
  refine wpIn_mono (Q := fun e a' w' => e = .exit 0 ∧ Out a' w') ?loop ?tail
  case tail =>
    rintro e a' w' ⟨rfl, hO⟩
    rw [HOut.out] at hO
    obtain ⟨u4, u11, u5, u6, u7, u12, u13, u14, u15, u16, u17, u18, u19, u20, u21, u22, u23, u24, u25, u26, u27, u28, u29, u30, u31, u32, u33, u34, u35, u36, u37, A, c, out, ov, Ds, rfl, hq, hm⟩ := hO
    have hco : w'.cell? ⟨w.heap.size + 1, 0, none⟩ = some (.int .i64 ov) := hm.ov.cell
    have hfo : w'.frozen? ⟨w.heap.size + 1, 0, none⟩ = false := hm.ov.frozen
    gi_wp2_with fail
    refine wpIn_wide.2 ?_
    have hS0 : w'.drew.cell? ⟨w.heap.size + 1, 0, none⟩ = some (.int .i64 ov) ∧ w'.drew.frozen? ⟨w.heap.size + 1, 0, none⟩ = false := ⟨hco, hfo⟩
    have hm1 := hm.below (Below.refl w'.heap.size w').drew
    have hm4 := (hm1.over ov).ov
    have hS1 : (w'.drew.setCell ⟨w.heap.size + 1, 0, none⟩ (.int .i64 ov)).cell? ⟨w.heap.size + 1, 0, none⟩ = some (.int .i64 ov) ∧ (w'.drew.setCell ⟨w.heap.size + 1, 0, none⟩ (.int .i64 ov)).frozen? ⟨w.heap.size + 1, 0, none⟩ = false := ⟨hm4.cell, hm4.frozen⟩
    clear hm4 hm1
    go_region_held3 (fun X => X.cell? ⟨w.heap.size + 1, 0, none⟩ = some (.int .i64 ov) ∧ X.frozen? ⟨w.heap.size + 1, 0, none⟩ = false) (first | exact hS0 | exact hS1) (fail)
    gi_wp2_with fail
    try rw [Exit.noGoto_ret]
    obtain ⟨W2, hW2⟩ : ∃ W2, W2 = (w'.setCell ⟨w.heap.size + 1, 0, none⟩ (.int .i64 ov)).drew := ⟨_, rfl⟩
    rw [← hW2]
    have hm2 : RkMem w W2 #[.int .u8 (l.kind : Nat), .int .i64 l.most, .int .i64 (l.cands : Nat), .int .i64 (l.cols : Nat), .slice (some ⟨g, 0, none⟩) n n, .int .i64 s] A c out ov Ds := by rw [hW2]; exact (hm.over ov).below (Below.refl _ _).drew
    clear hW2
    have hm3 := putD_keep (Pr := fun X => Boxed X (w.heap.size + 1) 3 (.int .i64 ov) ∧ Ow zv X (w.heap.size + 2) 3 A c out) (fun X Y row h hg hr => ⟨blk_obj25 h.1 hg hr, ow_obj25 h.2 hg hr⟩) hm2.mks ⟨hm2.ov, hm2.own⟩
    have hr3 : World.cell? (putD W2 Ds) ⟨w.heap.size + 1, 0, none⟩ = some (.int .i64 ov) := Boxed.cell hm3.1
    refine leaves_marks hm2.mks ?_
    refine ⟨.tuple #[.slice A out.length c, .int .i64 ov], ?_, ?_⟩
    · simp [results, Tryd.f54, go_sem, hr3]
    · exact ⟨A, c, out, ov, rfl, hq.out, hm3.2.lower (by omega), hm2.bel.trans (putD_below hm2.mks hm2.dlo hm2.bel.size)⟩
  case loop =>
  refine wpIn_loop I (fun a' _ => l.cols - (intOf (a'.tmps.getD 11 undef)).toNat) ?_ ?_
  · rw [HI.out]
    exact ⟨_, _, _, _, _, _, _, _, _, _, _, _, _, _, _, _, _, _, _, _, _, _, _, _, _, _, _, _, _, 0, 0, none, 0, [], [], rfl, Nat.zero_le _, Nat.le_refl _, Nat.le_refl _, by omega, rfl, bP, bO, Ow.nil _ _ _, ⟨List.nodup_nil, fun _ h => by cases h⟩, (fun _ h => by cases h), hb0, hsz⟩
  · intro a' wr hIa
    rw [HI.out] at hIa
    obtain ⟨u5, u6, u7, u12, u13, u14, u15, u16, u17, u18, u19, u20, u21, u22, u23, u24, u25, u26, u27, u28, u29, u30, u31, u32, u33, u34, u35, u36, u37, k, sk, A, c, out, Ds, rfl, hk, hsk, hol, hss, hq, hm⟩ := hIa
    have hwz := hm.sz
    have hne1 : ¬ w.heap.size = wr.heap.size := by omega
    have hne2 : ¬ wr.heap.size = w.heap.size := by omega
    by_cases hlt : k < l.cands
    · have hlc : k < l.cols := by have := HCO.out; omega
      have HBP := Lib.hid (show Blk (wr.alloc (.cells #[.int .i64 (-1)] 3)) w.heap.size 69 #[.int .u8 (l.kind : Nat), .int .i64 l.most, .int .i64 (l.cands : Nat), .int .i64 (l.cols : Nat), .slice (some ⟨g, 0, none⟩) n n, .int .i64 s] from hm.pap.alloc _)
      gi_wp2_with (with_reducible refine wpListIn_load_pap (by kernel_rfl) (.tmp 1) rfl w.heap.size rfl HBP.out ?_)
      refine ⟨trivial, (callsIn_wide.2 (HM.out k _)).mono ?_⟩
      rintro e w' ⟨rfl, rfl⟩
      gi_wp2_with fail
      obtain ⟨P0, hP0⟩ : ∃ P0 : Array Value, P0 = #[.int .u8 (l.kind : Nat), .int .i64 l.most, .int .i64 (l.cands : Nat), .int .i64 (l.cols : Nat), .slice (some ⟨g, 0, none⟩) n n, .int .i64 s] := ⟨_, rfl⟩
      have hb0' : Below wr.heap.size wr (((wr.alloc (.cells #[.int .i64 (-1)] 3)).alloc (.cells P0 69)).alloc (.cells #[.int .i64 (k : Nat)] 3)) :=
        (((Below.refl _ wr).alloc (Nat.le_refl _) _).alloc (by simp) _).alloc (by simp; omega) _
      have bR0 := Boxed.new wr 3 (.int .i64 (-1))
      have bQ0 := Blk.new (wr.alloc (.cells #[.int .i64 (-1)] 3)) 69 P0
      have bJ0 := Blk.new ((wr.alloc (.cells #[.int .i64 (-1)] 3)).alloc (.cells P0 69)) 3 #[.int .i64 (k : Nat)]
      have bR := (bR0.alloc (.cells P0 69)).alloc (.cells #[.int .i64 (k : Nat)] 3)
      have bQ := bQ0.alloc (.cells #[.int .i64 (k : Nat)] 3)
      have bJ := bJ0
      have hszW : (((wr.alloc (.cells #[.int .i64 (-1)] 3)).alloc (.cells P0 69)).alloc (.cells #[.int .i64 (k : Nat)] 3)).heap.size = wr.heap.size + 1 + 1 + 1 := by simp
      simp only [World.size_alloc] at bQ bJ
      clear bR0 bQ0 bJ0 HBP
      rw [← hP0]
      generalize hW0 : (((wr.alloc (.cells #[.int .i64 (-1)] 3)).alloc (.cells P0 69)).alloc (.cells #[.int .i64 (k : Nat)] 3)) = W0 at *
      clear hW0
      rw [hP0] at bQ ⊢
      clear hP0
      have HSZ := Lib.hid hszW
      have hge : wr.heap.size + 1 + 1 + 1 ≤ W0.heap.size := by omega
      have hm0 := hm.below hb0'
      have hpi : PapIn l g n s k R (wr.heap.size + 1) (wr.heap.size + 1 + 1) W0 := ⟨bQ, bJ, HU.out.below hm0.bel hglt⟩
      have HA := Lib.hid (show ∀ b, blk A = some b → b < wr.heap.size from fun b e => (hm.own.blk_ge b e).2)
      have HDl := Lib.hid (show ∀ D ∈ Ds, D < W0.heap.size from fun D hD => by have := hm.mks.lt hD; omega)
      have HQ := Lib.hid hq.out
      clear hszW hm hq
      refine wpIn_range_new (F := Fence.wide) (n := 6) rfl (by omega) (gf := 65) (lb := #[.pointer (some ⟨wr.heap.size + 1, 0, none⟩), .pointer (some ⟨wr.heap.size + 1 + 1, 0, none⟩)]) rfl trivial (enters_of Tryd.func65 (by kernel_rfl) rfl)
        (markedIn_seq l g n s k R (wr.heap.size + 1) (wr.heap.size + 1 + 1) W0.heap.size (fun b => b = wr.heap.size ∨ b = w.heap.size + 1) W0 5 (by omega) HRL.out (by have := grid_le hc; have := HNN.out; omega) (by omega) (fun c' hc' => by rw [HCO.out, HNN.out]; exact grid_lt hc' hlt) hpi ⟨by omega, by omega⟩ ⟨by omega, by omega⟩ ⟨by omega, by omega⟩ rfl)
        (fun h k => h.trans k)
        (fun W r o o' hr' h1 h2 => KeepX.putObj W r o' hr')
        (fun y s X Y row hs hg hrow => hs) (fun _ => rfl)
        (fun pre W => RkMem w W #[.int .u8 (l.kind : Nat), .int .i64 l.most, .int .i64 (l.cands : Nat), .int .i64 (l.cols : Nat), .slice (some ⟨g, 0, none⟩) n n, .int .i64 s] A c out 0 Ds ∧ Boxed W wr.heap.size 3 (.int .i64 (rkI pre)) ∧ pre.length ≤ 1 ∧ W0.heap.size ≤ W.heap.size)
        (fun x pre W => x = .exit 0 ∧ 2 ≤ pre.length ∧ RkMem w W #[.int .u8 (l.kind : Nat), .int .i64 l.most, .int .i64 (l.cands : Nat), .int .i64 (l.cols : Nat), .slice (some ⟨g, 0, none⟩) n n, .int .i64 s] A c out 1 Ds)
        ?hI ?hIx ?h0
        (fun y => { tmps := #[.agg #[.int .u8 (l.kind : Nat), .int .i64 l.most, .int .i64 (l.cands : Nat), .int .i64 (l.cols : Nat), .slice (some ⟨g, 0, none⟩) n n, .int .i64 s], .pointer (some ⟨w.heap.size, 0, none⟩), .slice A out.length c, .pointer (some ⟨w.heap.size + 1, 0, none⟩), .int .i64 (sk : Nat), .int .i64 (k : Nat), .pointer (some ⟨wr.heap.size, 0, none⟩), .int .i64 (y : Nat), .pointer (some ⟨w.heap.size, 0, none⟩), .pointer (some ⟨w.heap.size, 3, none⟩), .int .i64 (l.cols : Nat), .int .i64 (k : Nat), .bool true, .int .i64 (k : Nat), .agg #[.int .u8 (l.kind : Nat), .int .i64 l.most, .int .i64 (l.cands : Nat), .int .i64 (l.cols : Nat), .slice (some ⟨g, 0, none⟩) n n, .int .i64 s], .int .i64 (k : Nat), .func (.func 65) #[] #[.pointer (some ⟨wr.heap.size + 1, 0, none⟩), .pointer (some ⟨wr.heap.size + 1 + 1, 0, none⟩)], .int .i64 (y : Nat), u18, u19, u20, u21, u22, u23, u24, u25, u26, u27, u28, u29, u30, u31, u32, u33, u34, u35, u36, u37, undef, undef], defers := [] }) ?assign ?body ?done ?stop
      case hI =>
        rintro pre X Y row ⟨h1, h2, h3, h4⟩ hg hrow
        exact ⟨h1.turn hg hrow (by omega) HDl.out, blk_obj25 h2 hg (fun r e => (hrow r e).2), h3, Nat.le_trans h4 hg.size⟩
      case hIx =>
        rintro x pre X Y row ⟨h1, h2, h3⟩ hg hrow
        exact ⟨h1, h2, h3.turn hg hrow (by omega) HDl.out⟩
      case h0 => exact ⟨hm0, bR, Nat.zero_le _, Nat.le_refl _⟩
      case assign =>
        intro r y W K hK
        gi_wp2
        exact hK
      case body =>
        rintro r pre y W ⟨hm1, hbx, hpl, hws⟩ hy hlen
        have hf1 := hbx.frozen
        have hc2 := hm1.ov.cell
        have hf2 := hm1.ov.frozen
        have HM1 := Lib.hid hm1
        have HWS := Lib.hid hws
        clear hm1
        match pre, hpl, hbx with
        | [], _, hbx =>
          have hc1 : W.cell? ⟨wr.heap.size, 0, none⟩ = some (.int .i64 (-1)) := hbx.cell
          gi_wp2_with fail
          exact ⟨KeepsOthers.setCell _ _ _, KeepX.setCell (.inl rfl) HWS.out _, HM1.out.box (by omega) (fun b e => by have := HA.out b e; omega) _, hbx.set _, Nat.le_refl _, Nat.le_trans HWS.out (grownBy_setCell' W wr.heap.size _).size⟩
        | [x], _, hbx =>
          have hc1 : W.cell? ⟨wr.heap.size, 0, none⟩ = some (.int .i64 ((x : Nat) : Int)) := hbx.cell
          have e1 : (((x : Nat) : Int) == -1) = false := by rw [beq_eq_false_iff_ne]; omega
          have d1 : ¬ ((x : Nat) : Int) = -1 := by omega
          gi_wp2_with fail
          exact ⟨KeepsOthers.setCell _ _ _, rfl, by simp, HM1.out.over 1⟩
        | _ :: _ :: _, hpl, _ => exact absurd hpl (by simp)
      case stop =>
        rintro D x pre W hD ⟨rest, hrest⟩ ⟨rfl, h2, hm1⟩ hK
        have HQ2 := Lib.hid (show ranksS (bitsR R) l.cands s = (out, 1) by
          have hrest2 := hrest
          rw [HCO.out] at hrest2
          rw [HQ.out, ranks_col hlt, hrest2]
          exact ranksL_over (by rw [List.length_append]; omega) _ _ _ _)
        have HM2 := Lib.hid (hm1.mark hK (fun x hx => by have := HDl.out x hx; omega) (by omega))
        clear hrest hm1 hK
        gi_wp2_with fail
        rw [HOut.out]
        first | exact ⟨_, _, _, _, _, _, _, _, _, _, _, _, _, _, _, _, _, _, _, _, _, _, _, _, _, _, _, _, _, _, _, A, c, out, 1, D :: Ds, rfl, HQ2.out.symm, HM2.out⟩ | exact ⟨trivial, _, _, _, _, _, _, _, _, _, _, _, _, _, _, _, _, _, _, _, _, _, _, _, _, _, _, _, _, _, _, _, A, c, out, 1, D :: Ds, rfl, HQ2.out.symm, HM2.out⟩
      case done =>
        rintro D ys W hD hS ⟨hm1, hbx, hpl, hws⟩ hK
        have HM1 := Lib.hid (hm1.mark hK (fun x hx => by have := HDl.out x hx; omega) (by omega))
        have HQ1 := Lib.hid (show ranksS (bitsR R) l.cands s = ranksL ((ys.map fun i => ((i : Nat) : Int)) :: ((List.range l.cands).drop (k + 1)).map fun j => colS (bitsR R) l.cands l.cands j) s out sk by
          rw [HQ.out, ranks_col hlt, hS, HCO.out])
        have hsz2 := hm1.sz
        clear hS hm1 hK
        match ys, hpl, hbx, HQ1 with
        | [], _, hbx, HQ1 =>
          have hc1 : W.cell? ⟨wr.heap.size, 0, none⟩ = some (.int .i64 (-1)) := hbx.cell
          have hc5 : W.cell? ⟨w.heap.size, 5, none⟩ = some (.int .i64 s) := HM1.out.pap.cell 5
          by_cases hst : (sk : Int) + 1 = s
          · have e1 : ((sk : Int) + 1 == s) = true := by rw [beq_iff_eq]; exact hst
            have HQ2 := Lib.hid (show ranksS (bitsR R) l.cands s = (out, 0) by
              rw [HQ1.out]
              show ranksL ([] :: _) s out sk = _
              rw [ranksL, if_pos (by omega)])
            gi_wp2_with fail
            rw [HOut.out]
            first | exact ⟨_, _, _, _, _, _, _, _, _, _, _, _, _, _, _, _, _, _, _, _, _, _, _, _, _, _, _, _, _, _, _, A, c, out, 0, D :: Ds, rfl, HQ2.out.symm, HM1.out⟩ | exact ⟨trivial, _, _, _, _, _, _, _, _, _, _, _, _, _, _, _, _, _, _, _, _, _, _, _, _, _, _, _, _, _, _, _, A, c, out, 0, D :: Ds, rfl, HQ2.out.symm, HM1.out⟩
          · have e1 : ((sk : Int) + 1 == s) = false := by rw [beq_eq_false_iff_ne]; exact hst
            have HQ2 := Lib.hid (show ranksS (bitsR R) l.cands s = ranksL (((List.range l.cands).drop (k + 1)).map fun j => colS (bitsR R) l.cands l.cands j) s out (sk + 1) by
              rw [HQ1.out]
              show ranksL ([] :: _) s out sk = _
              rw [ranksL, if_neg (by omega)])
            gi_wp2_with fail
            rw [HI.out]
            refine ⟨⟨_, _, _, _, _, _, _, _, _, _, _, _, _, _, _, _, _, _, _, _, _, _, _, _, _, _, _, _, _, k + 1, sk + 1, A, c, out, D :: Ds, rfl, by omega, by omega, by omega, by omega, HQ2, HM1.out⟩, ?_⟩
            simp [intOf]; omega
        | [x], _, hbx, HQ1 =>
          have hc1 : W.cell? ⟨wr.heap.size, 0, none⟩ = some (.int .i64 ((x : Nat) : Int)) := hbx.cell
          have e1 : (((x : Nat) : Int) == -1) = false := by rw [beq_eq_false_iff_ne]; omega
          have d1 : ¬ ((x : Nat) : Int) = -1 := by omega
          have HCT := Lib.hid (containsZ_any out ((x : Nat) : Int) A c W HM1.out.own.rd (by omega))
          by_cases hx : ((x : Nat) : Int) ∈ out
          · have HD := Lib.hid (show decide (((x : Nat) : Int) ∈ out) = true by simpa using hx)
            have HQ2 := Lib.hid (show ranksS (bitsR R) l.cands s = ranksL (((List.range l.cands).drop (k + 1)).map fun j => colS (bitsR R) l.cands l.cands j) s out 0 by
              rw [HQ1.out]
              show ranksL ([((x : Nat) : Int)] :: _) s out sk = _
              rw [ranksL, if_pos hx])
            clear hx
            gi_wp2_with fail
            refine ⟨trivial, (callsIn_wide.2 HCT.out).mono ?_⟩
            rintro e w3 ⟨rfl, hw3⟩
            obtain rfl := hw3.symm
            rw [HD.out]
            gi_wp2_with fail
            rw [HI.out]
            refine ⟨⟨_, _, _, _, _, _, _, _, _, _, _, _, _, _, _, _, _, _, _, _, _, _, _, _, _, _, _, _, _, k + 1, 0, A, c, out, D :: Ds, rfl, by omega, by omega, by omega, by omega, HQ2, HM1.out⟩, ?_⟩
            simp [intOf]; omega
          · have HD := Lib.hid (show decide (((x : Nat) : Int) ∈ out) = false by simpa using hx)
            have HQ2 := Lib.hid (show ranksS (bitsR R) l.cands s = ranksL (((List.range l.cands).drop (k + 1)).map fun j => colS (bitsR R) l.cands l.cands j) s (out ++ [((x : Nat) : Int)]) 0 by
              rw [HQ1.out]
              show ranksL ([((x : Nat) : Int)] :: _) s out sk = _
              rw [ranksL, if_neg hx])
            clear hx
            gi_wp2_with fail
            refine ⟨trivial, (callsIn_wide.2 HCT.out).mono ?_⟩
            rintro e w3 ⟨rfl, hw3⟩
            obtain rfl := hw3.symm
            rw [HD.out]
            gi_wp2_with (gi_at_builtin; refine wpListIn_append_f _ zv_one rfl (.tmp 33) (.tmp 35) 40 rfl (w.heap.size + 2) 3 8 i0 _ Tryd.underlying40 hi0 hz0 hz1 hz2 (by omega) rfl out [((x : Nat) : Int)] rfl rfl (HM1.out.own.alloc (.cells #[.int .i64 ((x : Nat) : Int)] 3)) (rf_one (f := zv) (w := W) ((x : Nat) : Int) 3) (by simp; omega) (by simp; omega) ?_; intro A8 c8 w8 r8 hr8 ho8 hg8 hb8)
            have HQ8 := Lib.hid (show ranksS (bitsR R) l.cands s = ranksL (((List.range l.cands).drop (k + 1)).map fun j => colS (bitsR R) l.cands l.cands j) s r8 0 by rw [hr8.out]; exact HQ2.out)
            have HL8 : r8.length ≤ k + 1 := by rw [hr8.out, List.length_append]; simp; omega
            have HM8 := Lib.hid (HM1.out.app hg8 ho8)
            gi_wp2_with fail
            rw [HI.out]
            refine ⟨⟨_, _, _, _, _, _, _, _, _, _, _, _, _, _, _, _, _, _, _, _, _, _, _, _, _, _, _, _, _, k + 1, 0, A8, c8, r8, D :: Ds, rfl, by omega, by omega, by omega, by omega, HQ8, HM8.out⟩, ?_⟩
            simp [intOf]; omega
        | _ :: _ :: _, hpl, _, _ => exact absurd hpl (by simp)
    · have hlc : ¬ k < l.cols := by have := HCO.out; omega
      have hkk : k = l.cands := by omega
      have HQ := Lib.hid (show ranksS (bitsR R) l.cands s = (out, 0) by rw [hq.out, hkk, List.drop_eq_nil_of_le (by simp)]; rfl)
      have HMM := Lib.hid hm
      clear hm hq hkk
      gi_wp2_with fail
      rw [HOut.out]
      exact ⟨_, _, _, _, _, _, _, _, _, _, _, _, _, _, _, _, _, _, _, _, _, _, _, _, _, _, _, _, _, _, _, A, c, out, 0, Ds, rfl, HQ.out.symm, HMM.out⟩
end Go.Proofs.YtejphpcngbjgjaaDoor
namespace Go.Proofs.YtejphpcngbjgjaaDoor
open Go.RowKit
set_option linter.unusedVariables false
set_option linter.unusedSimpArgs false

/-- The first k boxes that are in doubt. -/
def dbK (R : List Int) (k : Nat) : List Nat := (List.range k).filter fun i => decide (R.getD i 0 = 1)
theorem dbK_yes {R : List Int} {k : Nat} (h : R.getD k 0 = 1) : dbK R (k + 1) = dbK R k ++ [k] := by
  unfold dbK
  rw [List.range_succ, List.filter_append]
  congr 1
  rw [List.filter_cons, if_pos (by simpa using h)]; rfl
theorem dbK_no {R : List Int} {k : Nat} (h : ¬ R.getD k 0 = 1) : dbK R (k + 1) = dbK R k := by
  unfold dbK
  rw [List.range_succ, List.filter_append, List.filter_cons, if_neg (by simpa using h)]
  simp
theorem dbK_len (R : List Int) (k : Nat) : (dbK R k).length ≤ k := by
  unfold dbK
  have := List.length_filter_le (fun i => decide (R.getD i 0 = 1)) (List.range k)
  simpa using this

set_option maxRecDepth 100000 in
set_option maxHeartbeats 2000000 in
theorem doubts_any (l : Ly) (R : List Int) (g n : Nat) (s : Int) (w : World) (hu : Hb zv w g 88 R) (hR : R.length = n) (hn : n ≤ 1000000) :
    Calls Tryd.prog 44 #[ppv l g n s] w fun e w' => ∃ A c r, e = .returned (.slice A r.length c) ∧ r = dbK R n ∧ Ow nv w' w.heap.size 3 A c r ∧ Below w.heap.size w w' := by
  obtain ⟨i0, hi0, hz0, hz1, hz2⟩ := info_parts zInfo
  have HI0 := Lib.hid hi0
  have HZ0 := Lib.hid hz0
  have HZ1 := Lib.hid hz1
  have HZ2 := Lib.hid hz2
  have HU := Lib.hid hu
  have HRL := Lib.hid hR
  have hglt := hu.lt
  have B0 := Lib.hid (below_new w (.cells (pps l g n s) 69))
  clear hu hR hi0 hz0 hz1 hz2
  unfold pps at B0
  unfold ppv pps
  go_enter Tryd.func44, Tryd.ntmps44
  go_wp2_with fail
  go_loopw [3, 9] (fun f i' wr => ∃ (k : Nat) (A : Option Addr) (c : Nat) (r : List Nat), k ≤ n ∧ f = .slice A r.length c ∧ i' = .int .i64 k ∧ Hid (r = dbK R k) ∧ Hid (Ow nv wr w.heap.size 3 A c r) ∧ Hid (Below w.heap.size w wr)) (fun _ i' _ => n - (intOf i').toNat)
  case atStart => exact ⟨0, none, 0, [], Nat.zero_le _, rfl, rfl, rfl, Ow.nil _ _ _, B0⟩
  case round =>
    obtain ⟨k, A, c, r, hk, rfl, rfl, hr, hown, hbw⟩ := hrel
    have hsz := hbw.out.size
    by_cases hlt : k < n
    · have hkR : k < R.length := by have := HRL.out; omega
      have HY := Lib.hid (dbK_yes (R := R) (k := k))
      have HN := Lib.hid (dbK_no (R := R) (k := k))
      have hgd : R.getD k 0 = R[k] := by simp [List.getD, hkR]
      have hcx := (HU.out.below hbw.out hglt).cell hkR
      obtain ⟨v, hv⟩ : ∃ v, v = R[k] := ⟨_, rfl⟩
      rw [← hv] at hgd hcx
      rw [hgd] at HY HN
      unfold zv at hcx
      have HL := Lib.hid (show r.length ≤ n by rw [hr.out]; have := dbK_len R k; omega)
      clear hv hgd
      by_cases hv1 : v = 1
      · have HY2 := Lib.hid (HY.out hv1)
        subst hv1
        go_wp2_with (at_builtin; refine wpList_append_f _ nv_one rfl (.tmp 16) (.tmp 18) 40 rfl w.heap.size 3 8 i0 _ Tryd.underlying40 HI0.out HZ0.out HZ1.out HZ2.out (by omega) rfl r [k] rfl rfl (hown.out.alloc (.cells #[.int .i64 (k : Nat)] 3)) (rf_one (f := nv) (w := wr) k 3) (by have := HL.out; simp; omega) (by simp; omega) ?_; intro A8 c8 w8 r8 hr8 ho8 hg8 hb8)
        have B8 := Lib.hid ((hbw.out.alloc hbw.out.size (.cells #[.int .i64 (k : Nat)] 3)).grown hg8 (by simp; omega) (fun j hj => (hown.out.blk_ge j hj).1))
        have HM8 := Lib.hid (show r8 = dbK R (k + 1) by rw [hr8.out, hr.out, HY2.out])
        go_wp2_with fail
        go_roundw
        case rel => exact ⟨k + 1, A8, c8, r8, by omega, rfl, by go_num, HM8, ho8, B8⟩
        case measure => simp [intOf]; omega
      · have HN2 := Lib.hid (show r = dbK R (k + 1) by rw [hr.out, HN.out hv1])
        have e1 : (v == 1) = false := by rw [beq_eq_false_iff_ne]; exact hv1
        go_wp2_with fail
        go_roundw
        case rel => exact ⟨k + 1, A, c, r, by omega, rfl, by go_num, HN2, hown, hbw⟩
        case measure => simp [intOf]; omega
    · obtain rfl : k = n := by omega
      go_wp2_with fail
      go_ret
      exact ⟨A, c, r, rfl, hr.out, hown.out, hbw.out⟩

set_option maxHeartbeats 400000 in
theorem readerOf_rank (w : World) : Calls Tryd.prog 43 #[.int .u8 1] w fun e w' => e = .returned (.func (.func 54) #[] #[]) ∧ w' = w := by
  go_enter Tryd.func43, Tryd.ntmps43
  go_wp2_with fail
  go_ret
  exact ⟨rfl, rfl⟩
set_option maxHeartbeats 400000 in
theorem readerOf_mark (w : World) : Calls Tryd.prog 43 #[.int .u8 2] w fun e w' => e = .returned (.func (.func 56) #[] #[]) ∧ w' = w := by
  go_enter Tryd.func43, Tryd.ntmps43
  go_wp2_with fail
  go_ret
  exact ⟨rfl, rfl⟩
set_option maxHeartbeats 400000 in
theorem readerOf_score (w : World) : Calls Tryd.prog 43 #[.int .u8 3] w fun e w' => e = .returned (.func (.func 55) #[] #[]) ∧ w' = w := by
  go_enter Tryd.func43, Tryd.ntmps43
  go_wp2_with fail
  go_ret
  exact ⟨rfl, rfl⟩

/-- A reading that a call hands back. -/
def RgOnly (w : World) (q : Rg) (e : Ending) (w' : World) : Prop :=
  ∃ (A : Option Addr) (c : Nat) (Ad : Option Addr) (cd : Nat) (x : Rg), e = .returned (rgv A c Ad cd x) ∧ x = q ∧ Ow zv w' w.heap.size 3 A c x.bal.marks ∧ Ow zv w' w.heap.size 3 Ad cd x.doubts ∧ (∀ k, blk A = some k → blk Ad ≠ some k) ∧ Below w.heap.size w w'

theorem doubtsZ_any (l : Ly) (R : List Int) (g n : Nat) (s : Int) (w : World) (hu : Hb zv w g 88 R) (hR : R.length = n) (hn : n ≤ 1000000) :
    Calls Tryd.prog 44 #[ppv l g n s] w fun e w' => ∃ A c d, e = .returned (.slice A d.length c) ∧ d = (dbK R n).map (fun i => ((i : Nat) : Int)) ∧ Ow zv w' w.heap.size 3 A c d ∧ Below w.heap.size w w' := by
  refine (doubts_any l R g n s w hu hR hn).mono ?_
  rintro e w' ⟨A, c, r, rfl, hr, ho, hb⟩
  exact ⟨A, c, r.map fun i => ((i : Nat) : Int), by rw [List.length_map], by rw [hr], ow_nz ho, hb⟩
theorem rg_ret1 {fn : Func} {p : Tmp} (h : fn.results = #[.cell p 44]) {a : Act} {w : World} {g : Nat} {A : Option Addr} {c : Nat} {Ad : Option Addr} {cd : Nat} {x : Rg} {Q : Ending → World → Prop}
    (hp : a.tmps.getD p undef = .pointer (some ⟨g, 0, none⟩)) (hB : Blk w g 44 (rgs A c Ad cd x)) (hd : a.defers = []) (hQ : Q (.returned (rgv A c Ad cd x)) w) : bodyPost Tryd.prog fn Q .ret a w :=
  bodyPost_ret (results_cell_row h a.tmps w g _ _ _ _ hp hB Tryd.underlying44 rfl size_rg) hd hQ
/-- A store of a whole reading as one step of a region that draws. -/
theorem step_store_rg {ops : Array Oper} {o : Oper} {a : Act} {w : World} {K : Act → World → Prop} {Q : Exit → Act → World → Prop} {E : Prop}
    (hgd : o.guard = none) (y z : Operand) (ho : o.op = .store 44 y z) (g : Nat) (hx : a.eval y = .pointer (some ⟨g, 0, none⟩)) {old : Array Value} (hB : Blk w g 44 old) (hold : old.size = 4) (A : Option Addr) (c : Nat) (Ad : Option Addr) (cd : Nat) (x : Rg) (hy : a.eval z = rgv A c Ad cd x)
    (h : ∀ w', Blk w' g 44 (rgs A c Ad cd x) → w.grownBy w' (some g) → K (a.put o.dst undef) w') :
    if Region.wanted o (yielded ops a.tmps) = true then Oper.wp Tryd.prog o a w K Q else E := by
  have hw : Region.wanted o (yielded ops a.tmps) = true := by simp [Region.wanted, hgd]
  rw [if_pos hw]
  exact wp_store_row _ y z ho g (rgs A c Ad cd x) hx hy 44 old hB size_rg hold (by simp [rgs, Value.oneCell']) (h _ (setRow_heap w g _ _ _ _ hB) ⟨rfl, rfl, rfl, by simp, fun k _ hk => setRow_other w g k _ (fun e => hk (by rw [e]))⟩)

--READINGS
set_option maxRecDepth 100000 in
set_option maxHeartbeats 4000000 in
theorem reading_rank (l : Ly) (R : List Int) (g n : Nat) (s : Int) (w : World) (hu : Hb zv w g 88 R) (hR : R.length = n) (hn : n ≤ 1000000) (hk : l.kind = 1) (q : List Int × Int)
    (HRD : ∀ wx, Below w.heap.size w wx → Calls Tryd.prog 54 #[ppv l g n s] wx (IntsOver wx q)) :
    Calls Tryd.prog 26 #[ppv l g n s] w (RgOnly w ⟨⟨l.kind, q.1⟩, q.2, (dbK R n).map fun i => ((i : Nat) : Int)⟩) := by
  have hglt := hu.lt
  have HRO := Lib.hid (fun wx => readerOf_rank wx)
  have HRR := Lib.hid HRD
  have HDB := Lib.hid (fun wx (hb : Below w.heap.size w wx) => doubtsZ_any l R g n s wx (hu.below hb hglt) hR hn)
  obtain ⟨dz, hdz⟩ : ∃ dz, dz = (dbK R n).map fun i => ((i : Nat) : Int) := ⟨_, rfl⟩
  rw [← hdz] at HDB ⊢
  obtain ⟨K, M, C, Q⟩ := l
  simp only at hk
  subst hk
  obtain ⟨wA, hwA⟩ : ∃ wA, wA = (w.alloc (.cells (pps ⟨1, M, C, Q⟩ g n s) 69)).alloc (.cells #[.int .u8 0, .slice none 0 0, .int .i64 0, .slice none 0 0] 44) := ⟨_, rfl⟩
  have B0 := Lib.hid (show Below w.heap.size w wA from by rw [hwA]; exact (below_new w _).alloc (by simp) _)
  have HP0 := Lib.hid (show Blk wA w.heap.size 69 (pps ⟨1, M, C, Q⟩ g n s) from by rw [hwA]; exact (Blk.new w _ _).alloc _)
  have HG0 := Lib.hid (show Blk wA (w.heap.size + 1) 44 #[.int .u8 0, .slice none 0 0, .int .i64 0, .slice none 0 0] from by
    have h := Blk.new (w.alloc (.cells (pps ⟨1, M, C, Q⟩ g n s) 69)) 44 #[.int .u8 0, .slice none 0 0, .int .i64 0, .slice none 0 0]
    rw [World.size_alloc] at h
    rw [hwA]; exact h)
  clear hu hR HRD hdz
  unfold ppv at HRR HDB
  unfold pps at HRR HDB HP0 hwA
  unfold ppv pps
  simp only at HRR HDB HP0 hwA ⊢
  rw [show ((1 : Nat) : Int) = 1 from rfl] at HRR HDB HP0 hwA ⊢
  have HFA := Lib.hid (show ∀ wx, Below wA.heap.size wA wx → (wx.cell? ⟨w.heap.size, 0, none⟩ = some (.int .u8 1) ∧ wx.cell? ⟨w.heap.size, 1, none⟩ = some (.int .i64 M) ∧ wx.cell? ⟨w.heap.size, 2, none⟩ = some (.int .i64 (C : Nat)) ∧ wx.cell? ⟨w.heap.size, 3, none⟩ = some (.int .i64 (Q : Nat)) ∧ wx.cell? ⟨w.heap.size, 4, none⟩ = some (.slice (some ⟨g, 0, none⟩) n n) ∧ wx.cell? ⟨w.heap.size, 5, none⟩ = some (.int .i64 s)) from fun wx hb => by
    have h := HP0.out.below hb HP0.out.lt
    exact ⟨h.cell 0, h.cell 1, h.cell 2, h.cell 3, h.cell 4, h.cell 5⟩)
  have hF0 := HFA.out _ (Below.refl wA.heap.size wA).drew
  go_enter Tryd.func26, Tryd.ntmps26
  go_wp2_with fail
  rw [← hwA]
  clear hwA
  go_region_held3 (fun wx => (wx.cell? ⟨w.heap.size, 0, none⟩ = some (.int .u8 1) ∧ wx.cell? ⟨w.heap.size, 1, none⟩ = some (.int .i64 M) ∧ wx.cell? ⟨w.heap.size, 2, none⟩ = some (.int .i64 (C : Nat)) ∧ wx.cell? ⟨w.heap.size, 3, none⟩ = some (.int .i64 (Q : Nat)) ∧ wx.cell? ⟨w.heap.size, 4, none⟩ = some (.slice (some ⟨g, 0, none⟩) n n) ∧ wx.cell? ⟨w.heap.size, 5, none⟩ = some (.int .i64 s))) (first | exact hF0 | exact hF2) (first
    | (go_simp; go_at_call 43; refine (HRO.out _).mono ?_; rintro e w2 ⟨rfl, hw2⟩; obtain rfl := hw2.symm)
    | (go_simp; go_at_call 54; refine (HRR.out _ B0.out.drew).mono ?_; rintro e w3 ⟨A, c, r, ov, rfl, hq, ho, hb⟩; have BB := Lib.hid ((Below.refl wA.heap.size wA).drew.trans hb); have hF2 := HFA.out _ BB.out; have HQ := Lib.hid hq; have HO := Lib.hid ho; clear hq ho hb))
  clear hF0
  try clear hF2
  have hF3 := HFA.out _ BB.out
  go_wp2_with fail
  have B3 := Lib.hid (B0.out.trans (BB.out.mono B0.out.size))
  refine wp_region_held_drew (S := fun wx => (wx.cell? ⟨w.heap.size, 0, none⟩ = some (.int .u8 1) ∧ wx.cell? ⟨w.heap.size, 1, none⟩ = some (.int .i64 M) ∧ wx.cell? ⟨w.heap.size, 2, none⟩ = some (.int .i64 (C : Nat)) ∧ wx.cell? ⟨w.heap.size, 3, none⟩ = some (.int .i64 (Q : Nat)) ∧ wx.cell? ⟨w.heap.size, 4, none⟩ = some (.slice (some ⟨g, 0, none⟩) n n) ∧ wx.cell? ⟨w.heap.size, 5, none⟩ = some (.int .i64 s))) (by kernel_rfl) (HFA.out _ BB.out.drew) ?_
  intro hHeld
  try simp only [Act.put, List.setIfInBounds_toArray, List.set_cons_zero, List.set_cons_succ]
  refine wpAnyH_take (i := 0) (oi := { dst := some 14, op := Op.fieldAddr 69 (Operand.tmp 1) 0, type := 0, pos := "paper.go:36", after := #[], guard := none }) (v := ?v0) rfl (by kernel_rfl) (by kernel_rfl) (by kernel_rfl) (fun _ _ _ h => h) (Or.inl ⟨by rfl, ?y0⟩) hHeld ?r0
  case y0 => intro wq hSw; skip; go_simp; try (with_reducible rfl)
  try simp only [Act.put, List.setIfInBounds_toArray, List.set_cons_zero, List.set_cons_succ]
  refine wpAnyH_take (i := 1) (oi := { dst := some 15, op := Op.fieldAddr 57 (Operand.tmp 14) 0, type := 0, pos := "paper.go:36", after := #[{ on := 0, ground := Ground.data }], guard := none }) (v := ?v1) rfl (by kernel_rfl) (by kernel_rfl) (by kernel_rfl) (fun _ _ _ h => h) (Or.inl ⟨by rfl, ?y1⟩) hHeld ?r1
  case y1 => intro wq hSw; skip; go_simp; try (with_reducible rfl)
  try simp only [Act.put, List.setIfInBounds_toArray, List.set_cons_zero, List.set_cons_succ]
  refine wpAnyH_take (i := 2) (oi := { dst := some 16, op := Op.load 5 (Operand.tmp 15), type := 5, pos := "paper.go:36", after := #[{ on := 1, ground := Ground.data }], guard := none }) (v := ?v2) rfl (by kernel_rfl) (by kernel_rfl) (by kernel_rfl) (fun _ _ _ h => h) (Or.inl ⟨by rfl, ?y2⟩) hHeld ?r2
  case y2 => intro wq hSw; obtain ⟨f0, f1, f2, f3, f4, f5⟩ := hSw; go_simp; try (with_reducible rfl)
  try simp only [Act.put, List.setIfInBounds_toArray, List.set_cons_zero, List.set_cons_succ]
  refine wpAnyH_take (i := 3) (oi := { dst := some 17, op := Op.move (Operand.tmp 3), type := 40, pos := "paper.go:36", after := #[], guard := none }) (v := ?v3) rfl (by kernel_rfl) (by kernel_rfl) (by kernel_rfl) (fun _ _ _ h => h) (Or.inl ⟨by rfl, ?y3⟩) hHeld ?r3
  case y3 => intro wq hSw; skip; go_simp; try (with_reducible rfl)
  try simp only [Act.put, List.setIfInBounds_toArray, List.set_cons_zero, List.set_cons_succ]
  refine wpAnyH_take (i := 4) (oi := { dst := some 18, op := Op.build 42 #[(0, Operand.tmp 16), (1, Operand.tmp 17)], type := 42, pos := "paper.go:36", after := #[{ on := 2, ground := Ground.data }, { on := 3, ground := Ground.data }], guard := none }) (v := ?v4) rfl (by kernel_rfl) (by kernel_rfl) (by kernel_rfl) (fun _ _ _ h => h) (Or.inl ⟨by rfl, ?y4⟩) hHeld ?r4
  case y4 => intro wq hSw; skip; go_simp; try (with_reducible rfl)
  try simp only [Act.put, List.setIfInBounds_toArray, List.set_cons_zero, List.set_cons_succ]
  refine wpAnyH_take (i := 5) (oi := { dst := some 19, op := Op.move (Operand.tmp 4), type := 3, pos := "paper.go:36", after := #[], guard := none }) (v := ?v5) rfl (by kernel_rfl) (by kernel_rfl) (by kernel_rfl) (fun _ _ _ h => h) (Or.inl ⟨by rfl, ?y5⟩) hHeld ?r5
  case y5 => intro wq hSw; skip; go_simp; try (with_reducible rfl)
  try simp only [Act.put, List.setIfInBounds_toArray, List.set_cons_zero, List.set_cons_succ]
  refine wpAnyH_take (i := 6) (oi := { dst := some 20, op := Op.load 69 (Operand.tmp 1), type := 69, pos := "paper.go:36", after := #[], guard := none }) (v := ?v6) rfl (by kernel_rfl) (by kernel_rfl) (by kernel_rfl) (fun _ _ _ h => h) (Or.inl ⟨by rfl, ?y6⟩) hHeld ?r6
  case y6 => intro wq hSw; obtain ⟨f0, f1, f2, f3, f4, f5⟩ := hSw; go_simp; try (with_reducible rfl)
  try simp only [Act.put, List.setIfInBounds_toArray, List.set_cons_zero, List.set_cons_succ]
  refine wpAnyH_ready (rs := [7]) (by kernel_rfl) (by simp) ?_
  refine AllReadyH.cons (o := { dst := some 21, op := Op.call { callee := Callee.value (Operand.func 44), args := #[Operand.tmp 20], argTypes := #[69] }, type := 40, pos := "paper.go:36", after := #[{ on := 6, ground := Ground.data }], guard := none }) rfl (fun K hK => ?_) AllReadyH.nil
  go_simp
  go_at_call 44
  refine (HDB.out _ B3.out.drew).mono ?_
  rintro e w4 ⟨Ad, cd, d, rfl, hd, hod, hb4⟩
  have HD := Lib.hid hd
  have HOD := Lib.hid hod
  have HB4 := Lib.hid (show Below w3.heap.size w3 w4 from (Below.refl w3.heap.size w3).drew.trans hb4)
  have HS4 := Lib.hid (HFA.out _ (BB.out.trans (HB4.out.mono BB.out.size)))
  clear hd hod hb4
  try go_simp
  refine hK.out _ _ HS4.out (fun hHeld => ?_)
  clear hK K
  try simp only [Act.put, List.setIfInBounds_toArray, List.set_cons_zero, List.set_cons_succ]
  refine wpAnyH_take (i := 8) (oi := { dst := some 22, op := Op.build 44 #[(0, Operand.tmp 18), (1, Operand.tmp 19), (2, Operand.tmp 21)], type := 44, pos := "paper.go:36", after := #[{ on := 4, ground := Ground.data }, { on := 5, ground := Ground.data }, { on := 7, ground := Ground.data }], guard := none }) (v := ?v8) rfl (by kernel_rfl) (by kernel_rfl) (by kernel_rfl) (fun _ _ _ h => h) (Or.inl ⟨by rfl, ?y8⟩) hHeld ?r8
  case y8 => intro wq hSw; skip; go_simp; try (with_reducible rfl)
  try simp only [Act.put, List.setIfInBounds_toArray, List.set_cons_zero, List.set_cons_succ]
  have HP4 := Lib.hid (HP0.out.below (BB.out.trans (HB4.out.mono BB.out.size)) HP0.out.lt)
  have HG4 := Lib.hid (HG0.out.below (BB.out.trans (HB4.out.mono BB.out.size)) HG0.out.lt)
  refine wpAnyH_ready (rs := [9]) (by kernel_rfl) (by simp) ?_
  refine AllReadyH.cons (o := { dst := none, op := Op.store 44 (Operand.tmp 2) (Operand.tmp 22), type := 0, pos := "paper.go:36", after := #[{ on := 8, ground := Ground.data }, { on := 7, ground := Ground.chain }, { on := 0, ground := Ground.phase }, { on := 1, ground := Ground.phase }, { on := 2, ground := Ground.phase }, { on := 3, ground := Ground.phase }, { on := 4, ground := Ground.phase }, { on := 5, ground := Ground.phase }, { on := 6, ground := Ground.phase }, { on := 7, ground := Ground.phase }, { on := 8, ground := Ground.phase }], guard := none }) rfl (fun K hK => ?_) AllReadyH.nil
  refine step_store_rg rfl (.tmp 2) (.tmp 22) rfl (w.heap.size + 1) rfl HG4.out rfl A c Ad cd ⟨⟨1, r⟩, ov, d⟩ rfl ?_
  intro w5 hb5 hg5
  have HB5 := Lib.hid hb5
  have HG5 := Lib.hid hg5
  have HS5 := Lib.hid (show (w5.cell? ⟨w.heap.size, 0, none⟩ = some (.int .u8 1) ∧ w5.cell? ⟨w.heap.size, 1, none⟩ = some (.int .i64 M) ∧ w5.cell? ⟨w.heap.size, 2, none⟩ = some (.int .i64 (C : Nat)) ∧ w5.cell? ⟨w.heap.size, 3, none⟩ = some (.int .i64 (Q : Nat)) ∧ w5.cell? ⟨w.heap.size, 4, none⟩ = some (.slice (some ⟨g, 0, none⟩) n n) ∧ w5.cell? ⟨w.heap.size, 5, none⟩ = some (.int .i64 s)) from by have h := HP4.out.grown hg5 (by simp); exact ⟨h.cell 0, h.cell 1, h.cell 2, h.cell 3, h.cell 4, h.cell 5⟩)
  clear hb5 hg5
  refine hK.out _ _ HS5.out (fun hHeld => ?_)
  clear hK K
  try simp only [Act.put, List.setIfInBounds_toArray, List.set_cons_zero, List.set_cons_succ]
  refine wpAnyH_done (by kernel_rfl) ?_ _
  go_wp2_with fail
  have hA3 : ∀ k, blk A = some k → w.heap.size + 2 ≤ k ∧ k < w3.heap.size := fun k e => by have := HO.out.blk_ge k e; have h0 := HG0.out.lt; simp at this; omega
  have hA4 : ∀ k, blk Ad = some k → w3.heap.size ≤ k := fun k e => by have := (HOD.out.blk_ge k e).1; simpa using this
  have h3z : w.heap.size + 2 ≤ w3.heap.size := by have h0 := HG0.out.lt; have := BB.out.size; omega
  have ap : ∀ (a : Option Addr), (∀ k, blk a = some k → w.heap.size + 2 ≤ k) → blk a = none ∨ blk a ≠ some (w.heap.size + 1) := fun a ha => by
    cases e : blk a with
    | none => exact .inl rfl
    | some k => exact .inr (fun e2 => by have := ha k e; have := Option.some.inj e2; omega)
  have hO5 := (HO.out.below (Nat.le_refl _) HB4.out).kept HG5.out (ap A (fun k e => (hA3 k e).1))
  have hD5 := HOD.out.kept HG5.out (ap Ad (fun k e => by have := hA4 k e; omega))
  have hQ := HQ.out
  refine rg_ret1 (g := w.heap.size + 1) rfl rfl HB5.out rfl ⟨A, c, Ad, cd, ⟨⟨1, r⟩, ov, d⟩, rfl, ?_, hO5.lower (by simp; exact B0.out.size), hD5.lower (by simp; omega), (fun k e1 e2 => by have := (hA3 k e1).2; have := hA4 k e2; omega), ?_⟩
  · rw [← hQ, HD.out]
  · exact (B3.out.trans (HB4.out.mono B3.out.size)).grown HG5.out (Nat.le_trans B3.out.size HB4.out.size) (fun k e => by cases e; omega)
set_option maxRecDepth 100000 in
set_option maxHeartbeats 4000000 in
theorem reading_mark (l : Ly) (R : List Int) (g n : Nat) (s : Int) (w : World) (hu : Hb zv w g 88 R) (hR : R.length = n) (hn : n ≤ 1000000) (hk : l.kind = 2) (q : List Int × Int)
    (HRD : ∀ wx, Below w.heap.size w wx → Calls Tryd.prog 56 #[ppv l g n s] wx (IntsOver wx q)) :
    Calls Tryd.prog 26 #[ppv l g n s] w (RgOnly w ⟨⟨l.kind, q.1⟩, q.2, (dbK R n).map fun i => ((i : Nat) : Int)⟩) := by
  have hglt := hu.lt
  have HRO := Lib.hid (fun wx => readerOf_mark wx)
  have HRR := Lib.hid HRD
  have HDB := Lib.hid (fun wx (hb : Below w.heap.size w wx) => doubtsZ_any l R g n s wx (hu.below hb hglt) hR hn)
  obtain ⟨dz, hdz⟩ : ∃ dz, dz = (dbK R n).map fun i => ((i : Nat) : Int) := ⟨_, rfl⟩
  rw [← hdz] at HDB ⊢
  obtain ⟨K, M, C, Q⟩ := l
  simp only at hk
  subst hk
  obtain ⟨wA, hwA⟩ : ∃ wA, wA = (w.alloc (.cells (pps ⟨2, M, C, Q⟩ g n s) 69)).alloc (.cells #[.int .u8 0, .slice none 0 0, .int .i64 0, .slice none 0 0] 44) := ⟨_, rfl⟩
  have B0 := Lib.hid (show Below w.heap.size w wA from by rw [hwA]; exact (below_new w _).alloc (by simp) _)
  have HP0 := Lib.hid (show Blk wA w.heap.size 69 (pps ⟨2, M, C, Q⟩ g n s) from by rw [hwA]; exact (Blk.new w _ _).alloc _)
  have HG0 := Lib.hid (show Blk wA (w.heap.size + 1) 44 #[.int .u8 0, .slice none 0 0, .int .i64 0, .slice none 0 0] from by
    have h := Blk.new (w.alloc (.cells (pps ⟨2, M, C, Q⟩ g n s) 69)) 44 #[.int .u8 0, .slice none 0 0, .int .i64 0, .slice none 0 0]
    rw [World.size_alloc] at h
    rw [hwA]; exact h)
  clear hu hR HRD hdz
  unfold ppv at HRR HDB
  unfold pps at HRR HDB HP0 hwA
  unfold ppv pps
  simp only at HRR HDB HP0 hwA ⊢
  rw [show ((2 : Nat) : Int) = 2 from rfl] at HRR HDB HP0 hwA ⊢
  have HFA := Lib.hid (show ∀ wx, Below wA.heap.size wA wx → (wx.cell? ⟨w.heap.size, 0, none⟩ = some (.int .u8 2) ∧ wx.cell? ⟨w.heap.size, 1, none⟩ = some (.int .i64 M) ∧ wx.cell? ⟨w.heap.size, 2, none⟩ = some (.int .i64 (C : Nat)) ∧ wx.cell? ⟨w.heap.size, 3, none⟩ = some (.int .i64 (Q : Nat)) ∧ wx.cell? ⟨w.heap.size, 4, none⟩ = some (.slice (some ⟨g, 0, none⟩) n n) ∧ wx.cell? ⟨w.heap.size, 5, none⟩ = some (.int .i64 s)) from fun wx hb => by
    have h := HP0.out.below hb HP0.out.lt
    exact ⟨h.cell 0, h.cell 1, h.cell 2, h.cell 3, h.cell 4, h.cell 5⟩)
  have hF0 := HFA.out _ (Below.refl wA.heap.size wA).drew
  go_enter Tryd.func26, Tryd.ntmps26
  go_wp2_with fail
  rw [← hwA]
  clear hwA
  go_region_held3 (fun wx => (wx.cell? ⟨w.heap.size, 0, none⟩ = some (.int .u8 2) ∧ wx.cell? ⟨w.heap.size, 1, none⟩ = some (.int .i64 M) ∧ wx.cell? ⟨w.heap.size, 2, none⟩ = some (.int .i64 (C : Nat)) ∧ wx.cell? ⟨w.heap.size, 3, none⟩ = some (.int .i64 (Q : Nat)) ∧ wx.cell? ⟨w.heap.size, 4, none⟩ = some (.slice (some ⟨g, 0, none⟩) n n) ∧ wx.cell? ⟨w.heap.size, 5, none⟩ = some (.int .i64 s))) (first | exact hF0 | exact hF2) (first
    | (go_simp; go_at_call 43; refine (HRO.out _).mono ?_; rintro e w2 ⟨rfl, hw2⟩; obtain rfl := hw2.symm)
    | (go_simp; go_at_call 56; refine (HRR.out _ B0.out.drew).mono ?_; rintro e w3 ⟨A, c, r, ov, rfl, hq, ho, hb⟩; have BB := Lib.hid ((Below.refl wA.heap.size wA).drew.trans hb); have hF2 := HFA.out _ BB.out; have HQ := Lib.hid hq; have HO := Lib.hid ho; clear hq ho hb))
  clear hF0
  try clear hF2
  have hF3 := HFA.out _ BB.out
  go_wp2_with fail
  have B3 := Lib.hid (B0.out.trans (BB.out.mono B0.out.size))
  refine wp_region_held_drew (S := fun wx => (wx.cell? ⟨w.heap.size, 0, none⟩ = some (.int .u8 2) ∧ wx.cell? ⟨w.heap.size, 1, none⟩ = some (.int .i64 M) ∧ wx.cell? ⟨w.heap.size, 2, none⟩ = some (.int .i64 (C : Nat)) ∧ wx.cell? ⟨w.heap.size, 3, none⟩ = some (.int .i64 (Q : Nat)) ∧ wx.cell? ⟨w.heap.size, 4, none⟩ = some (.slice (some ⟨g, 0, none⟩) n n) ∧ wx.cell? ⟨w.heap.size, 5, none⟩ = some (.int .i64 s))) (by kernel_rfl) (HFA.out _ BB.out.drew) ?_
  intro hHeld
  try simp only [Act.put, List.setIfInBounds_toArray, List.set_cons_zero, List.set_cons_succ]
  refine wpAnyH_take (i := 0) (oi := { dst := some 14, op := Op.fieldAddr 69 (Operand.tmp 1) 0, type := 0, pos := "paper.go:36", after := #[], guard := none }) (v := ?v0) rfl (by kernel_rfl) (by kernel_rfl) (by kernel_rfl) (fun _ _ _ h => h) (Or.inl ⟨by rfl, ?y0⟩) hHeld ?r0
  case y0 => intro wq hSw; skip; go_simp; try (with_reducible rfl)
  try simp only [Act.put, List.setIfInBounds_toArray, List.set_cons_zero, List.set_cons_succ]
  refine wpAnyH_take (i := 1) (oi := { dst := some 15, op := Op.fieldAddr 57 (Operand.tmp 14) 0, type := 0, pos := "paper.go:36", after := #[{ on := 0, ground := Ground.data }], guard := none }) (v := ?v1) rfl (by kernel_rfl) (by kernel_rfl) (by kernel_rfl) (fun _ _ _ h => h) (Or.inl ⟨by rfl, ?y1⟩) hHeld ?r1
  case y1 => intro wq hSw; skip; go_simp; try (with_reducible rfl)
  try simp only [Act.put, List.setIfInBounds_toArray, List.set_cons_zero, List.set_cons_succ]
  refine wpAnyH_take (i := 2) (oi := { dst := some 16, op := Op.load 5 (Operand.tmp 15), type := 5, pos := "paper.go:36", after := #[{ on := 1, ground := Ground.data }], guard := none }) (v := ?v2) rfl (by kernel_rfl) (by kernel_rfl) (by kernel_rfl) (fun _ _ _ h => h) (Or.inl ⟨by rfl, ?y2⟩) hHeld ?r2
  case y2 => intro wq hSw; obtain ⟨f0, f1, f2, f3, f4, f5⟩ := hSw; go_simp; try (with_reducible rfl)
  try simp only [Act.put, List.setIfInBounds_toArray, List.set_cons_zero, List.set_cons_succ]
  refine wpAnyH_take (i := 3) (oi := { dst := some 17, op := Op.move (Operand.tmp 3), type := 40, pos := "paper.go:36", after := #[], guard := none }) (v := ?v3) rfl (by kernel_rfl) (by kernel_rfl) (by kernel_rfl) (fun _ _ _ h => h) (Or.inl ⟨by rfl, ?y3⟩) hHeld ?r3
  case y3 => intro wq hSw; skip; go_simp; try (with_reducible rfl)
  try simp only [Act.put, List.setIfInBounds_toArray, List.set_cons_zero, List.set_cons_succ]
  refine wpAnyH_take (i := 4) (oi := { dst := some 18, op := Op.build 42 #[(0, Operand.tmp 16), (1, Operand.tmp 17)], type := 42, pos := "paper.go:36", after := #[{ on := 2, ground := Ground.data }, { on := 3, ground := Ground.data }], guard := none }) (v := ?v4) rfl (by kernel_rfl) (by kernel_rfl) (by kernel_rfl) (fun _ _ _ h => h) (Or.inl ⟨by rfl, ?y4⟩) hHeld ?r4
  case y4 => intro wq hSw; skip; go_simp; try (with_reducible rfl)
  try simp only [Act.put, List.setIfInBounds_toArray, List.set_cons_zero, List.set_cons_succ]
  refine wpAnyH_take (i := 5) (oi := { dst := some 19, op := Op.move (Operand.tmp 4), type := 3, pos := "paper.go:36", after := #[], guard := none }) (v := ?v5) rfl (by kernel_rfl) (by kernel_rfl) (by kernel_rfl) (fun _ _ _ h => h) (Or.inl ⟨by rfl, ?y5⟩) hHeld ?r5
  case y5 => intro wq hSw; skip; go_simp; try (with_reducible rfl)
  try simp only [Act.put, List.setIfInBounds_toArray, List.set_cons_zero, List.set_cons_succ]
  refine wpAnyH_take (i := 6) (oi := { dst := some 20, op := Op.load 69 (Operand.tmp 1), type := 69, pos := "paper.go:36", after := #[], guard := none }) (v := ?v6) rfl (by kernel_rfl) (by kernel_rfl) (by kernel_rfl) (fun _ _ _ h => h) (Or.inl ⟨by rfl, ?y6⟩) hHeld ?r6
  case y6 => intro wq hSw; obtain ⟨f0, f1, f2, f3, f4, f5⟩ := hSw; go_simp; try (with_reducible rfl)
  try simp only [Act.put, List.setIfInBounds_toArray, List.set_cons_zero, List.set_cons_succ]
  refine wpAnyH_ready (rs := [7]) (by kernel_rfl) (by simp) ?_
  refine AllReadyH.cons (o := { dst := some 21, op := Op.call { callee := Callee.value (Operand.func 44), args := #[Operand.tmp 20], argTypes := #[69] }, type := 40, pos := "paper.go:36", after := #[{ on := 6, ground := Ground.data }], guard := none }) rfl (fun K hK => ?_) AllReadyH.nil
  go_simp
  go_at_call 44
  refine (HDB.out _ B3.out.drew).mono ?_
  rintro e w4 ⟨Ad, cd, d, rfl, hd, hod, hb4⟩
  have HD := Lib.hid hd
  have HOD := Lib.hid hod
  have HB4 := Lib.hid (show Below w3.heap.size w3 w4 from (Below.refl w3.heap.size w3).drew.trans hb4)
  have HS4 := Lib.hid (HFA.out _ (BB.out.trans (HB4.out.mono BB.out.size)))
  clear hd hod hb4
  try go_simp
  refine hK.out _ _ HS4.out (fun hHeld => ?_)
  clear hK K
  try simp only [Act.put, List.setIfInBounds_toArray, List.set_cons_zero, List.set_cons_succ]
  refine wpAnyH_take (i := 8) (oi := { dst := some 22, op := Op.build 44 #[(0, Operand.tmp 18), (1, Operand.tmp 19), (2, Operand.tmp 21)], type := 44, pos := "paper.go:36", after := #[{ on := 4, ground := Ground.data }, { on := 5, ground := Ground.data }, { on := 7, ground := Ground.data }], guard := none }) (v := ?v8) rfl (by kernel_rfl) (by kernel_rfl) (by kernel_rfl) (fun _ _ _ h => h) (Or.inl ⟨by rfl, ?y8⟩) hHeld ?r8
  case y8 => intro wq hSw; skip; go_simp; try (with_reducible rfl)
  try simp only [Act.put, List.setIfInBounds_toArray, List.set_cons_zero, List.set_cons_succ]
  have HP4 := Lib.hid (HP0.out.below (BB.out.trans (HB4.out.mono BB.out.size)) HP0.out.lt)
  have HG4 := Lib.hid (HG0.out.below (BB.out.trans (HB4.out.mono BB.out.size)) HG0.out.lt)
  refine wpAnyH_ready (rs := [9]) (by kernel_rfl) (by simp) ?_
  refine AllReadyH.cons (o := { dst := none, op := Op.store 44 (Operand.tmp 2) (Operand.tmp 22), type := 0, pos := "paper.go:36", after := #[{ on := 8, ground := Ground.data }, { on := 7, ground := Ground.chain }, { on := 0, ground := Ground.phase }, { on := 1, ground := Ground.phase }, { on := 2, ground := Ground.phase }, { on := 3, ground := Ground.phase }, { on := 4, ground := Ground.phase }, { on := 5, ground := Ground.phase }, { on := 6, ground := Ground.phase }, { on := 7, ground := Ground.phase }, { on := 8, ground := Ground.phase }], guard := none }) rfl (fun K hK => ?_) AllReadyH.nil
  refine step_store_rg rfl (.tmp 2) (.tmp 22) rfl (w.heap.size + 1) rfl HG4.out rfl A c Ad cd ⟨⟨2, r⟩, ov, d⟩ rfl ?_
  intro w5 hb5 hg5
  have HB5 := Lib.hid hb5
  have HG5 := Lib.hid hg5
  have HS5 := Lib.hid (show (w5.cell? ⟨w.heap.size, 0, none⟩ = some (.int .u8 2) ∧ w5.cell? ⟨w.heap.size, 1, none⟩ = some (.int .i64 M) ∧ w5.cell? ⟨w.heap.size, 2, none⟩ = some (.int .i64 (C : Nat)) ∧ w5.cell? ⟨w.heap.size, 3, none⟩ = some (.int .i64 (Q : Nat)) ∧ w5.cell? ⟨w.heap.size, 4, none⟩ = some (.slice (some ⟨g, 0, none⟩) n n) ∧ w5.cell? ⟨w.heap.size, 5, none⟩ = some (.int .i64 s)) from by have h := HP4.out.grown hg5 (by simp); exact ⟨h.cell 0, h.cell 1, h.cell 2, h.cell 3, h.cell 4, h.cell 5⟩)
  clear hb5 hg5
  refine hK.out _ _ HS5.out (fun hHeld => ?_)
  clear hK K
  try simp only [Act.put, List.setIfInBounds_toArray, List.set_cons_zero, List.set_cons_succ]
  refine wpAnyH_done (by kernel_rfl) ?_ _
  go_wp2_with fail
  have hA3 : ∀ k, blk A = some k → w.heap.size + 2 ≤ k ∧ k < w3.heap.size := fun k e => by have := HO.out.blk_ge k e; have h0 := HG0.out.lt; simp at this; omega
  have hA4 : ∀ k, blk Ad = some k → w3.heap.size ≤ k := fun k e => by have := (HOD.out.blk_ge k e).1; simpa using this
  have h3z : w.heap.size + 2 ≤ w3.heap.size := by have h0 := HG0.out.lt; have := BB.out.size; omega
  have ap : ∀ (a : Option Addr), (∀ k, blk a = some k → w.heap.size + 2 ≤ k) → blk a = none ∨ blk a ≠ some (w.heap.size + 1) := fun a ha => by
    cases e : blk a with
    | none => exact .inl rfl
    | some k => exact .inr (fun e2 => by have := ha k e; have := Option.some.inj e2; omega)
  have hO5 := (HO.out.below (Nat.le_refl _) HB4.out).kept HG5.out (ap A (fun k e => (hA3 k e).1))
  have hD5 := HOD.out.kept HG5.out (ap Ad (fun k e => by have := hA4 k e; omega))
  have hQ := HQ.out
  refine rg_ret1 (g := w.heap.size + 1) rfl rfl HB5.out rfl ⟨A, c, Ad, cd, ⟨⟨2, r⟩, ov, d⟩, rfl, ?_, hO5.lower (by simp; exact B0.out.size), hD5.lower (by simp; omega), (fun k e1 e2 => by have := (hA3 k e1).2; have := hA4 k e2; omega), ?_⟩
  · rw [← hQ, HD.out]
  · exact (B3.out.trans (HB4.out.mono B3.out.size)).grown HG5.out (Nat.le_trans B3.out.size HB4.out.size) (fun k e => by cases e; omega)
set_option maxRecDepth 100000 in
set_option maxHeartbeats 4000000 in
theorem reading_score (l : Ly) (R : List Int) (g n : Nat) (s : Int) (w : World) (hu : Hb zv w g 88 R) (hR : R.length = n) (hn : n ≤ 1000000) (hk : l.kind = 3) (q : List Int × Int)
    (HRD : ∀ wx, Below w.heap.size w wx → Calls Tryd.prog 55 #[ppv l g n s] wx (IntsOver wx q)) :
    Calls Tryd.prog 26 #[ppv l g n s] w (RgOnly w ⟨⟨l.kind, q.1⟩, q.2, (dbK R n).map fun i => ((i : Nat) : Int)⟩) := by
  have hglt := hu.lt
  have HRO := Lib.hid (fun wx => readerOf_score wx)
  have HRR := Lib.hid HRD
  have HDB := Lib.hid (fun wx (hb : Below w.heap.size w wx) => doubtsZ_any l R g n s wx (hu.below hb hglt) hR hn)
  obtain ⟨dz, hdz⟩ : ∃ dz, dz = (dbK R n).map fun i => ((i : Nat) : Int) := ⟨_, rfl⟩
  rw [← hdz] at HDB ⊢
  obtain ⟨K, M, C, Q⟩ := l
  simp only at hk
  subst hk
  obtain ⟨wA, hwA⟩ : ∃ wA, wA = (w.alloc (.cells (pps ⟨3, M, C, Q⟩ g n s) 69)).alloc (.cells #[.int .u8 0, .slice none 0 0, .int .i64 0, .slice none 0 0] 44) := ⟨_, rfl⟩
  have B0 := Lib.hid (show Below w.heap.size w wA from by rw [hwA]; exact (below_new w _).alloc (by simp) _)
  have HP0 := Lib.hid (show Blk wA w.heap.size 69 (pps ⟨3, M, C, Q⟩ g n s) from by rw [hwA]; exact (Blk.new w _ _).alloc _)
  have HG0 := Lib.hid (show Blk wA (w.heap.size + 1) 44 #[.int .u8 0, .slice none 0 0, .int .i64 0, .slice none 0 0] from by
    have h := Blk.new (w.alloc (.cells (pps ⟨3, M, C, Q⟩ g n s) 69)) 44 #[.int .u8 0, .slice none 0 0, .int .i64 0, .slice none 0 0]
    rw [World.size_alloc] at h
    rw [hwA]; exact h)
  clear hu hR HRD hdz
  unfold ppv at HRR HDB
  unfold pps at HRR HDB HP0 hwA
  unfold ppv pps
  simp only at HRR HDB HP0 hwA ⊢
  rw [show ((3 : Nat) : Int) = 3 from rfl] at HRR HDB HP0 hwA ⊢
  have HFA := Lib.hid (show ∀ wx, Below wA.heap.size wA wx → (wx.cell? ⟨w.heap.size, 0, none⟩ = some (.int .u8 3) ∧ wx.cell? ⟨w.heap.size, 1, none⟩ = some (.int .i64 M) ∧ wx.cell? ⟨w.heap.size, 2, none⟩ = some (.int .i64 (C : Nat)) ∧ wx.cell? ⟨w.heap.size, 3, none⟩ = some (.int .i64 (Q : Nat)) ∧ wx.cell? ⟨w.heap.size, 4, none⟩ = some (.slice (some ⟨g, 0, none⟩) n n) ∧ wx.cell? ⟨w.heap.size, 5, none⟩ = some (.int .i64 s)) from fun wx hb => by
    have h := HP0.out.below hb HP0.out.lt
    exact ⟨h.cell 0, h.cell 1, h.cell 2, h.cell 3, h.cell 4, h.cell 5⟩)
  have hF0 := HFA.out _ (Below.refl wA.heap.size wA).drew
  go_enter Tryd.func26, Tryd.ntmps26
  go_wp2_with fail
  rw [← hwA]
  clear hwA
  go_region_held3 (fun wx => (wx.cell? ⟨w.heap.size, 0, none⟩ = some (.int .u8 3) ∧ wx.cell? ⟨w.heap.size, 1, none⟩ = some (.int .i64 M) ∧ wx.cell? ⟨w.heap.size, 2, none⟩ = some (.int .i64 (C : Nat)) ∧ wx.cell? ⟨w.heap.size, 3, none⟩ = some (.int .i64 (Q : Nat)) ∧ wx.cell? ⟨w.heap.size, 4, none⟩ = some (.slice (some ⟨g, 0, none⟩) n n) ∧ wx.cell? ⟨w.heap.size, 5, none⟩ = some (.int .i64 s))) (first | exact hF0 | exact hF2) (first
    | (go_simp; go_at_call 43; refine (HRO.out _).mono ?_; rintro e w2 ⟨rfl, hw2⟩; obtain rfl := hw2.symm)
    | (go_simp; go_at_call 55; refine (HRR.out _ B0.out.drew).mono ?_; rintro e w3 ⟨A, c, r, ov, rfl, hq, ho, hb⟩; have BB := Lib.hid ((Below.refl wA.heap.size wA).drew.trans hb); have hF2 := HFA.out _ BB.out; have HQ := Lib.hid hq; have HO := Lib.hid ho; clear hq ho hb))
  clear hF0
  try clear hF2
  have hF3 := HFA.out _ BB.out
  go_wp2_with fail
  have B3 := Lib.hid (B0.out.trans (BB.out.mono B0.out.size))
  refine wp_region_held_drew (S := fun wx => (wx.cell? ⟨w.heap.size, 0, none⟩ = some (.int .u8 3) ∧ wx.cell? ⟨w.heap.size, 1, none⟩ = some (.int .i64 M) ∧ wx.cell? ⟨w.heap.size, 2, none⟩ = some (.int .i64 (C : Nat)) ∧ wx.cell? ⟨w.heap.size, 3, none⟩ = some (.int .i64 (Q : Nat)) ∧ wx.cell? ⟨w.heap.size, 4, none⟩ = some (.slice (some ⟨g, 0, none⟩) n n) ∧ wx.cell? ⟨w.heap.size, 5, none⟩ = some (.int .i64 s))) (by kernel_rfl) (HFA.out _ BB.out.drew) ?_
  intro hHeld
  try simp only [Act.put, List.setIfInBounds_toArray, List.set_cons_zero, List.set_cons_succ]
  refine wpAnyH_take (i := 0) (oi := { dst := some 14, op := Op.fieldAddr 69 (Operand.tmp 1) 0, type := 0, pos := "paper.go:36", after := #[], guard := none }) (v := ?v0) rfl (by kernel_rfl) (by kernel_rfl) (by kernel_rfl) (fun _ _ _ h => h) (Or.inl ⟨by rfl, ?y0⟩) hHeld ?r0
  case y0 => intro wq hSw; skip; go_simp; try (with_reducible rfl)
  try simp only [Act.put, List.setIfInBounds_toArray, List.set_cons_zero, List.set_cons_succ]
  refine wpAnyH_take (i := 1) (oi := { dst := some 15, op := Op.fieldAddr 57 (Operand.tmp 14) 0, type := 0, pos := "paper.go:36", after := #[{ on := 0, ground := Ground.data }], guard := none }) (v := ?v1) rfl (by kernel_rfl) (by kernel_rfl) (by kernel_rfl) (fun _ _ _ h => h) (Or.inl ⟨by rfl, ?y1⟩) hHeld ?r1
  case y1 => intro wq hSw; skip; go_simp; try (with_reducible rfl)
  try simp only [Act.put, List.setIfInBounds_toArray, List.set_cons_zero, List.set_cons_succ]
  refine wpAnyH_take (i := 2) (oi := { dst := some 16, op := Op.load 5 (Operand.tmp 15), type := 5, pos := "paper.go:36", after := #[{ on := 1, ground := Ground.data }], guard := none }) (v := ?v2) rfl (by kernel_rfl) (by kernel_rfl) (by kernel_rfl) (fun _ _ _ h => h) (Or.inl ⟨by rfl, ?y2⟩) hHeld ?r2
  case y2 => intro wq hSw; obtain ⟨f0, f1, f2, f3, f4, f5⟩ := hSw; go_simp; try (with_reducible rfl)
  try simp only [Act.put, List.setIfInBounds_toArray, List.set_cons_zero, List.set_cons_succ]
  refine wpAnyH_take (i := 3) (oi := { dst := some 17, op := Op.move (Operand.tmp 3), type := 40, pos := "paper.go:36", after := #[], guard := none }) (v := ?v3) rfl (by kernel_rfl) (by kernel_rfl) (by kernel_rfl) (fun _ _ _ h => h) (Or.inl ⟨by rfl, ?y3⟩) hHeld ?r3
  case y3 => intro wq hSw; skip; go_simp; try (with_reducible rfl)
  try simp only [Act.put, List.setIfInBounds_toArray, List.set_cons_zero, List.set_cons_succ]
  refine wpAnyH_take (i := 4) (oi := { dst := some 18, op := Op.build 42 #[(0, Operand.tmp 16), (1, Operand.tmp 17)], type := 42, pos := "paper.go:36", after := #[{ on := 2, ground := Ground.data }, { on := 3, ground := Ground.data }], guard := none }) (v := ?v4) rfl (by kernel_rfl) (by kernel_rfl) (by kernel_rfl) (fun _ _ _ h => h) (Or.inl ⟨by rfl, ?y4⟩) hHeld ?r4
  case y4 => intro wq hSw; skip; go_simp; try (with_reducible rfl)
  try simp only [Act.put, List.setIfInBounds_toArray, List.set_cons_zero, List.set_cons_succ]
  refine wpAnyH_take (i := 5) (oi := { dst := some 19, op := Op.move (Operand.tmp 4), type := 3, pos := "paper.go:36", after := #[], guard := none }) (v := ?v5) rfl (by kernel_rfl) (by kernel_rfl) (by kernel_rfl) (fun _ _ _ h => h) (Or.inl ⟨by rfl, ?y5⟩) hHeld ?r5
  case y5 => intro wq hSw; skip; go_simp; try (with_reducible rfl)
  try simp only [Act.put, List.setIfInBounds_toArray, List.set_cons_zero, List.set_cons_succ]
  refine wpAnyH_take (i := 6) (oi := { dst := some 20, op := Op.load 69 (Operand.tmp 1), type := 69, pos := "paper.go:36", after := #[], guard := none }) (v := ?v6) rfl (by kernel_rfl) (by kernel_rfl) (by kernel_rfl) (fun _ _ _ h => h) (Or.inl ⟨by rfl, ?y6⟩) hHeld ?r6
  case y6 => intro wq hSw; obtain ⟨f0, f1, f2, f3, f4, f5⟩ := hSw; go_simp; try (with_reducible rfl)
  try simp only [Act.put, List.setIfInBounds_toArray, List.set_cons_zero, List.set_cons_succ]
  refine wpAnyH_ready (rs := [7]) (by kernel_rfl) (by simp) ?_
  refine AllReadyH.cons (o := { dst := some 21, op := Op.call { callee := Callee.value (Operand.func 44), args := #[Operand.tmp 20], argTypes := #[69] }, type := 40, pos := "paper.go:36", after := #[{ on := 6, ground := Ground.data }], guard := none }) rfl (fun K hK => ?_) AllReadyH.nil
  go_simp
  go_at_call 44
  refine (HDB.out _ B3.out.drew).mono ?_
  rintro e w4 ⟨Ad, cd, d, rfl, hd, hod, hb4⟩
  have HD := Lib.hid hd
  have HOD := Lib.hid hod
  have HB4 := Lib.hid (show Below w3.heap.size w3 w4 from (Below.refl w3.heap.size w3).drew.trans hb4)
  have HS4 := Lib.hid (HFA.out _ (BB.out.trans (HB4.out.mono BB.out.size)))
  clear hd hod hb4
  try go_simp
  refine hK.out _ _ HS4.out (fun hHeld => ?_)
  clear hK K
  try simp only [Act.put, List.setIfInBounds_toArray, List.set_cons_zero, List.set_cons_succ]
  refine wpAnyH_take (i := 8) (oi := { dst := some 22, op := Op.build 44 #[(0, Operand.tmp 18), (1, Operand.tmp 19), (2, Operand.tmp 21)], type := 44, pos := "paper.go:36", after := #[{ on := 4, ground := Ground.data }, { on := 5, ground := Ground.data }, { on := 7, ground := Ground.data }], guard := none }) (v := ?v8) rfl (by kernel_rfl) (by kernel_rfl) (by kernel_rfl) (fun _ _ _ h => h) (Or.inl ⟨by rfl, ?y8⟩) hHeld ?r8
  case y8 => intro wq hSw; skip; go_simp; try (with_reducible rfl)
  try simp only [Act.put, List.setIfInBounds_toArray, List.set_cons_zero, List.set_cons_succ]
  have HP4 := Lib.hid (HP0.out.below (BB.out.trans (HB4.out.mono BB.out.size)) HP0.out.lt)
  have HG4 := Lib.hid (HG0.out.below (BB.out.trans (HB4.out.mono BB.out.size)) HG0.out.lt)
  refine wpAnyH_ready (rs := [9]) (by kernel_rfl) (by simp) ?_
  refine AllReadyH.cons (o := { dst := none, op := Op.store 44 (Operand.tmp 2) (Operand.tmp 22), type := 0, pos := "paper.go:36", after := #[{ on := 8, ground := Ground.data }, { on := 7, ground := Ground.chain }, { on := 0, ground := Ground.phase }, { on := 1, ground := Ground.phase }, { on := 2, ground := Ground.phase }, { on := 3, ground := Ground.phase }, { on := 4, ground := Ground.phase }, { on := 5, ground := Ground.phase }, { on := 6, ground := Ground.phase }, { on := 7, ground := Ground.phase }, { on := 8, ground := Ground.phase }], guard := none }) rfl (fun K hK => ?_) AllReadyH.nil
  refine step_store_rg rfl (.tmp 2) (.tmp 22) rfl (w.heap.size + 1) rfl HG4.out rfl A c Ad cd ⟨⟨3, r⟩, ov, d⟩ rfl ?_
  intro w5 hb5 hg5
  have HB5 := Lib.hid hb5
  have HG5 := Lib.hid hg5
  have HS5 := Lib.hid (show (w5.cell? ⟨w.heap.size, 0, none⟩ = some (.int .u8 3) ∧ w5.cell? ⟨w.heap.size, 1, none⟩ = some (.int .i64 M) ∧ w5.cell? ⟨w.heap.size, 2, none⟩ = some (.int .i64 (C : Nat)) ∧ w5.cell? ⟨w.heap.size, 3, none⟩ = some (.int .i64 (Q : Nat)) ∧ w5.cell? ⟨w.heap.size, 4, none⟩ = some (.slice (some ⟨g, 0, none⟩) n n) ∧ w5.cell? ⟨w.heap.size, 5, none⟩ = some (.int .i64 s)) from by have h := HP4.out.grown hg5 (by simp); exact ⟨h.cell 0, h.cell 1, h.cell 2, h.cell 3, h.cell 4, h.cell 5⟩)
  clear hb5 hg5
  refine hK.out _ _ HS5.out (fun hHeld => ?_)
  clear hK K
  try simp only [Act.put, List.setIfInBounds_toArray, List.set_cons_zero, List.set_cons_succ]
  refine wpAnyH_done (by kernel_rfl) ?_ _
  go_wp2_with fail
  have hA3 : ∀ k, blk A = some k → w.heap.size + 2 ≤ k ∧ k < w3.heap.size := fun k e => by have := HO.out.blk_ge k e; have h0 := HG0.out.lt; simp at this; omega
  have hA4 : ∀ k, blk Ad = some k → w3.heap.size ≤ k := fun k e => by have := (HOD.out.blk_ge k e).1; simpa using this
  have h3z : w.heap.size + 2 ≤ w3.heap.size := by have h0 := HG0.out.lt; have := BB.out.size; omega
  have ap : ∀ (a : Option Addr), (∀ k, blk a = some k → w.heap.size + 2 ≤ k) → blk a = none ∨ blk a ≠ some (w.heap.size + 1) := fun a ha => by
    cases e : blk a with
    | none => exact .inl rfl
    | some k => exact .inr (fun e2 => by have := ha k e; have := Option.some.inj e2; omega)
  have hO5 := (HO.out.below (Nat.le_refl _) HB4.out).kept HG5.out (ap A (fun k e => (hA3 k e).1))
  have hD5 := HOD.out.kept HG5.out (ap Ad (fun k e => by have := hA4 k e; omega))
  have hQ := HQ.out
  refine rg_ret1 (g := w.heap.size + 1) rfl rfl HB5.out rfl ⟨A, c, Ad, cd, ⟨⟨3, r⟩, ov, d⟩, rfl, ?_, hO5.lower (by simp; exact B0.out.size), hD5.lower (by simp; omega), (fun k e1 e2 => by have := (hA3 k e1).2; have := hA4 k e2; omega), ?_⟩
  · rw [← hQ, HD.out]
  · exact (B3.out.trans (HB4.out.mono B3.out.size)).grown HG5.out (Nat.le_trans B3.out.size HB4.out.size) (fun k e => by cases e; omega)
end Go.Proofs.YtejphpcngbjgjaaDoor
