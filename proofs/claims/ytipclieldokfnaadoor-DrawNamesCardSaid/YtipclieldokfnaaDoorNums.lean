/- fair's Numbers at draw's method value of a seed. -/
import Derived.Test.YtipclieldokfnaaDoorReq
import Derived.Scope
namespace Go.Proofs.YtipclieldokfnaaDoor
open Go.RowKit Go.Shelf
set_option linter.unusedVariables false
attribute [local go_sem] Oper.semAt_some

/-- A scope through which the run goes without a goto, in a walk at the wide fence. -/
theorem wpIn_scope_wide {P : Program} {n : Nat} {Q : Exit → Act → World → Prop} {a : Act} {w : World} {c : Code} (h : c.wpIn Fence.wide n P (Exit.noGoto Q) a w) : (Code.scope c).wpIn Fence.wide n P Q a w :=
  wpIn_wide.2 (wp_scope_straight ((wpIn_wide (n := n)).1 h))

theorem own_row_cells {w : World} {base e s n : Nat} {v : Value} {xs : List Value} (h : w.ownsRow base e s v n xs) {row : Option Nat} (hr : ∀ r, row = some r → ∃ o : Obj, w.heap[r]? = some o ∧ o.isCells = false) : v.ownBlock = none ∨ v.ownBlock ≠ row := by
  rcases h.2 with ⟨rfl, _⟩ | ⟨g, cap, cur, rfl, _, hg, _⟩
  · exact .inl rfl
  · refine .inr fun e' => ?_
    obtain ⟨o, ho, hc⟩ := hr g (by simpa [Value.ownBlock] using e'.symm)
    rw [hg] at ho; cases ho; cases hc
theorem Ow.obj {α : Type} {f : α → Value} {w w' : World} {base e c : Nat} {A : Option Addr} {xs : List α} (h : Ow f w base e A c xs) {row : Option Nat} (hg : w.grownBy w' row) (hr : ∀ r, row = some r → ∃ o : Obj, w.heap[r]? = some o ∧ o.isCells = false) : Ow f w' base e A c xs :=
  World.ownsRow.kept h hg (own_row_cells h hr)
theorem boxed_obj {w w' : World} {b t : Nat} {v : Value} (h : Boxed w b t v) {row : Option Nat} (hg : w.grownBy w' row) (hr : ∀ r, row = some r → ∃ o : Obj, w.heap[r]? = some o ∧ o.isCells = false) : Boxed w' b t v :=
  h.kept hg (fun e => by obtain ⟨o, ho, hc⟩ := hr b e.symm; rw [show w.heap[b]? = _ from h] at ho; cases ho; cases hc)

/-- A mark among the deferred calls: a loop over a function, which has ended. -/
def markOf (D : Nat) : Deferred := { target := .collected D, args := #[] }
theorem leaves_marks {F : Fence} {n : Nat} {P : Program} {fn : Func} {tmps : Array Value} {R : Ending → World → Prop} {base : Nat} {Φ : World → Prop}
    (hΦ : ∀ X D, base ≤ D → Φ X → X.heap[D]? = some (.deferred (some [])) → Φ (X.putObj D (.deferred none))) (hend : ∀ X, Φ X → LeavesIn F n P fn tmps R [] .returning X) :
    ∀ (Ds : List Nat) (wr : World), Ds.Nodup → (∀ D ∈ Ds, base ≤ D ∧ wr.heap[D]? = some (.deferred (some []))) → Φ wr → LeavesInM F n P fn tmps R (Ds.map markOf) .returning wr
  | [], wr, _, _, h => hend wr h
  | D :: Ds, wr, hn, hm, h => by
    obtain ⟨h1, h2⟩ := hm D (by simp)
    refine ⟨by simp, .inl ⟨D, _, rfl, run_takeDeferred h2, ?_⟩⟩
    have hn' := List.nodup_cons.1 hn
    refine leaves_marks hΦ hend Ds _ hn'.2 (fun E hE => ?_) (hΦ _ _ h1 h h2)
    obtain ⟨e1, e2⟩ := hm E (by simp [hE])
    exact ⟨e1, (World.putObj_heap_other (fun e => hn'.1 (by rw [e] at hE; exact hE))).trans e2⟩

theorem tries_call (i : Nat) (cs : Array Value) (w : World) :
    Calls Tryd.prog 66 #[.int .u32 i, .func (.func 46) #[.agg cs] #[]] w fun e w' => e = .returned (.func (.func 75) #[] #[.pointer (some ⟨w.heap.size + 1, 0, none⟩), .pointer (some ⟨w.heap.size, 0, none⟩)]) ∧
      w' = (w.alloc (.cells #[.int .u32 i] 27)).alloc (.cells #[.func (.func 46) #[.agg cs] #[]] 83) := by
  go_enter Tryd.func66, Tryd.ntmps66
  go_wp2
  go_ret
  exact ⟨rfl, rfl⟩

/-- append of one element as a step of a region that draws its order, inside a fence. -/
theorem stepIn_append_f {P : Program} {w : World} {F : Fence} {n : Nat} {α : Type} {f : α → Value} (hf : ∀ x, (f x).oneCell' = true) {ops : Array Oper} {o : Oper} {a : Act} {K : Act → World → Prop} {Q : Exit → Act → World → Prop} {E : Prop} (hgd : o.guard = none) (s x : Operand) (t : TypeId)
    (ho : o.op = .call { callee := .builtin .append, args := #[s, x], argTypes := #[t, t] })
    (base e bt : Nat) (i : TypeInfo) (z : Value) (ht : P.underlying t = some (.slice e)) (hi : P.info? e = some i) (hz : i.zero = some z) (hsize : i.size = 1) (hby : i.bytes = bt) (hbt : bt ≤ 24) (hzs : z.cells.size = 1)
    {A A2 : Option Addr} {c c2 B : Nat} (l m : List α) (hs : a.eval s = .slice A l.length c) (hx : a.eval x = .slice A2 m.length c2) (hown : Ow f w base e A c l) (hr : Rf f w B A2 c2 m)
    (hle : l.length + m.length ≤ 4000000000) (hbase : base ≤ w.heap.size)
    (h : ∀ A' c' w' r, Hid (r = l ++ m) → Ow f w' base e A' c' r → w.grownBy w' (blk A) → (blk A' = blk A ∨ blk A' = some w.heap.size) → K (a.put o.dst (.slice A' r.length c')) w') :
    if Region.wanted o (yielded ops a.tmps) = true then Oper.wpIn F n P o a w K Q else E := by
  have hw : Region.wanted o (yielded ops a.tmps) = true := by simp [Region.wanted, hgd]
  rw [if_pos hw]
  obtain ⟨A', c', w', hrun, h2, h3, h4⟩ := run_append_f (P := P) w hf base e bt t o.type i z ht hi hz hsize hby hbt hzs hown hr hle hbase
  unfold Oper.wpIn
  refine ⟨?_, ?_⟩
  · simp [Oper.about, ho, resolve, Target.leads, Sem.run_pure]
  · rw [Oper.semAt_plain F _ _ (by rw [ho]; intro c hc'; cases hc')]
    simp only [execOp, ho, resolve, invoke, builtin, Sem.run_bind, Sem.run_pure, Result.andThen_ok, List.map_toArray, List.map_cons, List.map_nil, hs, hx, hrun]
    exact h A' c' w' _ rfl h2 h3 h4
theorem blk_apart' {A : Option Addr} {B0 Bl : Nat} (h : ∀ k, blk A = some k → B0 ≤ k) (hB : Bl < B0) : blk A = none ∨ blk A ≠ some Bl := by
  cases e : blk A with
  | none => exact .inl rfl
  | some g =>
    refine .inr fun e2 => ?_
    have := h g e
    have := Option.some.inj e2
    omega
/-- What the body leaves when it has appended: in one piece. -/
theorem nums_step {W w3 : World} {Bl c c3 x : Nat} {A A3 : Option Addr} {l zs : List Nat} {v : Value} {n : Nat} (hbx : Boxed W Bl 31 v) (hown : Ow qv W (Bl + 1) 23 A c l) (hws : Bl + 1 ≤ W.heap.size)
    (hown3 : Ow qv w3 (Bl + 1) 23 A3 c3 zs) (hg3 : ((W.alloc (.cells #[qv x] 23)).drewN n).grownBy w3 (blk A)) :
    Boxed w3 Bl 31 v ∧ KeepsOthers W (w3.setCell ⟨Bl, 0, none⟩ (.slice A3 zs.length c3)) ∧ Boxed (w3.setCell ⟨Bl, 0, none⟩ (.slice A3 zs.length c3)) Bl 31 (.slice A3 zs.length c3) ∧
      Ow qv (w3.setCell ⟨Bl, 0, none⟩ (.slice A3 zs.length c3)) (Bl + 1) 23 A3 c3 zs ∧ Below Bl W (w3.setCell ⟨Bl, 0, none⟩ (.slice A3 zs.length c3)) := by
  have hne : ∀ k, k < Bl + 1 → some k ≠ blk A := fun k hk e => by have := (hown.blk_ge k e.symm).1; omega
  have hsz := hg3.size
  have hszN : ((W.alloc (.cells #[qv x] 23)).drewN n).heap.size = W.heap.size + 1 := World.size_alloc ..
  rw [hszN] at hsz
  have hbx3 : Boxed w3 Bl 31 v := Boxed.kept (W := (W.alloc (.cells #[qv x] 23)).drewN n) (hbx.alloc (.cells #[qv x] 23)) hg3 (hne _ (by omega))
  have hgs := grownBy_setCell' w3 Bl (.slice A3 zs.length c3)
  refine ⟨hbx3, ?_, hbx3.set _, hown3.kept hgs (blk_apart' (fun k hk => (hown3.blk_ge k hk).1) (by omega)), ?_⟩
  · refine ((KeepsOthers.alloc W (.cells #[qv x] 23)).trans (KeepsOthers.of_grownBy (grown_drewN (grown_refl _ none) n) (fun _ _ e => by cases e))).trans ((KeepsOthers.of_grownBy hg3 fun j o ej hj => ?_).trans (KeepsOthers.setCell _ _ _))
    rcases ((hown.alloc (.cells #[qv x] 23)).drewN n).2 with ⟨hv, _⟩ | ⟨g, cap, cur, hv, _, hgb, _⟩
    · simp only [Value.slice.injEq] at hv
      rw [hv.1] at ej
      simp [blk] at ej
    · simp only [Value.slice.injEq] at hv
      rw [hv.1] at ej
      simp [blk] at ej
      subst ej
      rw [hgb] at hj; cases hj; rfl
  · exact ((((Below.refl Bl W).alloc (by omega) _).trans (below_drewN Bl _ n)).grown hg3 (by rw [hszN]; omega) (fun k e => by have := (hown.blk_ge k e).1; omega)).setCell (p := ⟨Bl, 0, none⟩) (Nat.le_refl _) _
theorem qInfo : (Tryd.prog.info? 23).map (fun i => (i.zero, i.size, i.bytes)) = some (some (.int .u64 0), 1, 8) := by kernel_rfl

/-- What holds ahead of request j. -/
structure NumInv (s : List UInt8) (rs : List (Nat × Nat)) (w : World) (j : Nat) (Ds : List Nat) (wr : World) : Prop where
  pre : ∃ l A' c', numsM s (rs.take j) = some l ∧ Boxed wr w.heap.size 31 (.slice A' l.length c') ∧ Ow qv wr (w.heap.size + 1) 23 A' c' l
  bel : Below w.heap.size w wr
  nd : Ds.Nodup
  mks : ∀ D ∈ Ds, w.heap.size ≤ D ∧ wr.heap[D]? = some (.deferred (some []))
  sz : w.heap.size + 1 ≤ wr.heap.size

set_option maxRecDepth 100000 in
set_option maxHeartbeats 2000000 in
theorem numbers_any (s : List UInt8) (rs : List (Nat × Nat)) (A : Option Addr) (c B : Nat) (w : World) (hs : s.length = 32) (hr : Rq w B A c rs) (hB : B ≤ w.heap.size) (hrs : ∀ r ∈ rs, r.1 < 4294967296 ∧ 1 ≤ r.2 ∧ r.2 ≤ 4294967296) (hl : rs.length ≤ 100000) (hT : Tab w) :
    Calls Tryd.prog 45 #[.slice A rs.length c, tryF s] w fun e w' => ∃ A' c' r er, e = .returned (.tuple #[.slice A' r.length c', .int .i64 er]) ∧ (r, er) = numsA s rs ∧ Ow qv w' w.heap.size 23 A' c' r ∧ Below w.heap.size w w' := by
  have HR := Lib.hid hr
  have HS := Lib.hid hs
  have HRS := Lib.hid hrs
  have HT := Lib.hid hT
  have htf : tryF s = .func (.func 46) #[.agg (s.map bv).toArray] #[] := rfl
  obtain ⟨cs, hcs⟩ : ∃ cs, (s.map bv).toArray = cs := ⟨_, rfl⟩
  rw [hcs] at htf
  rw [htf]
  have HTF := Lib.hid htf
  have hcap := hr.cap
  have hcm := hr.capm
  unfold maxLen at hcm
  clear hr hs hrs hT htf hcs
  refine (callsIn_wide (n := 8)).1 ?_
  refine callsIn_of_wp_marks Tryd.func45 rfl trivial ?_ rfl
  simp only [Tryd.ntmps45, List.size_toArray, List.length_cons, List.length_nil, Nat.reduceAdd, Nat.reduceSub, Array.replicate_succ, Array.replicate_zero, List.push_toArray, List.append_toArray, List.nil_append, List.cons_append]
  gi_wp2_with fail
  refine wpIn_scope_wide ?_
  gi_wp2_with fail
  refine wpIn_label ?_
  gi_wp2_with fail
  refine wpIn_loop (fun a' wr => ∃ (u8 u9 u14 u15 u16 u17 u18 u19 u20 u21 u22 u23 u35 : Value) (j : Nat) (Ds : List Nat), (j ≤ rs.length ∧ Hid (NumInv s rs w j Ds wr)) ∧ a' = { tmps := #[.slice A rs.length c, .func (.func 46) #[.agg cs] #[], undef, undef, .slice none 0 0, .int .i64 0,
      .pointer (some ⟨w.heap.size, 0, none⟩), undef, u8, u9, undef, .slice A rs.length c, .int .i64 rs.length, .int .i64 j, u14, u15, u16, u17, u18, u19, u20, u21, u22, u23, undef, undef, undef, undef, undef, undef, undef, undef, undef, undef, undef, u35, undef], defers := Ds.map markOf })
    (fun a' _ => rs.length - (intOf (a'.tmps.getD 13 undef)).toNat) ?atStart ?round
  case atStart =>
    refine ⟨_, _, _, _, _, _, _, _, _, _, _, _, _, 0, [], ⟨by omega, ?_⟩, rfl⟩
    exact ⟨⟨[], none, 0, rfl, Boxed.new w _ _, Ow.nil _ _ _⟩, below_new w _, List.nodup_nil, (fun D h => by cases h), by simp⟩
  case round =>
    rintro a' wr ⟨u8, u9, u14, u15, u16, u17, u18, u19, u20, u21, u22, u23, u35, j, Ds, ⟨hj, hI⟩, rfl⟩
    by_cases hjl : j = rs.length
    · obtain ⟨l, A', c', hnum, hbx, how⟩ := hI.out.pre
      have hcx := hbx.cell
      have hfz := hbx.frozen
      have HB := Lib.hid hbx
      have HO := Lib.hid how
      have HN := Lib.hid hnum
      clear hbx how hnum
      subst hjl
      gi_wp2_with fail
      refine leaves_marks (base := w.heap.size) (Φ := fun X => Below w.heap.size w X ∧ Ow qv X (w.heap.size + 1) 23 A' c' l) ?_ ?_ Ds wr hI.out.nd hI.out.mks ⟨hI.out.bel, HO.out⟩
      · rintro X D hD ⟨h1, h2⟩ h3
        have hg := grownBy_putObj' X D (.deferred none)
        have hro : ∀ r, some D = some r → ∃ o : Obj, X.heap[r]? = some o ∧ o.isCells = false := fun r e => by cases e; exact ⟨_, h3, rfl⟩
        exact ⟨h1.grown hg h1.size (fun k e => by cases e; exact hD), h2.obj hg hro⟩
      · rintro X ⟨h1, h2⟩
        refine ⟨_, results_tmp2 rfl _ _ _, A', c', l, 0, rfl, ?_, h2.lower (by omega), h1⟩
        have hnum := HN.out
        rw [List.take_length] at hnum
        unfold numsA
        rw [hnum]
    · have hlt : j < rs.length := by omega
      obtain ⟨b, o, rfl, hb, hcc⟩ := (HR.out.below (hI.out.bel.mono hB)).at_ hlt
      obtain ⟨c1, c2⟩ := hcc j hlt
      obtain ⟨hi1, hn1, hn2⟩ := HRS.out rs[j] (List.getElem_mem hlt)
      have hdr := numsM_snoc s rs[j] (rs.take j)
      rw [← List.take_succ_eq_append_getElem hlt] at hdr
      have hno := numsM_none s hlt
      obtain ⟨i, hi⟩ : ∃ i, i = rs[j].1 := ⟨_, rfl⟩
      obtain ⟨n, hn⟩ : ∃ n, n = rs[j].2 := ⟨_, rfl⟩
      rw [← hi] at c1 hi1 hdr hno
      rw [← hn] at c2 hn1 hn2 hdr hno
      have HDR := Lib.hid hdr
      have HNO := Lib.hid hno
      clear hi hn hcc hdr hno
      gi_wp2_with fail
      refine ⟨trivial, (callsIn_wide.2 (lastSmall_any n _ hn1 hn2)).mono ?_⟩
      rintro e w1 ⟨rfl, rfl⟩
      gi_wp2_with fail
      refine ⟨trivial, (callsIn_wide.2 (tries_call i cs _)).mono ?_⟩
      rintro e w2 ⟨rfl, rfl⟩
      gi_wp2_with fail
      have cR0 := (Blk.new wr 68 #[.int .u32 (i : Int), .int .u64 (n : Int)]).cell 1
      simp only [List.getElem?_toArray, List.getElem?_cons_succ, List.getElem?_cons_zero] at cR0
      obtain ⟨W0, hW0⟩ : ∃ W0, W0 = ((((wr.alloc (.cells #[.int .u32 (i : Int), .int .u64 (n : Int)] 68)).alloc (.cells #[.int .u64 (lastM n : Int)] 23)).alloc (.cells #[.int .u32 (i : Int)] 27)).alloc (.cells #[.func (.func 46) #[.agg cs] #[]] 83)) := ⟨_, rfl⟩
      have hs0 : W0.heap.size = wr.heap.size + 1 + 1 + 1 + 1 := by rw [hW0]; simp
      have hb0 : Below wr.heap.size wr W0 := by rw [hW0]; exact ((((Below.refl _ wr).alloc (Nat.le_refl _) _).alloc (by simp) _).alloc (by simp; omega) _).alloc (by simp; omega) _
      have cR : W0.cell? ⟨wr.heap.size, 1, none⟩ = some (.int .u64 (n : Int)) := by
        rw [hW0]
        rw [World.cell?_alloc_lt _ _ _ (by simp; omega), World.cell?_alloc_lt _ _ _ (by simp; omega), World.cell?_alloc_lt _ _ _ (by simp)]
        exact cR0
      have cL : W0.cell? ⟨wr.heap.size + 1, 0, none⟩ = some (.int .u64 (lastM n : Int)) := by
        rw [hW0, World.cell?_alloc_lt _ _ _ (by simp), World.cell?_alloc_lt _ _ _ (by simp)]
        have := (Boxed.new (wr.alloc (.cells #[.int .u32 (i : Int), .int .u64 (n : Int)] 68)) 23 (.int .u64 (lastM n : Int))).cell
        simp only [World.size_alloc] at this
        exact this
      have cI : W0.cell? ⟨wr.heap.size + 1 + 1, 0, none⟩ = some (.int .u32 (i : Int)) := by
        rw [hW0, World.cell?_alloc_lt _ _ _ (by simp)]
        have := (Boxed.new ((wr.alloc (.cells #[.int .u32 (i : Int), .int .u64 (n : Int)] 68)).alloc (.cells #[.int .u64 (lastM n : Int)] 23)) 27 (.int .u32 (i : Int))).cell
        simp only [World.size_alloc] at this
        exact this
      have cT : W0.cell? ⟨wr.heap.size + 1 + 1 + 1, 0, none⟩ = some (tryF s) := by
        rw [hW0, HTF.out]
        have := (Boxed.new (((wr.alloc (.cells #[.int .u32 (i : Int), .int .u64 (n : Int)] 68)).alloc (.cells #[.int .u64 (lastM n : Int)] 23)).alloc (.cells #[.int .u32 (i : Int)] 27)) 83 (.func (.func 46) #[.agg cs] #[])).cell
        simp only [World.size_alloc] at this
        exact this
      rw [← hW0]
      clear hW0 cR0 c1 c2
      have HR' := Lib.hid cR
      have HL' := Lib.hid cL
      have HB0 := Lib.hid hb0
      have HSZ := Lib.hid hs0
      have hbw0 := hI.out.bel.trans (hb0.mono hI.out.bel.size)
      have HBW := Lib.hid hbw0
      obtain ⟨l, A', c', hnum, hbx, how⟩ := hI.out.pre
      have HBX := Lib.hid (hbx.kept (grown_of_below hb0 (Nat.le_refl _) none) (by simp))
      have HOW := Lib.hid (how.below (Nat.le_refl _) hb0)
      have hll : l.length ≤ 100000 := by rw [numsM_len s hnum, List.length_take]; omega
      have HNUM := Lib.hid hnum
      have hwz := hI.out.sz
      have HIX := Lib.hid (show ∀ D ∈ Ds, w.heap.size ≤ D ∧ D < W0.heap.size ∧ W0.heap[D]? = some (.deferred (some [])) from fun D hD => by
        obtain ⟨h1, h2⟩ := hI.out.mks D hD
        have hlt := (Array.getElem?_eq_some_iff.1 h2).1
        exact ⟨h1, by omega, (hb0.block D hlt).trans h2⟩)
      have HSQ := Lib.hid (tries_seq s i (wr.heap.size + 1 + 1 + 1) (wr.heap.size + 1 + 1) W0 7 (by omega) HS.out hi1 (HT.out.below hbw0) cT (by omega) cI (by omega))
      clear hbx how hnum cR cL cI cT hb0 hbw0
      obtain ⟨q, hq⟩ : ∃ q, q = lastM n := ⟨_, rfl⟩
      rw [← hq] at HL' ⊢
      have HQ := Lib.hid hq
      clear hq
      refine wpIn_range_new (F := Fence.wide) (n := 8) rfl (by omega) (gf := 75) (lb := #[.pointer (some ⟨wr.heap.size + 1 + 1 + 1, 0, none⟩), .pointer (some ⟨wr.heap.size + 1 + 1, 0, none⟩)]) rfl trivial (enters_of Tryd.func75 (by kernel_rfl) rfl)
        HSQ.out (fun h k => h.trans k) (fun W r o o' hr' h1 h2 => (Below.refl _ W).grown (grownBy_putObj' W r o') (Nat.le_trans hr' (Nat.le_of_lt (Array.getElem?_eq_some_iff.1 h1).1)) (fun k e => by cases e; exact hr'))
        (fun y s X Y row hs hg hrow => hs) (fun _ => rfl)
        (fun pre W => (∀ k ∈ pre, q < tryM s i k) ∧ Below W0.heap.size W0 W)
        (fun c' pre W => c' = .exit 1 ∧ (∃ pre' x, pre = pre' ++ [x] ∧ (∀ k ∈ pre', q < tryM s i k) ∧ tryM s i x ≤ q ∧ ∃ A3 c3, Boxed W w.heap.size 31 (.slice A3 (l ++ [tryM s i x % n]).length c3) ∧ Ow qv W (w.heap.size + 1) 23 A3 c3 (l ++ [tryM s i x % n])) ∧
          Below w.heap.size w W ∧ (∀ D ∈ Ds, W.heap[D]? = some (.deferred (some []))) ∧ W0.heap.size ≤ W.heap.size)
        ?hI ?hIx ?h0
        (fun x => { tmps := #[.slice (some ⟨b, o, none⟩) rs.length c, .func (.func 46) #[.agg cs] #[], undef, undef, .slice none 0 0, .int .i64 0, .pointer (some ⟨w.heap.size, 0, none⟩), undef, .pointer (some ⟨wr.heap.size, 0, none⟩),
          .pointer (some ⟨wr.heap.size + 1, 0, none⟩), .int .u64 (tryM s i x : Nat), .slice (some ⟨b, o, none⟩) rs.length c, .int .i64 rs.length, .int .i64 j, .bool true, .pointer (some ⟨b, o + j * 2, none⟩), .agg #[.int .u32 i, .int .u64 n],
          .pointer (some ⟨wr.heap.size, 1, none⟩), .int .u64 n, .int .u64 q, .pointer (some ⟨wr.heap.size, 0, none⟩), .int .u32 i, .func (.func 46) #[.agg cs] #[],
          .func (.func 75) #[] #[.pointer (some ⟨wr.heap.size + 1 + 1 + 1, 0, none⟩), .pointer (some ⟨wr.heap.size + 1 + 1, 0, none⟩)], .int .u64 (tryM s i x : Nat), undef, undef, undef, undef, undef, undef, undef, undef, undef, undef, u35, undef], defers := [] }) ?assign ?body ?done ?stop
      case hI =>
        rintro pre X Y row ⟨h1, h2⟩ hg hrow
        exact ⟨h1, h2.grown hg h2.size (fun k e => (hrow k e).1)⟩
      case hIx =>
        rintro c' pre X Y row ⟨h0, ⟨pre', x, e1, h1, h2, A3, c3, h3, h4⟩, h5, h6, h7⟩ hg hrow
        have hro := fun r e => (hrow r e).2
        refine ⟨h0, ⟨pre', x, e1, h1, h2, A3, c3, boxed_obj h3 hg hro, h4.obj hg hro⟩, h5.grown hg h5.size (fun k e => by have := (hrow k e).1; omega), fun D hD => ?_, Nat.le_trans h7 hg.size⟩
        have hD2 := (HIX.out D hD).2.1
        exact (hg.block D (by omega) (fun e => by have := (hrow D e.symm).1; omega)).trans (h6 D hD)
      case h0 => exact ⟨(fun k h => by cases h), Below.refl _ _⟩
      case assign =>
        intro r x W K hK
        gi_wp2
        exact hK
      case body =>
        rintro r pre x W ⟨h1, h2⟩ hx hlt
        have cl := (h2.cell (p := ⟨wr.heap.size + 1, 0, none⟩) (by show wr.heap.size + 1 < _; omega)).trans HL'.out
        have cr := (h2.cell (p := ⟨wr.heap.size, 1, none⟩) (by show wr.heap.size < _; omega)).trans HR'.out
        have H1 := Lib.hid h1
        have H2 := Lib.hid h2
        obtain ⟨v, hv⟩ : ∃ v, v = tryM s i x := ⟨_, rfl⟩
        rw [← hv]
        have HV := Lib.hid hv
        clear h1 h2 hv hs0
        by_cases hok : v ≤ q
        · have hbxW := HBX.out.kept (grown_of_below H2.out (Nat.le_refl _) none) (by simp)
          have howW := HOW.out.below (Nat.le_refl _) H2.out
          have cx := hbxW.cell
          have fx := hbxW.frozen
          have h0 : ¬ n = 0 := by omega
          obtain ⟨y, hy⟩ : ∃ y, y = v % n := ⟨_, rfl⟩
          have e2 : (v : Int).tmod (n : Int) = (y : Int) := by rw [hy]; rfl
          have hWs := H2.out.size
          have hltW : w.heap.size < W.heap.size := by have := HSZ.out; omega
          have hltR : wr.heap.size < W.heap.size := by have := HSZ.out; omega
          obtain ⟨i0, hi0, hz0, hz1, hz2⟩ := info_parts qInfo
          have HY := Lib.hid hy
          have HI0 := Lib.hid hi0
          have HZ0 := Lib.hid hz0
          have HZ1 := Lib.hid hz1
          have HZ2 := Lib.hid hz2
          have HBXW := Lib.hid hbxW
          have HOWW := Lib.hid howW
          clear hbxW howW hy hi0 hz0 hz1 hz2
          have fin : ∀ (zs : List Nat) (A3 : Option Addr) (c3 : Nat) (w3 : World), Hid (zs = l ++ [y]) → KeepsOthers W (w3.setCell ⟨w.heap.size, 0, none⟩ (.slice A3 zs.length c3)) →
              Boxed (w3.setCell ⟨w.heap.size, 0, none⟩ (.slice A3 zs.length c3)) w.heap.size 31 (.slice A3 zs.length c3) → Ow qv (w3.setCell ⟨w.heap.size, 0, none⟩ (.slice A3 zs.length c3)) (w.heap.size + 1) 23 A3 c3 zs →
              Below w.heap.size W (w3.setCell ⟨w.heap.size, 0, none⟩ (.slice A3 zs.length c3)) →
              KeepsOthers W (w3.setCell ⟨w.heap.size, 0, none⟩ (.slice A3 zs.length c3)) ∧ (Code.exit 1 = Code.exit 1 ∧ (∃ pre' x', pre ++ [x] = pre' ++ [x'] ∧ (∀ k ∈ pre', q < tryM s i k) ∧ tryM s i x' ≤ q ∧ ∃ A3' c3', Boxed (w3.setCell ⟨w.heap.size, 0, none⟩ (.slice A3 zs.length c3)) w.heap.size 31 (.slice A3' (l ++ [tryM s i x' % n]).length c3') ∧
                Ow qv (w3.setCell ⟨w.heap.size, 0, none⟩ (.slice A3 zs.length c3)) (w.heap.size + 1) 23 A3' c3' (l ++ [tryM s i x' % n])) ∧
                Below w.heap.size w (w3.setCell ⟨w.heap.size, 0, none⟩ (.slice A3 zs.length c3)) ∧ (∀ D ∈ Ds, (w3.setCell ⟨w.heap.size, 0, none⟩ (.slice A3 zs.length c3)).heap[D]? = some (.deferred (some []))) ∧ W0.heap.size ≤ (w3.setCell ⟨w.heap.size, 0, none⟩ (.slice A3 zs.length c3)).heap.size) := by
            intro zs A3 c3 w3 hzs s1 s2 s3 s4
            have hz := hzs.out
            have hbw : Below w.heap.size w W := HBW.out.trans (H2.out.mono HBW.out.size)
            refine ⟨s1, rfl, ⟨pre, x, rfl, H1.out, by rw [← HV.out]; exact hok, A3, c3, ?_, ?_⟩, hbw.trans s4, fun D hD => ?_, Nat.le_trans hWs s1.size⟩
            · rw [← HV.out, ← HY.out, ← hz]; exact s2
            · rw [← HV.out, ← HY.out, ← hz]; exact s3
            · obtain ⟨_, d2, d3⟩ := HIX.out D hD
              exact s1.same D _ ((H2.out.block D d2).trans d3) rfl
          have HFIN := Lib.hid fin
          clear fin
          gi_wp2_with fail
          refine wpIn_region_any (by kernel_rfl) ?_
          change wpAnyIn _ _ _ _ _ _ _ _ _ (World.drew _)
          iterate 6 (all_goals (first
            | (refine wpAnyIn_ready (rs := [0, 1, 2]) (by decide +kernel) (by simp) (AllReadyIn.cons rfl (fun K hK => ?_) (AllReadyIn.cons rfl (fun K hK => ?_) (AllReadyIn.cons rfl (fun K hK => ?_) AllReadyIn.nil))) <;> (go_simp; refine hK _ _ ?_; clear hK K))
            | (refine wpAnyIn_ready (rs := [0, 2]) (by decide +kernel) (by simp) (AllReadyIn.cons rfl (fun K hK => ?_) (AllReadyIn.cons rfl (fun K hK => ?_) AllReadyIn.nil)) <;> (go_simp; refine hK _ _ ?_; clear hK K))
            | (refine wpAnyIn_ready (rs := [0, 1, 3]) (by decide +kernel) (by simp) (AllReadyIn.cons rfl (fun K hK => ?_) (AllReadyIn.cons rfl (fun K hK => ?_) (AllReadyIn.cons rfl (fun K hK => ?_) AllReadyIn.nil))) <;> (go_simp; refine hK _ _ ?_; clear hK K))
            | (refine wpAnyIn_ready (rs := [0, 3]) (by decide +kernel) (by simp) (AllReadyIn.cons rfl (fun K hK => ?_) (AllReadyIn.cons rfl (fun K hK => ?_) AllReadyIn.nil)) <;> (go_simp; refine hK _ _ ?_; clear hK K))
            | (refine wpAnyIn_ready (rs := [0, 1]) (by decide +kernel) (by simp) (AllReadyIn.cons rfl (fun K hK => ?_) (AllReadyIn.cons rfl (fun K hK => ?_) AllReadyIn.nil)) <;> (go_simp; refine hK _ _ ?_; clear hK K))
            | (refine wpAnyIn_ready (rs := [0, 4]) (by decide +kernel) (by simp) (AllReadyIn.cons rfl (fun K hK => ?_) (AllReadyIn.cons rfl (fun K hK => ?_) AllReadyIn.nil)) <;> (go_simp; refine hK _ _ ?_; clear hK K))
            | (refine wpAnyIn_ready (rs := [0, 5]) (by decide +kernel) (by simp) (AllReadyIn.cons rfl (fun K hK => ?_) (AllReadyIn.cons rfl (fun K hK => ?_) AllReadyIn.nil)) <;> (go_simp; refine hK _ _ ?_; clear hK K))
            | (refine wpAnyIn_ready (rs := [0]) (by decide +kernel) (by simp) (AllReadyIn.cons rfl (fun K hK => ?_) AllReadyIn.nil) <;> (go_simp; refine hK _ _ ?_; clear hK K))
            | (refine wpAnyIn_ready (rs := [1, 2]) (by decide +kernel) (by simp) (AllReadyIn.cons rfl (fun K hK => ?_) (AllReadyIn.cons rfl (fun K hK => ?_) AllReadyIn.nil)) <;> (go_simp; refine hK _ _ ?_; clear hK K))
            | (refine wpAnyIn_ready (rs := [2]) (by decide +kernel) (by simp) (AllReadyIn.cons rfl (fun K hK => ?_) AllReadyIn.nil) <;> (go_simp; refine hK _ _ ?_; clear hK K))
            | (refine wpAnyIn_ready (rs := [1, 3]) (by decide +kernel) (by simp) (AllReadyIn.cons rfl (fun K hK => ?_) (AllReadyIn.cons rfl (fun K hK => ?_) AllReadyIn.nil)) <;> (go_simp; refine hK _ _ ?_; clear hK K))
            | (refine wpAnyIn_ready (rs := [3]) (by decide +kernel) (by simp) (AllReadyIn.cons rfl (fun K hK => ?_) AllReadyIn.nil) <;> (go_simp; refine hK _ _ ?_; clear hK K))
            | (refine wpAnyIn_ready (rs := [1]) (by decide +kernel) (by simp) (AllReadyIn.cons rfl (fun K hK => ?_) AllReadyIn.nil) <;> (go_simp; refine hK _ _ ?_; clear hK K))
            | (refine wpAnyIn_ready (rs := [4]) (by decide +kernel) (by simp) (AllReadyIn.cons rfl (fun K hK => ?_) AllReadyIn.nil) <;> (go_simp; refine hK _ _ ?_; clear hK K))
            | (refine wpAnyIn_ready (rs := [5]) (by decide +kernel) (by simp) (AllReadyIn.cons rfl (fun K hK => ?_) AllReadyIn.nil) <;> (go_simp; refine hK _ _ ?_; clear hK K))))
          all_goals (
            refine wpAnyIn_ready (rs := [6]) (by kernel_rfl) (by simp) (AllReadyIn.cons rfl (fun K hK => ?_) AllReadyIn.nil)
            refine stepIn_append_f qv_one rfl (.tmp 28) (.tmp 33) 31 rfl (w.heap.size + 1) 23 8 i0 _ Tryd.underlying31 HI0.out HZ0.out HZ1.out HZ2.out (by omega) rfl l [y] rfl rfl ((HOWW.out.alloc _).drew) ((rf_one W y _).drew) (by simp; omega) (by simp; omega) ?_
            intro A3 c3 w3 zs hzs hown3 hg3 _
            obtain ⟨s0, s1, s2, s3, s4⟩ := nums_step (n := 1) (x := y) HBXW.out HOWW.out (by omega) hown3 hg3
            have hc1' := s0.cell
            have hf1' := s0.frozen
            refine hK _ _ ?_
            clear hK K
            refine wpAnyIn_ready (rs := [7]) (by kernel_rfl) (by simp) (AllReadyIn.cons rfl (fun K hK => ?_) AllReadyIn.nil)
            go_simp
            refine hK _ _ ?_
            clear hK K
            refine wpAnyIn_done (by kernel_rfl) ?_ _
            gi_wp2_with fail
            obtain ⟨g1, _, g2⟩ := HFIN.out zs A3 c3 w3 hzs s1 s2 s3 s4
            exact ⟨g1, rfl, g2⟩)
        · have hok2 : q < v := by omega
          gi_wp2_with fail
          refine ⟨KeepsOthers.refl _, Below.refl _ _, fun k hk => ?_, H2.out⟩
          rcases List.mem_append.1 hk with h | h
          · exact H1.out k h
          · simp at h; rw [h, ← HV.out]; exact hok2
      case done =>
        rintro D xs W hD rfl ⟨h1, h2⟩ hK
        have hnone := HNO.out (drawn_none (fun k hk => by rw [← HQ.out]; exact h1 k (by simpa using hk)))
        have H2 := Lib.hid h2
        have HN := Lib.hid hnone
        have HK := Lib.hid hK
        clear h1 h2 hnone hK hs0
        gi_wp2_with fail
        have hbw : Below w.heap.size w W := HBW.out.trans (H2.out.mono HBW.out.size)
        refine leaves_marks (base := w.heap.size) (Φ := fun X => Below w.heap.size w X) ?_ ?_ (D :: Ds) W (List.nodup_cons.2 ⟨fun hm => by have := (HIX.out D hm).2.1; omega, hI.out.nd⟩) ?_ hbw
        · intro X E hE h1 h3
          have hg := grownBy_putObj' X E (.deferred none)
          exact h1.grown hg h1.size (fun k e => by cases e; exact hE)
        · intro X h1
          refine ⟨_, results_tmp2 rfl _ _ _, none, 0, [], 6, rfl, ?_, Ow.nil _ _ _, h1⟩
          unfold numsA
          rw [HN.out]
        · intro E hE
          rcases List.mem_cons.1 hE with rfl | hE
          · exact ⟨by have := HBW.out.size; omega, HK.out⟩
          · obtain ⟨d1, d2, d3⟩ := HIX.out E hE
            exact ⟨d1, (H2.out.block E d2).trans d3⟩
      case stop =>
        rintro D c' pre W hD ⟨m, hm, hpre⟩ ⟨rfl, ⟨pre', x, hpx, h1, h2, A3, c3, h3, h4⟩, h5, h6, h7⟩ hK
        rw [hpre, List.range_succ] at hpx
        obtain ⟨e1, e2⟩ := List.append_inj' hpx rfl
        have e3 : m = x := by simpa using e2
        subst e3
        have hdr : drawnM s i n = some (tryM s i m % n) := drawn_some hm (fun k hk => by rw [← HQ.out]; exact h1 k (by rw [← e1]; simpa using hk)) (by rw [← HQ.out]; exact h2)
        have hnext : numsM s (rs.take (j + 1)) = some (l ++ [tryM s i m % n]) := by rw [HDR.out, HNUM.out, hdr]
        have hI2 := Lib.hid (show NumInv s rs w (j + 1) (D :: Ds) W from ⟨⟨_, A3, c3, hnext, h3, h4⟩, h5, List.nodup_cons.2 ⟨fun hm => by have := (HIX.out D hm).2.1; omega, hI.out.nd⟩, fun E hE => by
          rcases List.mem_cons.1 hE with rfl | hE
          · exact ⟨by have := HBW.out.size; omega, hK⟩
          · exact ⟨(HIX.out E hE).1, h6 E hE⟩, by have := HBW.out.size; omega⟩)
        clear hpx e1 e2 hdr hnext h1 h2 h3 h4 h5 h6 h7 hK hs0
        gi_wp2_with fail
        refine ⟨⟨_, _, _, _, _, _, _, _, _, _, _, _, _, j + 1, D :: Ds, ⟨by omega, hI2⟩, by rw [show ((j + 1 : Nat) : Int) = (j : Int) + 1 by omega]; rfl⟩, ?_⟩
        simp [intOf]; omega
end Go.Proofs.YtipclieldokfnaaDoor
