/- A range over a function whose iterator hands out values that lie in new memory: the round is told what its element is in the world ('Mx'). No program is named here. octet's Split, which ranges over the function that fields returns. octet's Split. -/
import Derived.Test.YtikhffdbjelanaaDoorGb
import Derived.RangeFuncNested
import Derived.RangeFuncCalls
import Derived.RangeFuncLeaves
import Derived.RangeFuncBox
import Derived.Shelf.Abstract
import Derived.Shelf.RegionOpen
import Derived.OwnWalkIn
import Derived.TacticsInMore
import Derived.LoopNIn
import Derived.LoopIn
namespace Go.Proofs.YtikhffdbjelanaaDoor.Oc
open Go.RowKit
set_option linter.unusedVariables false
variable {F : Fence} {n : Nat} {P : Program}

/-- What an iterator over elements of α promises to a loop that begins in the world w. -/
def SeqNew {α : Type} (F : Fence) (n : Nat) (P : Program) (gf : Nat) (lb : Array Value) (encs : α → Array Value) (Kp : World → World → Prop) (Mx : α → World → Prop) (S Sp : List α → Prop) (N : Nat) (w : World) : Prop :=
  ∀ (l : Nat) (J Jx : List α → World → Prop) (W : World), Below w.heap.size w W → (∀ s X Y, J s X → X.grownBy Y none → J s Y) → (∀ s X Y, Jx s X → X.grownBy Y none → Jx s Y) →
    (∀ pre x W1, J pre W1 → Mx x W1 → pre.length < N → YieldAt F (n - 1) P l (encs x) W1 fun e W' =>
      (e = .returned (.bool true) ∧ J (pre ++ [x]) W' ∧ Kp W1 W') ∨ (e = .returned (.bool false) ∧ Jx (pre ++ [x]) W')) →
    J [] W →
    CallsIn F n P gf (#[.func (.yield l) #[] #[]] ++ lb) W fun e W' => (∃ v, e = .returned v) ∧ ((∃ xs, S xs ∧ J xs W') ∨ (∃ pre, Sp pre ∧ Jx pre W'))

theorem grown_none_keeps {W W' : World} (hg : W.grownBy W' none) {k : Nat} {o : Obj} (hk : W.heap[k]? = some o) : W'.heap[k]? = some o :=
  (hg.block k (Array.getElem?_eq_some_iff.1 hk).1 (by simp)).trans hk

/-- The statement, over such an iterator. -/
theorem wpIn_range_new {α : Type} {g : Operand} {ps : Array Tmp} {assign body : Code} {Q : Exit → Act → World → Prop} {a : Act} {w : World}
    (hro : F.round = none) (h1 : 1 ≤ n) {gf : Nat} {lb : Array Value} (hg : a.eval g = .func (.func gf) #[] lb) (hFg : F.fn gf) (eg : ∀ args w, (callFunc gf args).run P w = .ok (.enter gf args) w)
    {encs : α → Array Value} {Kp : World → World → Prop} {Mx : α → World → Prop} {S Sp : List α → Prop} {N : Nat} (hseq : SeqNew F (n - 1) P gf lb encs Kp Mx S Sp N w)
    (hKt : ∀ {A B C : World}, Kp A B → Kp B C → Kp A C) (hKb : ∀ (W : World) (l : Nat) (o o' : Obj), w.heap.size ≤ l → W.heap[l]? = some o → o.isCells = false → Kp W (W.putObj l o'))
    (hMx : ∀ x, OwnFrom w.heap.size (fun (_ : Unit) W => Mx x W)) (hps : ∀ x, (encs x).size = ps.size)
    (I : List α → World → Prop) (Ix : Code → List α → World → Prop) (hI : OwnFrom w.heap.size I) (hIx : ∀ c, OwnFrom w.heap.size (Ix c)) (h0 : I [] w) (a₁ : α → Act)
    (hassign : ∀ (l : Nat) (x : α) (W : World) (K : Act → World → Prop), K (a₁ x) W →
      assign.wpIn (F.inRound l) (n - 1 - 1) P (Exit.then K (fun _ _ _ => False)) { tmps := (ps.zip (encs x)).foldl (fun t (p, v) => t.setIfInBounds p v) a.tmps, defers := [] } W)
    (hbody : ∀ (l : Nat) (pre : List α) (x : α) (W : World), I pre W → Mx x W → pre.length < N → body.wpIn (F.inRound l) (n - 1 - 1) P (ownPostK Kp I Ix (pre ++ [x]) W) (a₁ x) W)
    (hdone : ∀ (D : Nat) (xs : List α) (W : World), w.heap.size ≤ D → S xs → I xs W → W.heap[D]? = some (.deferred (some [])) → Q .normal { a with defers := { target := .collected D, args := #[] } :: a.defers } W)
    (hstop : ∀ (D : Nat) (c : Code) (pre : List α) (W : World), w.heap.size ≤ D → Sp pre → Ix c pre W → W.heap[D]? = some (.deferred (some [])) → c.wpIn F n P Q { a with defers := { target := .collected D, args := #[] } :: a.defers } W) :
    (Code.rangeFunc g ps assign body).wpIn F n P Q a w := by
  refine wpIn_rangeFunc ?_
  intro fn hfn
  rw [hro]
  obtain ⟨rec, hrec⟩ : ∃ rec : LoopState → Option Code → Loop, rec = fun st pe => { state := st, pending := pe, fn, tmps := a.tmps, params := ps, assign, body, defers := w.heap.size } := ⟨_, rfl⟩
  obtain ⟨d, hd⟩ : ∃ d, d = w.heap.size := ⟨_, rfl⟩
  obtain ⟨r, hr⟩ : ∃ r, r = w.heap.size + 1 := ⟨_, rfl⟩
  obtain ⟨W1, hW1⟩ : ∃ W1, (w.alloc (.deferred (some []))).alloc (.loop (rec .ready none)) = W1 := ⟨_, rfl⟩
  have hL1 : W1.heap[r]? = some (.loop (rec .ready none)) := by
    have := World.alloc_heap_new (w.alloc (.deferred (some []))) (.loop (rec .ready none))
    rw [World.size_alloc, hW1] at this
    rw [hr]; exact this
  have hK1 : W1.heap[d]? = some (.deferred (some [])) := by
    rw [← hW1, hd]; exact (Below.heap_alloc _ _ _ (by simp)).trans (World.alloc_heap_new w _)
  have hI1 : I [] W1 := by rw [← hW1]; exact hI.alloc _ (hI.alloc _ h0)
  have hb1 : Below w.heap.size w W1 := by
    rw [← hW1]; exact ((Below.refl _ w).alloc (Nat.le_refl _) _).alloc (by simp) _
  have hdr : d ≠ r := by omega
  refine ⟨r, [{ target := .collected d, args := #[] }], W1, { target := .fn (.func gf) lb, args := #[.func (.yield r) #[] #[]] }, W1, gf,
    #[.func (.yield r) #[] #[]] ++ lb, W1, ?_, ?_, ?_, ?_, fun _ => h1, ?_⟩
  · rw [← hW1, hrec, hd, hr]; exact run_enterLoop_outer _ _ _ _ _
  · simp only [resolve, hg]
    simp [go_sem]
  · intro f' hf'; simp [Target.leads] at hf'; subst hf'; exact hFg
  · simp [invoke, go_sem, eg]
  · refine (hseq r
      (fun pre W => I pre W ∧ W.heap[r]? = some (.loop (rec .ready none)) ∧ W.heap[d]? = some (.deferred (some [])))
      (fun pre W => ∃ c, Ix c pre W ∧ W.heap[r]? = some (.loop (rec .done (some c))) ∧ W.heap[d]? = some (.deferred (some [])))
      W1 hb1
      (fun s X Y hs hg' => ⟨hI s X Y none hs.1 hg' (by simp), grown_none_keeps hg' hs.2.1, grown_none_keeps hg' hs.2.2⟩)
      (fun s X Y hs hg' => by
        obtain ⟨c, hc, hl, hk⟩ := hs
        exact ⟨c, hIx c s X Y none hc hg' (by simp), grown_none_keeps hg' hl, grown_none_keeps hg' hk⟩)
      ?_ ⟨hI1, hL1, hK1⟩).mono ?_
    · rintro pre x W ⟨hi, hl, hk⟩ hm hlen
      have hlt : r < W.heap.size := (Array.getElem?_eq_some_iff.1 hl).1
      have hy := run_yield (P := P) (args := encs x) hl (by rw [hrec]; exact hps x)
      rw [hrec] at hy
      refine ⟨fn, _, assign, body, hy, roundIn_of_wpIn hfn (hassign _ x W _ ⟨_, run_beginRound hl (by rw [hrec]), ?_⟩)⟩
      obtain ⟨busy, hbusy⟩ : ∃ busy, busy = { rec .ready none with state := .busy } := ⟨_, rfl⟩
      rw [← hbusy]
      have hl2 : (W.putObj r (.loop busy)).heap[r]? = some (.loop busy) := World.putObj_heap_same hlt
      have hk2 : (W.putObj r (.loop busy)).heap[d]? = some (.deferred (some [])) := (World.putObj_heap_other hdr).trans hk
      have hw2 : Kp W (W.putObj r (.loop busy)) := hKb _ _ _ _ (by omega) hl rfl
      have hm2 : Mx x (W.putObj r (.loop busy)) := (hMx x).putObj (s := ()) _ hm (by omega) hl rfl
      refine wpIn_mono (hbody _ pre x _ (hI.putObj _ hi (by omega) hl rfl) hm2 hlen) ?_
      have fin : ∀ (jump : Option Code) (W3 : World), KeepsOthers (W.putObj r (.loop busy)) W3 →
          (Instr.endRound r jump).run P W3 = .ok (.bool jump.isNone) (W3.putObj r (.loop (rec (if jump.isNone then .ready else .done) jump))) ∧
          W3.heap[r]? = some (.loop busy) ∧
          (W3.putObj r (.loop (rec (if jump.isNone then .ready else .done) jump))).heap[r]? = some (.loop (rec (if jump.isNone then .ready else .done) jump)) ∧
          (W3.putObj r (.loop (rec (if jump.isNone then .ready else .done) jump))).heap[d]? = some (.deferred (some [])) := fun jump W3 hk3 => by
        have hl3 := hk3.same _ _ hl2 rfl
        have := run_endRound (P := P) jump hl3
        rw [hbusy, hrec] at this
        refine ⟨by rw [hrec]; exact this, hl3, World.putObj_heap_same (Array.getElem?_eq_some_iff.1 hl3).1, (World.putObj_heap_other hdr).trans (hk3.same _ _ hk2 rfl)⟩
      rintro e a3 W3 hp
      cases e with
      | normal =>
        obtain ⟨hk3, hkp3, hi3⟩ := hp
        obtain ⟨hr', hl3, hl4, hk4⟩ := fin none W3 hk3
        exact ⟨_, _, hr', .inl ⟨rfl, ⟨hI.putObj _ hi3 (by omega) hl3 rfl, hl4, hk4⟩, hKt (hKt hw2 hkp3) (hKb _ _ _ _ (by omega) hl3 rfl)⟩⟩
      | ret =>
        obtain ⟨hk3, hi3⟩ := hp
        obtain ⟨hr', hl3, hl4, hk4⟩ := fin (some .ret) W3 hk3
        exact ⟨_, _, hr', .inr ⟨rfl, .ret, (hIx _).putObj _ hi3 (by omega) hl3 rfl, hl4, hk4⟩⟩
      | exit id =>
        obtain ⟨hk3, hi3⟩ := hp
        obtain ⟨hr', hl3, hl4, hk4⟩ := fin (some (.exit id)) W3 hk3
        exact ⟨_, _, hr', .inr ⟨rfl, .exit id, (hIx _).putObj _ hi3 (by omega) hl3 rfl, hl4, hk4⟩⟩
      | goto t =>
        obtain ⟨hk3, hi3⟩ := hp
        obtain ⟨hr', hl3, hl4, hk4⟩ := fin (some (.goto t)) W3 hk3
        exact ⟨_, _, hr', .inr ⟨rfl, .goto t, (hIx _).putObj _ hi3 (by omega) hl3 rfl, hl4, hk4⟩⟩
      | panic ch => exact hp.elim
      | outgrown => exact hp.elim
    · rintro e W2 ⟨⟨v, rfl⟩, (⟨xs, hS, hi, hl, hk⟩ | ⟨pre, hSp, c, hi, hl, hk⟩)⟩
      · exact ⟨none, _, by have := run_endLoop (P := P) hl (by rw [hrec]; simp); rw [hrec] at this; exact this, hdone _ xs _ (by omega) hS (hI.putObj _ hi (by omega) hl rfl) ((World.putObj_heap_other hdr).trans hk)⟩
      · exact ⟨some c, _, by have := run_endLoop (P := P) hl (by rw [hrec]; simp); rw [hrec] at this; exact this, hstop _ c pre _ (by omega) hSp ((hIx c).putObj _ hi (by omega) hl rfl) ((World.putObj_heap_other hdr).trans hk)⟩
end Go.Proofs.YtikhffdbjelanaaDoor.Oc
namespace Go.Proofs.YtikhffdbjelanaaDoor.Oc
open Go.RowKit Go.Shelf
set_option linter.unusedVariables false
attribute [local go_sem] Oper.semAt_some

/-- What fields yields: an element and an error. -/
structure Yd where
  x : El
  e : Int
abbrev Yd.encs (y : Yd) : Array Value := #[.slice y.x.A y.x.l.length y.x.c, .int .i64 y.e]
def els (ys : List Yd) : List El := ys.map (·.x)
theorem els_len (ys : List Yd) : (els ys).length = ys.length := by simp [els]
theorem els_snoc (ys : List Yd) (y : Yd) : els (ys ++ [y]) = els ys ++ [y.x] := by simp [els]

/-- 'pre' has come, all of it right, and p is the place behind it. -/
def Came (l : List UInt8) (p : Nat) (pre : List Yd) : Prop := (∀ y ∈ pre, y.e = 0) ∧ SplitAt l p (els pre)
/-- The last that has come says that no field follows. -/
def Failed (l : List UInt8) (pre : List Yd) : Prop := ∃ init y p, pre = init ++ [y] ∧ Came l p init ∧ p < l.length ∧ y.e = 10 ∧ ∀ x r, x.length ≤ 65535 → l.drop p ≠ fld x ++ r

/-- What the body of Split's loop keeps: all blocks below B0 but the one of the list. -/
def KeepSplit (B0 Bl : Nat) (W W' : World) : Prop := W.heap.size ≤ W'.heap.size ∧ ∀ k, k < B0 → k ≠ Bl → W'.heap[k]? = W.heap[k]?
theorem KeepSplit.cell {B0 Bl : Nat} {W W' : World} (h : KeepSplit B0 Bl W W') {q : Addr} (h1 : q.block < B0) (h2 : q.block ≠ Bl) : W'.cell? q = W.cell? q := World.cell?_of_block (w := W) (h.2 q.block h1 h2)

theorem fields_call (A : Option Addr) (c n : Nat) (w : World) :
    Calls Tryd.prog 58 #[.slice A n c] w fun e w' => e = .returned (.func (.func 67) #[] #[.pointer (some ⟨w.heap.size, 0, none⟩)]) ∧ w' = w.alloc (.cells #[.slice A n c] 37) := by
  go_enter Tryd.func58, Tryd.ntmps58
  go_wp2
  go_ret
  exact ⟨rfl, rfl⟩

set_option maxRecDepth 100000 in
set_option maxHeartbeats 2000000 in
theorem fields_seq (A : Option Addr) (c n₀ Bn Bl B0 : Nat) (l : List UInt8) (w : World) (n : Nat) (hn : 3 ≤ n) (hr : Rd w n₀ A c l) (hl : l.length ≤ 200000) (hBn : w.cell? ⟨Bn, 0, none⟩ = some (.slice A l.length c)) (hn0 : n₀ ≤ Bl) (hne : Bn ≠ Bl) (hB : Bn < B0) (hBl : n₀ ≤ B0) (hw : w.heap.size = B0) :
    SeqNew Fence.wide n Tryd.prog 67 #[.pointer (some ⟨Bn, 0, none⟩)] Yd.encs (KeepSplit B0 Bl) (fun y W => Own W B0 5 y.x.A y.x.c y.x.l ∧ y.x.l.length ≤ 200000)
      (fun ys => (∃ p, Came l p ys ∧ ¬ p < l.length) ∨ Failed l ys) (fun pre => (∃ p, Came l p pre) ∨ Failed l pre) 200000 w := by
  intro L J Jx W hW hJ hJx hY h0
  refine callsIn_of_wp Tryd.func67 rfl trivial ?_ rfl
  simp only [Tryd.ntmps67, List.size_toArray, List.length_cons, List.length_nil, Nat.reduceAdd, Nat.reduceSub, Array.replicate_succ, Array.replicate_zero, List.push_toArray, List.append_toArray, List.nil_append, List.cons_append]
  gi_wp2
  gi_loopw [3] (fun i wr => ∃ (pre : List Yd) (p : Nat), i = .int .i64 p ∧ Came l p pre ∧ J pre wr ∧ Rd wr n₀ A c l ∧ wr.cell? ⟨Bn, 0, none⟩ = some (.slice A l.length c) ∧ B0 ≤ wr.heap.size)
    (fun i _ => l.length - (intOf i).toNat)
  case atStart =>
    exact ⟨[], 0, rfl, ⟨(fun _ h => by cases h), SplitAt.start l⟩, h0, (hr.below (hW.mono (by omega))), (hW.cell (p := ⟨Bn, 0, none⟩) (by rw [hw]; exact hB)).trans hBn, by have := hW.size; omega⟩
  case round =>
    obtain ⟨pre, p, rfl, hcame, hJp, hrp, hcp, hsz⟩ := hrel
    have hple := hcame.2.le
    have hcnt := hcame.2.count
    rw [els_len] at hcnt
    have hJK : ∀ {W2 : World}, Below wr.heap.size wr W2 → J pre W2 := fun hb => hJ _ _ _ hJp (grown_of_below hb (Nat.le_refl _) none)
    by_cases hlt : p < l.length
    · have hT := takeField_any A c l p wr (hrp.more (by omega)) hl (by omega) (by omega)
      rcases takeFieldM_spec l p hple with ⟨x, hx, hxl, hq, hd⟩ | ⟨hq, hno⟩
      · rw [hq] at hT
        have HT := Lib.hid hT
        have HD := Lib.hid hd
        clear hT hd hq
        gi_wp2_with fail
        refine ⟨trivial, fun _ => by omega, (callsIn_wide.2 HT.out).mono ?_⟩
        rintro e w2 ⟨A2, c2, r2, rfl, hr2, hown2, hb2⟩
        obtain rfl : r2 = x := hr2
        have hs2 := hb2.size
        have hst := hcame.2.step (x := ⟨A2, c2, r2⟩) hx HD.out
        have hcame' : Came l (p + 2 + r2.length) (pre ++ [⟨⟨A2, c2, r2⟩, 0⟩]) := ⟨fun y hy => by
          rcases List.mem_append.1 hy with h | h
          · exact hcame.1 y h
          · simp at h; subst h; rfl, by rw [els_snoc]; exact hst⟩
        obtain ⟨fn, tmps, assign, body, hy, hR⟩ := hY pre ⟨⟨A2, c2, r2⟩, 0⟩ w2 (hJK hb2) ⟨hown2.lower hsz, by show r2.length ≤ _; omega⟩ (by omega)
        dsimp only [Yd.encs] at hy
        have hcp2 := (hb2.cell (p := ⟨Bn, 0, none⟩) (by show Bn < _; omega)).trans hcp
        have hrp2 := hrp.keep (w' := w2) (fun q hq => hb2.cell (by omega))
        gi_wp2_with fail
        refine ⟨fun _ => by omega, hR.mono ?_⟩
        rintro e W3 (⟨rfl, hJ3, hk3⟩ | ⟨rfl, hx3⟩)
        · have hcp3 := (hk3.cell (q := ⟨Bn, 0, none⟩) hB hne).trans hcp2
          have hrp3 := hrp2.keep (w' := W3) (fun q hq => hk3.cell (by omega) (by omega))
          have hs3 := hk3.1
          clear hR hy
          gi_wp2_with fail
          go_roundw
          case rel => exact ⟨_, p + 2 + r2.length, by go_num, hcame', hJ3, hrp3, hcp3, by omega⟩
          case measure => simp [intOf]; omega
        · clear hR hy
          gi_wp2_with fail
          refine bodyPost_ret (results_none rfl _ _ _) rfl ?_
          exact ⟨⟨_, rfl⟩, .inr ⟨_, .inl ⟨_, hcame'⟩, hx3⟩⟩
      · rw [hq] at hT
        have HT := Lib.hid hT
        have HNO := Lib.hid hno
        clear hT hno hq
        gi_wp2_with fail
        refine ⟨trivial, fun _ => by omega, (callsIn_wide.2 HT.out).mono ?_⟩
        rintro e w2 ⟨A2, c2, r2, rfl, hr2, hown2, hb2⟩
        have hs2 := hb2.size
        have hl2 : r2.length ≤ 200000 := by rw [hr2]; simp
        have hfail : Failed l (pre ++ [⟨⟨A2, c2, r2⟩, 10⟩]) := ⟨pre, _, p, rfl, hcame, hlt, rfl, HNO.out⟩
        obtain ⟨fn, tmps, assign, body, hy, hR⟩ := hY pre ⟨⟨A2, c2, r2⟩, 10⟩ w2 (hJK hb2) ⟨hown2.lower hsz, hl2⟩ (by omega)
        dsimp only [Yd.encs] at hy
        clear hr2
        gi_wp2_with fail
        refine ⟨fun _ => by omega, hR.mono ?_⟩
        rintro e W3 (⟨rfl, hJ3, hk3⟩ | ⟨rfl, hx3⟩)
        · clear hR hy
          gi_wp2_with fail
          refine bodyPost_ret (results_none rfl _ _ _) rfl ?_
          exact ⟨⟨_, rfl⟩, .inl ⟨_, .inr hfail, hJ3⟩⟩
        · clear hR hy
          gi_wp2_with fail
          refine bodyPost_ret (results_none rfl _ _ _) rfl ?_
          exact ⟨⟨_, rfl⟩, .inr ⟨_, .inr hfail, hx3⟩⟩
    · gi_wp2_with fail
      go_end0
      exact ⟨⟨_, rfl⟩, .inl ⟨pre, .inl ⟨p, hcame, hlt⟩, hJp⟩⟩
end Go.Proofs.YtikhffdbjelanaaDoor.Oc
namespace Go.Proofs.YtikhffdbjelanaaDoor.Oc
open Go.RowKit Go.Shelf
set_option linter.unusedVariables false
attribute [local go_sem] Oper.semAt_some

theorem own_row_cells {w : World} {base e s n : Nat} {v : Value} {xs : List Value} (h : w.ownsRow base e s v n xs) {row : Option Nat} (hr : ∀ r, row = some r → ∃ o : Obj, w.heap[r]? = some o ∧ o.isCells = false) : v.ownBlock = none ∨ v.ownBlock ≠ row := by
  rcases h.2 with ⟨rfl, _⟩ | ⟨g, cap, cur, rfl, _, hg, _⟩
  · exact .inl rfl
  · refine .inr fun e' => ?_
    obtain ⟨o, ho, hc⟩ := hr g (by simpa [Value.ownBlock] using e'.symm)
    rw [hg] at ho; cases ho; cases hc
theorem OwnL.obj {w w' : World} {base c : Nat} {A : Option Addr} {xs : List El} (h : OwnL w base A c xs) {row : Option Nat} (hg : w.grownBy w' row) (hr : ∀ r, row = some r → ∃ o : Obj, w.heap[r]? = some o ∧ o.isCells = false) : OwnL w' base A c xs :=
  ⟨World.ownsRow.kept h.1 hg (own_row_cells h.1 hr), fun x hx => World.ownsRow.kept (h.2 x hx) hg (own_row_cells (h.2 x hx) hr)⟩
theorem boxed_obj {w w' : World} {b t : Nat} {v : Value} (h : Boxed w b t v) {row : Option Nat} (hg : w.grownBy w' row) (hr : ∀ r, row = some r → ∃ o : Obj, w.heap[r]? = some o ∧ o.isCells = false) : Boxed w' b t v :=
  h.kept hg (fun e => by obtain ⟨o, ho, hc⟩ := hr b e.symm; rw [show w.heap[b]? = _ from h] at ho; cases ho; cases hc)

theorem blk_apart' {A : Option Addr} {B0 Bl : Nat} (h : ∀ k, blk A = some k → B0 ≤ k) (hB : Bl < B0) : blk A = none ∨ blk A ≠ some Bl := by
  cases e : blk A with
  | none => exact .inl rfl
  | some g =>
    refine .inr fun e2 => ?_
    have := h g e
    have := Option.some.inj e2
    omega

theorem wpListIn_append_el {F : Fence} {n : Nat} (w : World) {ops : Array Oper} {rest : List Oper} {o : Oper} {a : Act} {Q : Exit → Act → World → Prop} (hgd : o.guard = none) (s y : Operand)
    (ho : o.op = .call { callee := .builtin .append, args := #[s, y], argTypes := #[77, 77] })
    (base : Nat) {A : Option Addr} {c : Nat} (xs : List El) (x : El) (hs : a.eval s = .slice A xs.length c) (hy : a.eval y = .slice (some ⟨w.heap.size, 0, none⟩) 1 1) (hown : OwnL w base A c xs) (hx : Own w base 5 x.A x.c x.l) (hle : xs.length ≤ 1000000) (hbase : base ≤ w.heap.size)
    (h : ∀ A' c' w' ys, Hid (ys = xs ++ [x]) → OwnL w' base A' c' ys → (w.alloc (.cells #[x.v] 37)).grownBy w' (blk A) → (blk A' = blk A ∨ blk A' = some (w.heap.size + 1)) → wpListIn F n Tryd.prog ops Q rest (a.put o.dst (.slice A' ys.length c')) w') :
    wpListIn F n Tryd.prog ops Q (o :: rest) a (w.alloc (.cells #[x.v] 37)) := by
  refine wpListIn_plain hgd fun K hK => ?_
  obtain ⟨A', c', w', hrun, h2, h3, h4⟩ := run_append_el w base x o.type hown hx hle hbase
  unfold Oper.wpIn
  refine ⟨?_, ?_⟩
  · simp [Oper.about, ho, resolve, Target.leads, Sem.run_pure]
  · rw [Oper.semAt_plain F _ _ (by rw [ho]; intro c hc'; cases hc')]
    simp only [execOp, ho, resolve, invoke, builtin, Sem.run_bind, Sem.run_pure, Result.andThen_ok, List.map_toArray, List.map_cons, List.map_nil, hs, hy, hrun]
    exact hK _ _ (h A' c' w' _ rfl h2 h3 h4)

/-- What the loop's body leaves when it has appended: in one piece. -/
theorem split_step {W w3 : World} {n0 Bl B0 c c3 : Nat} {A A3 : Option Addr} {pre : List Yd} {y : Yd} {zs : List El} {v : Value} (hB : Bl < B0) (hn : n0 + 1 < Bl) (hbx : Boxed W Bl 77 v) (hown : OwnL W B0 A c (els pre)) (hws : B0 ≤ W.heap.size)
    (hbr : Boxed W n0 77 (.slice none 0 0)) (hbe : Boxed W (n0 + 1) 25 (.int .i64 0)) (hzs : zs = els pre ++ [y.x]) (hown3 : OwnL w3 B0 A3 c3 zs) (hg3 : (W.alloc (.cells #[y.x.v] 37)).grownBy w3 (blk A)) :
    Boxed w3 Bl 77 v ∧ KeepsOthers W (w3.setCell ⟨Bl, 0, none⟩ (.slice A3 zs.length c3)) ∧ KeepSplit B0 Bl W (w3.setCell ⟨Bl, 0, none⟩ (.slice A3 zs.length c3)) ∧
      Boxed (w3.setCell ⟨Bl, 0, none⟩ (.slice A3 zs.length c3)) Bl 77 (.slice A3 (els (pre ++ [y])).length c3) ∧ OwnL (w3.setCell ⟨Bl, 0, none⟩ (.slice A3 zs.length c3)) B0 A3 c3 (els (pre ++ [y])) ∧
      Boxed (w3.setCell ⟨Bl, 0, none⟩ (.slice A3 zs.length c3)) n0 77 (.slice none 0 0) ∧ Boxed (w3.setCell ⟨Bl, 0, none⟩ (.slice A3 zs.length c3)) (n0 + 1) 25 (.int .i64 0) ∧
      Below n0 W (w3.setCell ⟨Bl, 0, none⟩ (.slice A3 zs.length c3)) ∧ B0 ≤ (w3.setCell ⟨Bl, 0, none⟩ (.slice A3 zs.length c3)).heap.size := by
  have hne : ∀ k, k < B0 → some k ≠ blk A := fun k hk e => by have := (hown.blk_ge k e.symm).1; omega
  have hsz := hg3.size
  rw [World.size_alloc] at hsz
  have hbx3 := (hbx.alloc (.cells #[y.x.v] 37)).kept hg3 (hne _ hB)
  have hgs := grownBy_setCell' w3 Bl (.slice A3 zs.length c3)
  have hset := hgs.size
  have he : els (pre ++ [y]) = zs := by rw [els_snoc, hzs]
  refine ⟨hbx3, ?_, ⟨by omega, fun k hk hkl => ?_⟩, ?_, ?_, ?_, ?_, ?_, by omega⟩
  · refine ((KeepsOthers.alloc W _).trans (KeepsOthers.of_grownBy hg3 fun j o ej hj => ?_)).trans (KeepsOthers.setCell _ _ _)
    rcases (hown.alloc (.cells #[y.x.v] 37)).1.2 with ⟨hv, _⟩ | ⟨g, cap, cur, hv, _, hgb, _⟩
    · simp only [Value.slice.injEq] at hv
      rw [hv.1] at ej
      simp [blk] at ej
    · simp only [Value.slice.injEq] at hv
      rw [hv.1] at ej
      simp [blk] at ej
      subst ej
      rw [hgb] at hj; cases hj; rfl
  · exact (hgs.block k (by omega) (by simpa using hkl)).trans ((hg3.block k (by rw [World.size_alloc]; omega) (hne k hk)).trans (Below.heap_alloc W _ k (by omega)))
  · rw [he]; exact hbx3.set _
  · rw [he]
    exact hown3.kept hgs (blk_apart' (fun k hk => (hown3.blk_ge k hk).1) hB) (fun x hx => blk_apart' (fun k hk => ((hown3.2 x hx).blk_ge k hk).1) hB)
  · exact ((hbr.alloc _).kept hg3 (hne _ (by omega))).kept hgs (by simp; omega)
  · exact ((hbe.alloc _).kept hg3 (hne _ (by omega))).kept hgs (by simp; omega)
  · exact (((Below.refl n0 W).alloc (by omega) _).grown hg3 (by rw [World.size_alloc]; omega) (fun k e => by have := (hown.blk_ge k e).1; omega)).setCell (p := ⟨Bl, 0, none⟩) (by show n0 ≤ Bl; omega) _

set_option maxRecDepth 100000 in
set_option maxHeartbeats 2000000 in
theorem split_any (A : Option Addr) (c : Nat) (l : List UInt8) (w : World) (hr : Rd w w.heap.size A c l) (hl : l.length ≤ 200000) :
    Calls Tryd.prog 45 #[.slice A l.length c] w (ListErr w (splitM l)) := by
  refine (callsIn_wide (n := 6)).1 ?_
  refine callsIn_of_wp_marks Tryd.func45 rfl trivial ?_ rfl
  simp only [Tryd.ntmps45, List.size_toArray, List.length_cons, List.length_nil, Nat.reduceAdd, Nat.reduceSub, Array.replicate_succ, Array.replicate_zero, List.push_toArray, List.append_toArray, List.nil_append, List.cons_append]
  by_cases hbig : 16384 < l.length
  · rw [splitM_big hbig]
    have hi : (16384 : Int) < l.length := by omega
    gi_wp2_with fail
    refine ⟨.tuple #[.slice none 0 0, .int .i64 4], ?_, ?_⟩
    · simp [results, Tryd.f45, go_sem]
    · exact ⟨none, 0, [], rfl, rfl, OwnL.nil _ _, ((Below.refl _ w).alloc (Nat.le_refl _) _).alloc (by simp) _⟩
  have hi : ¬ (16384 : Int) < l.length := by omega
  have hle : l.length ≤ 16384 := by omega
  gi_wp2_with fail
  refine ⟨trivial, (callsIn_wide.2 (fields_call A c l.length _)).mono ?_⟩
  rintro e w' ⟨rfl, rfl⟩
  gi_wp2_with fail
  have bR0 := Boxed.new w 77 (.slice none 0 0)
  have bE0 := Boxed.new (w.alloc (.cells #[.slice none 0 0] 77)) 25 (.int .i64 0)
  have bL0 := Boxed.new ((w.alloc (.cells #[.slice none 0 0] 77)).alloc (.cells #[.int .i64 0] 25)) 77 (.slice none 0 0)
  have bB0 := Boxed.new (((w.alloc (.cells #[.slice none 0 0] 77)).alloc (.cells #[.int .i64 0] 25)).alloc (.cells #[.slice none 0 0] 77)) 37 (.slice A l.length c)
  have hb0 : Below w.heap.size w ((((w.alloc (.cells #[.slice none 0 0] 77)).alloc (.cells #[.int .i64 0] 25)).alloc (.cells #[.slice none 0 0] 77)).alloc (.cells #[.slice A l.length c] 37)) :=
    ((((Below.refl _ w).alloc (Nat.le_refl _) _).alloc (by simp) _).alloc (by simp; omega) _).alloc (by simp; omega) _
  have bR := ((bR0.alloc (.cells #[.int .i64 0] 25)).alloc (.cells #[.slice none 0 0] 77)).alloc (.cells #[.slice A l.length c] 37)
  have bE := (bE0.alloc (.cells #[.slice none 0 0] 77)).alloc (.cells #[.slice A l.length c] 37)
  have bL := bL0.alloc (.cells #[.slice A l.length c] 37)
  have bB := bB0
  have hsz : ((((w.alloc (.cells #[.slice none 0 0] 77)).alloc (.cells #[.int .i64 0] 25)).alloc (.cells #[.slice none 0 0] 77)).alloc (.cells #[.slice A l.length c] 37)).heap.size = w.heap.size + 1 + 1 + 1 + 1 := by simp
  simp only [World.size_alloc] at bE bL bB
  clear bR0 bE0 bL0 bB0
  generalize hW0 : ((((w.alloc (.cells #[.slice none 0 0] 77)).alloc (.cells #[.int .i64 0] 25)).alloc (.cells #[.slice none 0 0] 77)).alloc (.cells #[.slice A l.length c] 37)) = W0 at *
  clear hW0
  have HSZ := Lib.hid hsz
  have hge : w.heap.size + 1 + 1 + 1 + 1 ≤ W0.heap.size := by omega
  refine wpIn_range_new (F := Fence.wide) (n := 6) rfl (by omega) (gf := 67) (lb := #[.pointer (some ⟨w.heap.size + 1 + 1 + 1, 0, none⟩)]) rfl trivial (enters_of Tryd.func67 (by kernel_rfl) rfl)
    (fields_seq A c w.heap.size (w.heap.size + 1 + 1 + 1) (w.heap.size + 1 + 1) W0.heap.size l W0 5 (by omega) (hr.below hb0) hl bB.cell (by omega) (by omega) (by omega) (by omega) rfl)
    (fun h k => ⟨Nat.le_trans h.1 k.1, fun i h1 h2 => (k.2 i h1 h2).trans (h.2 i h1 h2)⟩)
    (fun W r o o' hr' h1 h2 => ⟨by simp, fun k hk _ => World.putObj_heap_other (by omega)⟩)
    (fun y s X Y row hs hg hrow => ⟨World.ownsRow.kept hs.1 hg (own_row_cells hs.1 (fun r e => (hrow r e).2)), hs.2⟩) (fun _ => rfl)
    (fun pre W => (∃ A' c', Boxed W (w.heap.size + 1 + 1) 77 (.slice A' (els pre).length c') ∧ OwnL W W0.heap.size A' c' (els pre)) ∧ (∀ y ∈ pre, y.e = 0) ∧ Boxed W w.heap.size 77 (.slice none 0 0) ∧ Boxed W (w.heap.size + 1) 25 (.int .i64 0) ∧ Below w.heap.size w W ∧ W0.heap.size ≤ W.heap.size)
    (fun c' pre W => c' = .ret ∧ ∃ init y, pre = init ++ [y] ∧ y.e ≠ 0 ∧ Boxed W w.heap.size 77 (.slice none 0 0) ∧ Boxed W (w.heap.size + 1) 25 (.int .i64 y.e) ∧ Below w.heap.size w W)
    ?hI ?hIx ?h0
    (fun y => { tmps := #[.slice A l.length c, undef, .pointer (some ⟨w.heap.size, 0, none⟩), .pointer (some ⟨w.heap.size + 1, 0, none⟩), .pointer (some ⟨w.heap.size + 1 + 1, 0, none⟩), .slice y.x.A y.x.l.length y.x.c, .int .i64 y.e, .slice A l.length c, .int .i64 l.length, .bool false, .slice A l.length c,
      .func (.func 67) #[] #[.pointer (some ⟨w.heap.size + 1 + 1 + 1, 0, none⟩)], .slice y.x.A y.x.l.length y.x.c, .int .i64 y.e, undef, undef, undef, undef, undef, undef, undef, undef], defers := [] }) ?assign ?body ?done ?stop
  case hI =>
    rintro s X Y row ⟨⟨A', c', h1, h2⟩, h3, h4, h5, h6, h7⟩ hg hrow
    have hro := fun r e => (hrow r e).2
    exact ⟨⟨A', c', boxed_obj h1 hg hro, h2.obj hg hro⟩, h3, boxed_obj h4 hg hro, boxed_obj h5 hg hro, h6.grown hg h6.size (fun k e => by have := (hrow k e).1; omega), Nat.le_trans h7 hg.size⟩
  case hIx =>
    rintro c' s X Y row ⟨h0, init, y, h1, h2, h3, h4, h5⟩ hg hrow
    have hro := fun r e => (hrow r e).2
    exact ⟨h0, init, y, h1, h2, boxed_obj h3 hg hro, boxed_obj h4 hg hro, h5.grown hg h5.size (fun k e => by have := (hrow k e).1; omega)⟩
  case h0 => exact ⟨⟨none, 0, bL, OwnL.nil _ _⟩, (fun _ h => by cases h), bR, bE, hb0, Nat.le_refl _⟩
  case assign =>
    intro r y W K hK
    gi_wp2
    exact hK
  case body =>
    rintro r pre y W ⟨⟨A', c', hbx, hown⟩, hok, hbr, hbe, hbw, hws⟩ ⟨hmx, hmy⟩ hlt
    have hc1 := hbx.cell
    have hc2 := hbr.cell
    have hc3 := hbe.cell
    have hf1 := hbx.frozen
    have hf2 := hbr.frozen
    have hf3 := hbe.frozen
    by_cases he : y.e = 0
    · have heb : (y.e != 0) = false := by rw [bne_eq_false_iff_eq]; exact he
      have HE := Lib.hid he
      clear he
      gi_wp2_with (gi_at_builtin; refine wpListIn_append_el W rfl _ _ rfl W0.heap.size (els pre) y.x rfl rfl hown hmx (by rw [els_len]; omega) hws ?_; intro A3 c3 w3 zs hzs hown3 hg3 hb3; obtain ⟨s0, s1, s2, s3, s4, s5, s6, s7, s8⟩ := split_step (by omega) (by omega) hbx hown hws hbr hbe hzs.out hown3 hg3; have hc1' := s0.cell; have hf1' := s0.frozen)
      exact ⟨s1, s2, ⟨_, _, s3, s4⟩, fun z hz => by
        rcases List.mem_append.1 hz with h | h
        · exact hok z h
        · simp at h; subst h; exact HE.out, s5, s6, hbw.trans s7, s8⟩
    · have heb : (y.e != 0) = true := by rw [bne_iff_ne]; exact he
      have HE := Lib.hid he
      clear he
      gi_wp2_with fail
      refine ⟨(KeepsOthers.setCell _ _ _).trans (KeepsOthers.setCell _ _ _), rfl, pre, y, rfl, HE.out, ?_, ?_, ?_⟩
      · exact (hbr.set _).kept (grownBy_setCell' _ (w.heap.size + 1) _) (by simp)
      · exact (hbe.kept (grownBy_setCell' W w.heap.size _) (by simp)).set _
      · exact (hbw.setCell (p := ⟨w.heap.size, 0, none⟩) (Nat.le_refl _) _).setCell (p := ⟨w.heap.size + 1, 0, none⟩) (Nat.le_succ _) _
  case done =>
    rintro D ys W hD hS ⟨⟨A', c', hbx, hown⟩, hok, hbr, hbe, hbw, hws⟩ hK
    rcases hS with ⟨p, hcame, hp⟩ | ⟨init, y, p, rfl, _, _, h10, _⟩
    · have hq := hcame.2.done hp hle
      have HQ := Lib.hid hq
      have hc1 := hbx.cell
      have hc2 := hbr.cell
      have hc3 := hbe.cell
      have hf2 := hbr.frozen
      have hf3 := hbe.frozen
      clear hq
      gi_wp2_with fail
      obtain ⟨W2, hW2⟩ : ∃ W2, W2 = (W.setCell ⟨w.heap.size, 0, none⟩ (.slice A' (els ys).length c')).setCell ⟨w.heap.size + 1, 0, none⟩ (.int .i64 0) := ⟨_, rfl⟩
      rw [← hW2]
      have hK2 : W2.heap[D]? = some (.deferred (some [])) := by
        rw [hW2]; exact ((KeepsOthers.setCell W ⟨w.heap.size, 0, none⟩ (.slice A' (els ys).length c')).trans (KeepsOthers.setCell _ ⟨w.heap.size + 1, 0, none⟩ (.int .i64 0))).same D _ hK rfl
      have hb2 : Below w.heap.size w W2 := by
        rw [hW2]; exact (hbw.setCell (p := ⟨w.heap.size, 0, none⟩) (Nat.le_refl _) _).setCell (p := ⟨w.heap.size + 1, 0, none⟩) (Nat.le_succ _) _
      have hr2 : Boxed W2 w.heap.size 77 (.slice A' (els ys).length c') := by
        rw [hW2]; exact (hbr.set _).kept (grownBy_setCell' _ (w.heap.size + 1) _) (by simp)
      have he2 : Boxed W2 (w.heap.size + 1) 25 (.int .i64 0) := by
        rw [hW2]; exact (hbe.kept (grownBy_setCell' W w.heap.size _) (by simp)).set _
      have hown2 : OwnL W2 W0.heap.size A' c' (els ys) := by
        rw [hW2]
        have h1 := hown.kept (grownBy_setCell' W w.heap.size (.slice A' (els ys).length c')) (blk_apart' (fun k hk => (hown.blk_ge k hk).1) (by omega)) (fun x hx => blk_apart' (fun k hk => ((hown.2 x hx).blk_ge k hk).1) (by omega))
        exact h1.kept (grownBy_setCell' _ (w.heap.size + 1) (.int .i64 0)) (blk_apart' (fun k hk => (hown.blk_ge k hk).1) (by omega)) (fun x hx => blk_apart' (fun k hk => ((hown.2 x hx).blk_ge k hk).1) (by omega))
      have hgp := grownBy_putObj' W2 D (.deferred none)
      have hro : ∀ r, some D = some r → ∃ o : Obj, W2.heap[r]? = some o ∧ o.isCells = false := fun r e => by cases e; exact ⟨_, hK2, rfl⟩
      have hr3 := (boxed_obj hr2 hgp hro).cell
      have he3 := (boxed_obj he2 hgp hro).cell
      refine ⟨by simp, .inl ⟨_, _, rfl, run_takeDeferred hK2, ?_⟩⟩
      refine ⟨.tuple #[.slice A' (els ys).length c', .int .i64 0], ?_, ?_⟩
      · simp [results, Tryd.f45, go_sem, hr3, he3]
      · rw [HQ.out]
        exact ⟨A', c', els ys, rfl, rfl, (hown2.obj hgp hro).lower (by omega), hb2.trans (belowK_b (w := W0) (by omega) W2 D _ _ hD hK2 rfl rfl)⟩
    · have := hok y (by simp)
      rw [h10] at this
      cases this
  case stop =>
    rintro D c' pre W hD hSp ⟨rfl, init, y, rfl, hne, hbr, hbe, hbw⟩ hK
    rcases hSp with ⟨p, hcame⟩ | ⟨init', y', p, heq, hcame, hp, h10, hno⟩
    · exact absurd (hcame.1 y (by simp)) hne
    · have hyy : y = y' := by
        have := (List.append_inj' heq rfl).2
        simpa using this
      subst hyy
      have hq := hcame.2.stuck hp hle hno
      have HQ := Lib.hid hq
      have hgp := grownBy_putObj' W D (.deferred none)
      have hro : ∀ r, some D = some r → ∃ o : Obj, W.heap[r]? = some o ∧ o.isCells = false := fun r e => by cases e; exact ⟨_, hK, rfl⟩
      have hr3 := (boxed_obj hbr hgp hro).cell
      have he3 := (boxed_obj hbe hgp hro).cell
      rw [h10] at he3
      clear hq hcame heq
      gi_wp2_with fail
      refine ⟨by simp, .inl ⟨_, _, rfl, run_takeDeferred hK, ?_⟩⟩
      refine ⟨.tuple #[.slice none 0 0, .int .i64 10], ?_, ?_⟩
      · simp [results, Tryd.f45, go_sem, hr3, he3]
      · rw [HQ.out]
        exact ⟨none, 0, [], rfl, rfl, OwnL.nil _ _, hbw.trans (belowK_b (w := W0) (by omega) W D _ _ hD hK rfl rfl)⟩
end Go.Proofs.YtikhffdbjelanaaDoor.Oc
