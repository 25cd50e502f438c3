/- api.Ratio as a value; whole structs loaded from, stored into and returned from a block of the call's own. -/
import Derived.Test.YtefoccjphbbmhaaQm
import Derived.Test.YtefoccjphbbmhaaMf
import Derived.Test.YtefoccjphbbmhaaRow
namespace Go.Proofs.Ytefoccjphbbmhaa
open Go.RowKit
set_option linter.unusedVariables false

theorem grown_setRow' (w : World) (g : Nat) (cs : Array Value) : w.grownBy (w.setRow g cs) (some g) :=
  ⟨rfl, rfl, rfl, by simp, fun k _ hk => setRow_other w g k cs (fun e => hk (by rw [e]))⟩
/-- The cells of an api.Ratio. -/
def rqs (A : Option Addr) (c : Nat) (B : Option Addr) (d : Nat) (x : Rq) : Array Value := #[.bool x.neg, .slice A x.num.length c, .slice B x.den.length d]
/-- An api.Ratio as a value. -/
def rqv (A : Option Addr) (c : Nat) (B : Option Addr) (d : Nat) (x : Rq) : Value := .agg (rqs A c B d x)
theorem rqv_zero : rqv none 0 none 0 Rq.zero = .agg #[.bool false, .slice none 0 0, .slice none 0 0] := rfl
/-- Its limbs read so. -/
def RqS (w : World) (A : Option Addr) (c : Nat) (B : Option Addr) (d : Nat) (x : Rq) : Prop := Sl w A c x.num ∧ Sl w B d x.den
theorem RqS.to {w w' : World} {A B : Option Addr} {c d : Nat} {x : Rq} (h : RqS w A c B d x) (hb : Below w.heap.size w w') : RqS w' A c B d x := ⟨h.1.to hb, h.2.to hb⟩
theorem RqS.zero (w : World) : RqS w none 0 none 0 Rq.zero := ⟨Sl.nil w, Sl.nil w⟩
/-- What a call answers that returns a number. -/
def RqR (w : World) (x : Rq) (e : Ending) (w' : World) : Prop := ∃ A c B d, e = .returned (rqv A c B d x) ∧ RqS w' A c B d x ∧ Below w.heap.size w w'
/-- What a call answers that returns a number and an error. -/
def RqE (w : World) (x : Rq) (er : Int) (e : Ending) (w' : World) : Prop := ∃ A c B d, e = .returned (.tuple #[rqv A c B d x, .int .i64 er]) ∧ RqS w' A c B d x ∧ Below w.heap.size w w'
theorem RqE.up {w w1 w' : World} {x : Rq} {er : Int} {e : Ending} (h : RqE w1 x er e w') (hb : Below w.heap.size w w1) : RqE w x er e w' := by
  obtain ⟨A, c, B, d, h1, h2, h3⟩ := h
  exact ⟨A, c, B, d, h1, h2, hb.trans (h3.mono hb.size)⟩
theorem size_rq : (Try.prog.info? 27).map (·.size) = some 3 := by kernel_rfl
theorem wpList_load_rq {w : World} {ops : Array Oper} {rest : List Oper} {o : Oper} {a : Act} {Q : Exit → Act → World → Prop} (hw : Region.wanted o (yielded ops a.tmps) = true) (y : Operand) (ho : o.op = .load 27 y)
    (g : Nat) (hx : a.eval y = .pointer (some ⟨g, 0, none⟩)) {t : TypeId} {cs : Array Value} (hB : Blk w g t cs) (hn : cs.size = 3) (h : wpList Try.prog ops Q rest (a.put o.dst (.agg cs)) w) : wpList Try.prog ops Q (o :: rest) a w :=
  BigFrame.wpList_want hw fun K hK => wp_load_row _ y ho g hx t _ _ _ hB Try.underlying27 rfl (by rw [hn]; exact size_rq) (hK _ _ h)
theorem wpList_store_rq {w : World} {ops : Array Oper} {rest : List Oper} {o : Oper} {a : Act} {Q : Exit → Act → World → Prop} (hgd : o.guard = none) (y z : Operand) (ho : o.op = .store 27 y z)
    (g : Nat) (hx : a.eval y = .pointer (some ⟨g, 0, none⟩)) {old : Array Value} (hB : Blk w g 27 old) (hold : old.size = 3) {A : Option Addr} {c : Nat} {B : Option Addr} {d : Nat} {x : Rq} (hy : a.eval z = rqv A c B d x)
    (h : ∀ w', Blk w' g 27 (rqs A c B d x) → w.grownBy w' (some g) → wpList Try.prog ops Q rest (a.put o.dst undef) w') : wpList Try.prog ops Q (o :: rest) a w :=
  wpList_store_row hgd _ y z ho g (rqs A c B d x) hx hy 27 old hB size_rq hold (by simp [rqs, Value.oneCell']) (h _ (setRow_heap w g _ _ _ _ hB) (grown_setRow' w g _))
theorem rq_ret {fn : Func} {p : Tmp} (h : fn.results = #[.cell p 27]) {a : Act} {w : World} {g : Nat} {cs : Array Value} {Q : Ending → World → Prop}
    (hp : a.tmps.getD p undef = .pointer (some ⟨g, 0, none⟩)) (hB : Blk w g 27 cs) (hn : cs.size = 3) (hd : a.defers = []) (hQ : Q (.returned (.agg cs)) w) : bodyPost Try.prog fn Q .ret a w :=
  bodyPost_ret (results_cell_row h a.tmps w g _ _ _ _ hp hB Try.underlying27 rfl (by rw [hn]; exact size_rq)) hd hQ
theorem rq_ret2 {fn : Func} {p q : Tmp} (h : fn.results = #[.cell p 27, .tmp q]) {a : Act} {w : World} {g : Nat} {cs : Array Value} {Q : Ending → World → Prop}
    (hp : a.tmps.getD p undef = .pointer (some ⟨g, 0, none⟩)) (hB : Blk w g 27 cs) (hn : cs.size = 3) (hd : a.defers = []) (hQ : Q (.returned (.tuple #[.agg cs, a.tmps.getD q undef])) w) : bodyPost Try.prog fn Q .ret a w := by
  refine bodyPost_ret (v := .tuple #[.agg cs, a.tmps.getD q undef]) ?_ hd hQ
  have hld := run_loadVar_row w g 27 27 _ _ _ hB Try.underlying27 rfl (by rw [hn]; exact size_rq)
  have hp' : a.tmps[p]?.getD undef = .pointer (some ⟨g, 0, none⟩) := by simpa using hp
  simp [results, h, hp', asAddr, hld, Result.andThen]
/-- Block g, made by the call itself, was changed: what lay below stays. -/
theorem below_own {w w1 w2 : World} {g : Nat} (h : Below w.heap.size w w1) (hg : w1.grownBy w2 (some g)) (hl : w.heap.size ≤ g) : Below w.heap.size w w2 :=
  h.grown hg h.size (fun q e => by cases e; exact hl)
end Go.Proofs.Ytefoccjphbbmhaa
