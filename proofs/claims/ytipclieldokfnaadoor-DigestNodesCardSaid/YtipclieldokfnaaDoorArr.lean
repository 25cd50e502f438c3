/- Whole arrays out of and into a block, in a walk; a piece of a block written by a callee. No program is named here. -/
import Derived.Test.YtipclieldokfnaaDoorWord
namespace Go.Proofs.YtipclieldokfnaaDoor
open Go.RowKit
set_option linter.unusedVariables false

section
variable {P : Program} {α : Type} {f : α → Value} {w : World}
theorem hb_setRow {g t : Nat} {L0 L : List α} (h : Hb f w g t L0) : Hb f (w.setRow g (L.map f).toArray) g t L := setRow_heap w g _ _ t _ h.heap
theorem grown_setRow (w : World) (g : Nat) (cs : Array Value) : w.grownBy (w.setRow g cs) (some g) :=
  ⟨rfl, rfl, rfl, by simp, fun k _ hk => setRow_other w g k cs (fun e => hk (by rw [e]))⟩
theorem wpList_load_hb {ops : Array Oper} {rest : List Oper} {o : Oper} {a : Act} {Q : Exit → Act → World → Prop} (hgd : o.guard = none) (ty : TypeId) (x : Operand) (ho : o.op = .load ty x)
    (g : Nat) (hx : a.eval x = .pointer (some ⟨g, 0, none⟩)) {t n e : Nat} {L : List α} (hH : Hb f w g t L) (hu : P.underlying ty = some (.array n e)) (hi : (P.info? ty).map (·.size) = some L.length)
    (h : wpList P ops Q rest (a.put o.dst (.agg (L.map f).toArray)) w) : wpList P ops Q (o :: rest) a w :=
  wpList_load_row hgd ty x ho g hx t _ _ _ hH.heap hu rfl (by simpa using hi) h
theorem wpList_store_hb (hf : ∀ x, (f x).oneCell' = true) {ops : Array Oper} {rest : List Oper} {o : Oper} {a : Act} {Q : Exit → Act → World → Prop} (hgd : o.guard = none) (ty : TypeId) (x y : Operand) (ho : o.op = .store ty x y)
    (g : Nat) (L : List α) (hx : a.eval x = .pointer (some ⟨g, 0, none⟩)) (hy : a.eval y = .agg (L.map f).toArray) {t n : Nat} {L0 : List α} (hH : Hb f w g t L0) (hi : (P.info? ty).map (·.size) = some n)
    (h0 : L0.length = n) (h1 : L.length = n)
    (h : ∀ w', Hb f w' g t L → w.grownBy w' (some g) → wpList P ops Q rest (a.put o.dst undef) w') : wpList P ops Q (o :: rest) a w := by
  refine wpList_store_row hgd ty x y ho g _ hx hy t _ hH.heap (by rw [hi, ← h1]; simp) (by simp; omega) ?_ (h _ (hb_setRow hH) (grown_setRow w g _))
  rw [Array.all_eq_true_iff_forall_mem]
  intro v hv
  obtain ⟨z, _, rfl⟩ := List.mem_map.1 (by simpa using hv)
  exact hf z
theorem run_load_hb {ty : TypeId} {g t n e : Nat} {L : List α} (hH : Hb f w g t L) (hu : P.underlying ty = some (.array n e)) (hi : (P.info? ty).map (·.size) = some L.length) :
    (Instr.loadAt ty (.pointer (some ⟨g, 0, none⟩))).run P w = .ok (.agg (L.map f).toArray) w := by
  simp only [Instr.loadAt, Instr.sureAddr, Sem.run_bind, Sem.run_pure, Result.andThen_ok]
  exact run_loadVar_row w g t ty _ _ _ hH.heap hu rfl (by simpa using hi)
end
end Go.Proofs.YtipclieldokfnaaDoor
