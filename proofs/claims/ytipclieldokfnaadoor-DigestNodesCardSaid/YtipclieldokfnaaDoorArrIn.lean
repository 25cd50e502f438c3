/- Whole arrays out of and into a block, in a walk inside a fence. No program is named here. -/
import Derived.Test.YtipclieldokfnaaDoorArr
import Derived.Test.YtipclieldokfnaaDoorRange
import Derived.OwnWalkIn
namespace Go.Proofs.YtipclieldokfnaaDoor
open Go.RowKit
set_option linter.unusedVariables false

section
variable {P : Program} {α : Type} {f : α → Value} {w : World}
theorem wpListIn_load_hb {F : Fence} {n : Nat} {ops : Array Oper} {rest : List Oper} {o : Oper} {a : Act} {Q : Exit → Act → World → Prop} (hgd : o.guard = none) (ty : TypeId) (x : Operand) (ho : o.op = .load ty x)
    (g : Nat) (hx : a.eval x = .pointer (some ⟨g, 0, none⟩)) {t k e : Nat} {L : List α} (hH : Hb f w g t L) (hu : P.underlying ty = some (.array k e)) (hi : (P.info? ty).map (·.size) = some L.length) (cs : Array Value) (hcs : (L.map f).toArray = cs)
    (h : wpListIn F n P ops Q rest (a.put o.dst (.agg cs)) w) : wpListIn F n P ops Q (o :: rest) a w := by
  subst hcs
  refine wpListIn_plain hgd fun K hK => ?_
  have hrun := run_load_hb (P := P) (f := f) hH hu hi
  unfold Oper.wpIn
  refine ⟨?_, ?_⟩
  · simp [Oper.about, ho]
  · rw [Oper.semAt_plain F _ _ (by rw [ho]; intro c hc'; cases hc')]
    simp only [execOp, ho, hx, Sem.run_bind, Sem.run_pure, hrun, Result.andThen_ok]
    exact hK _ _ h
theorem wpListIn_store_hb {F : Fence} {n : Nat} (hf : ∀ x, (f x).oneCell' = true) {ops : Array Oper} {rest : List Oper} {o : Oper} {a : Act} {Q : Exit → Act → World → Prop} (hgd : o.guard = none) (ty : TypeId) (x y : Operand) (ho : o.op = .store ty x y)
    (g : Nat) (L : List α) (cs : Array Value) (hcs : (L.map f).toArray = cs) (hx : a.eval x = .pointer (some ⟨g, 0, none⟩)) (hy : a.eval y = .agg cs) {t k : Nat} {L0 : List α} (hH : Hb f w g t L0) (hi : (P.info? ty).map (·.size) = some k)
    (h0 : L0.length = k) (h1 : L.length = k)
    (h : ∀ w', Hb f w' g t L → w.grownBy w' (some g) → wpListIn F n P ops Q rest (a.put o.dst undef) w') : wpListIn F n P ops Q (o :: rest) a w := by
  subst hcs
  refine wpListIn_plain hgd fun K hK => ?_
  have hrun := run_storeVar_row (P := P) w g t ty _ (L.map f).toArray hH.heap (by rw [hi, ← h1]; simp) (by simp; omega) (by
    rw [Array.all_eq_true_iff_forall_mem]
    intro v hv
    obtain ⟨z, _, rfl⟩ := List.mem_map.1 (by simpa using hv)
    exact hf z)
  unfold Oper.wpIn
  refine ⟨?_, ?_⟩
  · simp [Oper.about, ho]
  · rw [Oper.semAt_plain F _ _ (by rw [ho]; intro c hc'; cases hc')]
    simp only [execOp, ho, hx, hy, Instr.storeAt, Instr.sureAddr, Sem.run_bind, Sem.run_pure, hrun, Result.andThen_ok]
    exact hK _ _ (h _ (hb_setRow hH) (grown_setRow w g _))
/-- A block of cells where a block of another kind may have turned. -/
theorem hb_obj {w' : World} {g t : Nat} {L : List α} (h : Hb f w g t L) {row : Option Nat} (hg : w.grownBy w' row) (hr : ∀ r, row = some r → ∃ o : Obj, w.heap[r]? = some o ∧ o.isCells = false) : Hb f w' g t L := by
  refine h.grown hg fun e => ?_
  obtain ⟨o, ho, hc⟩ := hr g e.symm
  rw [h.heap] at ho
  cases ho
  cases hc
theorem slice_arr {ty e : TypeId} {n : Nat} (hu : P.underlying ty = some (.array n e)) (he : (P.info? e).map (·.size) = some 1) (b lo hi k : Nat) (l h : Int) (hl : l = (lo : Int)) (hh : h = (hi : Int)) (hk : hi - lo = k) (h1 : lo ≤ hi) (h2 : hi ≤ n) (h3 : lo < n) (w : World) :
    (Instr.sliceAt ty (.pointer (some ⟨b, 0, none⟩)) (some (.int .i64 l)) (some (.int .i64 h)) none).run P w = .ok (.slice (some ⟨b, lo, none⟩) k (n - lo)) w := by
  have hz : ∀ w, (sizeOf e).run P w = .ok 1 w := fun w => by
    cases hq : P.info? e with
    | none => simp [hq] at he
    | some i => simp [hq] at he; simp [sizeOf, typeInfo, hq, he]
  subst hl hh hk
  have h4 : ¬ n = lo := by omega
  have e1 : (⟨b, 0, none⟩ : Addr).add lo = ⟨b, lo, none⟩ := by rw [add_plain]; simp
  simp [Instr.sliceAt, Instr.sureAddr, run_underlying hu, Instr.sliceBounds, run_sliceBound, hz, h1, h2, h4, e1, Sem.run_bind, Result.andThen]
end
end Go.Proofs.YtipclieldokfnaaDoor
