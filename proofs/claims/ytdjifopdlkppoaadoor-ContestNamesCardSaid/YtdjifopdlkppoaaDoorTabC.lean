/- contest's own table of the rules: what its cells hold, now and behind what a call makes. -/
import Derived.Test.YtdjifopdlkppoaaDoorCon
import Derived.Lib.LaidU8
import Derived.Lib.SmallJoins
namespace Go.Proofs.YtdjifopdlkppoaaDoor
open Go.RowKit Go.ChangeShapes Go.WideShapes Go.ChangeAt Go.Joins
set_option linter.unusedVariables false

/-- Whether a ballot of rule r has at most one mark; how many seats it fills (0: one, 1: some, 2: lists). -/
def oneMarkT (r : Nat) : Bool := decide (r = 1) || decide (14 ≤ r)
def seatsT (r : Nat) : Nat := if r = 0 then 0 else if oneB r then 0 else if listsB r then 2 else 1
def kindT (r : Nat) : Nat := if r = 0 then 0 else kindM r
/-- The table's rows, as they are laid. -/
def rowD (r : Nat) : DataW Unit := .agg [.lit (.string (wordsM.getD r [])), .lit (.int .u8 (kindT r)), .lit (.bool (oneMarkT r)), .lit (.int .i64 (seatsT r))]
def rulesD : DataW Unit := .agg ((List.range 17).map rowD)
/-- The cells of row r. -/
def rowV (r : Nat) : List Value := [sv (wordsM.getD r []), .int .u8 (kindT r), .bool (oneMarkT r), .int .i64 (seatsT r)]

/-- The table of the rules holds. -/
structure Tab (w : World) : Prop where
  lt : 0 < w.heap.size
  cell : ∀ r, r < 17 → ∀ j, j < 4 → w.cell? ⟨0, r * 4 + j, none⟩ = (rowV r)[j]?
theorem Tab.below {w w' : World} {B : Nat} (h : Tab w) (hB : w.heap.size ≤ B) (hb : Below B w w') : Tab w' :=
  ⟨Nat.lt_of_lt_of_le h.lt hb.size, fun r hr j hj => by
    rw [hb.cell (show (⟨0, r * 4 + j, none⟩ : Addr).block < B from Nat.lt_of_lt_of_le h.lt hB)]
    exact h.cell r hr j hj⟩
theorem Tab.word {w : World} (h : Tab w) {r : Nat} (hr : r < 17) : w.cell? ⟨0, r * 4, none⟩ = some (sv (wordsM.getD r [])) := h.cell r hr 0 (by omega)
theorem Tab.kind {w : World} (h : Tab w) {r : Nat} (hr : r < 17) : w.cell? ⟨0, r * 4 + 1, none⟩ = some (.int .u8 (kindT r)) := h.cell r hr 1 (by omega)
theorem Tab.mark {w : World} (h : Tab w) {r : Nat} (hr : r < 17) : w.cell? ⟨0, r * 4 + 2, none⟩ = some (.bool (oneMarkT r)) := h.cell r hr 2 (by omega)
theorem Tab.seats {w : World} (h : Tab w) {r : Nat} (hr : r < 17) : w.cell? ⟨0, r * 4 + 3, none⟩ = some (.int .i64 (seatsT r)) := h.cell r hr 3 (by omega)

theorem gR : Tryd.prog.globalNamed "suffrage/contest.rules" = some 0 := by kernel_rfl
theorem tR : (Tryd.prog.globals[0]?).map (·.type) = some 69 := by kernel_rfl
set_option maxRecDepth 100000 in
theorem tab_of_reads {W : World} (h : Lib.VarReads Tryd.prog W "suffrage/contest.rules" rulesD) : Tab W := by
  obtain ⟨g, t, cs, fuel, p, hg, ht, hv, hd⟩ := h
  obtain rfl := Option.some.inj (gR.symm.trans hg)
  obtain rfl := Option.some.inj (tR.symm.trans ht)
  have hcell := fun i => World.var?_cell gR hv i
  have hcs : cs.size = 68 := by
    cases fuel with
    | zero => simp [DataW.trod] at hd
    | succ fuel =>
      simp only [DataW.trod, Tryd.underlying69] at hd
      split at hd
      · rename_i hl
        rw [show Tryd.prog.cellsOf 69 = 68 by kernel_rfl] at hl
        simpa using hl
      · cases hd
  have hrow : ∀ r, r < 17 → ((cs.toList.drop (r * 4)).take 4) = rowV r := fun r hr => by
    obtain ⟨f2, d, q, hdd, hrd⟩ := Lib.array_elem Tryd.underlying69 hd r hr
    rw [show Tryd.prog.cellsOf 68 = 4 by kernel_rfl] at hrd
    have hd2 : d = rowD r := by
      have : ((List.range 17).map rowD)[r]? = some (rowD r) := by simp [hr]
      rw [this] at hdd
      exact (Option.some.inj hdd).symm
    subst hd2
    obtain ⟨y0, y1, y2, y3, n, hx, hl, t0, t1, t2, t3⟩ := trod_struct4 Tryd.underlying68 hrd
    simp only [Prod.mk.injEq, rowD] at hx
    obtain ⟨hx, _⟩ := hx
    injection hx with hx
    injection hx with x0 hx
    injection hx with x1 hx
    injection hx with x2 hx
    injection hx with x3 hx
    obtain ⟨s0, e0, rfl, _⟩ := DataW.trod_string Tryd.underlying9 t0
    obtain ⟨n1, e1, rfl, _⟩ := DataW.trod_int Tryd.underlying5 t1
    obtain ⟨b2, e2, rfl⟩ := DataW.trod_bool Tryd.underlying4 t2
    obtain ⟨n3, e3, rfl, _⟩ := DataW.trod_int Tryd.underlying3 t3
    injection x0 with x0
    injection x0 with x0
    injection x1 with x1
    injection x1 with _ x1
    injection x2 with x2
    injection x2 with x2
    injection x3 with x3
    injection x3 with _ x3
    subst x1 x2 x3
    have hs : sv (wordsM.getD r []) = .string s0 := by rw [x0]; unfold sv; rw [mk_eta]
    unfold rowV
    rw [hs]
    generalize (cs.toList.drop (r * 4)).take 4 = L at *
    rw [show Tryd.prog.cellsOf 68 = 4 by kernel_rfl] at hl
    obtain ⟨a, b, c, d, rfl⟩ : ∃ a b c d, L = [a, b, c, d] := by
      match L, hl with
      | [a, b, c, d], _ => exact ⟨a, b, c, d, rfl⟩
    rw [show Tryd.prog.cellsOf 9 = 1 by kernel_rfl] at e0
    rw [show Tryd.prog.cellsOf 5 = 1 by kernel_rfl] at e1
    rw [show Tryd.prog.cellsOf 4 = 1 by kernel_rfl] at e2
    rw [show Tryd.prog.cellsOf 3 = 1 by kernel_rfl] at e3
    simp at e0 e1 e2 e3
    rw [e0, e1, e2, e3]
  have hlt : 0 < W.heap.size := by
    obtain ⟨v, hv⟩ : ∃ v, W.cell? ⟨0, 0, none⟩ = some v := by
      rw [hcell]
      exact ⟨cs[0], by rw [Array.getElem?_eq_getElem (by omega)]⟩
    exact World.block_lt_of_cell? W _ hv
  refine ⟨hlt, fun r hr j hj => ?_⟩
  rw [hcell, ← hrow r hr, List.getElem?_take, if_pos hj, List.getElem?_drop]
  simp
end Go.Proofs.YtdjifopdlkppoaaDoor
