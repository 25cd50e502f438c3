/- told, alive, folded. -/
import Derived.Test.YtipclieldokfnaaDoorApi
import Derived.Test.YtipclieldokfnaaDoorRefP
import Derived.Deep.RegionLaw
import Derived.Lib.SlBytesConst
namespace Go.Proofs.YtipclieldokfnaaDoor
open Go.RowKit
set_option linter.unusedVariables false

theorem dig_nil : ∃ r, dig [] = 0xe3 :: 0xb0 :: 0xc4 :: 0x42 :: r := ⟨(dig []).drop 4, by decide +kernel⟩
theorem dig_abc : dig [97, 98, 99] = [0xba, 0x78, 0x16, 0xbf, 0x8f, 0x01, 0xcf, 0xea, 0x41, 0x41, 0x40, 0xde, 0x5d, 0xae, 0x22, 0x23, 0xb0, 0x03, 0x61, 0xa3, 0x96, 0x17, 0x7a, 0x9c, 0xb4, 0x10, 0xff, 0x61, 0xf2, 0x00, 0x15, 0xad] := by decide +kernel
theorem dig_zero : ∃ r, dig [0] = 0x6e :: 0x34 :: 0x0b :: 0x9c :: r := ⟨(dig [0]).drop 4, by decide +kernel⟩

/-- A load of a whole array behind a guard that holds. -/
theorem wpList_load_g {P : Program} {α : Type} {f : α → Value} {w : World} {ops : Array Oper} {rest : List Oper} {o : Oper} {a : Act} {Q : Exit → Act → World → Prop} (hw : Region.wanted o (yielded ops a.tmps) = true) (ty : TypeId) (x : Operand) (ho : o.op = .load ty x)
    (g : Nat) (hx : a.eval x = .pointer (some ⟨g, 0, none⟩)) {t n e : Nat} {L : List α} (hH : Hb f w g t L) (hu : P.underlying ty = some (.array n e)) (hi : (P.info? ty).map (·.size) = some L.length)
    (h : wpList P ops Q rest (a.put o.dst (.agg (L.map f).toArray)) w) : wpList P ops Q (o :: rest) a w :=
  BigFrame.wpList_want hw fun K hK => wp_load_row ty x ho g hx t _ _ _ hH.heap hu rfl (by simpa using hi) (hK _ _ h)
/-- A constant string's bytes. -/
theorem rf_const (w : World) (L : List UInt8) (cs : Array Value) (e : TypeId) (fr : Nat × Nat) (h : (L.map bv).toArray = cs) (hl : L.length ≤ 1000) : Rf bv (w.alloc (.cells cs e fr)) (w.heap.size + 1) (some ⟨w.heap.size, 0, none⟩) L.length L := by
  subst h
  refine ⟨Nat.le_refl _, by unfold maxLen; omega, (fun e => by cases e), fun ad he j hj => ?_⟩
  obtain rfl := Option.some.inj he
  rw [add_plain, Nat.zero_add]
  refine ⟨by simp, ?_⟩
  rw [cell_of_row _ _ j _ _ fr (heap_alloc_new w _)]
  simp [hj]
end Go.Proofs.YtipclieldokfnaaDoor
