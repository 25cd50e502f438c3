/- Arrays of integers compared; append as a step of a region that draws. -/
import Derived.Test.YtipclieldokfnaaDoorLawF
import Derived.Test.YtipclieldokfnaaDoorNode
import Derived.ChangeKeysEq
import Derived.Deep.RegionHeld
namespace Go.Proofs.YtipclieldokfnaaDoor
open Go.RowKit
set_option linter.unusedVariables false

theorem eqItems_same {P : Program} {w : World} {e : TypeId} {k : IntKind} (d : Nat) (hu : P.underlying e = some (.int k)) (hp : P.plainKey e = true) (xs : Array Value) : ∀ (is : List Nat), (∀ i ∈ is, ∃ z : Int, xs[i]? = some (.int k z)) →
    (Op.eqItems (d + 1) e 1 xs xs is).run P w = .ok true w
  | [], _ => by simp [Op.eqItems]
  | i :: is, h => by
    obtain ⟨z, hz⟩ := h i (by simp)
    have h1 := run_part_plain (P := P) (w := w) hp (xs := xs) (off := i) hz
    have h2 : (Op.equalIn (d + 1) e (.int k z) (.int k z)).run P w = .ok (z == z) w := run_equalIn_int w d e k k z z hu
    simp only [Op.eqItems, Nat.mul_one, Sem.run_bind, h1, h2, Result.andThen_ok, beq_self_eq_true, Bool.not_true, Bool.false_eq_true, if_false]
    exact eqItems_same d hu hp xs is (fun j hj => h j (by simp [hj]))
theorem eql_same {P : Program} {t e : TypeId} {n : Nat} {k : IntKind} (ht : P.underlying t = some (.array n e)) (hi : (P.info? e).isSome = true) (hc : P.cellsOf e = 1) (hu : P.underlying e = some (.int k)) (hp : P.plainKey e = true) (xs : Array Value)
    (h : ∀ i, i < n → ∃ z : Int, xs[i]? = some (.int k z)) (w : World) : (binOp .eql t (.agg xs) (.agg xs)).run P w = .ok (.bool true) w := by
  obtain ⟨i, hi⟩ := Option.isSome_iff_exists.1 hi
  rw [run_eql_struct, show (10000 : Nat) = 9999 + 1 from rfl, run_equalIn_array w 9999 xs xs ht hi, hc, show (9999 : Nat) = 9998 + 1 from rfl, eqItems_same 9998 hu hp xs _ (fun i hi => h i (List.mem_range.1 hi))]
  rfl
theorem eql_ab (L : List UInt8) (hL : L.length = 32) (cs : Array Value) (hcs : (L.map bv).toArray = cs) (w : World) : (binOp .eql 22 (.agg cs) (.agg cs)).run Tryd.prog w = .ok (.bool true) w := by
  subst hcs
  refine eql_same (k := .u8) Tryd.underlying22 (by kernel_rfl) (by kernel_rfl) Tryd.underlying5 (by kernel_rfl) _ (fun i hi => ?_) w
  have hi' : i < L.length := by omega
  exact ⟨(L[i].toNat : Int), by simp [hi', bv]⟩
theorem eql_aw (L : List UInt32) (hL : L.length = 8) (cs : Array Value) (hcs : (L.map uv).toArray = cs) (w : World) : (binOp .eql 88 (.agg cs) (.agg cs)).run Tryd.prog w = .ok (.bool true) w := by
  subst hcs
  refine eql_same (k := .u32) Tryd.underlying88 (by kernel_rfl) (by kernel_rfl) Tryd.underlying27 (by kernel_rfl) _ (fun i hi => ?_) w
  have hi' : i < L.length := by omega
  exact ⟨(L[i].toNat : Int), by simp [hi', uv]⟩
theorem Hb.range {α : Type} {f : α → Value} {w : World} {g t : Nat} {L : List α} (h : Hb f w g t L) {l : List Value} (hl : L.map f = l) : w.rangeAt g 0 l := fun j v hv => by
  subst hl
  rw [Nat.zero_add, cell_of_row w g j _ t (0, 0) h.heap]
  simpa using hv
/-- A load of a whole array, as 'simp' meets it. -/
theorem loadAt_hb {P : Program} {α : Type} {f : α → Value} {w : World} {g t n e : Nat} {ty : TypeId} {L : List α} (hH : Hb f w g t L) (hu : P.underlying ty = some (.array n e)) (hi : (P.info? ty).map (·.size) = some L.length) (cs : Array Value) (hcs : (L.map f).toArray = cs) :
    (Instr.loadAt ty (.pointer (some ⟨g, 0, none⟩))).run P w = .ok (.agg cs) w := by
  subst hcs
  simp only [Instr.loadAt, Instr.sureAddr, Sem.run_bind, Sem.run_pure, Result.andThen_ok, run_loadVar_row w g t ty _ _ _ hH.heap hu rfl (by simpa using hi)]
theorem step_append_f {P : Program} {w : World} {α : Type} {f : α → Value} (hf : ∀ x, (f x).oneCell' = true) {ops : Array Oper} {o : Oper} {a : Act} {K : Act → World → Prop} {Q : Exit → Act → World → Prop} {E : Prop} (hgd : o.guard = none) (s x : Operand) (t : TypeId)
    (ho : o.op = .call { callee := .builtin .append, args := #[s, x], argTypes := #[t, t] })
    (base e bt : Nat) (i : TypeInfo) (z : Value) (ht : P.underlying t = some (.slice e)) (hi : P.info? e = some i) (hz : i.zero = some z) (hsize : i.size = 1) (hby : i.bytes = bt) (hbt : bt ≤ 24) (hzs : z.cells.size = 1)
    {A A2 : Option Addr} {c c2 B : Nat} (l m : List α) (hs : a.eval s = .slice A l.length c) (hx : a.eval x = .slice A2 m.length c2) (hown : Ow f w base e A c l) (hr : Rf f w B A2 c2 m)
    (hle : l.length + m.length ≤ 4000000000) (hbase : base ≤ w.heap.size)
    (h : ∀ A' c' w' r, Hid (r = l ++ m) → Ow f w' base e A' c' r → w.grownBy w' (blk A) → (blk A' = blk A ∨ blk A' = some w.heap.size) → K (a.put o.dst (.slice A' r.length c')) w') :
    if Region.wanted o (yielded ops a.tmps) = true then Oper.wp P o a w K Q else E := by
  have hw : Region.wanted o (yielded ops a.tmps) = true := by simp [Region.wanted, hgd]
  rw [if_pos hw]
  obtain ⟨A', c', w', hrun, h2, h3, h4⟩ := run_append_f (P := P) w hf base e bt t o.type i z ht hi hz hsize hby hbt hzs hown hr hle hbase
  unfold Oper.wp execOp
  simp only [ho, resolve, invoke, builtin, Sem.run_bind, Sem.run_pure, Result.andThen_ok, List.map_toArray, List.map_cons, List.map_nil, hs, hx, hrun]
  exact h A' c' w' _ rfl h2 h3 h4
theorem eqi_ab (L : List UInt8) (hL : L.length = 32) (cs : Array Value) (hcs : (L.map bv).toArray = cs) (w : World) : (Op.equalIn 10000 22 (.agg cs) (.agg cs)).run Tryd.prog w = .ok true w := by
  have h := eql_ab L hL cs hcs w
  rw [run_eql_struct] at h
  generalize (Op.equalIn 10000 22 (.agg cs) (.agg cs)).run Tryd.prog w = r at h
  cases r with
  | ok b w' => simp [Result.andThen] at h; obtain ⟨rfl, rfl⟩ := h; rfl
  | halt x w' => simp [Result.andThen] at h
theorem eqi_aw (L : List UInt32) (hL : L.length = 8) (cs : Array Value) (hcs : (L.map uv).toArray = cs) (w : World) : (Op.equalIn 10000 88 (.agg cs) (.agg cs)).run Tryd.prog w = .ok true w := by
  have h := eql_aw L hL cs hcs w
  rw [run_eql_struct] at h
  generalize (Op.equalIn 10000 88 (.agg cs) (.agg cs)).run Tryd.prog w = r at h
  cases r with
  | ok b w' => simp [Result.andThen] at h; obtain ⟨rfl, rfl⟩ := h; rfl
  | halt x w' => simp [Result.andThen] at h
theorem gd_ab : Tryd.prog.eqGuardType Tryd.prog.depth 22 = false := by kernel_rfl
theorem gd_aw : Tryd.prog.eqGuardType Tryd.prog.depth 88 = false := by kernel_rfl
theorem ow_one_v {α : Type} {f : α → Value} (w : World) (x : α) (v : Value) (hv : v = f x) (e base : Nat) (hb : base ≤ w.heap.size) : Ow f (w.alloc (.cells #[v] e)) base e (some ⟨w.heap.size, 0, none⟩) 1 [x] := by
  subst hv
  exact World.ownsRow_lit (base := base) (e := e) (size := 1) w #[f x] 1 hb (by simp [maxLen]) (by simp)
end Go.Proofs.YtipclieldokfnaaDoor
