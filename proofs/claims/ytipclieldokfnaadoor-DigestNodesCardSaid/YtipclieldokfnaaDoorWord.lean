/- Words of 32 bits as the model has them: each operation of the model on such numbers is the word's own. Rotations; turned. -/
import Derived.Test.YtipclieldokfnaaDoorMem
import Derived.Test.YtipclieldokfnaaDoorProg
import Derived.BigQuiet
import Derived.Deep.QuietTactic
import Derived.Deep.WholeRow
import Derived.Outline
import Derived.Laws.BitsAllLaws
namespace Go.Proofs.YtipclieldokfnaaDoor
open Go.RowKit
set_option linter.unusedVariables false

/-- The operations under names of their own, which no rule takes apart. -/
def wadd (x y : UInt32) : UInt32 := x + y
def wxor (x y : UInt32) : UInt32 := x ^^^ y
def wand (x y : UInt32) : UInt32 := x &&& y
def wor (x y : UInt32) : UInt32 := x ||| y
def wnot (x : UInt32) : UInt32 := ~~~x
theorem w_add (x y : UInt32) : IntKind.u32.wrap ((x.toNat : Int) + (y.toNat : Int)) = ((wadd x y).toNat : Int) := by
  unfold wadd
  rw [IntKind.wrap_u32', UInt32.toNat_add]; simp
theorem w_xor (x y : UInt32) : bits .xor .u32 (x.toNat : Int) (y.toNat : Int) = ((wxor x y).toNat : Int) := by
  unfold wxor
  rw [u32_xor_nat _ _ (u32_lt x) (u32_lt y), UInt32.toNat_xor]
theorem w_and (x y : UInt32) : bits .and .u32 (x.toNat : Int) (y.toNat : Int) = ((wand x y).toNat : Int) := by
  unfold wand
  rw [u32_and_nat _ _ (u32_lt x) (u32_lt y), UInt32.toNat_and]
theorem w_or (x y : UInt32) : bits .or .u32 (x.toNat : Int) (y.toNat : Int) = ((wor x y).toNat : Int) := by
  unfold wor
  rw [u32_or_nat _ _ (u32_lt x) (u32_lt y), UInt32.toNat_or]
theorem w_not (x : UInt32) : bits .xor .u32 IntKind.u32.max (x.toNat : Int) = ((wnot x).toNat : Int) := by
  have e : IntKind.u32.max = (((0xffffffff : UInt32)).toNat : Int) := by decide
  rw [e, w_xor]
  unfold wnot wxor
  congr 2
theorem w_shr (x : UInt32) (n : Nat) : (x.toNat : Int) / (2 ^ n : Nat) = ((shr x n).toNat : Int) := by
  unfold shr
  have : x.toNat / 2 ^ n < 4294967296 := Nat.lt_of_le_of_lt (Nat.div_le_self _ _) (u32_lt x)
  rw [u32_of _ this]; simp
theorem rot_lt (x n : Nat) (hx : x < 4294967296) : (x / 2 ^ n ||| x * 2 ^ (32 - n) % 4294967296) < 4294967296 := by
  have h1 : x / 2 ^ n < 2 ^ 32 := Nat.lt_of_le_of_lt (Nat.div_le_self _ _) hx
  have h2 : x * 2 ^ (32 - n) % 4294967296 < 2 ^ 32 := Nat.mod_lt _ (by decide)
  exact Nat.or_lt_two_pow h1 h2
theorem rot_toNat (x : UInt32) (n : Nat) : (rot x n).toNat = (x.toNat / 2 ^ n ||| x.toNat * 2 ^ (32 - n) % 4294967296) := u32_of _ (rot_lt _ _ (u32_lt x))
theorem rot_or (x : UInt32) (n : Nat) : bits .or .u32 ((x.toNat * 2 ^ (32 - n) % 4294967296 : Nat) : Int) ((x.toNat / 2 ^ n : Nat) : Int) = ((rot x n).toNat : Int) := by
  have h1 : x.toNat / 2 ^ n < 4294967296 := Nat.lt_of_le_of_lt (Nat.div_le_self _ _) (u32_lt x)
  rw [u32_or_nat _ _ (Nat.mod_lt _ (by decide)) h1, rot_toNat, Nat.or_comm]
theorem rot_or' (x : UInt32) (n : Nat) : bits .or .u32 ((x.toNat / 2 ^ n : Nat) : Int) ((x.toNat * 2 ^ (32 - n) % 4294967296 : Nat) : Int) = ((rot x n).toNat : Int) := by
  have h1 : x.toNat / 2 ^ n < 4294967296 := Nat.lt_of_le_of_lt (Nat.div_le_self _ _) (u32_lt x)
  rw [u32_or_nat _ _ h1 (Nat.mod_lt _ (by decide)), rot_toNat]
theorem low31 (n : Nat) (h1 : 1 ≤ n) (h2 : n ≤ 31) : bits .and .u64 (18446744073709551616 - (n : Int)) 31 = ((32 - n : Nat) : Int) := by
  have e : (18446744073709551616 - (n : Int)) = ((18446744073709551616 - n : Nat) : Int) := by omega
  have e2 : (31 : Int) = ((31 : Nat) : Int) := rfl
  rw [e, e2, u64_and_nat _ _ (by omega) (by decide), nat_mask5]
  omega

set_option maxHeartbeats 400000 in
theorem rotl_any (x : UInt32) (n : Nat) (w : World) (h1 : 1 ≤ n) (h2 : n ≤ 31) :
    Calls Tryd.prog 78 #[uv x, .int .i64 (-(n : Int))] w fun e w' => e = .returned (uv (rot x n)) ∧ w = w' := by
  unfold uv
  have hw : IntKind.u64.wrap (-(n : Int)) = 18446744073709551616 - (n : Int) := by rw [IntKind.wrap_u64]; omega
  have hl := low31 n h1 h2
  go_enter Tryd.func78, Tryd.ntmps78
  go_wp2_with fail
  go_ret
  refine ⟨congrArg (fun n => Ending.returned (.int .u32 n)) ?_, rfl⟩
  rw [show 32 - (32 - n) = n by omega, ← rot_or]
  simp
set_option maxHeartbeats 400000 in
theorem rotr_any (x : UInt32) (n : Nat) (w : World) (h1 : 1 ≤ n) (h2 : n ≤ 31) :
    Calls Tryd.prog 77 #[uv x, .int .i64 (n : Int)] w fun e w' => e = .returned (uv (rot x n)) ∧ w = w' := by
  unfold uv
  go_enter Tryd.func77, Tryd.ntmps77
  go_wp2_with fail
  refine (rotl_any x n _ h1 h2).mono ?_
  rintro e w' ⟨rfl, rfl⟩
  unfold uv
  go_wp2_with fail
  go_ret
  exact ⟨rfl, rfl⟩
set_option maxHeartbeats 400000 in
theorem turned_any (x : UInt32) (n : Nat) (w : World) (h1 : 1 ≤ n) (h2 : n ≤ 31) :
    Calls Tryd.prog 70 #[uv x, .int .i64 (n : Int)] w fun e w' => e = .returned (uv (rot x n)) ∧ ∃ q, w' = w.drewN q := by
  unfold uv
  go_enter Tryd.func70, Tryd.ntmps70
  go_wp2_with fail
  go_quiet (fail)
  go_wp2_with fail
  go_ret
  refine ⟨congrArg (fun n => Ending.returned (.int .u32 n)) ?_, _, rfl⟩
  rw [← rot_or']
  simp
/-- The same two as the walks ask them: at a literal. -/
theorem rotr_c (x : UInt32) (m : Int) (w : World) (h : 1 ≤ m ∧ m ≤ 31) :
    Calls Tryd.prog 77 #[.int .u32 (x.toNat : Int), .int .i64 m] w fun e w' => e = .returned (.int .u32 ((rot x m.toNat).toNat : Int)) ∧ w = w' := by
  have := rotr_any x m.toNat w (by omega) (by omega)
  rwa [show ((m.toNat : Nat) : Int) = m by omega] at this
theorem turned_c (x : UInt32) (m : Int) (w : World) (h : 1 ≤ m ∧ m ≤ 31) :
    Calls Tryd.prog 70 #[.int .u32 (x.toNat : Int), .int .i64 m] w fun e w' => e = .returned (.int .u32 ((rot x m.toNat).toNat : Int)) ∧ ∃ q, w' = w.drewN q := by
  have := turned_any x m.toNat w (by omega) (by omega)
  rwa [show ((m.toNat : Nat) : Int) = m by omega] at this
/-- A new block. -/
theorem Hb.new {α : Type} (f : α → Value) (w : World) (t : TypeId) (L : List α) (cs : Array Value) (h : (L.map f).toArray = cs) : Hb f (w.alloc (.cells cs t)) w.heap.size t L := by
  subst h
  exact Blk.new w t _
theorem Hb.new1 {α : Type} (f : α → Value) (w : World) (o : Obj) (t : TypeId) (L : List α) (cs : Array Value) (h : (L.map f).toArray = cs) : Hb f ((w.alloc o).alloc (.cells cs t)) (w.heap.size + 1) t L := by
  have := Hb.new f (w.alloc o) t L cs h
  rwa [World.size_alloc] at this
/-- A return whose answer is a whole array in a block. -/
theorem bodyPost_cell {P : Program} {α : Type} {f : α → Value} {fn : Func} {p : Tmp} {ty : TypeId} (h : fn.results = #[.cell p ty]) {a : Act} {w : World} {g n e : Nat} {t : TypeId} {L : List α} {Q : Ending → World → Prop}
    (hp : a.tmps.getD p undef = .pointer (some ⟨g, 0, none⟩)) (hH : Hb f w g t L) (hu : P.underlying ty = some (.array n e)) (hi : (P.info? ty).map (·.size) = some L.length) (hd : a.defers = [])
    (hQ : Q (.returned (.agg (L.map f).toArray)) w) : bodyPost P fn Q .ret a w :=
  bodyPost_ret (results_cell_row h a.tmps w g t _ _ _ hp hH.heap hu rfl (by simpa using hi)) hd hQ
/-- An array of words, of bytes, as a value. -/
def aw (L : List UInt32) : Value := .agg (L.map uv).toArray
def ab (L : List UInt8) : Value := .agg (L.map bv).toArray
theorem size8 : (Tryd.prog.info? 88).map (·.size) = some 8 := by kernel_rfl
theorem size64 : (Tryd.prog.info? 106).map (·.size) = some 64 := by kernel_rfl
theorem size32 : (Tryd.prog.info? 22).map (·.size) = some 32 := by kernel_rfl
end Go.Proofs.YtipclieldokfnaaDoor
