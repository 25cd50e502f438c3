/- Strings, []string and [][]string that came in, as the row's reading tells them. -/
import Derived.Test.YtnnenhcofibhoaaDoorMem
import Derived.Test.YtnnenhcofibhoaaDoorProg
import Derived.ProofKit
import Derived.ChangeOld
import Derived.ChangeMaps5
import Derived.SliceStrings
import Derived.SizedLaws
import Derived.Deep.Slices
namespace Go.Proofs.YtnnenhcofibhoaaDoor
open Go.RowKit Go.ChangeShapes Go.WideShapes Go.ChangeAt Go.Deep Go.ChangeMaps
set_option linter.unusedVariables false

theorem cellsS : Tryd.prog.cellsOf 9 = 1 := by kernel_rfl

theorem weightsAll_mem {H : Type} {P : Program} {e : TypeId} : ∀ {l : List (DataW H)} {d : DataW H}, d ∈ l → ∀ n ∈ d.weights P e, n ∈ DataW.weightsAll P e l
  | d0 :: l, d, h, n, hn => by
    simp only [DataW.weightsAll, List.mem_append]
    rcases List.mem_cons.1 h with e | h
    · subst e; exact .inl hn
    · exact .inr (weightsAll_mem h n hn)

theorem open_strs {H : Type} {enc : TypeId × Value → H} {W : World} {n : Nat} {a : Option Addr} {len cap : Nat} {D : DataW H} {ps : List MemPlace}
    (h : DataW.trod enc Tryd.prog W 0 (fun _ => true) true n 23 [.slice a len cap] = some (D, ps)) (hw : ∀ m ∈ D.weights Tryd.prog 23, m ≤ reachBytes) :
    ∃ xs : List (List UInt8), xs.length = len ∧ Rf sv W W.heap.size a cap xs ∧ ∀ x ∈ xs, x.length ≤ 140737488351232 := by
  rcases open_strings Tryd.underlying23 Tryd.underlying9 cellsS h with ⟨hcs, _⟩ | ⟨a, l, c, ss, hcs, _, hl, hm, hz, hx, hcell, _⟩
  · have h1 := (List.cons.inj hcs).1
    simp only [Value.slice.injEq] at h1
    obtain ⟨rfl, rfl, rfl⟩ := h1
    exact ⟨[], rfl, Rf.empty _ _, fun _ h => by cases h⟩
  · have h1 := (List.cons.inj hcs).1
    simp only [Value.slice.injEq] at h1
    obtain ⟨rfl, rfl, rfl⟩ := h1
    simp only [Prod.mk.injEq] at hx
    obtain ⟨rfl, _⟩ := hx
    simp only [if_true] at hz
    refine ⟨(ss.take len).map fun s => s.data.toList, by simp; omega, ⟨by simp; omega, hm, (fun e => by cases e), fun ad e j hj => ?_⟩, fun x hx => ?_⟩
    · obtain rfl := Option.some.inj e
      have hj' : j < ss.length := by simp at hj; omega
      have hc := hcell j hj'
      have hb := World.block_lt_of_cell? W _ hc
      rw [add_block] at hb
      refine ⟨hb, ?_⟩
      rw [hc]
      have e1 : ss.getD j ByteArray.empty = ss[j] := by simp [List.getD, hj']
      rw [e1]
      simp only [List.getElem_map, List.getElem_take, sv]
    · obtain ⟨s, hs, rfl⟩ := List.mem_map.1 hx
      refine hw _ ?_
      simp only [DataW.weights, Tryd.underlying23, List.mem_cons, List.mem_append]
      refine .inr (.inl (weightsAll_mem (d := .lit (.string s.data.toList)) (List.mem_map.2 ⟨s, hs, rfl⟩) _ ?_))
      simp [DataW.weights]

/-- A row of a [][]string: where its texts lie, its capacity, its texts. -/
structure Rw where
  A : Option Addr
  c : Nat
  l : List (List UInt8)
def Rw.v (x : Rw) : Value := .slice x.A x.l.length x.c
theorem rwv_one (x : Rw) : x.v.oneCell' = true := rfl
instance : Inhabited Rw := ⟨⟨none, 0, []⟩⟩
def txts (rows : List Rw) : List (List (List UInt8)) := rows.map (·.l)
/-- The [][]string reads as rows; all of it lies below block B. -/
structure RfR (w : World) (B : Nat) (A : Option Addr) (c : Nat) (rows : List Rw) : Prop where
  top : Rf Rw.v w B A c rows
  row : ∀ x ∈ rows, Rf sv w B x.A x.c x.l
theorem RfR.keep {w w' : World} {B c : Nat} {A : Option Addr} {rows : List Rw} (h : RfR w B A c rows) (hk : ∀ p : Addr, p.block < B → w'.cell? p = w.cell? p) : RfR w' B A c rows := ⟨h.top.keep hk, fun x hx => (h.row x hx).keep hk⟩
theorem RfR.below {w w' : World} {B c : Nat} {A : Option Addr} {rows : List Rw} (h : RfR w B A c rows) (hb : Below B w w') : RfR w' B A c rows := h.keep fun _ hp => hb.cell hp
theorem RfR.more {w : World} {B B' c : Nat} {A : Option Addr} {rows : List Rw} (h : RfR w B A c rows) (hB : B ≤ B') : RfR w B' A c rows := ⟨h.top.more hB, fun x hx => (h.row x hx).more hB⟩

theorem open_rows {H : Type} {enc : TypeId × Value → H} {W : World} {n : Nat} {a : Option Addr} {len cap : Nat} {D : DataW H} {ps : List MemPlace}
    (h : DataW.trod enc Tryd.prog W 0 (fun _ => true) true n 33 [.slice a len cap] = some (D, ps)) (hw : ∀ m ∈ D.weights Tryd.prog 33, m ≤ reachBytes) :
    ∃ rows : List Rw, rows.length = len ∧ RfR W W.heap.size a cap rows ∧ ∀ x ∈ rows, ∀ y ∈ x.l, y.length ≤ 140737488351232 := by
  rcases open_slice1 Tryd.underlying33 (by kernel_rfl) h with ⟨hcs, _⟩ | ⟨ad, l, c, m, n', V, Dx, Pl, hcs, _, hl, hm, hmm, hx, hi⟩
  · have h1 := (List.cons.inj hcs).1
    simp only [Value.slice.injEq] at h1
    obtain ⟨rfl, rfl, rfl⟩ := h1
    exact ⟨[], rfl, ⟨Rf.empty _ _, fun _ h => by cases h⟩, fun _ h => by cases h⟩
  · have h1 := (List.cons.inj hcs).1
    simp only [Value.slice.injEq] at h1
    obtain ⟨rfl, rfl, rfl⟩ := h1
    simp only [Prod.mk.injEq] at hx
    obtain ⟨rfl, _⟩ := hx
    have hlm : len ≤ m := by simp at hmm; omega
    have each : ∀ i, i < len → ∃ r : Rw, V i = r.v ∧ Rf sv W W.heap.size r.A r.c r.l ∧ ∀ y ∈ r.l, y.length ≤ 140737488351232 := by
      intro i hil
      have ht := (hi i (by omega)).2
      have hform : ∃ A2 l2 c2, V i = .slice A2 l2 c2 := by
        rcases open_strings Tryd.underlying23 Tryd.underlying9 cellsS ht with ⟨hcs, _⟩ | ⟨a, l, c, ss, hcs, _⟩
        · exact ⟨_, _, _, (List.cons.inj hcs).1⟩
        · exact ⟨_, _, _, (List.cons.inj hcs).1⟩
      obtain ⟨A2, l2, c2, hv⟩ := hform
      rw [hv] at ht
      obtain ⟨xs, rfl, hr, hxs⟩ := open_strs ht (fun m' hm' => hw m' (by
        simp only [DataW.weights, Tryd.underlying33, List.mem_cons, List.mem_append]
        exact .inr (.inl (weightsAll_mem (d := Dx i) (List.mem_map.2 ⟨i, List.mem_range.2 hil, rfl⟩) _ hm'))))
      exact ⟨⟨A2, c2, xs⟩, hv, hr, hxs⟩
    obtain ⟨f, hf⟩ := choose_lt (α := Rw) (p := fun i r => V i = r.v ∧ Rf sv W W.heap.size r.A r.c r.l ∧ ∀ y ∈ r.l, y.length ≤ 140737488351232) each
    refine ⟨(List.range len).map f, by simp, ⟨⟨by simpa using hl, hm, (fun e => by cases e), fun ad' e j hj => ?_⟩, fun x hx => ?_⟩, fun x hx => ?_⟩
    · obtain rfl := Option.some.inj e
      have hjl : j < len := by simpa using hj
      have hc := (hi j (by omega)).1
      have hb := World.block_lt_of_cell? W _ hc
      rw [add_block] at hb
      refine ⟨hb, ?_⟩
      rw [hc, (hf j hjl).1]
      simp
    · obtain ⟨j, hj, rfl⟩ := List.mem_map.1 hx
      exact (hf j (by simpa using hj)).2.1
    · obtain ⟨j, hj, rfl⟩ := List.mem_map.1 hx
      exact (hf j (by simpa using hj)).2.2
end Go.Proofs.YtnnenhcofibhoaaDoor
