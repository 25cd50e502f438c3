/- A contest, strings and []string that came in, as the row's reading tells them. -/
import Derived.Test.YtdjifopdlkppoaaDoorRefC
import Derived.ProofKit
import Derived.ChangeOld
import Derived.ChangeMaps5
import Derived.SliceStrings
import Derived.SizedLaws
import Derived.Deep.Slices
import Derived.Lib.SmallJoins
namespace Go.Proofs.YtdjifopdlkppoaaDoor
open Go.RowKit Go.ChangeShapes Go.WideShapes Go.ChangeAt Go.Deep Go.ChangeMaps Go.Joins
set_option linter.unusedVariables false

theorem cellsS : Tryd.prog.cellsOf 9 = 1 := by kernel_rfl

theorem weightsAll_mem {H : Type} {P : Program} {e : TypeId} : ∀ {l : List (DataW H)} {d : DataW H}, d ∈ l → ∀ n ∈ d.weights P e, n ∈ DataW.weightsAll P e l
  | d0 :: l, d, h, n, hn => by
    simp only [DataW.weightsAll, List.mem_append]
    rcases List.mem_cons.1 h with e | h
    · subst e; exact .inl hn
    · exact .inr (weightsAll_mem h n hn)

theorem open_strs {H : Type} {enc : TypeId × Value → H} {W : World} {n : Nat} {a : Option Addr} {len cap : Nat} {D : DataW H} {ps : List MemPlace}
    (h : DataW.trod enc Tryd.prog W 0 (fun _ => true) true n 24 [.slice a len cap] = some (D, ps)) (hw : ∀ m ∈ D.weights Tryd.prog 24, m ≤ reachBytes) :
    ∃ xs : List (List UInt8), xs.length = len ∧ Rf sv W W.heap.size a cap xs ∧ ∀ x ∈ xs, x.length ≤ 140737488351232 := by
  rcases open_strings Tryd.underlying24 Tryd.underlying9 cellsS h with ⟨hcs, _⟩ | ⟨a, l, c, ss, hcs, _, hl, hm, hz, hx, hcell, _⟩
  · have h1 := (List.cons.inj hcs).1
    simp only [Value.slice.injEq] at h1
    obtain ⟨rfl, rfl, rfl⟩ := h1
    exact ⟨[], rfl, Rf.empty _ _, fun _ h => by cases h⟩
  · have h1 := (List.cons.inj hcs).1
    simp only [Value.slice.injEq] at h1
    obtain ⟨rfl, rfl, rfl⟩ := h1
    simp only [Prod.mk.injEq] at hx
    obtain ⟨rfl, _⟩ := hx
    simp only [if_true] at hz
    refine ⟨(ss.take len).map fun s => s.data.toList, by simp; omega, ⟨by simp; omega, hm, (fun e => by cases e), fun ad e j hj => ?_⟩, fun x hx => ?_⟩
    · obtain rfl := Option.some.inj e
      have hj' : j < ss.length := by simp at hj; omega
      have hc := hcell j hj'
      have hb := World.block_lt_of_cell? W _ hc
      rw [add_block] at hb
      refine ⟨hb, ?_⟩
      rw [hc]
      have e1 : ss.getD j ByteArray.empty = ss[j] := by simp [List.getD, hj']
      rw [e1]
      simp only [List.getElem_map, List.getElem_take, sv]
    · obtain ⟨s, hs, rfl⟩ := List.mem_map.1 hx
      refine hw _ ?_
      simp only [DataW.weights, Tryd.underlying24, List.mem_cons, List.mem_append]
      refine .inr (.inl (weightsAll_mem (d := .lit (.string s.data.toList)) (List.mem_map.2 ⟨s, hs, rfl⟩) _ ?_))
      simp [DataW.weights]


theorem strs_value {H : Type} {enc : TypeId × Value → H} {W : World} {n : Nat} {v : Value} {x : DataW H × List MemPlace}
    (h : DataW.trod enc Tryd.prog W 0 (fun _ => true) true n 24 [v] = some x) : ∃ a l c, v = .slice a l c := by
  rcases open_strings Tryd.underlying24 Tryd.underlying9 cellsS h with ⟨hcs, _⟩ | ⟨a, l, c, ss, hcs, _⟩
  · exact ⟨none, 0, 0, (List.cons.inj hcs).1⟩
  · exact ⟨some a, l, c, (List.cons.inj hcs).1⟩
set_option maxRecDepth 100000 in
theorem open_ct {H : Type} {enc : TypeId × Value → H} {W : World} {r : Reach} {b0 : Nat} {v : Value} {d : DataW H} {p : List MemPlace}
    (hv : Value.okWide Tryd.prog W r b0 26 v) (h : DataW.Trod enc Tryd.prog W 0 (fun _ => true) true 26 v d p) (hw : ∀ m ∈ d.weights Tryd.prog 26, m ≤ reachBytes) :
    ∃ (x : Ct) (A : Option Addr) (c : Nat), v = cv A c x ∧ Rf sv W W.heap.size A c x.cands ∧ x.name.length ≤ 140737488351232 ∧ (∀ y ∈ x.cands, y.length ≤ 140737488351232) ∧ x.rule ≤ 255 ∧ (-9223372036854775808 ≤ x.seats ∧ x.seats ≤ 9223372036854775807) := by
  obtain ⟨v0, v1, v2, v3, y0, y1, y2, y3, n, rfl, rfl, rfl, t0, t1, t2, t3⟩ := open_agg4 Tryd.underlying26 (by kernel_rfl) (by kernel_rfl) hv h
  obtain ⟨s0, e0, rfl, z0⟩ := DataW.trod_string Tryd.underlying9 t0
  obtain ⟨n2, e2, rfl, z2⟩ := DataW.trod_int Tryd.underlying3 t2
  obtain ⟨n3, e3, rfl, z3⟩ := DataW.trod_int Tryd.underlying5 t3
  obtain ⟨a, l, c, rfl⟩ := strs_value t1
  obtain rfl := (List.cons.inj e0).1
  obtain rfl := (List.cons.inj e2).1
  obtain rfl := (List.cons.inj e3).1
  have hq : ∀ m ∈ s0.data.toList.length :: y1.1.weights Tryd.prog 24, m ≤ reachBytes := fun m hm => by
    refine hw m ?_
    rcases List.mem_cons.1 hm with e | hm
    · subst e
      simp [DataW.weights, Tryd.underlying26, DataW.weightsEach]
    · simp only [DataW.weights, Tryd.underlying26, DataW.weightsEach, List.map_cons, List.mem_append]
      exact .inr (.inl hm)
  obtain ⟨xs, rfl, hr, hx⟩ := open_strs (ps := y1.2) (D := y1.1) t1 (fun m hm => hq m (List.mem_cons_of_mem _ hm))
  have hs := hq _ (List.mem_cons_self ..)
  have h2 := bounds_i64 z2
  have h3 := bounds_u8 z3
  obtain ⟨k, rfl⟩ := Int.eq_ofNat_of_zero_le h3.1
  refine ⟨⟨s0.data.toList, xs, n2, k⟩, a, c, ?_, hr, ?_, hx, (show k ≤ 255 by omega), h2⟩
  · unfold cv cvs
    rw [mk_eta]
  · simpa [reachBytes] using hs
end Go.Proofs.YtdjifopdlkppoaaDoor
