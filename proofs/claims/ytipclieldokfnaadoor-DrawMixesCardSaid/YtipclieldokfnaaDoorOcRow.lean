/- A [][]byte that came in, as the row's reading tells it. -/
import Derived.Test.YtipclieldokfnaaDoorOcList
import Derived.ProofKit
import Derived.ChangeOld
import Derived.Deep.Slices
namespace Go.Proofs.YtipclieldokfnaaDoor.Oc
open Go.RowKit Go.ChangeShapes Go.WideShapes Go.ChangeAt Go.Deep
set_option linter.unusedVariables false

instance : Inhabited El := ⟨⟨none, 0, []⟩⟩

theorem el_of_trod {H : Type} {enc : TypeId × Value → H} {W : World} {n : Nat} {v : Value} {x : DataW H × List MemPlace}
    (h : DataW.trod enc Tryd.prog W 0 (fun _ => true) true n 36 [v] = some x) : ∃ el : El, v = el.v ∧ Rd W W.heap.size el.A el.c el.l := by
  rcases open_ints Tryd.underlying36 Tryd.underlying5 (by kernel_rfl) h with ⟨hcs, _⟩ | ⟨a, l, c, zs, hcs, _, hl, hm, hz, _, hcell, hwz⟩
  · obtain ⟨rfl, _⟩ := List.cons.inj hcs
    exact ⟨⟨none, 0, []⟩, rfl, Rd.empty _ _⟩
  · obtain ⟨rfl, _⟩ := List.cons.inj hcs
    obtain ⟨l', hl', hr⟩ := rd_of_row (w := W) (a := some a) (len := l) (cap := c) (zs := zs) (.inr ⟨a, rfl, hl, hm, by simpa using hz, hcell, hwz⟩)
    subst hl'
    exact ⟨⟨some a, c, l'⟩, rfl, hr⟩

theorem rdl_of_trod {H : Type} {enc : TypeId × Value → H} {W : World} {a : Option Addr} {len cap n : Nat} {cs : List Value} {x : DataW H × List MemPlace} (hcs : cs = [.slice a len cap])
    (h : DataW.trod enc Tryd.prog W 0 (fun _ => true) true n 37 cs = some x) : ∃ xs : List El, xs.length = len ∧ RdL W W.heap.size a cap xs := by
  subst hcs
  rcases open_slice1 Tryd.underlying37 (by kernel_rfl) h with ⟨hcs, _⟩ | ⟨ad, l, c, m, n', V, D, Pl, hcs, _, hl, hm, hmm, _, hi⟩
  · obtain ⟨h1, _⟩ := List.cons.inj hcs
    simp only [Value.slice.injEq] at h1
    obtain ⟨rfl, rfl, rfl⟩ := h1
    exact ⟨[], rfl, RdL.empty _ _⟩
  · obtain ⟨h1, _⟩ := List.cons.inj hcs
    simp only [Value.slice.injEq] at h1
    obtain ⟨rfl, rfl, rfl⟩ := h1
    have hlm : len ≤ m := by simp at hmm; omega
    obtain ⟨f, hf⟩ := choose_lt (α := El) (p := fun i el => V i = el.v ∧ Rd W W.heap.size el.A el.c el.l) (fun i (hil : i < len) => el_of_trod (hi i (by omega)).2)
    refine ⟨(List.range len).map f, by simp, by simpa using hl, hm, (fun e => by cases e), fun ad' e j hj => ?_, fun x hx => ?_⟩
    · obtain rfl := Option.some.inj e
      have hjl : j < len := by simpa using hj
      have hc := (hi j (by omega)).1
      have hb := World.block_lt_of_cell? W _ hc
      rw [add_block] at hb
      refine ⟨hb, ?_⟩
      rw [hc, (hf j hjl).1]
      simp
    · obtain ⟨j, hj, rfl⟩ := List.mem_map.1 hx
      exact (hf j (by simpa using hj)).2
end Go.Proofs.YtipclieldokfnaaDoor.Oc
