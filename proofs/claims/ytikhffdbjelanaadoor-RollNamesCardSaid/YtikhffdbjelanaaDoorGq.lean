/- []api.Voter as the row's reading tells it. []uint8 as the row's reading tells it. The door's words of contest's table. -/
import Derived.Test.YtikhffdbjelanaaDoorGg
import Derived.ProofKit
import Derived.Deep.Slices
import Derived.ChangeSame
import Derived.OpenShut
import Derived.ChangeOld
import Derived.Test.YtikhffdbjelanaaDoorGd
import Derived.Lib.LaidTab
namespace Go.Proofs.YtikhffdbjelanaaDoor
open Go.RowKit Go.ChangeShapes Go.WideShapes Go.ChangeAt Go.Deep
set_option linter.unusedVariables false

instance : Inhabited Vt := ⟨⟨[], 0, 0⟩⟩
set_option maxRecDepth 100000 in
theorem open_vts {H : Type} {enc : TypeId × Value → H} {W : World} {n : Nat} {a : Option Addr} {len cap : Nat} {x : DataW H × List MemPlace}
    (h : DataW.trod enc Tryd.prog W 0 (fun _ => true) true n 22 [.slice a len cap] = some x) :
    ∃ l : List Vt, l.length = len ∧ Rvt W W.heap.size a cap l ∧ (∀ v ∈ l, v.state ≤ 255) ∧ ∀ v ∈ l, -9223372036854775808 ≤ v.pre ∧ v.pre ≤ 9223372036854775807 := by
  have cV : Tryd.prog.cellsOf 30 = 3 := by kernel_rfl
  have cS : Tryd.prog.cellsOf 9 = 1 := by kernel_rfl
  have cI : Tryd.prog.cellsOf 3 = 1 := by kernel_rfl
  have cB : Tryd.prog.cellsOf 5 = 1 := by kernel_rfl
  rcases open_slice Tryd.underlying22 h with ⟨hcs, _⟩ | ⟨ad, l, c, m, k, D, Pl, hcs, hb, hl, hm, hmm, hx, hi⟩
  · have h1 := (List.cons.inj hcs).1
    simp only [Value.slice.injEq] at h1
    obtain ⟨rfl, rfl, rfl⟩ := h1
    exact ⟨[], rfl, Rk.empty _ _, (fun _ h => by cases h), (fun _ h => by cases h)⟩
  · have h1 := (List.cons.inj hcs).1
    simp only [Value.slice.injEq] at h1
    obtain ⟨rfl, rfl, rfl⟩ := h1
    simp only [if_true] at hmm
    have each : ∀ i, i < m → ∃ v : Vt, (W.cell? (ad.add (i * 3)) = some (.string ⟨v.name.toArray⟩) ∧ W.cell? (ad.add (i * 3 + 1)) = some (.int .i64 v.pre) ∧ W.cell? (ad.add (i * 3 + 2)) = some (.int .u8 (v.state : Nat))) ∧ v.state ≤ 255 ∧ (-9223372036854775808 ≤ v.pre ∧ v.pre ≤ 9223372036854775807) := by
      intro i him
      obtain ⟨cs', h1, h2⟩ := hi i him
      rw [cV] at h1
      obtain ⟨_, hlen, hcell⟩ := World.cells?_some h1
      obtain ⟨xs, n', hk, hxy, _, hxl, hf⟩ := DataW.trod_struct Tryd.underlying30 h2
      match xs, hxl, cs', hlen with
      | [y0, y1, y2], _, [v0, v1, v2], _ =>
        have g0 := hf 0 _ rfl
        have g1 := hf 1 _ rfl
        have g2 := hf 2 _ rfl
        simp [cS, cI, cB] at g0 g1 g2
        obtain ⟨s, e0, _, z0⟩ := DataW.trod_string Tryd.underlying9 g0
        obtain ⟨p, e1, _, z1⟩ := DataW.trod_int Tryd.underlying3 g1
        obtain ⟨q, e2, _, z2⟩ := DataW.trod_int Tryd.underlying5 g2
        obtain rfl := (List.cons.inj e0).1
        obtain rfl := (List.cons.inj e1).1
        obtain rfl := (List.cons.inj e2).1
        have b1 := bounds_i64 z1
        have b2 := bounds_u8 z2
        obtain ⟨u, rfl⟩ := Int.eq_ofNat_of_zero_le b2.1
        have c0 := hcell 0 (by omega)
        have c1 := hcell 1 (by omega)
        have c2 := hcell 2 (by omega)
        rw [add_add] at c0 c1 c2
        refine ⟨⟨s.data.toList, p, u⟩, ⟨?_, by simpa using c1, by simpa using c2⟩, by simp only; omega, b1⟩
        simpa [mk_eta] using c0
    obtain ⟨f, hf⟩ := choose_lt each
    have hlen : ((List.range len).map f).length = len := by simp
    refine ⟨(List.range len).map f, hlen, ⟨by rw [hlen]; exact hl, hm, (fun e => by cases e), fun ad' e j hj => ?_⟩, fun v hv => ?_, fun v hv => ?_⟩
    · obtain rfl := Option.some.inj e
      rw [hlen] at hj
      obtain ⟨⟨c0, c1, c2⟩, _⟩ := hf j (by omega)
      refine ⟨by have := World.block_lt_of_cell? W _ c0; rwa [add_block] at this, fun i u hu => ?_⟩
      simp only [List.getElem_map, List.getElem_range, vl] at hu
      match i, hu with
      | 0, hu => obtain rfl := Option.some.inj hu; exact c0
      | 1, hu => obtain rfl := Option.some.inj hu; exact c1
      | 2, hu => obtain rfl := Option.some.inj hu; exact c2
    · obtain ⟨j, hj, rfl⟩ := List.mem_map.1 hv
      exact (hf j (by have := List.mem_range.1 hj; omega)).2.1
    · obtain ⟨j, hj, rfl⟩ := List.mem_map.1 hv
      exact (hf j (by have := List.mem_range.1 hj; omega)).2.2
end Go.Proofs.YtikhffdbjelanaaDoor
namespace Go.Proofs.YtikhffdbjelanaaDoor
open Go.RowKit Go.ChangeShapes Go.WideShapes Go.ChangeAt
set_option linter.unusedVariables false
theorem open_bs {H : Type} {enc : TypeId × Value → H} {W : World} {n : Nat} {a : Option Addr} {len cap : Nat} {x : DataW H × List MemPlace}
    (h : DataW.trod enc Tryd.prog W 0 (fun _ => true) true n 37 [.slice a len cap] = some x) : ∃ xs : List UInt8, xs.length = len ∧ Rf bv W W.heap.size a cap xs := by
  rcases open_ints Tryd.underlying37 Tryd.underlying5 (by kernel_rfl) h with ⟨hcs, _⟩ | ⟨ad, l, c, zs, hcs, _, hl, hm, hz, _, hcell, hwz⟩
  · have h1 := (List.cons.inj hcs).1
    simp only [Value.slice.injEq] at h1
    obtain ⟨rfl, rfl, rfl⟩ := h1
    exact ⟨[], rfl, Rf.empty _ _⟩
  · have h1 := (List.cons.inj hcs).1
    simp only [Value.slice.injEq] at h1
    obtain ⟨rfl, rfl, rfl⟩ := h1
    have hz' : zs.length = cap := by simpa using hz
    refine ⟨(zs.take len).map fun n => UInt8.ofNat n.toNat, by simp; omega, by simp; omega, hm, (fun e => by cases e), fun ad' e j hj => ?_⟩
    obtain rfl := Option.some.inj e
    have hj' : j < zs.length := by simp at hj; omega
    have hc := hcell j hj'
    have hw := bounds_u8 (hwz zs[j] (List.getElem_mem hj'))
    refine ⟨by have := World.block_lt_of_cell? W _ hc; rwa [add_block] at this, ?_⟩
    rw [hc]
    have e1 : zs.getD j 0 = zs[j] := by simp [List.getD, hj']
    rw [e1]
    simp only [List.getElem_map, List.getElem_take, bv]
    have e2 : ((UInt8.ofNat zs[j].toNat).toNat : Int) = zs[j] := by
      rw [UInt8.toNat_ofNat', Nat.mod_eq_of_lt (by omega)]
      omega
    rw [e2]
end Go.Proofs.YtikhffdbjelanaaDoor
namespace Go.Proofs.YtikhffdbjelanaaDoor
open Go.RowKit Go.ChangeShapes Go.WideShapes Go.ChangeAt
set_option linter.unusedVariables false
theorem tab_of_laid {W : World} (h : laidMet Tryd.prog [("suffrage/contest.rules", rulesD)] W) : Tab W := tab_of_reads (Lib.laidMet.reads h (.head _))
end Go.Proofs.YtikhffdbjelanaaDoor
