/- Bytes that came in; the door's words of contest's table. -/
import Derived.Test.YtdjifopdlkppoaaDoorRowC
import Derived.Test.YtdjifopdlkppoaaDoorCdK
import Derived.OpenShut
import Derived.Lib.LaidTab
namespace Go.Proofs.YtdjifopdlkppoaaDoor
open Go.RowKit Go.ChangeShapes Go.WideShapes Go.ChangeAt
set_option linter.unusedVariables false

theorem bounds_u8' {n : Int} (h : (Lit.int .u8 n).wf = true) : 0 ≤ n ∧ n < 256 := by have := bounds_u8 h; omega
theorem bounds_u16' {n : Int} (h : (Lit.int .u16 n).wf = true) : 0 ≤ n ∧ n < 65536 := by have := bounds_u16 h; omega
theorem bounds_u32' {n : Int} (h : (Lit.int .u32 n).wf = true) : 0 ≤ n ∧ n < 4294967296 := by have := bounds_u32 h; omega
theorem u8_of (n : Nat) (h : n < 256) : (UInt8.ofNat n).toNat = n := by rw [u8_mod]; omega
theorem open_bs {H : Type} {enc : TypeId × Value → H} {W : World} {n : Nat} {a : Option Addr} {len cap : Nat} {x : DataW H × List MemPlace}
    (h : DataW.trod enc Tryd.prog W 0 (fun _ => true) true n 37 [.slice a len cap] = some x) : ∃ xs : List UInt8, xs.length = len ∧ Rf bv W W.heap.size a cap xs := by
  rcases open_ints Tryd.underlying37 Tryd.underlying5 (by kernel_rfl) h with ⟨hcs, _⟩ | ⟨ad, l, c, zs, hcs, _, hl, hm, hz, _, hcell, hwz⟩
  · have h1 := (List.cons.inj hcs).1
    simp only [Value.slice.injEq] at h1
    obtain ⟨rfl, rfl, rfl⟩ := h1
    exact ⟨[], rfl, Rf.empty _ _⟩
  · have h1 := (List.cons.inj hcs).1
    simp only [Value.slice.injEq] at h1
    obtain ⟨rfl, rfl, rfl⟩ := h1
    have hz' : zs.length = cap := by simpa using hz
    refine ⟨(zs.take len).map fun n => UInt8.ofNat n.toNat, by simp; omega, by simp; omega, hm, (fun e => by cases e), fun ad' e j hj => ?_⟩
    obtain rfl := Option.some.inj e
    have hj' : j < zs.length := by simp at hj; omega
    have hc := hcell j hj'
    have hw := bounds_u8' (hwz zs[j] (List.getElem_mem hj'))
    refine ⟨by have := World.block_lt_of_cell? W _ hc; rwa [add_block] at this, ?_⟩
    rw [hc]
    have e1 : zs.getD j 0 = zs[j] := by simp [List.getD, hj']
    rw [e1]
    simp only [List.getElem_map, List.getElem_take, bv]
    have e2 : ((UInt8.ofNat zs[j].toNat).toNat : Int) = zs[j] := by
      rw [u8_of _ (by omega)]
      omega
    rw [e2]
theorem tab_of_laid {W : World} (h : laidMet Tryd.prog [("suffrage/contest.rules", rulesD)] W) : Tab W := tab_of_reads (Lib.laidMet.reads h (.head _))
end Go.Proofs.YtdjifopdlkppoaaDoor
