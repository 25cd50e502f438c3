/- Slices and arrays of integers that came in, as the row's reading tells them; the door's words of the table. -/
import Derived.Test.YtipclieldokfnaaDoorComp
import Derived.ProofKit
import Derived.ChangeOld
import Derived.OpenShut
import Derived.SizedLaws
import Derived.Lib.LaidTab
namespace Go.Proofs.YtipclieldokfnaaDoor
open Go.RowKit Go.ChangeShapes Go.WideShapes Go.ChangeAt
set_option linter.unusedVariables false

theorem bounds_u8' {n : Int} (h : (Lit.int .u8 n).wf = true) : 0 ≤ n ∧ n < 256 := by have := bounds_u8 h; omega
theorem bounds_u16' {n : Int} (h : (Lit.int .u16 n).wf = true) : 0 ≤ n ∧ n < 65536 := by have := bounds_u16 h; omega
theorem bounds_u32' {n : Int} (h : (Lit.int .u32 n).wf = true) : 0 ≤ n ∧ n < 4294967296 := by have := bounds_u32 h; omega
theorem u8_of (n : Nat) (h : n < 256) : (UInt8.ofNat n).toNat = n := by rw [u8_mod]; omega
theorem open_bs {H : Type} {enc : TypeId × Value → H} {W : World} {n : Nat} {a : Option Addr} {len cap : Nat} {x : DataW H × List MemPlace}
    (h : DataW.trod enc Tryd.prog W 0 (fun _ => true) true n 36 [.slice a len cap] = some x) : ∃ xs : List UInt8, xs.length = len ∧ Rf bv W W.heap.size a cap xs := by
  rcases open_ints Tryd.underlying36 Tryd.underlying5 (by kernel_rfl) h with ⟨hcs, _⟩ | ⟨ad, l, c, zs, hcs, _, hl, hm, hz, _, hcell, hwz⟩
  · have h1 := (List.cons.inj hcs).1
    simp only [Value.slice.injEq] at h1
    obtain ⟨rfl, rfl, rfl⟩ := h1
    exact ⟨[], rfl, Rf.empty _ _⟩
  · have h1 := (List.cons.inj hcs).1
    simp only [Value.slice.injEq] at h1
    obtain ⟨rfl, rfl, rfl⟩ := h1
    have hz' : zs.length = cap := by simpa using hz
    refine ⟨(zs.take len).map fun n => UInt8.ofNat n.toNat, by simp; omega, by simp; omega, hm, (fun e => by cases e), fun ad' e j hj => ?_⟩
    obtain rfl := Option.some.inj e
    have hj' : j < zs.length := by simp at hj; omega
    have hc := hcell j hj'
    have hw := bounds_u8' (hwz zs[j] (List.getElem_mem hj'))
    refine ⟨by have := World.block_lt_of_cell? W _ hc; rwa [add_block] at this, ?_⟩
    rw [hc]
    have e1 : zs.getD j 0 = zs[j] := by simp [List.getD, hj']
    rw [e1]
    simp only [List.getElem_map, List.getElem_take, bv]
    have e2 : ((UInt8.ofNat zs[j].toNat).toNat : Int) = zs[j] := by
      rw [u8_of _ (by omega)]
      omega
    rw [e2]
theorem okWide_arr {P : Program} {w : World} {r : Reach} {base n : Nat} {t e : TypeId} {v : Value} (ht : P.underlying t = some (.array n e)) (h : Value.okWide P w r base t v) : ∃ cs, v = .agg cs ∧ cs.size = P.cellsOf t := by
  simp only [Value.okWide, ht] at h
  obtain ⟨cs, h1, h2, _⟩ := h
  exact ⟨cs, h1, h2⟩
theorem open_arr {H : Type} {enc : TypeId × Value → H} {P : Program} {w : World} {base : Nat} {sp : Nat → Bool} {held : Bool} {fuel : Nat} {t e : TypeId} {n : Nat} {k : IntKind} {cs : List Value} {x : DataW H × List MemPlace}
    (ht : P.underlying t = some (.array n e)) (he : P.underlying e = some (.int k)) (hce : P.cellsOf e = 1) (hct : P.cellsOf t = n)
    (h : DataW.trod enc P w base sp held fuel t cs = some x) : cs.length = n ∧ ∀ i, i < n → ∃ z : Int, cs[i]? = some (.int k z) ∧ (Lit.int k z).wf = true := by
  cases fuel with
  | zero => simp [DataW.trod] at h
  | succ fuel =>
    simp only [DataW.trod, ht, hce, hct, Nat.mul_one] at h
    split at h
    · rename_i hl
      obtain ⟨xs, hm, hx⟩ := Option.map_eq_some_iff.1 h
      refine ⟨hl, fun i hi => ?_⟩
      obtain ⟨b, hb, hf⟩ := Lib.mapM_at hm i i (by simp [hi])
      obtain ⟨z, hc, _, hw⟩ := DataW.trod_int he hf
      refine ⟨z, ?_, by simpa using hw⟩
      have := congrArg (·[0]?) hc
      simpa [List.getElem?_take, List.getElem?_drop] using this
    · cases h
theorem list_of {α : Type} {f : α → Value} {n : Nat} {cs : List Value} (hl : cs.length = n) (h : ∀ i, i < n → ∃ a : α, cs[i]? = some (f a)) : ∃ xs : List α, xs.length = n ∧ cs = xs.map f := by
  induction n generalizing cs with
  | zero => exact ⟨[], rfl, by simpa using hl⟩
  | succ n ih =>
    cases cs with
    | nil => simp at hl
    | cons c cs =>
      obtain ⟨a, ha⟩ := h 0 (by omega)
      obtain ⟨xs, hx, he⟩ := ih (cs := cs) (by simpa using hl) (fun i hi => by
        obtain ⟨b, hb⟩ := h (i + 1) (by omega)
        exact ⟨b, by simpa using hb⟩)
      refine ⟨a :: xs, by simp [hx], ?_⟩
      simp only [List.getElem?_cons_zero, Option.some.injEq] at ha
      rw [ha, he]; rfl
theorem open_ab {H : Type} {enc : TypeId × Value → H} {W : World} {n : Nat} {cs : Array Value} {x : DataW H × List MemPlace}
    (h : DataW.trod enc Tryd.prog W 0 (fun _ => true) true n 22 (Value.agg cs).cells.toList = some x) : ∃ xs : List UInt8, xs.length = 32 ∧ cs = (xs.map bv).toArray := by
  obtain ⟨hl, hz⟩ := open_arr (cs := cs.toList) Tryd.underlying22 Tryd.underlying5 (by kernel_rfl) (by kernel_rfl) h
  obtain ⟨xs, hx, he⟩ := list_of (f := bv) hl (fun i hi => by
    obtain ⟨z, hc, hw⟩ := hz i hi
    have hb := bounds_u8' hw
    refine ⟨UInt8.ofNat z.toNat, ?_⟩
    rw [hc]
    unfold bv
    rw [u8_of _ (by omega)]
    congr 2; omega)
  exact ⟨xs, hx, by rw [← he]⟩
theorem open_aw {H : Type} {enc : TypeId × Value → H} {W : World} {n : Nat} {cs : Array Value} {x : DataW H × List MemPlace}
    (h : DataW.trod enc Tryd.prog W 0 (fun _ => true) true n 88 (Value.agg cs).cells.toList = some x) : ∃ xs : List UInt32, xs.length = 8 ∧ cs = (xs.map uv).toArray := by
  obtain ⟨hl, hz⟩ := open_arr (cs := cs.toList) Tryd.underlying88 Tryd.underlying27 (by kernel_rfl) (by kernel_rfl) h
  obtain ⟨xs, hx, he⟩ := list_of (f := uv) hl (fun i hi => by
    obtain ⟨z, hc, hw⟩ := hz i hi
    have hb := bounds_u32' hw
    refine ⟨UInt32.ofNat z.toNat, ?_⟩
    rw [hc]
    unfold uv
    rw [u32_of _ (by omega)]
    congr 2; omega)
  exact ⟨xs, hx, by rw [← he]⟩
theorem tT : (Tryd.prog.globals[0]?).map (·.type) = some 106 := by kernel_rfl
theorem tab_of_laid {W : World} (h : laidMet Tryd.prog [("suffrage/digest.k", Lib.tabData .u32 kkI)] W) : Tab W :=
  Lib.tabBelow_of_tabIs (Lib.tabIs_of_head gK tT Tryd.underlying106 Tryd.underlying27 (by kernel_rfl) (by kernel_rfl) h)
end Go.Proofs.YtipclieldokfnaaDoor
