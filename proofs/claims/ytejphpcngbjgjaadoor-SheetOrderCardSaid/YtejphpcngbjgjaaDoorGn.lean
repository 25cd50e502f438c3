/- A contest, strings and []string that came in, as the row's reading tells them. Sheets, policies and decisions that came in, as the row's reading tells them; the door's words of contest's table. -/
import Derived.Test.YtejphpcngbjgjaaDoorGc
import Derived.ProofKit
import Derived.ChangeOld
import Derived.ChangeMaps5
import Derived.SliceStrings
import Derived.SizedLaws
import Derived.Deep.Slices
import Derived.Lib.SmallJoins
import Derived.Test.YtejphpcngbjgjaaDoorGe
import Derived.Test.YtejphpcngbjgjaaDoorGi
import Derived.OpenShut
import Derived.ChangeSame
import Derived.Lib.LaidTab
namespace Go.Proofs.YtejphpcngbjgjaaDoor
open Go.RowKit Go.ChangeShapes Go.WideShapes Go.ChangeAt Go.Deep Go.ChangeMaps Go.Joins
set_option linter.unusedVariables false

theorem cellsS : Tryd.prog.cellsOf 9 = 1 := by kernel_rfl

theorem weightsAll_mem {H : Type} {P : Program} {e : TypeId} : ∀ {l : List (DataW H)} {d : DataW H}, d ∈ l → ∀ n ∈ d.weights P e, n ∈ DataW.weightsAll P e l
  | d0 :: l, d, h, n, hn => by
    simp only [DataW.weightsAll, List.mem_append]
    rcases List.mem_cons.1 h with e | h
    · subst e; exact .inl hn
    · exact .inr (weightsAll_mem h n hn)

theorem open_strs {H : Type} {enc : TypeId × Value → H} {W : World} {n : Nat} {a : Option Addr} {len cap : Nat} {D : DataW H} {ps : List MemPlace}
    (h : DataW.trod enc Tryd.prog W 0 (fun _ => true) true n 22 [.slice a len cap] = some (D, ps)) (hw : ∀ m ∈ D.weights Tryd.prog 22, m ≤ reachBytes) :
    ∃ xs : List (List UInt8), xs.length = len ∧ Rf sv W W.heap.size a cap xs ∧ ∀ x ∈ xs, x.length ≤ 140737488351232 := by
  rcases open_strings Tryd.underlying22 Tryd.underlying9 cellsS h with ⟨hcs, _⟩ | ⟨a, l, c, ss, hcs, _, hl, hm, hz, hx, hcell, _⟩
  · have h1 := (List.cons.inj hcs).1
    simp only [Value.slice.injEq] at h1
    obtain ⟨rfl, rfl, rfl⟩ := h1
    exact ⟨[], rfl, Rf.empty _ _, fun _ h => by cases h⟩
  · have h1 := (List.cons.inj hcs).1
    simp only [Value.slice.injEq] at h1
    obtain ⟨rfl, rfl, rfl⟩ := h1
    simp only [Prod.mk.injEq] at hx
    obtain ⟨rfl, _⟩ := hx
    simp only [if_true] at hz
    refine ⟨(ss.take len).map fun s => s.data.toList, by simp; omega, ⟨by simp; omega, hm, (fun e => by cases e), fun ad e j hj => ?_⟩, fun x hx => ?_⟩
    · obtain rfl := Option.some.inj e
      have hj' : j < ss.length := by simp at hj; omega
      have hc := hcell j hj'
      have hb := World.block_lt_of_cell? W _ hc
      rw [add_block] at hb
      refine ⟨hb, ?_⟩
      rw [hc]
      have e1 : ss.getD j ByteArray.empty = ss[j] := by simp [List.getD, hj']
      rw [e1]
      simp only [List.getElem_map, List.getElem_take, sv]
    · obtain ⟨s, hs, rfl⟩ := List.mem_map.1 hx
      refine hw _ ?_
      simp only [DataW.weights, Tryd.underlying22, List.mem_cons, List.mem_append]
      refine .inr (.inl (weightsAll_mem (d := .lit (.string s.data.toList)) (List.mem_map.2 ⟨s, hs, rfl⟩) _ ?_))
      simp [DataW.weights]


theorem strs_value {H : Type} {enc : TypeId × Value → H} {W : World} {n : Nat} {v : Value} {x : DataW H × List MemPlace}
    (h : DataW.trod enc Tryd.prog W 0 (fun _ => true) true n 22 [v] = some x) : ∃ a l c, v = .slice a l c := by
  rcases open_strings Tryd.underlying22 Tryd.underlying9 cellsS h with ⟨hcs, _⟩ | ⟨a, l, c, ss, hcs, _⟩
  · exact ⟨none, 0, 0, (List.cons.inj hcs).1⟩
  · exact ⟨some a, l, c, (List.cons.inj hcs).1⟩
set_option maxRecDepth 100000 in
theorem open_ct {H : Type} {enc : TypeId × Value → H} {W : World} {r : Reach} {b0 : Nat} {v : Value} {d : DataW H} {p : List MemPlace}
    (hv : Value.okWide Tryd.prog W r b0 24 v) (h : DataW.Trod enc Tryd.prog W 0 (fun _ => true) true 24 v d p) (hw : ∀ m ∈ d.weights Tryd.prog 24, m ≤ reachBytes) :
    ∃ (x : Ct) (A : Option Addr) (c : Nat), v = cv A c x ∧ Rf sv W W.heap.size A c x.cands ∧ x.name.length ≤ 140737488351232 ∧ (∀ y ∈ x.cands, y.length ≤ 140737488351232) ∧ x.rule ≤ 255 ∧ (-9223372036854775808 ≤ x.seats ∧ x.seats ≤ 9223372036854775807) := by
  obtain ⟨v0, v1, v2, v3, y0, y1, y2, y3, n, rfl, rfl, rfl, t0, t1, t2, t3⟩ := open_agg4 Tryd.underlying24 (by kernel_rfl) (by kernel_rfl) hv h
  obtain ⟨s0, e0, rfl, z0⟩ := DataW.trod_string Tryd.underlying9 t0
  obtain ⟨n2, e2, rfl, z2⟩ := DataW.trod_int Tryd.underlying3 t2
  obtain ⟨n3, e3, rfl, z3⟩ := DataW.trod_int Tryd.underlying5 t3
  obtain ⟨a, l, c, rfl⟩ := strs_value t1
  obtain rfl := (List.cons.inj e0).1
  obtain rfl := (List.cons.inj e2).1
  obtain rfl := (List.cons.inj e3).1
  have hq : ∀ m ∈ s0.data.toList.length :: y1.1.weights Tryd.prog 22, m ≤ reachBytes := fun m hm => by
    refine hw m ?_
    rcases List.mem_cons.1 hm with e | hm
    · subst e
      simp [DataW.weights, Tryd.underlying24, DataW.weightsEach]
    · simp only [DataW.weights, Tryd.underlying24, DataW.weightsEach, List.map_cons, List.mem_append]
      exact .inr (.inl hm)
  obtain ⟨xs, rfl, hr, hx⟩ := open_strs (ps := y1.2) (D := y1.1) t1 (fun m hm => hq m (List.mem_cons_of_mem _ hm))
  have hs := hq _ (List.mem_cons_self ..)
  have h2 := bounds_i64 z2
  have h3 := bounds_u8 z3
  obtain ⟨k, rfl⟩ := Int.eq_ofNat_of_zero_le h3.1
  refine ⟨⟨s0.data.toList, xs, n2, k⟩, a, c, ?_, hr, ?_, hx, (show k ≤ 255 by omega), h2⟩
  · unfold cv cvs
    rw [mk_eta]
  · simpa [reachBytes] using hs
end Go.Proofs.YtejphpcngbjgjaaDoor
namespace Go.Proofs.YtejphpcngbjgjaaDoor
open Go.RowKit Go.ChangeShapes Go.WideShapes Go.ChangeAt Go.Deep Go.ChangeMaps Go.Joins
set_option linter.unusedVariables false

theorem bounds_u8' {n : Int} (h : (Lit.int .u8 n).wf = true) : 0 ≤ n ∧ n < 256 := by have := bounds_u8 h; omega
theorem u8_of (n : Nat) (h : n < 256) : (UInt8.ofNat n).toNat = n := by rw [UInt8.toNat_ofNat']; omega
theorem open_bs {H : Type} {enc : TypeId × Value → H} {W : World} {n : Nat} {a : Option Addr} {len cap : Nat} {x : DataW H × List MemPlace}
    (h : DataW.trod enc Tryd.prog W 0 (fun _ => true) true n 25 [.slice a len cap] = some x) : ∃ xs : List UInt8, xs.length = len ∧ Rf bv W W.heap.size a cap xs := by
  rcases open_ints Tryd.underlying25 Tryd.underlying5 (by kernel_rfl) h with ⟨hcs, _⟩ | ⟨ad, l, c, zs, hcs, _, hl, hm, hz, _, hcell, hwz⟩
  · have h1 := (List.cons.inj hcs).1
    simp only [Value.slice.injEq] at h1
    obtain ⟨rfl, rfl, rfl⟩ := h1
    exact ⟨[], rfl, Rf.empty _ _⟩
  · have h1 := (List.cons.inj hcs).1
    simp only [Value.slice.injEq] at h1
    obtain ⟨rfl, rfl, rfl⟩ := h1
    have hz' : zs.length = cap := by simpa using hz
    refine ⟨(zs.take len).map fun n => UInt8.ofNat n.toNat, by simp; omega, by simp; omega, hm, (fun e => by cases e), fun ad' e j hj => ?_⟩
    obtain rfl := Option.some.inj e
    have hj' : j < zs.length := by simp at hj; omega
    have hc := hcell j hj'
    have hw := bounds_u8' (hwz zs[j] (List.getElem_mem hj'))
    refine ⟨by have := World.block_lt_of_cell? W _ hc; rwa [add_block] at this, ?_⟩
    rw [hc]
    have e1 : zs.getD j 0 = zs[j] := by simp [List.getD, hj']
    rw [e1]
    simp only [List.getElem_map, List.getElem_take, bv]
    have e2 : ((UInt8.ofNat zs[j].toNat).toNat : Int) = zs[j] := by
      rw [u8_of _ (by omega)]
      omega
    rw [e2]
theorem bs_value {H : Type} {enc : TypeId × Value → H} {W : World} {n : Nat} {v : Value} {x : DataW H × List MemPlace}
    (h : DataW.trod enc Tryd.prog W 0 (fun _ => true) true n 25 [v] = some x) : ∃ a l c, v = .slice a l c := by
  rcases open_ints Tryd.underlying25 Tryd.underlying5 (by kernel_rfl) h with ⟨hcs, _⟩ | ⟨ad, l, c, zs, hcs, _⟩
  · exact ⟨none, 0, 0, (List.cons.inj hcs).1⟩
  · exact ⟨some ad, l, c, (List.cons.inj hcs).1⟩
theorem tab_of_laid {W : World} (h : laidMet Tryd.prog [("suffrage/contest.rules", rulesD)] W) : Tab W := tab_of_reads (Lib.laidMet.reads h (.head _))

theorem array1 {α : Type} {cs : Array α} (h : cs.size = 1) : ∃ c0, cs = #[c0] := by
  obtain ⟨l⟩ := cs
  match l, h with
  | [c0], _ => exact ⟨c0, rfl⟩
theorem open_agg1 {P : Program} {H : Type} {enc : TypeId × Value → H} {w : World} {base : Nat} {spare : Nat → Bool} {held : Bool} {r : Reach} {b0 : Nat} {t : TypeId} {f0 : Field} {v : Value} {d : DataW H} {p : List MemPlace} (hs : P.underlying t = some (.struct #[f0])) (hone : oneCellFields P #[f0] = true) (hC : P.cellsOf t = 1)
    (hv : Value.okWide P w r b0 t v) (h : DataW.Trod enc P w base spare held t v d p) :
    ∃ (v0 : Value) (y0 : DataW H × List MemPlace) (n : Nat), v = .agg #[v0] ∧ DataW.trod enc P w base spare held n f0.type [v0] = some y0 := by
  obtain ⟨cs, rfl, hsz⟩ := okWide_struct hs hv
  obtain ⟨c0, rfl⟩ := array1 (hsz.trans hC)
  obtain ⟨fuel, hf⟩ := h
  obtain ⟨xs, n, _, _, _, hxl, hf2⟩ := DataW.trod_struct hs hf
  match xs, hxl with
  | [y0], _ =>
    have g0 := hf2 0 f0 rfl
    obtain ⟨o0, k0⟩ := hone_of hone 0 f0 rfl
    exact ⟨c0, y0, n, rfl, by simpa [Value.cells, o0, k0] using g0⟩
set_option maxRecDepth 100000 in
/-- A sheet: a struct of one field. -/
theorem open_sh {H : Type} {enc : TypeId × Value → H} {W : World} {r : Reach} {b0 : Nat} {v : Value} {d : DataW H} {p : List MemPlace}
    (hv : Value.okWide Tryd.prog W r b0 27 v) (h : DataW.Trod enc Tryd.prog W 0 (fun _ => true) true 27 v d p) :
    ∃ (s : List UInt8) (A : Option Addr) (c : Nat), v = shv A c s ∧ Rf bv W W.heap.size A c s := by
  obtain ⟨v0, y0, n, rfl, t0⟩ := open_agg1 Tryd.underlying27 (by kernel_rfl) (by kernel_rfl) hv h
  obtain ⟨A, l, c, rfl⟩ := bs_value t0
  obtain ⟨s, rfl, hs⟩ := open_bs t0
  exact ⟨s, A, c, rfl, hs⟩
set_option maxRecDepth 100000 in
/-- A policy. -/
theorem open_po {H : Type} {enc : TypeId × Value → H} {W : World} {r : Reach} {b0 : Nat} {v : Value} {d : DataW H} {p : List MemPlace}
    (hv : Value.okWide Tryd.prog W r b0 38 v) (h : DataW.Trod enc Tryd.prog W 0 (fun _ => true) true 38 v d p) : ∃ x : Po, v = pov x := by
  obtain ⟨v0, v1, v2, y0, y1, y2, n, rfl, rfl, rfl, t0, t1, t2⟩ := open_agg3 Tryd.underlying38 (by kernel_rfl) (by kernel_rfl) hv h
  obtain ⟨n0, e0, _, z0⟩ := DataW.trod_int Tryd.underlying5 t0
  obtain ⟨n1, e1, _, z1⟩ := DataW.trod_int Tryd.underlying5 t1
  obtain ⟨n2, e2, _, z2⟩ := DataW.trod_int Tryd.underlying3 t2
  obtain rfl := (List.cons.inj e0).1
  obtain rfl := (List.cons.inj e1).1
  obtain rfl := (List.cons.inj e2).1
  obtain ⟨a, rfl⟩ := Int.eq_ofNat_of_zero_le (bounds_u8 z0).1
  obtain ⟨b, rfl⟩ := Int.eq_ofNat_of_zero_le (bounds_u8 z1).1
  exact ⟨⟨a, b, n2⟩, rfl⟩
instance : Inhabited De := ⟨⟨0, false⟩⟩
set_option maxRecDepth 100000 in
/-- Decisions. -/
theorem open_des {H : Type} {enc : TypeId × Value → H} {W : World} {n : Nat} {a : Option Addr} {len cap : Nat} {x : DataW H × List MemPlace}
    (h : DataW.trod enc Tryd.prog W 0 (fun _ => true) true n 39 [.slice a len cap] = some x) :
    ∃ l : List De, l.length = len ∧ Rde W W.heap.size a cap l := by
  have cV : Tryd.prog.cellsOf 52 = 2 := by kernel_rfl
  have cI : Tryd.prog.cellsOf 3 = 1 := by kernel_rfl
  have cB : Tryd.prog.cellsOf 4 = 1 := by kernel_rfl
  rcases open_slice Tryd.underlying39 h with ⟨hcs, _⟩ | ⟨ad, l, c, m, k, D, Pl, hcs, hb, hl, hm, hmm, hx, hi⟩
  · have h1 := (List.cons.inj hcs).1
    simp only [Value.slice.injEq] at h1
    obtain ⟨rfl, rfl, rfl⟩ := h1
    exact ⟨[], rfl, Rk.empty _ _⟩
  · have h1 := (List.cons.inj hcs).1
    simp only [Value.slice.injEq] at h1
    obtain ⟨rfl, rfl, rfl⟩ := h1
    simp only [if_true] at hmm
    have each : ∀ i, i < m → ∃ v : De, W.cell? (ad.add (i * 2)) = some (.int .i64 v.box) ∧ W.cell? (ad.add (i * 2 + 1)) = some (.bool v.marked) := by
      intro i him
      obtain ⟨cs', h1, h2⟩ := hi i him
      rw [cV] at h1
      obtain ⟨_, hlen, hcell⟩ := World.cells?_some h1
      obtain ⟨xs, n', hk, hxy, _, hxl, hf⟩ := DataW.trod_struct Tryd.underlying52 h2
      match xs, hxl, cs', hlen with
      | [y0, y1], _, [v0, v1], _ =>
        have g0 := hf 0 _ rfl
        have g1 := hf 1 _ rfl
        simp [cI, cB] at g0 g1
        obtain ⟨p, e0, _, z0⟩ := DataW.trod_int Tryd.underlying3 g0
        obtain ⟨q, e1, _⟩ := DataW.trod_bool Tryd.underlying4 g1
        obtain rfl := (List.cons.inj e0).1
        obtain rfl := (List.cons.inj e1).1
        have c0 := hcell 0 (by omega)
        have c1 := hcell 1 (by omega)
        rw [add_add] at c0 c1
        exact ⟨⟨p, q⟩, by simpa using c0, by simpa using c1⟩
    obtain ⟨f, hf⟩ := choose_lt each
    have hlen : ((List.range len).map f).length = len := by simp
    refine ⟨(List.range len).map f, hlen, ⟨by rw [hlen]; exact hl, hm, (fun e => by cases e), fun ad' e j hj => ?_⟩⟩
    obtain rfl := Option.some.inj e
    rw [hlen] at hj
    obtain ⟨c0, c1⟩ := hf j (by omega)
    refine ⟨by have := World.block_lt_of_cell? W _ c0; rwa [add_block] at this, fun i u hu => ?_⟩
    simp only [List.getElem_map, List.getElem_range, dl] at hu
    match i, hu with
    | 0, hu => obtain rfl := Option.some.inj hu; exact c0
    | 1, hu => obtain rfl := Option.some.inj hu; exact c1
end Go.Proofs.YtejphpcngbjgjaaDoor
