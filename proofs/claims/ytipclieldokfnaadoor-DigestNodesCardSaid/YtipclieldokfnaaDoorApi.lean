/- digest's Pad, Compress, Sum, Leaf, Node. -/
import Derived.Test.YtipclieldokfnaaDoorEx
namespace Go.Proofs.YtipclieldokfnaaDoor
open Go.RowKit
set_option linter.unusedVariables false

/-- What the calls answer. -/
def zero32 : List UInt8 := List.replicate 32 0
def zero8 : List UInt32 := List.replicate 8 0
def sumM (l : List UInt8) : List UInt8 × Int := if 8192 < l.length then (zero32, 4) else (dig l, 0)
def padM (l : List UInt8) : List UInt8 × Int := if 8192 < l.length then ([], 4) else (padB l, 0)
def leafM (l : List UInt8) : List UInt8 × Int := if 8191 < l.length then (zero32, 4) else (dig (0 :: l), 0)
def compM (s : List UInt32) (l : List UInt8) : List UInt32 × Int := if l.length = 64 then (comp s l, 0) else (zero8, 2)
def nodeM (a b : List UInt8) : List UInt8 := dig (1 :: (a ++ b))
theorem sumM_len (l : List UInt8) : (sumM l).1.length = 32 := by unfold sumM; split; exact List.length_replicate; exact dig_len l

theorem bodyPost_cell_tmp {P : Program} {α : Type} {f : α → Value} {fn : Func} {p q : Tmp} {ty : TypeId} (h : fn.results = #[.cell p ty, .tmp q]) {a : Act} {w : World} {g n e : Nat} {t : TypeId} {L : List α} {Q : Ending → World → Prop}
    (hp : a.tmps.getD p undef = .pointer (some ⟨g, 0, none⟩)) (hH : Hb f w g t L) (hu : P.underlying ty = some (.array n e)) (hi : (P.info? ty).map (·.size) = some L.length) (hd : a.defers = [])
    (hQ : Q (.returned (.tuple #[.agg (L.map f).toArray, a.tmps.getD q undef])) w) : bodyPost P fn Q .ret a w := by
  refine bodyPost_ret (v := .tuple #[.agg (L.map f).toArray, a.tmps.getD q undef]) ?_ hd hQ
  have hld := run_loadVar_row w g t ty _ _ _ hH.heap hu rfl (by simpa using hi)
  have hp' : a.tmps[p]?.getD undef = .pointer (some ⟨g, 0, none⟩) := by simpa using hp
  simp [results, h, hp', asAddr, hld, Result.andThen]

theorem z32 : ((List.replicate 32 (0 : UInt8)).map bv).toArray = #[.int .u8 0, .int .u8 0, .int .u8 0, .int .u8 0, .int .u8 0, .int .u8 0, .int .u8 0, .int .u8 0, .int .u8 0, .int .u8 0, .int .u8 0, .int .u8 0, .int .u8 0, .int .u8 0, .int .u8 0, .int .u8 0, .int .u8 0, .int .u8 0, .int .u8 0, .int .u8 0, .int .u8 0, .int .u8 0, .int .u8 0, .int .u8 0, .int .u8 0, .int .u8 0, .int .u8 0, .int .u8 0, .int .u8 0, .int .u8 0, .int .u8 0, .int .u8 0] := rfl
theorem wpList_store_cs {P : Program} {α : Type} {f : α → Value} {w : World} (hf : ∀ x, (f x).oneCell' = true) {ops : Array Oper} {rest : List Oper} {o : Oper} {a : Act} {Q : Exit → Act → World → Prop} (hgd : o.guard = none) (ty : TypeId) (x y : Operand) (ho : o.op = .store ty x y)
    (g : Nat) (L : List α) (cs : Array Value) (hcs : (L.map f).toArray = cs) (hx : a.eval x = .pointer (some ⟨g, 0, none⟩)) (hy : a.eval y = .agg cs) {t n : Nat} {L0 : List α} (hH : Hb f w g t L0) (hi : (P.info? ty).map (·.size) = some n)
    (h0 : L0.length = n) (h1 : L.length = n)
    (h : ∀ w', Hb f w' g t L → w.grownBy w' (some g) → wpList P ops Q rest (a.put o.dst undef) w') : wpList P ops Q (o :: rest) a w := by
  subst hcs
  exact wpList_store_hb hf hgd ty x y ho g L hx hy hH hi h0 h1 h

set_option maxHeartbeats 1000000 in
theorem sum_any (A : Option Addr) (c B : Nat) (l : List UInt8) (w : World) (hr : Rf bv w B A c l) (hB : B ≤ w.heap.size) (hl : l.length ≤ 1000000000) (hT : Tab w) :
    Calls Tryd.prog 36 #[.slice A l.length c] w fun e w' => e = .returned (.tuple #[ab (sumM l).1, .int .i64 (sumM l).2]) ∧ Below w.heap.size w w' := by
  by_cases hbig : 8192 < l.length
  · have HM := Lib.hid (show sumM l = (zero32, 4) by unfold sumM; rw [if_pos hbig])
    go_enter Tryd.func36, Tryd.ntmps36
    go_wp2_with ((with_reducible refine wpList_store_cs bv_one rfl _ (.tmp 2) (.tmp 7) rfl _ (List.replicate 32 0) _ z32 rfl rfl (Hb.new bv w _ (List.replicate 32 0) _ z32) size32 (List.length_replicate ..) (List.length_replicate ..) ?_); intro w3 h3 hg3)
    refine bodyPost_cell_tmp (f := bv) (g := w.heap.size) (t := 22) (L := List.replicate 32 0) rfl rfl h3 Tryd.underlying22 size32 rfl ⟨by rw [HM.out]; rfl, (below_new w _).grown hg3 (below_new w _).size (fun k e => by cases e; omega)⟩
  · have HM := Lib.hid (show sumM l = (dig l, 0) by unfold sumM; rw [if_neg hbig])
    have hl2 : l.length ≤ 8192 := by omega
    have HT := Lib.hid hT
    clear hT
    go_enter Tryd.func36, Tryd.ntmps36
    go_wp2_with fail
    refine (digest_any A c B l _ (hr.below ((below_new w _).mono hB)) (by rw [World.size_alloc]; omega) (by omega) (HT.out.below (below_new w _))).mono ?_
    rintro e w1 ⟨rfl, hb1⟩
    unfold ab
    have hz := Hb.below (Hb.new bv w _ (List.replicate 32 0) _ rfl) hb1 (by simp)
    have hb := (below_new w _).trans (hb1.mono (by simp))
    clear hb1
    go_wp2_with ((with_reducible refine wpList_store_hb bv_one rfl _ (.tmp 2) (.tmp 9) rfl _ (dig l) rfl rfl hz size32 (List.length_replicate ..) (dig_len l) ?_); intro w3 h3 hg3)
    refine bodyPost_cell_tmp (f := bv) (g := w.heap.size) (t := 22) (L := dig l) rfl rfl h3 Tryd.underlying22 (by rw [dig_len]; exact size32) rfl ⟨by rw [HM.out]; rfl, ?_⟩
    exact hb.grown hg3 hb.size (fun k e => by cases e; omega)

theorem z8 : ((List.replicate 8 (0 : UInt32)).map uv).toArray = #[.int .u32 0, .int .u32 0, .int .u32 0, .int .u32 0, .int .u32 0, .int .u32 0, .int .u32 0, .int .u32 0] := rfl
set_option maxHeartbeats 1000000 in
theorem leafX_any (A : Option Addr) (c B : Nat) (l : List UInt8) (w : World) (hr : Rf bv w B A c l) (hB : B ≤ w.heap.size) (hl : l.length ≤ 1000000000) (hT : Tab w) :
    Calls Tryd.prog 28 #[.slice A l.length c] w fun e w' => e = .returned (.tuple #[ab (leafM l).1, .int .i64 (leafM l).2]) ∧ Below w.heap.size w w' := by
  by_cases hbig : 8191 < l.length
  · have HM := Lib.hid (show leafM l = (zero32, 4) by unfold leafM; rw [if_pos hbig])
    go_enter Tryd.func28, Tryd.ntmps28
    go_wp2_with ((with_reducible refine wpList_store_cs bv_one rfl _ (.tmp 2) (.tmp 7) rfl _ (List.replicate 32 0) _ z32 rfl rfl (Hb.new bv w _ (List.replicate 32 0) _ z32) size32 (List.length_replicate ..) (List.length_replicate ..) ?_); intro w3 h3 hg3)
    refine bodyPost_cell_tmp (f := bv) (g := w.heap.size) (t := 22) (L := List.replicate 32 0) rfl rfl h3 Tryd.underlying22 size32 rfl ⟨by rw [HM.out]; rfl, (below_new w _).grown hg3 (below_new w _).size (fun k e => by cases e; omega)⟩
  · have HM := Lib.hid (show leafM l = (dig (0 :: l), 0) by unfold leafM; rw [if_neg hbig])
    have hl2 : l.length ≤ 8191 := by omega
    have HT := Lib.hid hT
    clear hT
    go_enter Tryd.func28, Tryd.ntmps28
    go_wp2_with fail
    have hv := (Hb.new2 El.v w (.cells #[.int .u8 0, .int .u8 0, .int .u8 0, .int .u8 0, .int .u8 0, .int .u8 0, .int .u8 0, .int .u8 0, .int .u8 0, .int .u8 0, .int .u8 0, .int .u8 0, .int .u8 0, .int .u8 0, .int .u8 0, .int .u8 0, .int .u8 0, .int .u8 0, .int .u8 0, .int .u8 0, .int .u8 0, .int .u8 0, .int .u8 0, .int .u8 0, .int .u8 0, .int .u8 0, .int .u8 0, .int .u8 0, .int .u8 0, .int .u8 0, .int .u8 0, .int .u8 0] 22) (.cells #[.int .u8 0] 5) 36 [⟨some ⟨w.heap.size + 1, 0, none⟩, 1, [0]⟩, ⟨A, c, l⟩] _ rfl).rf_all (c := 2) (by simp) (by unfold maxLen; omega)
    refine (concat_any _ 2 _ [⟨some ⟨w.heap.size + 1, 0, none⟩, 1, [0]⟩, ⟨A, c, l⟩] _ hv ?hx (Nat.le_refl _) (by simp) (by simp [flat]) (by simp [flat]; omega)).mono ?_
    case hx =>
      intro x hx
      simp only [List.mem_cons, List.not_mem_nil, or_false] at hx
      rcases hx with rfl | rfl
      · exact ((Hb.new1 bv w _ _ [0] _ rfl).alloc _).rf_all (c := 1) (by simp) (by unfold maxLen; omega)
      · exact (hr.below ((below_alloc3 w _ _ _).mono hB)).more (by rw [size_alloc3]; omega)
    clear hv
    rintro e w1 ⟨A1, c1, rfl, ho1, hb1⟩
    have hf : flat [⟨some ⟨w.heap.size + 1, 0, none⟩, 1, [0]⟩, ⟨A, c, l⟩] = 0 :: l := by simp [flat]
    rw [hf] at ho1 ⊢
    have hz1 := Hb.below (((Hb.new bv w _ (List.replicate 32 0) _ z32).alloc _).alloc _) hb1 (by rw [size_alloc3]; omega)
    have hbw1 := (below_alloc3 w _ _ _).trans (hb1.mono (by rw [size_alloc3]; omega))
    clear hb1 hf
    go_wp2_with fail
    refine (digest_any A1 c1 _ (0 :: l) _ ho1.rd (Nat.le_refl _) (by simp; omega) (HT.out.below hbw1)).mono ?_
    rintro e w2 ⟨rfl, hb2⟩
    unfold ab
    have hz2 := hz1.below hb2 hz1.lt
    have hbw2 := hbw1.trans (hb2.mono hbw1.size)
    clear hz1 hbw1 hb2 ho1
    go_wp2_with ((with_reducible refine wpList_store_hb bv_one rfl _ (.tmp 2) (.tmp 12) rfl _ (dig (0 :: l)) rfl rfl hz2 size32 (List.length_replicate ..) (dig_len _) ?_); intro w3 h3 hg3)
    refine bodyPost_cell_tmp (f := bv) (g := w.heap.size) (t := 22) (L := dig (0 :: l)) rfl rfl h3 Tryd.underlying22 (by rw [dig_len]; exact size32) rfl ⟨by rw [HM.out]; rfl, ?_⟩
    exact hbw2.grown hg3 hbw2.size (fun k e => by cases e; omega)

theorem slice_all {P : Program} {ty e : TypeId} {n : Nat} (hu : P.underlying ty = some (.array n e)) (he : (P.info? e).map (·.size) = some 1) (h0 : 0 < n) (b : Nat) (w : World) :
    (Instr.sliceAt ty (.pointer (some ⟨b, 0, none⟩)) none none none).run P w = .ok (.slice (some ⟨b, 0, none⟩) n n) w := by
  have hz : ∀ w, (sizeOf e).run P w = .ok 1 w := fun w => by
    cases hq : P.info? e with
    | none => simp [hq] at he
    | some i => simp [hq] at he; simp [sizeOf, typeInfo, hq, he]
  have e1 : (⟨b, 0, none⟩ : Addr).add 0 = ⟨b, 0, none⟩ := by rw [add_plain]
  simp [Instr.sliceAt, Instr.sureAddr, run_underlying hu, Instr.sliceBounds, hz, e1, Sem.run_bind, Result.andThen]

/-- A store of a whole array as one step of a region that draws. -/
theorem step_store_hb {P : Program} {α : Type} {f : α → Value} (hf : ∀ x, (f x).oneCell' = true) {ops : Array Oper} {o : Oper} {a : Act} {w : World} {K : Act → World → Prop} {Q : Exit → Act → World → Prop} {E : Prop}
    (hgd : o.guard = none) (ty : TypeId) (x y : Operand) (ho : o.op = .store ty x y) (g : Nat) (L : List α) (hx : a.eval x = .pointer (some ⟨g, 0, none⟩)) (hy : a.eval y = .agg (L.map f).toArray) {t n : Nat} {L0 : List α} (hH : Hb f w g t L0) (hi : (P.info? ty).map (·.size) = some n)
    (h0 : L0.length = n) (h1 : L.length = n) (h : ∀ w', Hb f w' g t L → w.grownBy w' (some g) → K (a.put o.dst undef) w') :
    if Region.wanted o (yielded ops a.tmps) = true then Oper.wp P o a w K Q else E := by
  have hw : Region.wanted o (yielded ops a.tmps) = true := by simp [Region.wanted, hgd]
  rw [if_pos hw]
  refine wp_store_row ty x y ho g _ hx hy t _ hH.heap (by rw [hi, ← h1]; simp) (by simp; omega) ?_ (h _ (hb_setRow hH) (grown_setRow w g _))
  rw [Array.all_eq_true_iff_forall_mem]
  intro v hv
  obtain ⟨z, _, rfl⟩ := List.mem_map.1 (by simpa using hv)
  exact hf z
theorem Hb.old {α : Type} {f : α → Value} {w : World} {g t : Nat} {L : List α} (h : Hb f w g t L) (o1 o2 : Obj) : Hb f ((w.alloc o1).alloc o2).drew g t L := ((h.alloc o1).alloc o2).drew
theorem node_concat (x y : List UInt8) (cx cy : Array Value) (w : World) (hx : x.length = 32) (hy : y.length = 32) (hcx : (x.map bv).toArray = cx) (hcy : (y.map bv).toArray = cy) :
    Calls Tryd.prog 43 #[.slice (some ⟨w.heap.size + 1 + 1 + 1 + 1, 0, none⟩) 3 3]
      (((((w.alloc (.cells cx 22)).alloc (.cells cy 22)).alloc (.cells #[.int .u8 0, .int .u8 0, .int .u8 0, .int .u8 0, .int .u8 0, .int .u8 0, .int .u8 0, .int .u8 0, .int .u8 0, .int .u8 0, .int .u8 0, .int .u8 0, .int .u8 0, .int .u8 0, .int .u8 0, .int .u8 0, .int .u8 0, .int .u8 0, .int .u8 0, .int .u8 0, .int .u8 0, .int .u8 0, .int .u8 0, .int .u8 0, .int .u8 0, .int .u8 0, .int .u8 0, .int .u8 0, .int .u8 0, .int .u8 0, .int .u8 0, .int .u8 0] 22)).alloc (.cells #[.int .u8 1] 5)).alloc
        (.cells #[.slice (some ⟨w.heap.size + 1 + 1 + 1, 0, none⟩) 1 1, .slice (some ⟨w.heap.size, 0, none⟩) 32 32, .slice (some ⟨w.heap.size + 1, 0, none⟩) 32 32] 36)).drew
      fun e w' => ∃ A1 c1, e = .returned (.slice A1 (1 :: (x ++ y)).length c1) ∧ Rf bv w' w'.heap.size A1 c1 (1 :: (x ++ y)) ∧ Hb bv w' (w.heap.size + 1 + 1) 22 (List.replicate 32 0) ∧ Below w.heap.size w w' := by
  subst hcx hcy
  obtain ⟨xs, hxs⟩ : ∃ xs : List El, xs = [⟨some ⟨w.heap.size + 1 + 1 + 1, 0, none⟩, 1, [1]⟩, ⟨some ⟨w.heap.size, 0, none⟩, 32, x⟩, ⟨some ⟨w.heap.size + 1, 0, none⟩, 32, y⟩] := ⟨_, rfl⟩
  have hlen : xs.length = 3 := by rw [hxs]; rfl
  have hfl : flat xs = 1 :: (x ++ y) := by rw [hxs]; simp [flat]
  have hcells : (xs.map El.v).toArray = #[.slice (some ⟨w.heap.size + 1 + 1 + 1, 0, none⟩) 1 1, .slice (some ⟨w.heap.size, 0, none⟩) 32 32, .slice (some ⟨w.heap.size + 1, 0, none⟩) 32 32] := by
    rw [hxs]; simp [El.v, hx, hy]
  rw [← hcells]
  obtain ⟨W3, hW3⟩ : ∃ W3, W3 = ((w.alloc (.cells (x.map bv).toArray 22)).alloc (.cells (y.map bv).toArray 22)).alloc (.cells #[.int .u8 0, .int .u8 0, .int .u8 0, .int .u8 0, .int .u8 0, .int .u8 0, .int .u8 0, .int .u8 0, .int .u8 0, .int .u8 0, .int .u8 0, .int .u8 0, .int .u8 0, .int .u8 0, .int .u8 0, .int .u8 0, .int .u8 0, .int .u8 0, .int .u8 0, .int .u8 0, .int .u8 0, .int .u8 0, .int .u8 0, .int .u8 0, .int .u8 0, .int .u8 0, .int .u8 0, .int .u8 0, .int .u8 0, .int .u8 0, .int .u8 0, .int .u8 0] 22) := ⟨_, rfl⟩
  have h3 : W3.heap.size = w.heap.size + 1 + 1 + 1 := by rw [hW3]; simp
  have hbx : Hb bv W3 w.heap.size 22 x := by rw [hW3]; exact ((Hb.new bv w _ x _ rfl).alloc _).alloc _
  have hby : Hb bv W3 (w.heap.size + 1) 22 y := by rw [hW3]; exact (Hb.new1 bv w _ _ y _ rfl).alloc _
  have hbz : Hb bv W3 (w.heap.size + 1 + 1) 22 (List.replicate 32 0) := by rw [hW3]; exact Hb.new2 bv w _ _ _ _ _ z32
  have hbw : Below w.heap.size w W3 := by rw [hW3]; exact below_alloc3 w _ _ _
  rw [← hW3]
  clear hW3 hcells
  have hb1 := Hb.new bv W3 5 [1] #[.int .u8 1] rfl
  have hbv := Hb.new1 El.v W3 (.cells #[.int .u8 1] 5) 36 xs _ rfl
  rw [h3] at hb1 hbv
  have hr := hbv.drew.rf_all (c := 3) (by omega) (by unfold maxLen; omega)
  have hbw5 : Below w.heap.size w ((W3.alloc (.cells #[.int .u8 1] 5)).alloc (.cells (xs.map El.v).toArray 36)).drew := ((hbw.alloc (by omega) _).alloc (by simp; omega) _).drew
  have hcc := concat_any _ 3 _ xs _ hr (by
    intro z hz
    rw [hxs] at hz
    simp only [List.mem_cons, List.not_mem_nil, or_false] at hz
    rcases hz with rfl | rfl | rfl
    · exact ((hb1.alloc _).drew).rf_all (c := 1) (by simp) (by unfold maxLen; omega)
    · exact (hbx.old _ _).rf_all (c := 32) (by show x.length ≤ 32; omega) (by unfold maxLen; omega)
    · exact (hby.old _ _).rf_all (c := 32) (by show y.length ≤ 32; omega) (by unfold maxLen; omega)) (Nat.le_refl _) (by omega) (by rw [hfl]; simp) (by rw [hfl]; simp; omega)
  rw [hlen, hfl] at hcc
  refine hcc.mono ?_
  rintro e w' ⟨A1, c1, rfl, ho, hb⟩
  refine ⟨A1, c1, rfl, ho.rd, (hbz.old _ _).below hb (hbz.old _ _).lt, hbw5.trans (hb.mono hbw5.size)⟩

end Go.Proofs.YtipclieldokfnaaDoor
