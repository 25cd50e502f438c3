/- The reference's Read. Written by tools/refrd7.py. -/
import Derived.Test.YtdjifopdlkppoaaDoorCdR
import Derived.Test.YtdjifopdlkppoaaDoorOcRefSplit
import Derived.Test.YtdjifopdlkppoaaDoorRefMay
import Derived.Deep.RegionLaw
namespace Go.Proofs.YtdjifopdlkppoaaDoor
open Go.RowKit
set_option linter.unusedVariables false

theorem readM_short {b : List UInt8} (h : (Oc.splitM b).2 = 0) (h3 : (Oc.splitM b).1.length < 3) : readM b = (zeroCt, 11) := by
  cases hp : partsOf (Oc.splitM b).1 with
  | none => exact readM_none h hp
  | some x =>
    refine readM_bad h hp ?_
    have hl := congrArg List.length (parts_partsOf hp)
    simp only [partsM, List.length_cons] at hl
    rw [Bool.eq_false_iff]
    intro e
    have := ((mayB_iff x).1 e).2.1
    omega

/-- append as a step of a region. -/
theorem step_append7 {P : Program} {w : World} {α : Type} {f : α → Value} (hf : ∀ x, (f x).oneCell' = true) {ops : Array Oper} {o : Oper} {a : Act} {K : Act → World → Prop} {Q : Exit → Act → World → Prop} {E : Prop} (hgd : o.guard = none) (s x : Operand) (t : TypeId)
    (ho : o.op = .call { callee := .builtin .append, args := #[s, x], argTypes := #[t, t] })
    (base e bt : Nat) (i : TypeInfo) (z : Value) (ht : P.underlying t = some (.slice e)) (hi : P.info? e = some i) (hz : i.zero = some z) (hsize : i.size = 1) (hby : i.bytes = bt) (hbt : bt ≤ 24) (hzs : z.cells.size = 1)
    {A A2 : Option Addr} {c c2 B : Nat} (l m : List α) (hs : a.eval s = .slice A l.length c) (hx : a.eval x = .slice A2 m.length c2) (hown : Ow f w base e A c l) (hr : Rf f w B A2 c2 m)
    (hle : l.length + m.length ≤ 4000000000) (hbase : base ≤ w.heap.size)
    (h : ∀ A' c' w' r, Hid (r = l ++ m) → Ow f w' base e A' c' r → w.grownBy w' (blk A) → (blk A' = blk A ∨ blk A' = some w.heap.size) → K (a.put o.dst (.slice A' r.length c')) w') :
    if Region.wanted o (yielded ops a.tmps) = true then Oper.wp P o a w K Q else E := by
  have hw : Region.wanted o (yielded ops a.tmps) = true := by simp [Region.wanted, hgd]
  rw [if_pos hw]
  obtain ⟨A', c', w', hrun, h2, h3, h4⟩ := run_append_f (P := P) w hf base e bt t o.type i z ht hi hz hsize hby hbt hzs hown hr hle hbase
  unfold Oper.wp execOp
  simp only [ho, resolve, invoke, builtin, Sem.run_bind, Sem.run_pure, Result.andThen_ok, List.map_toArray, List.map_cons, List.map_nil, hs, hx, hrun]
  exact h A' c' w' _ rfl h2 h3 h4

set_option maxRecDepth 100000 in
set_option maxHeartbeats 2000000 in
theorem refRead_any (l : List UInt8) (A : Option Addr) (c : Nat) (w : World) (hr : Rf bv w w.heap.size A c l) (hl : l.length ≤ 100000) :
    Calls Tryd.prog 42 #[.slice A l.length c] w (CtErr7 w (readM l)) := by
  have HB0 := Lib.hid (show Blk (w.alloc (.cells #[.string ⟨#[]⟩, .slice none 0 0, .int .i64 0, .int .u8 0] 26)) w.heap.size 26 #[.string ⟨#[]⟩, .slice none 0 0, .int .i64 0, .int .u8 0] from Blk.new w _ _)
  have B0 := Lib.hid (below_new w (.cells #[.string ⟨#[]⟩, .slice none 0 0, .int .i64 0, .int .u8 0] 26))
  have HSP := Lib.hid (Oc.refSplit_any A c l (w.alloc (.cells #[.string ⟨#[]⟩, .slice none 0 0, .int .i64 0, .int .u8 0] 26)) (((hr.below B0.out).more (by simp)).toRd) (by omega))
  go_enter Tryd.func42, Tryd.ntmps42
  go_wp2_with fail
  refine HSP.out.mono ?_
  rintro e w1 ⟨A1, cc1, xs, rfl, hby, how, hb⟩
  have B1 := Lib.hid (B0.out.trans (hb.mono B0.out.size))
  have HB1 := Lib.hid (HB0.out.below hb HB0.out.lt)
  have hr1l := how.rd
  clear hb how HSP HB0
  rcases splitM_cases l with h0 | h0
  case inr =>
    have HQ := Lib.hid (readM_e (b := l) (by rcases h0 with h | h <;> rw [h] <;> decide))
    obtain ⟨er, her⟩ : ∃ er, er = (Oc.splitM l).2 := ⟨_, rfl⟩
    rw [← her] at h0 HQ ⊢
    have hne : (er != 0) = true := by rw [bne_iff_ne]; rcases h0 with h | h <;> rw [h] <;> decide
    have hne2 : ¬ er = 0 := by rcases h0 with h | h <;> rw [h] <;> decide
    clear h0 her hby hr1l
    go_wp2_with ((with_reducible refine wpList_store_ct rfl (.tmp 2) (.tmp 15) rfl w.heap.size rfl HB1.out rfl (A := none) (c := 0) (x := zeroCt) rfl ?_); intro w2 hb2 hg2)
    exact ct_ret2 (g := w.heap.size) rfl rfl hb2 rfl ⟨none, 0, zeroCt, er, rfl, HQ.out.symm, Rf.empty _ _, B1.out.grown hg2 B1.out.size (fun k e => by cases e; exact Nat.le_refl _)⟩
  obtain ⟨hfit, hfl, hbl⟩ := Oc.splitM_ok h0
  have hcnt := Oc.flat_count (Oc.splitM l).1
  rw [← hfl] at hcnt
  have hxl : xs.length ≤ 1000000 := by rw [← Oc.byts_len, hby]; omega
  have hel : ∀ y ∈ xs, y.l.length ≤ 1000000 := fun y hy => by
    have hm : y.l ∈ Oc.byts xs := List.mem_map.2 ⟨y, hy, rfl⟩
    rw [hby] at hm
    exact Nat.le_trans (hfit _ hm) (by decide)
  have HFIT := Lib.hid (show ∀ y ∈ Oc.byts xs, y.length ≤ 65535 by rw [hby]; exact hfit)
  have HBY := Lib.hid hby
  have H0 := Lib.hid h0
  clear hby h0 hfit hfl hbl hcnt
  rw [H0.out]
  by_cases h2 : xs.length < 3
  · have h2d : decide ((xs.length : Int) < 3) = true := by simp; omega
    have HQ := Lib.hid (readM_short (b := l) H0.out (by rw [← HBY.out, Oc.byts_len]; exact h2))
    clear h2 hr1l hel
    go_wp2_with ((with_reducible refine wpList_store_ct rfl (.tmp 2) (.tmp 27) rfl w.heap.size rfl HB1.out rfl (A := none) (c := 0) (x := zeroCt) rfl ?_); intro w2 hb2 hg2)
    exact ct_ret2 (g := w.heap.size) rfl rfl hb2 rfl ⟨none, 0, zeroCt, 11, rfl, HQ.out.symm, Rf.empty _ _, B1.out.grown hg2 B1.out.size (fun k e => by cases e; exact Nat.le_refl _)⟩
  have h2d : decide ((xs.length : Int) < 3) = false := by simp; omega
  obtain ⟨x0, x1, zs, rfl⟩ : ∃ x0 x1 zs, xs = x0 :: x1 :: zs := by
    match xs, h2 with
    | [], h => simp at h
    | [_], h => simp at h
    | a :: b :: l, _ => exact ⟨a, b, l, rfl⟩
  obtain ⟨b, o, rfl, hbb, hcc⟩ := hr1l.at_ (k := 0) (by simp)
  have hc0 := hcc 0 (by simp)
  have hc1 := hcc 1 (by simp)
  have hr0 := hr1l.el x0 (by simp)
  have hr1 := hr1l.el x1 (by simp)
  simp only [List.getElem_cons_zero, List.getElem_cons_succ, Nat.add_zero] at hc0 hc1
  obtain ⟨A0, c0, l0⟩ := x0
  obtain ⟨A1, c1, l1⟩ := x1
  unfold Oc.El.v at hc0 hc1
  simp only at hc0 hc1 hr0 hr1
  obtain ⟨n, hn⟩ : ∃ n, n = (⟨A0, c0, l0⟩ :: ⟨A1, c1, l1⟩ :: zs : List Oc.El).length := ⟨_, rfl⟩
  have HN := Lib.hid (show n = zs.length + 2 by rw [hn]; simp)
  rw [← hn] at h2d hxl ⊢
  have hn5 : 2 < n := by rw [hn]; omega
  have hn2 : 1 < n := by omega
  have hn1 : 0 < n := by omega
  have hn3 : (1 : Int) < (n : Int) := by omega
  have hcz := hcc
  clear hn h2 hcc
  by_cases h3 : l1.length = 2
  case neg =>
    have h3d : ((l1.length : Int) != 2) = true := by rw [bne_iff_ne]; omega
    have h3p : ¬ (l1.length : Int) = 2 := by omega
    have HQ := Lib.hid (readM_none (b := l) H0.out (by rw [← HBY.out]; exact partsOf_bad (L := Oc.byts (⟨A0, c0, l0⟩ :: ⟨A1, c1, l1⟩ :: zs)) (by rw [Oc.byts_len]; simp) (by simpa [Oc.byts] using h3)))
    clear h3
    go_wp2_with ((with_reducible refine wpList_store_ct rfl (.tmp 2) (.tmp 27) rfl w.heap.size rfl HB1.out rfl (A := none) (c := 0) (x := zeroCt) rfl ?_); intro w2 hb2 hg2)
    exact ct_ret2 (g := w.heap.size) rfl rfl hb2 rfl ⟨none, 0, zeroCt, 11, rfl, HQ.out.symm, Rf.empty _ _, B1.out.grown hg2 B1.out.size (fun k e => by cases e; exact Nat.le_refl _)⟩
  obtain ⟨s, r, rfl⟩ : ∃ s r, l1 = [s, r] := by
    match l1, h3 with
    | [s, r], _ => exact ⟨s, r, rfl⟩
  clear h3
  obtain ⟨b1, o1, rfl, hb1b, hd⟩ := hr1.at_ (k := 0) (by simp)
  have hd0 := hd 0 (by simp)
  have hd1 := hd 1 (by simp)
  simp only [List.getElem_cons_zero, List.getElem_cons_succ, Nat.add_zero] at hd0 hd1
  have HSTR := Lib.hid (fun wx (hb : Below w1.heap.size w1 wx) => run_string_f (P := Tryd.prog) wx 37 9 5 Tryd.underlying37 Tryd.underlying5 Tryd.underlying9 ((Rd.toRf hr0).below hb))
  go_wp2_with fail
  obtain ⟨Inv, hInv⟩ : ∃ Inv : World → Prop, Inv = fun w' => Below w1.heap.size w1 w' := ⟨_, rfl⟩
  have HS0 := Lib.hid (show Inv w1.drew by rw [hInv]; exact (Below.refl _ w1).drew)
  have HRG := Lib.hid (show ∀ w', Inv w' → (w'.cell? ⟨b, o, none⟩ = some (.slice A0 l0.length c0) ∧ w'.cell? ⟨b, o + 1, none⟩ = some (.slice (some ⟨b1, o1, none⟩) 2 c1) ∧ w'.cell? ⟨b1, o1, none⟩ = some (.int .u8 (s.toNat : Int)) ∧ w'.cell? ⟨b1, o1 + 1, none⟩ = some (.int .u8 (r.toNat : Int))) ∧ Inv w' from fun w' h => by
    have h2 := h
    rw [hInv] at h2
    exact ⟨⟨(h2.cell hbb).trans hc0, (h2.cell hbb).trans hc1, (h2.cell hb1b).trans hd0, (h2.cell hb1b).trans hd1⟩, h⟩)
  have HSW := Lib.hid (show ∀ w', Inv w' → Below w1.heap.size w1 w' from fun w' h => by rw [hInv] at h; exact h)
  have HSG := Lib.hid (show ∀ wa wb, Inv wa → wa.grownBy wb (some w1.heap.size) → Inv wb from fun wa wb h hg => by
    rw [hInv] at h ⊢
    exact h.grown hg h.size (fun k e => by cases e; exact Nat.le_refl _))
  have hws : IntKind.i64.wrap (s.toNat : Int) = (s.toNat : Int) := by have := UInt8.toNat_lt s; rw [IntKind.wrap_i64]; omega
  have HS1 := Lib.hid (show Inv (w1.alloc (.cells #[.string ⟨#[]⟩, .slice none 0 0, .int .i64 0, .int .u8 0] 26)).drew by rw [hInv]; exact (below_new w1 _).drew)
  clear hInv
  refine wp_region_held_drew (S := (fun w' => (w'.cell? ⟨b, o, none⟩ = some (.slice A0 l0.length c0) ∧ w'.cell? ⟨b, o + 1, none⟩ = some (.slice (some ⟨b1, o1, none⟩) 2 c1) ∧ w'.cell? ⟨b1, o1, none⟩ = some (.int .u8 (s.toNat : Int)) ∧ w'.cell? ⟨b1, o1 + 1, none⟩ = some (.int .u8 (r.toNat : Int))) ∧ Inv w')) (by kernel_rfl) (HRG.out _ HS0.out) ?_
  intro hHeld
  try simp only [Act.put, List.setIfInBounds_toArray, List.set_cons_zero, List.set_cons_succ]
  refine wpAnyH_take (i := 0) (oi := { dst := some 28, op := Op.move (Operand.tmp 4), type := 70, pos := "ref.go:172", after := #[], guard := none }) (v := ?v0) rfl (by kernel_rfl) (by kernel_rfl) (by kernel_rfl) (fun _ _ _ h => h) (Or.inl ⟨by rfl, ?y0⟩) hHeld ?r0
  case y0 => intro wq hSw; obtain ⟨⟨q0, q1, q2, q3⟩, qi⟩ := hSw; go_simp; try (with_reducible rfl)
  try simp only [Act.put, List.setIfInBounds_toArray, List.set_cons_zero, List.set_cons_succ]
  refine wpAnyH_take (i := 1) (oi := { dst := some 29, op := Op.indexAddr 70 (Operand.tmp 28) (Operand.const (Value.int IntKind.i64 0)), type := 0, pos := "ref.go:172", after := #[{ on := 0, ground := Ground.data }], guard := none }) (v := ?v1) rfl (by kernel_rfl) (by kernel_rfl) (by kernel_rfl) (fun _ _ _ h => h) (Or.inl ⟨by rfl, ?y1⟩) hHeld ?r1
  case y1 => intro wq hSw; obtain ⟨⟨q0, q1, q2, q3⟩, qi⟩ := hSw; go_simp; try (with_reducible rfl)
  try simp only [Act.put, List.setIfInBounds_toArray, List.set_cons_zero, List.set_cons_succ]
  refine wpAnyH_take (i := 2) (oi := { dst := some 30, op := Op.load 37 (Operand.tmp 29), type := 37, pos := "ref.go:172", after := #[{ on := 1, ground := Ground.data }], guard := none }) (v := ?v2) rfl (by kernel_rfl) (by kernel_rfl) (by kernel_rfl) (fun _ _ _ h => h) (Or.inl ⟨by rfl, ?y2⟩) hHeld ?r2
  case y2 => intro wq hSw; obtain ⟨⟨q0, q1, q2, q3⟩, qi⟩ := hSw; go_simp; try (with_reducible rfl)
  try simp only [Act.put, List.setIfInBounds_toArray, List.set_cons_zero, List.set_cons_succ]
  refine wpAnyH_take (i := 3) (oi := { dst := some 31, op := Op.convert 37 9 (Operand.tmp 30), type := 9, pos := "ref.go:172", after := #[{ on := 2, ground := Ground.data }], guard := none }) (v := ?v3) rfl (by kernel_rfl) (by kernel_rfl) (by kernel_rfl) (fun _ _ _ h => h) (Or.inl ⟨by rfl, ?y3⟩) hHeld ?r3
  case y3 => intro wq hSw; obtain ⟨⟨q0, q1, q2, q3⟩, qi⟩ := hSw; have hk := HSTR.out wq (HSW.out _ qi); go_simp; try (with_reducible rfl)
  try simp only [Act.put, List.setIfInBounds_toArray, List.set_cons_zero, List.set_cons_succ]
  refine wpAnyH_take (i := 4) (oi := { dst := some 32, op := Op.move (Operand.tmp 4), type := 70, pos := "ref.go:172", after := #[], guard := none }) (v := ?v4) rfl (by kernel_rfl) (by kernel_rfl) (by kernel_rfl) (fun _ _ _ h => h) (Or.inl ⟨by rfl, ?y4⟩) hHeld ?r4
  case y4 => intro wq hSw; obtain ⟨⟨q0, q1, q2, q3⟩, qi⟩ := hSw; go_simp; try (with_reducible rfl)
  try simp only [Act.put, List.setIfInBounds_toArray, List.set_cons_zero, List.set_cons_succ]
  refine wpAnyH_take (i := 5) (oi := { dst := some 33, op := Op.indexAddr 70 (Operand.tmp 32) (Operand.const (Value.int IntKind.i64 1)), type := 0, pos := "ref.go:172", after := #[{ on := 4, ground := Ground.data }], guard := none }) (v := ?v5) rfl (by kernel_rfl) (by kernel_rfl) (by kernel_rfl) (fun _ _ _ h => h) (Or.inl ⟨by rfl, ?y5⟩) hHeld ?r5
  case y5 => intro wq hSw; obtain ⟨⟨q0, q1, q2, q3⟩, qi⟩ := hSw; go_simp; try (with_reducible rfl)
  try simp only [Act.put, List.setIfInBounds_toArray, List.set_cons_zero, List.set_cons_succ]
  refine wpAnyH_take (i := 6) (oi := { dst := some 34, op := Op.load 37 (Operand.tmp 33), type := 37, pos := "ref.go:172", after := #[{ on := 5, ground := Ground.data }], guard := none }) (v := ?v6) rfl (by kernel_rfl) (by kernel_rfl) (by kernel_rfl) (fun _ _ _ h => h) (Or.inl ⟨by rfl, ?y6⟩) hHeld ?r6
  case y6 => intro wq hSw; obtain ⟨⟨q0, q1, q2, q3⟩, qi⟩ := hSw; go_simp; try (with_reducible rfl)
  try simp only [Act.put, List.setIfInBounds_toArray, List.set_cons_zero, List.set_cons_succ]
  refine wpAnyH_take (i := 7) (oi := { dst := some 35, op := Op.indexAddr 37 (Operand.tmp 34) (Operand.const (Value.int IntKind.i64 0)), type := 0, pos := "ref.go:172", after := #[{ on := 6, ground := Ground.data }], guard := none }) (v := ?v7) rfl (by kernel_rfl) (by kernel_rfl) (by kernel_rfl) (fun _ _ _ h => h) (Or.inl ⟨by rfl, ?y7⟩) hHeld ?r7
  case y7 => intro wq hSw; obtain ⟨⟨q0, q1, q2, q3⟩, qi⟩ := hSw; go_simp; try (with_reducible rfl)
  try simp only [Act.put, List.setIfInBounds_toArray, List.set_cons_zero, List.set_cons_succ]
  refine wpAnyH_take (i := 8) (oi := { dst := some 36, op := Op.load 5 (Operand.tmp 35), type := 5, pos := "ref.go:172", after := #[{ on := 7, ground := Ground.data }], guard := none }) (v := ?v8) rfl (by kernel_rfl) (by kernel_rfl) (by kernel_rfl) (fun _ _ _ h => h) (Or.inl ⟨by rfl, ?y8⟩) hHeld ?r8
  case y8 => intro wq hSw; obtain ⟨⟨q0, q1, q2, q3⟩, qi⟩ := hSw; go_simp; try (with_reducible rfl)
  try simp only [Act.put, List.setIfInBounds_toArray, List.set_cons_zero, List.set_cons_succ]
  refine wpAnyH_take (i := 9) (oi := { dst := some 37, op := Op.convert 5 3 (Operand.tmp 36), type := 3, pos := "ref.go:172", after := #[{ on := 8, ground := Ground.data }], guard := none }) (v := ?v9) rfl (by kernel_rfl) (by kernel_rfl) (by kernel_rfl) (fun _ _ _ h => h) (Or.inl ⟨by rfl, ?y9⟩) hHeld ?r9
  case y9 => intro wq hSw; obtain ⟨⟨q0, q1, q2, q3⟩, qi⟩ := hSw; go_simp; try (with_reducible rfl)
  try simp only [Act.put, List.setIfInBounds_toArray, List.set_cons_zero, List.set_cons_succ]
  refine wpAnyH_take (i := 10) (oi := { dst := some 38, op := Op.move (Operand.tmp 4), type := 70, pos := "ref.go:172", after := #[], guard := none }) (v := ?v10) rfl (by kernel_rfl) (by kernel_rfl) (by kernel_rfl) (fun _ _ _ h => h) (Or.inl ⟨by rfl, ?y10⟩) hHeld ?r10
  case y10 => intro wq hSw; obtain ⟨⟨q0, q1, q2, q3⟩, qi⟩ := hSw; go_simp; try (with_reducible rfl)
  try simp only [Act.put, List.setIfInBounds_toArray, List.set_cons_zero, List.set_cons_succ]
  refine wpAnyH_take (i := 11) (oi := { dst := some 39, op := Op.indexAddr 70 (Operand.tmp 38) (Operand.const (Value.int IntKind.i64 1)), type := 0, pos := "ref.go:172", after := #[{ on := 10, ground := Ground.data }], guard := none }) (v := ?v11) rfl (by kernel_rfl) (by kernel_rfl) (by kernel_rfl) (fun _ _ _ h => h) (Or.inl ⟨by rfl, ?y11⟩) hHeld ?r11
  case y11 => intro wq hSw; obtain ⟨⟨q0, q1, q2, q3⟩, qi⟩ := hSw; go_simp; try (with_reducible rfl)
  try simp only [Act.put, List.setIfInBounds_toArray, List.set_cons_zero, List.set_cons_succ]
  refine wpAnyH_take (i := 12) (oi := { dst := some 40, op := Op.load 37 (Operand.tmp 39), type := 37, pos := "ref.go:172", after := #[{ on := 11, ground := Ground.data }], guard := none }) (v := ?v12) rfl (by kernel_rfl) (by kernel_rfl) (by kernel_rfl) (fun _ _ _ h => h) (Or.inl ⟨by rfl, ?y12⟩) hHeld ?r12
  case y12 => intro wq hSw; obtain ⟨⟨q0, q1, q2, q3⟩, qi⟩ := hSw; go_simp; try (with_reducible rfl)
  try simp only [Act.put, List.setIfInBounds_toArray, List.set_cons_zero, List.set_cons_succ]
  refine wpAnyH_take (i := 13) (oi := { dst := some 41, op := Op.indexAddr 37 (Operand.tmp 40) (Operand.const (Value.int IntKind.i64 1)), type := 0, pos := "ref.go:172", after := #[{ on := 12, ground := Ground.data }], guard := none }) (v := ?v13) rfl (by kernel_rfl) (by kernel_rfl) (by kernel_rfl) (fun _ _ _ h => h) (Or.inl ⟨by rfl, ?y13⟩) hHeld ?r13
  case y13 => intro wq hSw; obtain ⟨⟨q0, q1, q2, q3⟩, qi⟩ := hSw; go_simp; try (with_reducible rfl)
  try simp only [Act.put, List.setIfInBounds_toArray, List.set_cons_zero, List.set_cons_succ]
  refine wpAnyH_take (i := 14) (oi := { dst := some 42, op := Op.load 5 (Operand.tmp 41), type := 5, pos := "ref.go:172", after := #[{ on := 13, ground := Ground.data }], guard := none }) (v := ?v14) rfl (by kernel_rfl) (by kernel_rfl) (by kernel_rfl) (fun _ _ _ h => h) (Or.inl ⟨by rfl, ?y14⟩) hHeld ?r14
  case y14 => intro wq hSw; obtain ⟨⟨q0, q1, q2, q3⟩, qi⟩ := hSw; go_simp; try (with_reducible rfl)
  try simp only [Act.put, List.setIfInBounds_toArray, List.set_cons_zero, List.set_cons_succ]
  refine wpAnyH_take (i := 15) (oi := { dst := some 43, op := Op.build 26 #[(0, Operand.tmp 31), (2, Operand.tmp 37), (3, Operand.tmp 42)], type := 26, pos := "ref.go:172", after := #[{ on := 3, ground := Ground.data }, { on := 9, ground := Ground.data }, { on := 14, ground := Ground.data }], guard := none }) (v := ?v15) rfl (by kernel_rfl) (by kernel_rfl) (by kernel_rfl) (fun _ _ _ h => h) (Or.inl ⟨by rfl, ?y15⟩) hHeld ?r15
  case y15 => intro wq hSw; obtain ⟨⟨q0, q1, q2, q3⟩, qi⟩ := hSw; go_simp; try (with_reducible rfl)
  try simp only [Act.put, List.setIfInBounds_toArray, List.set_cons_zero, List.set_cons_succ]
  refine wpAnyH_ready (rs := [16]) (by kernel_rfl) (by simp) ?_
  refine AllReadyH.cons (o := { dst := some 6, op := Op.alloc 26, type := 0, pos := "ref.go:172", after := #[], guard := none }) rfl (fun K hK => ?_) AllReadyH.nil
  go_simp
  have HBN := Lib.hid (show Blk (w1.alloc (.cells #[.string ⟨#[]⟩, .slice none 0 0, .int .i64 0, .int .u8 0] 26)).drew w1.heap.size 26 #[.string ⟨#[]⟩, .slice none 0 0, .int .i64 0, .int .u8 0] from Blk.new w1 26 #[.string ⟨#[]⟩, .slice none 0 0, .int .i64 0, .int .u8 0])
  have HSZ1 := Lib.hid (show (w1.alloc (.cells #[.string ⟨#[]⟩, .slice none 0 0, .int .i64 0, .int .u8 0] 26)).drew.heap.size = w1.heap.size + 1 from World.size_alloc _ _)
  generalize (w1.alloc (.cells #[.string ⟨#[]⟩, .slice none 0 0, .int .i64 0, .int .u8 0] 26)).drew = W2 at *
  refine hK.out _ _ (HRG.out _ HS1.out) (fun hHeld => ?_)
  try simp only [Act.put, List.setIfInBounds_toArray, List.set_cons_zero, List.set_cons_succ]
  refine wpAnyH_ready (rs := [17]) (by kernel_rfl) (by simp) ?_
  refine AllReadyH.cons (o := { dst := none, op := Op.store 26 (Operand.tmp 6) (Operand.tmp 43), type := 0, pos := "ref.go:172", after := #[{ on := 16, ground := Ground.data }, { on := 15, ground := Ground.data }, { on := 0, ground := Ground.phase }, { on := 1, ground := Ground.phase }, { on := 2, ground := Ground.phase }, { on := 3, ground := Ground.phase }, { on := 4, ground := Ground.phase }, { on := 5, ground := Ground.phase }, { on := 6, ground := Ground.phase }, { on := 7, ground := Ground.phase }, { on := 8, ground := Ground.phase }, { on := 9, ground := Ground.phase }, { on := 10, ground := Ground.phase }, { on := 11, ground := Ground.phase }, { on := 12, ground := Ground.phase }, { on := 13, ground := Ground.phase }, { on := 14, ground := Ground.phase }, { on := 15, ground := Ground.phase }, { on := 16, ground := Ground.phase }], guard := none }) rfl (fun K hK => ?_) AllReadyH.nil
  rw [if_pos (by rfl)]
  refine wp_store_row 26 (.tmp 6) (.tmp 43) rfl w1.heap.size (cvs none 0 ⟨l0, [], (s.toNat : Int), r.toNat⟩) rfl rfl 26 _ HBN.out size_ct rfl (by simp [cvs, Value.oneCell']) ?_
  have HB7 := Lib.hid (show Blk (W2.setRow w1.heap.size (cvs none 0 ⟨l0, [], (s.toNat : Int), r.toNat⟩)) w1.heap.size 26 (cvs none 0 ⟨l0, [], (s.toNat : Int), r.toNat⟩) from setRow_heap W2 w1.heap.size _ _ _ _ HBN.out)
  have HG7 := Lib.hid (grown_setRow' W2 w1.heap.size (cvs none 0 ⟨l0, [], (s.toNat : Int), r.toNat⟩))
  generalize W2.setRow w1.heap.size (cvs none 0 ⟨l0, [], (s.toNat : Int), r.toNat⟩) = w7 at *
  have HS7 := Lib.hid (HSG.out _ _ HS1.out HG7.out)
  have HSZ7 := Lib.hid (show w1.heap.size + 1 ≤ w7.heap.size by have := HG7.out.size; have := HSZ1.out; omega)
  refine hK.out _ _ (HRG.out _ HS7.out) (fun hHeld => ?_)
  refine wpAnyH_done (by kernel_rfl) ?_ _
  clear hHeld hK K
  have HBW7 := Lib.hid (HSW.out _ HS7.out)
  clear HRG HSW HS0 HS1 HSG HS7 HG7 HBN HSZ1
  have HZC := Lib.hid (show ∀ j (hj : j < zs.length), w1.cell? ⟨b, o + (j + 2), none⟩ = some (zs[j].v) from fun j hj => by
    have h := hcz (j + 2) (by simpa using hj)
    simpa using h)
  have HZE := Lib.hid (show ∀ z ∈ zs, Oc.Rd w1 w1.heap.size z.A z.c z.l from fun z hz => hr1l.el z (by simp [hz]))
  have HZN := Lib.hid (show zs.length ≤ 1000000 by have := HN.out; omega)
  have HPG := Lib.hid (partsOf_good (L := Oc.byts (⟨A0, c0, l0⟩ :: ⟨some ⟨b1, o1, none⟩, c1, [s, r]⟩ :: zs)) (n := l0) (s := s) (r := r) (cs := Oc.byts zs) rfl)
  have hcap2 : zs.length + 2 ≤ n := by have := HN.out; omega
  obtain ⟨bi, hbi, hz0, hz1, hz2⟩ := sInfo_parts
  have HBI := Lib.hid hbi
  have HZ0 := Lib.hid hz0
  have HZ1 := Lib.hid hz1
  have HZ2 := Lib.hid hz2
  clear hbi hz0 hz1 hz2 hr1l hr0 hr1 hel hd HSTR hcz hHeld
  go_wp2_with fail
  go_loopw [7] (fun i wr => ∃ (k : Nat) (A' : Option Addr) (c' : Nat) (q : List (List UInt8)), k ≤ zs.length ∧ i = .int .i64 ((k + 2 : Nat) : Int) ∧ Hid (q = (Oc.byts zs).take k) ∧ Hid (Ow sv wr (w1.heap.size + 1) 9 A' c' q) ∧ Hid (Blk wr w1.heap.size 26 #[.string ⟨l0.toArray⟩, .slice A' q.length c', .int .i64 (s.toNat : Int), .int .u8 (r.toNat : Int)]) ∧ Hid (Below w1.heap.size w1 wr) ∧ Hid (w1.heap.size + 1 ≤ wr.heap.size)) (fun i _ => n - (intOf i).toNat)
  case atStart => exact ⟨0, none, 0, [], Nat.zero_le _, rfl, rfl, Ow.nil _ _ _, HB7, HBW7, HSZ7⟩
  case round =>
    obtain ⟨k, A', c', q, hk, rfl, hq, ho, hb6, hbw, hsz⟩ := hrel
    rename_i wr
    by_cases hlt : k < zs.length
    · have hlt2 : k + 2 < n := by omega
      have hlt3 : (((k + 2 : Nat) : Int)) < (n : Int) := by omega
      have hcx := (hbw.out.cell (p := ⟨b, o + (k + 2), none⟩) hbb).trans (HZC.out k hlt)
      have hel := (HZE.out _ (List.getElem_mem hlt))
      have htk : (Oc.byts zs).take (k + 1) = (Oc.byts zs).take k ++ [zs[k].l] := by
        rw [List.take_succ_eq_append_getElem (by rw [Oc.byts_len]; exact hlt)]
        simp [Oc.byts]
      obtain ⟨z, hz⟩ : ∃ z, z = zs[k] := ⟨_, rfl⟩
      rw [← hz] at hcx hel htk
      obtain ⟨zA, zc, zl⟩ := z
      unfold Oc.El.v at hcx
      simp only at hcx hel htk
      have HCV := Lib.hid (fun wx (hb : Below w1.heap.size w1 wx) => run_string_f (P := Tryd.prog) wx 37 9 5 Tryd.underlying37 Tryd.underlying5 Tryd.underlying9 ((Rd.toRf hel).below hb))
      have HCX := Lib.hid (show ∀ wx, Below wr.heap.size wr wx → wx.cell? ⟨b, o + (k + 2), none⟩ = some (.slice zA zl.length zc) from fun wx hb => (hb.cell (p := ⟨b, o + (k + 2), none⟩) (by have := hbw.out.size; show b < _; omega)).trans hcx)
      have HTK := Lib.hid htk
      have HQL := Lib.hid (show q.length ≤ 1000000 by rw [hq.out, List.length_take, Oc.byts_len]; have := HZN.out; omega)
      clear hz hel htk hcx
      go_wp2_with fail
      have hk0i : (0 : Int) ≤ (k : Int) + 2 := by omega
      have hkt : ((k : Int) + 2).toNat = k + 2 := by omega
      have hk4 : (k : Int) + 2 < (n : Int) := by omega
      have hcx0 := HCX.out wr (Below.refl _ _)
      have hc6 : wr.cell? ⟨w1.heap.size, 1, none⟩ = some (.slice A' q.length c') := hb6.out.cell 1
      have hc6a : (wr.alloc (.cells #[.string ⟨zl.toArray⟩] 9)).cell? ⟨w1.heap.size, 1, none⟩ = some (.slice A' q.length c') := (hb6.out.alloc _).cell 1
      have hcv := HCV.out wr.drew hbw.out.drew
      have HRF := Lib.hid (show Rf sv (wr.alloc (.cells #[.string ⟨zl.toArray⟩] 9)).drew (wr.heap.size + 1) (some ⟨wr.heap.size, 0, none⟩) 1 [zl] from (rf_one (f := sv) (w := wr) zl 9).drew)
      have HOA := Lib.hid (show Ow sv (wr.alloc (.cells #[.string ⟨zl.toArray⟩] 9)).drew (w1.heap.size + 1) 9 A' c' q from (ho.out.alloc (.cells #[.string ⟨zl.toArray⟩] 9)).drew)
      have HBA := Lib.hid (show Blk (wr.alloc (.cells #[.string ⟨zl.toArray⟩] 9)).drew w1.heap.size 26 #[.string ⟨l0.toArray⟩, .slice A' q.length c', .int .i64 (s.toNat : Int), .int .u8 (r.toNat : Int)] from hb6.out.alloc (.cells #[.string ⟨zl.toArray⟩] 9))
      have BWA := Lib.hid (show Below w1.heap.size w1 (wr.alloc (.cells #[.string ⟨zl.toArray⟩] 9)).drew from (hbw.out.alloc hbw.out.size (.cells #[.string ⟨zl.toArray⟩] 9)).drew)
      have HSA := Lib.hid (show w1.heap.size + 1 ≤ (wr.alloc (.cells #[.string ⟨zl.toArray⟩] 9)).drew.heap.size from Nat.le_trans hsz.out (below_new wr (.cells #[.string ⟨zl.toArray⟩] 9)).size)
      have HLE := Lib.hid (show q.length + [zl].length ≤ 4000000000 by have := HQL.out; simp only [List.length_cons, List.length_nil]; omega)
      first
        | go_region_law (refine step_append7 sv_one rfl (.tmp 51) (.tmp 57) 24 rfl (w1.heap.size + 1) 9 16 bi _ Tryd.underlying24 HBI.out HZ0.out HZ1.out HZ2.out (by omega) rfl q [zl] rfl rfl HOA.out HRF.out HLE.out HSA.out ?_; intro A8 c8 w8 q8 hq8 hown8 hg8 hbl8; have HB8 := Lib.hid (HBA.out.grown hg8 (fun e => by have := (ho.out.blk_ge _ e.symm).1; omega)); have hc8 : w8.cell? ⟨w1.heap.size, 1, none⟩ = some (.slice A' q.length c') := HB8.out.cell 1; have hf8 : w8.frozen? ⟨w1.heap.size, 1, none⟩ = false := HB8.out.frozen 1)
        | fail
      all_goals
        have hne : ∀ j, blk A8 = some j → w1.heap.size + 1 ≤ j := fun j e => (hown8.blk_ge j e).1
        have hB8w : Below w1.heap.size w1 w8 := BWA.out.grown hg8 (by have := HSA.out; omega) (fun j e => by have := (ho.out.blk_ge j e).1; omega)
        have HTL := Lib.hid hg8.size
        go_wp2_with fail
        refine ⟨⟨k + 1, A8, c8, q8, by omega, by first | go_num | (congr 1; omega), ?_, ?_, ?_, ?_, ?_⟩, by simp [intOf]; omega⟩
        · show _ = _
          rw [hq8.out, hq.out, HTK.out]
        · exact hown8.kept (grown_set w8 ⟨w1.heap.size, 1, none⟩ _) (by
            cases hA : blk A8 with
            | none => exact .inl rfl
            | some j => exact .inr (fun e => by have := hne j hA; have := Option.some.inj e; simp at this; omega))
        · exact HB8.out.set_ 1 _
        · exact hB8w.setCell (p := ⟨w1.heap.size, 1, none⟩) (Nat.le_refl _) _
        · show _ ≤ _
          have h1 := HTL.out
          have h2 := HSA.out
          simp only [World.setCell, Array.size_modify]
          omega
    · obtain rfl : k = zs.length := by omega
      have hkn : ((zs.length + 2 : Nat) : Int) = (n : Int) := by have := HN.out; omega
      have hnl : ¬ (((zs.length + 2 : Nat) : Int)) < (n : Int) := by omega
      have hnl2 : ¬ ((zs.length : Int) + 2) < (n : Int) := by omega
      clear hkn
      have HQE := Lib.hid (show q = Oc.byts zs by rw [hq.out, List.take_of_length_le (by rw [Oc.byts_len]; exact Nat.le_refl _)])
      have HBX := Lib.hid (show Blk wr w1.heap.size 26 (cvs A' c' ⟨l0, q, (s.toNat : Int), r.toNat⟩) from hb6.out)
      have HPX := Lib.hid (show partsOf (Oc.splitM l).1 = some ⟨l0, q, (s.toNat : Int), r.toNat⟩ by rw [← HBY.out, HPG.out, HQE.out]; rfl)
      have HBD := Lib.hid (partsOf_bounds HPX.out (by rw [← HBY.out]; exact HFIT.out))
      have HB1r := Lib.hid (HB1.out.below hbw.out HB1.out.lt)
      have Bwr := Lib.hid (B1.out.trans (hbw.out.mono B1.out.size))
      have HRQ := Lib.hid ho.out.rd
      have HGE := Lib.hid (fun j e => (ho.out.blk_ge j e).1)
      go_wp2_with (with_reducible refine wpList_load_ct (by kernel_rfl) (.tmp 6) rfl w1.heap.size rfl (A := A') (c := c') (x := ⟨l0, q, (s.toNat : Int), r.toNat⟩) HBX.out ?_)
      refine (refMay_any ⟨l0, q, (s.toNat : Int), r.toNat⟩ A' c' wr HRQ.out (Nat.le_trans HBD.out.1 (by decide)) (fun y hy => Nat.le_trans (HBD.out.2.1 y hy) (by decide)) HBD.out.2.2.1 ⟨Int.le_trans (by decide) HBD.out.2.2.2.1, Int.le_trans HBD.out.2.2.2.2 (by decide)⟩).mono ?_
      rintro e w9 ⟨rfl, hb⟩
      have B9 := Lib.hid (Bwr.out.trans (hb.mono Bwr.out.size))
      have HB9 := Lib.hid (HB1r.out.below hb HB1r.out.lt)
      have HBX9 := Lib.hid (HBX.out.below hb HBX.out.lt)
      have HRQ9 := Lib.hid ((HRQ.out.below hb).more hb.size)
      clear hb
      cases hm : mayB ⟨l0, q, (s.toNat : Int), r.toNat⟩ with
      | false =>
        have HQ := Lib.hid (readM_bad H0.out HPX.out hm)
        clear hm
        go_wp2_with ((with_reducible refine wpList_store_ct rfl (.tmp 2) (.tmp 63) rfl w.heap.size rfl HB9.out rfl (A := none) (c := 0) (x := zeroCt) rfl ?_); intro w10 hb10 hg10)
        exact ct_ret2 (g := w.heap.size) rfl rfl hb10 rfl ⟨none, 0, zeroCt, 11, rfl, HQ.out.symm, Rf.empty _ _, B9.out.grown hg10 B9.out.size (fun k e => by cases e; exact Nat.le_refl _)⟩
      | true =>
        have HQ := Lib.hid (readM_good H0.out HPX.out hm)
        clear hm
        go_wp2_with (first
          | (with_reducible refine wpList_load_ct (by kernel_rfl) (.tmp 6) rfl w1.heap.size rfl (A := A') (c := c') (x := ⟨l0, q, (s.toNat : Int), r.toNat⟩) HBX9.out ?_)
          | ((with_reducible refine wpList_store_ct rfl (.tmp 2) (.tmp 64) rfl w.heap.size rfl HB9.out rfl (A := A') (c := c') (x := ⟨l0, q, (s.toNat : Int), r.toNat⟩) rfl ?_); intro w10 hb10 hg10))
        exact ct_ret2 (g := w.heap.size) rfl rfl hb10 rfl ⟨A', c', ⟨l0, q, (s.toNat : Int), r.toNat⟩, 0, rfl, HQ.out.symm, (HRQ9.out.grown hg10 (Nat.le_refl _) (fun _ e => by have := HGE.out _ e; have := HB1.out.lt; omega)).more hg10.size, B9.out.grown hg10 B9.out.size (fun k e => by cases e; exact Nat.le_refl _)⟩
end Go.Proofs.YtdjifopdlkppoaaDoor
