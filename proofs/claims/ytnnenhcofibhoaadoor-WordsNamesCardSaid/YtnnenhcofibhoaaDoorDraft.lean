/- words' draft: fits, put, pad, finish. -/
import Derived.Test.YtnnenhcofibhoaaDoorLib
import Derived.Deep.RegionLaw
namespace Go.Proofs.YtnnenhcofibhoaaDoor
open Go.RowKit
set_option linter.unusedVariables false

theorem info5 : (Tryd.prog.info? 5).map (fun i => (i.zero, i.size, i.bytes)) = some (some (.int .u8 0), 1, 1) := by kernel_rfl

/-- What a step of the draft in block g changes: nothing below base; no block of another type than bytes, but g. -/
def Dk (base g : Nat) (w w' : World) : Prop := Below base w w' ∧ ∀ k cs t fr, w.heap[k]? = some (.cells cs t fr) → k ≠ g → t ≠ 5 → w'.heap[k]? = w.heap[k]?
theorem Dk.refl (base g : Nat) (w : World) : Dk base g w w := ⟨Below.refl _ _, fun _ _ _ _ _ _ _ => rfl⟩
theorem Dk.trans {base g : Nat} {a b c : World} (h : Dk base g a b) (k : Dk base g b c) : Dk base g a c :=
  ⟨h.1.trans k.1, fun j cs t fr hj hg ht => by
    have h1 := h.2 j cs t fr hj hg ht
    exact (k.2 j cs t fr (h1.trans hj) hg ht).trans h1⟩
theorem Dk.grown_g {base g : Nat} {w w' : World} (h : w.grownBy w' (some g)) (hb : base ≤ g) (hw : base ≤ w.heap.size) : Dk base g w w' :=
  ⟨below_of_grown h hw (fun k e => by cases e; exact hb), fun k cs t fr hk hg _ => h.block k (Array.getElem?_eq_some_iff.1 hk).1 (fun e => hg (by cases e; rfl))⟩
theorem ow_type {α : Type} {f : α → Value} {w : World} {base e c k t : Nat} {A : Option Addr} {xs : List α} {cs : Array Value} {fr : Nat × Nat} (h : Ow f w base e A c xs) (hk : w.heap[k]? = some (.cells cs t fr)) (hne : t ≠ e) : some k ≠ blk A := by
  rcases h.2 with ⟨hv, _⟩ | ⟨g', cap, cur, hv, _, hh, _⟩
  · simp only [Value.slice.injEq] at hv
    rw [hv.1]
    simp [blk]
  · simp only [Value.slice.injEq] at hv
    rw [hv.1]
    intro he
    have : k = g' := by simpa [blk] using he
    subst this
    rw [hh] at hk
    injection hk with h'
    injection h' with _ ht
    exact hne ht.symm
theorem Dk.grown_row {base g c : Nat} {A : Option Addr} {l : List UInt8} {w w' : World} (h : w.grownBy w' (blk A)) (ho : Ow bv w base 5 A c l) (hw : base ≤ w.heap.size) : Dk base g w w' :=
  ⟨below_of_grown h hw (fun k e => (ho.blk_ge k e).1), fun k cs t fr hk hg ht => h.block k (Array.getElem?_eq_some_iff.1 hk).1 (ow_type ho hk ht)⟩
theorem Dk.alloc {base g : Nat} (w : World) (o : Obj) (hw : base ≤ w.heap.size) : Dk base g w (w.alloc o) :=
  ⟨(Below.refl _ _).alloc hw o, fun k cs t fr hk _ _ => Below.heap_alloc w o k (Array.getElem?_eq_some_iff.1 hk).1⟩
theorem Dk.below {base g : Nat} {w w' : World} (h : Below w.heap.size w w') (hw : base ≤ w.heap.size) : Dk base g w w' :=
  ⟨h.mono hw, fun k cs t fr hk _ _ => h.block k (Array.getElem?_eq_some_iff.1 hk).1⟩

/-- The draft in block g: it holds the text t, or t is too long and it says so. -/
structure Dr (w : World) (base g : Nat) (t : List UInt8) : Prop where
  ge : base ≤ g
  here : ∃ A c l, ∃ over : Bool, Blk w g 57 #[.slice A l.length c, .bool over] ∧ Ow bv w base 5 A c l ∧ l.length ≤ 16384 ∧ ((over = false ∧ l = t) ∨ (over = true ∧ 16384 < t.length))
theorem Dr.dk {w w' : World} {base g : Nat} {t : List UInt8} (h : Dr w base g t) {g' : Nat} (hk : w.grownBy w' (some g')) (hne : g' ≠ g) (hb : ∀ A c l, Ow bv w base 5 A c l → blk A ≠ some g') : Dr w' base g t := by
  obtain ⟨hg, A, c, l, over, h1, h2, h3⟩ := h
  exact ⟨hg, A, c, l, over, h1.grown hk (by simpa using Ne.symm hne), h2.kept hk (.inr (hb A c l h2)), h3⟩
theorem Dr.alloc {w : World} {base g : Nat} {t : List UInt8} (h : Dr w base g t) (o : Obj) : Dr (w.alloc o) base g t := by
  obtain ⟨hg, A, c, l, over, h1, h2, h3⟩ := h
  exact ⟨hg, A, c, l, over, h1.alloc o, h2.alloc o, h3⟩
theorem Dr.drewN {w : World} {base g : Nat} {t : List UInt8} (h : Dr w base g t) (n : Nat) : Dr (w.drewN n) base g t := by
  obtain ⟨hg, A, c, l, over, h1, h2, h3⟩ := h
  exact ⟨hg, A, c, l, over, h1.drewN n, h2.drewN n, h3⟩
theorem Dr.start {w : World} : Dr (w.alloc (.cells #[.slice none 0 0, .bool false] 57)) w.heap.size w.heap.size [] :=
  ⟨Nat.le_refl _, none, 0, [], false, Blk.new _ _ _, Ow.nil _ _ _, by simp, .inl ⟨rfl, rfl⟩⟩

set_option maxRecDepth 100000 in
set_option maxHeartbeats 400000 in
theorem fits_over (g m c : Nat) (A : Option Addr) (n : Int) (w : World) (h : Blk w g 57 #[.slice A m c, .bool true]) :
    Calls Tryd.prog 46 #[.pointer (some ⟨g, 0, none⟩), .int .i64 n] w fun e w' => e = .returned (.bool false) ∧ Blk w' g 57 #[.slice A m c, .bool true] ∧ w.grownBy w' (some g) := by
  have c0 := h.cell 0
  have c1 := h.cell 1
  have f1 := h.frozen 1
  simp only [List.getElem?_toArray, List.getElem?_cons_zero, List.getElem?_cons_succ] at c0 c1
  go_enter Tryd.func46, Tryd.ntmps46
  go_wp2_with fail
  go_ret
  refine ⟨rfl, ?_, grown_set w ⟨g, 1, none⟩ (.bool true)⟩
  exact h.set_ 1 (.bool true)
set_option maxRecDepth 100000 in
set_option maxHeartbeats 400000 in
theorem fits_no (g c : Nat) (A : Option Addr) (l : List UInt8) (n : Nat) (w : World) (h : Blk w g 57 #[.slice A l.length c, .bool false]) (hl : l.length ≤ 16384) (hn : n ≤ 4000000000) (hf : 16384 < l.length + n) :
    Calls Tryd.prog 46 #[.pointer (some ⟨g, 0, none⟩), .int .i64 n] w fun e w' => e = .returned (.bool false) ∧ Blk w' g 57 #[.slice A l.length c, .bool true] ∧ w.grownBy w' (some g) := by
  have c0 := h.cell 0
  have c1 := h.cell 1
  have f1 := h.frozen 1
  simp only [List.getElem?_toArray, List.getElem?_cons_zero, List.getElem?_cons_succ] at c0 c1
  have hi : (16384 : Int) - (l.length : Int) < (n : Int) := by omega
  have hd : decide ((16384 : Int) - (l.length : Int) < (n : Int)) = true := by simpa using hi
  go_enter Tryd.func46, Tryd.ntmps46
  go_wp2_with fail
  go_ret
  refine ⟨rfl, ?_, grown_set w ⟨g, 1, none⟩ (.bool true)⟩
  exact h.set_ 1 (.bool true)
set_option maxRecDepth 100000 in
set_option maxHeartbeats 400000 in
theorem fits_yes (g c : Nat) (A : Option Addr) (l : List UInt8) (n : Nat) (w : World) (h : Blk w g 57 #[.slice A l.length c, .bool false]) (hl : l.length ≤ 16384) (hn : n ≤ 4000000000) (hf : l.length + n ≤ 16384) :
    Calls Tryd.prog 46 #[.pointer (some ⟨g, 0, none⟩), .int .i64 n] w fun e w' => e = .returned (.bool true) ∧ Blk w' g 57 #[.slice A l.length c, .bool false] ∧ w.grownBy w' (some g) := by
  have c0 := h.cell 0
  have c1 := h.cell 1
  have f1 := h.frozen 1
  simp only [List.getElem?_toArray, List.getElem?_cons_zero, List.getElem?_cons_succ] at c0 c1
  have hi : ¬ (16384 : Int) - (l.length : Int) < (n : Int) := by omega
  have hd : decide ((16384 : Int) - (l.length : Int) < (n : Int)) = false := by simpa using hi
  go_enter Tryd.func46, Tryd.ntmps46
  go_wp2_with fail
  go_ret
  refine ⟨rfl, ?_, grown_set w ⟨g, 1, none⟩ (.bool false)⟩
  exact h.set_ 1 (.bool false)

theorem dr_over {w w1 : World} {base g c : Nat} {A : Option Addr} {l t : List UInt8} (hg : base ≤ g) (hw : base ≤ w.heap.size) (ho : Ow bv w base 5 A c l) (hl : l.length ≤ 16384)
    (h1 : Blk w1 g 57 #[.slice A l.length c, .bool true]) (hk : w.grownBy w1 (some g)) (hne : some g ≠ blk A) (ht : 16384 < t.length) : Dr w1 base g t ∧ Dk base g w w1 :=
  ⟨⟨hg, A, c, l, true, h1, ho.kept hk (.inr hne.symm), hl, .inr ⟨rfl, ht⟩⟩, Dk.grown_g hk hg hw⟩
theorem dr_put {w w1 w2 : World} {base g c c2 : Nat} {A A2 : Option Addr} {l r u : List UInt8} (hg : base ≤ g) (hw : base ≤ w.heap.size) (ho : Ow bv w base 5 A c l)
    (h1 : Blk w1 g 57 #[.slice A l.length c, .bool false]) (hk : w.grownBy w1 (some g)) (hne : some g ≠ blk A) (hr : r = l ++ u) (hl : l.length + u.length ≤ 16384)
    (ho2 : Ow bv w2 base 5 A2 c2 r) (hk2 : Dk base g w1 w2) (hb2 : Blk w2 g 57 #[.slice A l.length c, .bool false]) :
    Dr (w2.setCell ⟨g, 0, none⟩ (.slice A2 r.length c2)) base g (l ++ u) ∧ Dk base g w (w2.setCell ⟨g, 0, none⟩ (.slice A2 r.length c2)) := by
  have hs := grown_set w2 ⟨g, 0, none⟩ (.slice A2 r.length c2)
  have hw1 : base ≤ w1.heap.size := Nat.le_trans hw hk.size
  have hw2 : base ≤ w2.heap.size := Nat.le_trans hw1 hk2.1.size
  refine ⟨⟨hg, A2, c2, r, false, hb2.set_ 0 _, ho2.kept hs (.inr fun e => ow_blk_ne ho2 hb2 (by decide) e.symm), by rw [hr, List.length_append]; exact hl, .inl ⟨rfl, hr⟩⟩, ?_⟩
  exact ((Dk.grown_g hk hg hw).trans hk2).trans (Dk.grown_g hs hg hw2)

set_option maxRecDepth 100000 in
set_option maxHeartbeats 400000 in
theorem put_any (base g : Nat) (t s : List UInt8) (w : World) (h : Dr w base g t) (hw : base ≤ w.heap.size) (hs : s.length ≤ 4000000000) :
    Calls Tryd.prog 32 #[.pointer (some ⟨g, 0, none⟩), .string ⟨s.toArray⟩] w fun e w' => e = .returned (.tuple #[]) ∧ Dr w' base g (t ++ s) ∧ Dk base g w w' := by
  obtain ⟨i0, hi, hz0, hz1, hz2⟩ := info_parts info5
  obtain ⟨hg, A, c, l, over, hB, ho, hl, hc⟩ := h
  have hne := ow_blk_ne ho hB (by decide)
  rcases hc with ⟨rfl, rfl⟩ | ⟨rfl, ht⟩
  · by_cases hf : l.length + s.length ≤ 16384
    · go_enter Tryd.func32, Tryd.ntmps32
      go_wp2_with fail
      refine (fits_yes g c A l s.length _ hB hl hs hf).mono ?_
      rintro e w1 ⟨rfl, hB1, hk1⟩
      have c0 := hB1.cell 0
      simp only [List.getElem?_toArray, List.getElem?_cons_zero] at c0
      have ho1 := ho.kept hk1 (.inr hne.symm)
      have hw1 := Nat.le_trans hw hk1.size
      go_wp2_with (at_builtin; refine wpList_append_text _ rfl _ _ 55 9 rfl base 5 i0 Tryd.underlying55 Tryd.underlying9 hi hz0 hz1 hz2 l s rfl rfl ho1 (by omega) hw1 ?_; intro A2 c2 w2 r hr ho2 hk2; have hB2 := hB1.grown hk2 hne; have c2 := hB2.cell 0; simp only [List.getElem?_toArray, List.getElem?_cons_zero] at c2; have f2 := hB2.frozen 0)
      go_end0
      obtain ⟨q1, q2⟩ := dr_put hg hw ho hB1 hk1 hne hr.out hf ho2 (Dk.grown_row hk2 ho1 hw1) hB2
      exact ⟨rfl, q1, q2⟩
    · go_enter Tryd.func32, Tryd.ntmps32
      go_wp2_with fail
      refine (fits_no g c A l s.length _ hB hl hs (by omega)).mono ?_
      rintro e w1 ⟨rfl, hB1, hk1⟩
      go_wp2_with fail
      go_end0
      obtain ⟨q1, q2⟩ := dr_over (t := l ++ s) hg hw ho hl hB1 hk1 hne (by simp; omega)
      exact ⟨rfl, q1, q2⟩
  · go_enter Tryd.func32, Tryd.ntmps32
    go_wp2_with fail
    refine (fits_over g l.length c A s.length _ hB).mono ?_
    rintro e w1 ⟨rfl, hB1, hk1⟩
    go_wp2_with fail
    go_end0
    obtain ⟨q1, q2⟩ := dr_over (t := t ++ s) hg hw ho hl hB1 hk1 hne (by simp; omega)
    exact ⟨rfl, q1, q2⟩

/-- append of a string as a step of a region that draws its order. -/
theorem step_append_text {P : Program} {ops : Array Oper} {o : Oper} {a : Act} {w : World} {K : Act → World → Prop} {Q : Exit → Act → World → Prop} {E : Prop}
    (hg : o.guard = none) (sl x : Operand) (t u : TypeId) (hop : o.op = Op.call { callee := Callee.builtin Builtin.append, args := #[sl, x], argTypes := #[t, u] })
    (base : Nat) (e : TypeId) (i : TypeInfo) (ht : P.underlying t = some (.slice e)) (hu : P.underlying u = some .string) (hi : P.info? e = some i) (hz : i.zero = some (.int .u8 0))
    (hsize : i.size = 1) (hby : i.bytes = 1) {A : Option Addr} {c : Nat} (l m : List UInt8) (hs : a.eval sl = .slice A l.length c) (hx : a.eval x = .string ⟨m.toArray⟩) (hown : Ow bv w base e A c l)
    (hle : l.length + m.length ≤ 4000000000) (hbase : base ≤ w.heap.size)
    (h : ∀ A' c' w' r, Hid (r = l ++ m) → Ow bv w' base e A' c' r → w.grownBy w' (blk A) → K (a.put o.dst (.slice A' r.length c')) w') :
    if Region.wanted o (yielded ops a.tmps) = true then Oper.wp P o a w K Q else E := by
  have hw : Region.wanted o (yielded ops a.tmps) = true := by simp [Region.wanted, hg]
  rw [if_pos hw]
  obtain ⟨v', w', hrun, h2, h3, _⟩ := Lib.run_append_own_string (P := P) w base t u o.type e i ht hu hi hz hsize hby _ _ _ hown ⟨m.toArray⟩ (by simp [ByteArray.size, maxLen]; omega) (by simp [ByteArray.size]; omega) hbase
  have e1 : l.length + (⟨m.toArray⟩ : ByteArray).size = (l ++ m).length := by simp [ByteArray.size]
  have e2 : l.map bv ++ Lib.strCells ⟨m.toArray⟩ = (l ++ m).map bv := by
    rw [List.map_append]
    congr 1
  rw [e1, e2] at h2
  have hform : ∃ A' c', v' = .slice A' (l ++ m).length c' := by
    rcases h2.2 with ⟨rfl, hn⟩ | ⟨g, cap, cur, rfl, _⟩
    · exact ⟨none, 0, by rw [hn]⟩
    · exact ⟨_, _, rfl⟩
  obtain ⟨A', c', rfl⟩ := hform
  rw [own_block] at h3
  unfold Oper.wp execOp
  simp only [hop, resolve, invoke, builtin, Sem.run_bind, Sem.run_pure, Result.andThen_ok, List.map_toArray, List.map_cons, List.map_nil, hs, hx, hrun]
  exact h A' c' w' _ rfl h2 h3

set_option maxRecDepth 100000 in
set_option maxHeartbeats 1000000 in
theorem pad_any (base g n : Nat) (t : List UInt8) (w : World) (h : Dr w base g t) (hw : base ≤ w.heap.size) (hn : n ≤ 4000000000) :
    Calls Tryd.prog 48 #[.pointer (some ⟨g, 0, none⟩), .int .i64 n] w fun e w' => e = .returned (.tuple #[]) ∧ Dr w' base g (t ++ List.replicate n 32) ∧ Dk base g w w' := by
  obtain ⟨i0, hi, hz0, hz1, hz2⟩ := info_parts info5
  obtain ⟨hg, A, c, l, over, hB, ho, hl, hc⟩ := h
  have hne := ow_blk_ne ho hB (by decide)
  rcases hc with ⟨rfl, rfl⟩ | ⟨rfl, ht⟩
  · by_cases hf : l.length + n ≤ 16384
    · go_enter Tryd.func48, Tryd.ntmps48
      go_wp2_with fail
      refine (fits_yes g c A l n _ hB hl hn hf).mono ?_
      rintro e w1 ⟨rfl, hB1, hk1⟩
      have c0 := hB1.cell 0
      simp only [List.getElem?_toArray, List.getElem?_cons_zero] at c0
      have ho1 := ho.kept hk1 (.inr hne.symm)
      have hw1 := Nat.le_trans hw hk1.size
      go_wp2_with fail
      go_region_law (first
        | (refine step_append_text rfl _ _ 55 9 rfl base 5 i0 Tryd.underlying55 Tryd.underlying9 hi hz0 hz1 hz2 l (List.replicate n 32) (by simp [Act.eval]) (by simp [Act.eval]) ho2 (by simp; omega) hw2 ?_; intro A3 c3 w3 r hr ho3 hk3; have hB3 := hB2.grown hk3 hne; have c3' := hB3.cell 0; simp only [List.getElem?_toArray, List.getElem?_cons_zero] at c3'; have f3 := hB3.frozen 0)
        | (go_simp; go_at_call 52; refine (repeat_any n _ hn).mono ?_; rintro e w2 ⟨rfl, hb2⟩; have hb2' : Below w1.heap.size w1 w2 := (below_drewN w1.heap.size w1 1).trans hb2; have hB2 := hB1.below hb2' hB1.lt; have c2 := hB2.cell 0; simp only [List.getElem?_toArray, List.getElem?_cons_zero] at c2; have ho2 := ho1.below (Nat.le_refl _) hb2'; have hw2 := Nat.le_trans hw1 hb2'.size))
      all_goals
        go_wp2_with fail
        go_end0
        obtain ⟨q1, q2⟩ := dr_put hg hw ho hB1 hk1 hne hr.out (by simp; omega) ho3 ((Dk.below hb2' hw1).trans (Dk.grown_row hk3 ho2 hw2)) hB3
        exact ⟨rfl, q1, q2⟩
    · go_enter Tryd.func48, Tryd.ntmps48
      go_wp2_with fail
      refine (fits_no g c A l n _ hB hl hn (by omega)).mono ?_
      rintro e w1 ⟨rfl, hB1, hk1⟩
      go_wp2_with fail
      go_end0
      obtain ⟨q1, q2⟩ := dr_over (t := l ++ List.replicate n 32) hg hw ho hl hB1 hk1 hne (by simp; omega)
      exact ⟨rfl, q1, q2⟩
  · go_enter Tryd.func48, Tryd.ntmps48
    go_wp2_with fail
    refine (fits_over g l.length c A n _ hB).mono ?_
    rintro e w1 ⟨rfl, hB1, hk1⟩
    go_wp2_with fail
    go_end0
    obtain ⟨q1, q2⟩ := dr_over (t := t ++ List.replicate n 32) hg hw ho hl hB1 hk1 hne (by simp; omega)
    exact ⟨rfl, q1, q2⟩

theorem str_bytes {B c : Nat} {A : Option Addr} {l : List UInt8} {w : World} (h : Rf bv w B A c l) : (convert 55 9 (.slice A l.length c)).run Tryd.prog w = .ok (.string ⟨l.toArray⟩) w :=
  run_string_f (P := Tryd.prog) w 55 9 5 Tryd.underlying55 Tryd.underlying5 Tryd.underlying9 h

/-- What finish answers. -/
def finM (t : List UInt8) : List UInt8 × Int := if 16384 < t.length then ([], 4) else (t, 0)
set_option maxRecDepth 100000 in
set_option maxHeartbeats 400000 in
theorem finish_any (base g : Nat) (t : List UInt8) (w : World) (h : Dr w base g t) :
    Calls Tryd.prog 33 #[.pointer (some ⟨g, 0, none⟩)] w fun e w' => e = .returned (.tuple #[.string ⟨(finM t).1.toArray⟩, .int .i64 (finM t).2]) ∧ w = w' := by
  obtain ⟨hg, A, c, l, over, hB, ho, hl, hc⟩ := h
  have c0 := hB.cell 0
  have c1 := hB.cell 1
  simp only [List.getElem?_toArray, List.getElem?_cons_zero, List.getElem?_cons_succ] at c0 c1
  rcases hc with ⟨rfl, rfl⟩ | ⟨rfl, ht⟩
  · have hq : finM l = (l, 0) := by unfold finM; rw [if_neg (by omega)]
    have ks := str_bytes ho.rd
    rw [hq]
    clear hq
    go_enter Tryd.func33, Tryd.ntmps33
    go_wp2_with fail
    go_ret2
    exact ⟨rfl, rfl⟩
  · have hq : finM t = ([], 4) := by unfold finM; rw [if_pos ht]
    rw [hq]
    clear hq
    go_enter Tryd.func33, Tryd.ntmps33
    go_wp2_with fail
    go_ret2
    exact ⟨rfl, rfl⟩
end Go.Proofs.YtnnenhcofibhoaaDoor
