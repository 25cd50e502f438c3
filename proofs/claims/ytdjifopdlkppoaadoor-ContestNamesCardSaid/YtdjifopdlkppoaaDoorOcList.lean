/- Lists of byte strings in memory: a [][]byte that is read; one that the call owns; append of one element. -/
import Derived.Test.YtdjifopdlkppoaaDoorOcPure
namespace Go.Proofs.YtdjifopdlkppoaaDoor.Oc
open Go.RowKit
set_option linter.unusedVariables false

/-- An element of a [][]byte: where its bytes lie, its capacity, its bytes. -/
structure El where
  A : Option Addr
  c : Nat
  l : List UInt8
def El.v (x : El) : Value := .slice x.A x.l.length x.c
def byts (xs : List El) : List (List UInt8) := xs.map (·.l)
theorem byts_len (xs : List El) : (byts xs).length = xs.length := by simp [byts]
theorem byts_app (xs ys : List El) : byts (xs ++ ys) = byts xs ++ byts ys := by simp [byts]

/-- The [][]byte '.slice A xs.length c' reads as the elements xs; all of it lies below block B. -/
structure RdL (w : World) (B : Nat) (A : Option Addr) (c : Nat) (xs : List El) : Prop where
  cap : xs.length ≤ c
  capm : c ≤ maxLen
  nil : A = none → c = 0
  cell : ∀ ad, A = some ad → ∀ j (h : j < xs.length), ad.block < B ∧ w.cell? (ad.add j) = some xs[j].v
  el : ∀ x ∈ xs, Rd w B x.A x.c x.l

section
variable {w w' : World} {B B' c : Nat} {A : Option Addr} {xs : List El}
theorem RdL.empty (w : World) (B : Nat) : RdL w B none 0 [] := ⟨Nat.le_refl _, by simp [maxLen], fun _ => rfl, (fun _ h => by cases h), (fun _ h => by cases h)⟩
theorem RdL.keep (h : RdL w B A c xs) (hk : ∀ p : Addr, p.block < B → w'.cell? p = w.cell? p) : RdL w' B A c xs :=
  ⟨h.cap, h.capm, h.nil, fun ad e j hj => ⟨(h.cell ad e j hj).1, (hk _ (by rw [add_block]; exact (h.cell ad e j hj).1)).trans (h.cell ad e j hj).2⟩, fun x hx => (h.el x hx).keep hk⟩
theorem RdL.more (h : RdL w B A c xs) (hB : B ≤ B') : RdL w B' A c xs :=
  ⟨h.cap, h.capm, h.nil, fun ad e j hj => ⟨Nat.lt_of_lt_of_le (h.cell ad e j hj).1 hB, (h.cell ad e j hj).2⟩, fun x hx => (h.el x hx).more hB⟩
theorem RdL.below (h : RdL w B A c xs) (hb : Below B w w') : RdL w' B A c xs := h.keep fun _ hp => hb.cell hp
theorem RdL.drewN (h : RdL w B A c xs) (k : Nat) : RdL (w.drewN k) B A c xs := h.keep fun _ _ => rfl
theorem RdL.alloc (h : RdL w B A c xs) (hB : B ≤ w.heap.size) (o : Obj) : RdL (w.alloc o) B A c xs := h.keep fun p hp => World.cell?_alloc_lt w o p (by omega)
/-- The address, and the cells. -/
theorem RdL.at_ (h : RdL w B A c xs) {k : Nat} (hk : k < xs.length) : ∃ b o, A = some ⟨b, o, none⟩ ∧ b < B ∧ ∀ j (hj : j < xs.length), w.cell? ⟨b, o + j, none⟩ = some xs[j].v := by
  have hA : A ≠ none := fun e => by have := h.nil e; have := h.cap; omega
  obtain ⟨ad, rfl⟩ := Option.ne_none_iff_exists'.1 hA
  have hc := h.cell ad rfl
  have hb := (hc 0 (by omega)).1
  obtain ⟨b, o, s⟩ := ad
  have h0 := (hc 0 (by omega)).2
  have hs : s = none := by
    have := World.cell?_spot h0
    simpa [Addr.add] using this
  subst hs
  refine ⟨b, o, rfl, hb, fun j hj => ?_⟩
  have := (hc j hj).2
  rwa [add_plain] at this
end

/-- The [][]byte '.slice A xs.length c' and all its elements lie in blocks from 'base' on that the call made itself. -/
def OwnL (w : World) (base : Nat) (A : Option Addr) (c : Nat) (xs : List El) : Prop :=
  w.ownsRow base 37 1 (.slice A xs.length c) xs.length (xs.map El.v) ∧ ∀ x ∈ xs, Own w base 5 x.A x.c x.l

/-- Rows of two element types lie in two blocks. -/
theorem rows_apart {w : World} {b1 b2 t1 t2 s1 s2 n1 n2 : Nat} {v1 v2 : Value} {x1 x2 : List Value} (hne : t1 ≠ t2) (h1 : w.ownsRow b1 t1 s1 v1 n1 x1) (h2 : w.ownsRow b2 t2 s2 v2 n2 x2) : v1.ownBlock = none ∨ v1.ownBlock ≠ v2.ownBlock := by
  rcases h1.2 with ⟨rfl, _⟩ | ⟨g1, cap1, cur1, rfl, _, hg1, _⟩
  · exact .inl rfl
  · refine .inr fun e => ?_
    rcases h2.2 with ⟨rfl, _⟩ | ⟨g2, cap2, cur2, rfl, _, hg2, _⟩
    · simp [Value.ownBlock] at e
    · simp [Value.ownBlock] at e
      subst e
      rw [hg1] at hg2
      simp at hg2
      exact hne hg2.2

section
variable {w w' : World} {base c : Nat} {A : Option Addr} {xs : List El}
theorem OwnL.nil (w : World) (base : Nat) : OwnL w base none 0 [] := ⟨World.ownsRow_nil w base _ 1, fun _ h => by cases h⟩
theorem OwnL.form (h : OwnL w base A c xs) : (A = none ∧ c = 0 ∧ xs = []) ∨ ∃ g, A = some ⟨g, 0, none⟩ ∧ base ≤ g ∧ g < w.heap.size ∧ xs.length ≤ c ∧ c ≤ maxLen := by
  rcases h.1.2 with ⟨hv, hn⟩ | ⟨g, cap, cur, hv, hb, hg, hnc, hcm, _⟩
  · simp only [Value.slice.injEq] at hv
    exact .inl ⟨hv.1, hv.2.2, List.eq_nil_of_length_eq_zero hn⟩
  · simp only [Value.slice.injEq] at hv
    obtain ⟨rfl, _, rfl⟩ := hv
    exact .inr ⟨g, rfl, hb, (Array.getElem?_eq_some_iff.1 hg).1, hnc, hcm⟩
theorem OwnL.rd (h : OwnL w base A c xs) : RdL w w.heap.size A c xs := by
  rcases h.form with ⟨rfl, rfl, rfl⟩ | ⟨g, rfl, hb, hg, hc, hm⟩
  · exact RdL.empty w _
  · refine ⟨hc, hm, (fun e => by cases e), fun ad e j hj => ?_, fun x hx => (h.2 x hx).rd⟩
    obtain rfl := Option.some.inj e
    exact ⟨hg, World.ownsRow.cells h.1 (g := g) rfl j _ (by simp [hj])⟩
theorem OwnL.blk_ge (h : OwnL w base A c xs) : ∀ k, blk A = some k → base ≤ k ∧ k < w.heap.size := fun k hk => World.ownsRow.lt h.1 k (by rw [own_block]; exact hk)
/-- It is kept through a step that wrote to no block of it. -/
theorem OwnL.kept (h : OwnL w base A c xs) {row : Option Nat} (hg : w.grownBy w' row) (hne : blk A = none ∨ blk A ≠ row) (hel : ∀ x ∈ xs, blk x.A = none ∨ blk x.A ≠ row) : OwnL w' base A c xs :=
  ⟨World.ownsRow.kept h.1 hg (by rw [own_block]; exact hne), fun x hx => (h.2 x hx).kept hg (hel x hx)⟩
theorem OwnL.below (h : OwnL w base A c xs) {B : Nat} (hB : w.heap.size ≤ B) (hb : Below B w w') : OwnL w' base A c xs :=
  h.kept (row := none) ⟨hb.os, hb.tape, hb.output, hb.size, fun k hk _ => hb.block k (Nat.lt_of_lt_of_le hk hB)⟩ (by cases blk A <;> simp) (fun x _ => by cases blk x.A <;> simp)
theorem OwnL.alloc (h : OwnL w base A c xs) (o : Obj) : OwnL (w.alloc o) base A c xs := ⟨World.ownsRow.alloc h.1 o, fun x hx => (h.2 x hx).alloc o⟩
theorem OwnL.drewN (h : OwnL w base A c xs) (k : Nat) : OwnL (w.drewN k) base A c xs := h
theorem OwnL.lower (h : OwnL w base A c xs) {b : Nat} (hb : b ≤ base) : OwnL w b A c xs := by
  refine ⟨⟨h.1.1, ?_⟩, fun x hx => (h.2 x hx).lower hb⟩
  rcases h.1.2 with hn | ⟨g, cap, cur, hv, hbg, r⟩
  · exact .inl hn
  · exact .inr ⟨g, cap, cur, hv, Nat.le_trans hb hbg, r⟩
end

theorem info22 : (Tryd.prog.info? 37).map (fun i => (i.zero, i.size, i.bytes)) = some (some (.slice none 0 0), 1, 24) := by kernel_rfl

/-- 'append(out, x)': x has just been laid in a block of its own. -/
theorem run_append_el (w : World) (base : Nat) {A : Option Addr} {c : Nat} {xs : List El} (x : El) (ty : Nat) (hown : OwnL w base A c xs) (hx : Own w base 5 x.A x.c x.l) (hle : xs.length ≤ 1000000) (hbase : base ≤ w.heap.size) :
    ∃ A' c' w', (Builtin.append_ #[70, 70] ty #[.slice A xs.length c, .slice (some ⟨w.heap.size, 0, none⟩) 1 1]).run Tryd.prog (w.alloc (.cells #[x.v] 37)) = .ok (.slice A' (xs ++ [x]).length c') w' ∧
      OwnL w' base A' c' (xs ++ [x]) ∧ (w.alloc (.cells #[x.v] 37)).grownBy w' (blk A) ∧ (blk A' = blk A ∨ blk A' = some (w.heap.size + 1)) := by
  obtain ⟨i0, hi, hz0, hz1, hz2⟩ := info_parts info22
  have hown2 := hown.alloc (.cells #[x.v] 37)
  obtain ⟨v', w', hrun, h2, h3, _, h5⟩ := run_append_own_at (P := Tryd.prog) (w.alloc (.cells #[x.v] 37)) base 70 ty 37 i0 _ 1 24 Tryd.underlying70 hi hz0 hz1 hz2 rfl (by omega) _ _ _ hown2.1
    ⟨w.heap.size, 0, none⟩ 1 1 [x.v] rfl (cell_one_new w x.v _) (by simp [El.v, Value.oneCell']) (by simp only [maxLen]; omega) (by omega) (by simp; omega)
  have e1 : xs.map El.v ++ [x.v] = (xs ++ [x]).map El.v := by simp
  have e2 : xs.length + 1 = (xs ++ [x]).length := by simp
  rw [e1, e2] at h2
  have hform : ∃ A' c', v' = .slice A' (xs ++ [x]).length c' := by
    rcases h2.2 with ⟨rfl, hn⟩ | ⟨g, cap, cur, rfl, _⟩
    · exact ⟨none, 0, by rw [hn]⟩
    · exact ⟨_, _, rfl⟩
  obtain ⟨A', c', rfl⟩ := hform
  refine ⟨A', c', w', hrun, ⟨h2, fun y hy => ?_⟩, by rw [own_block] at h3; exact h3, ?_⟩
  · have hy2 : Own (w.alloc (.cells #[x.v] 37)) base 5 y.A y.c y.l := by
      rcases List.mem_append.1 hy with h | h
      · exact hown2.2 y h
      · simp at h; subst h; exact hx.alloc _
    exact World.ownsRow.kept hy2 h3 (rows_apart (by decide) hy2 hown2.1)
  · rw [own_block, own_block] at h5
    simpa using h5

/-- The same, for the walk. -/
theorem wpList_append_el (w : World) {ops : Array Oper} {rest : List Oper} {o : Oper} {a : Act} {Q : Exit → Act → World → Prop} (hgd : o.guard = none) (s y : Operand)
    (ho : o.op = .call { callee := .builtin .append, args := #[s, y], argTypes := #[70, 70] })
    (base : Nat) {A : Option Addr} {c : Nat} (xs : List El) (x : El) (hs : a.eval s = .slice A xs.length c) (hy : a.eval y = .slice (some ⟨w.heap.size, 0, none⟩) 1 1) (hown : OwnL w base A c xs) (hx : Own w base 5 x.A x.c x.l) (hle : xs.length ≤ 1000000) (hbase : base ≤ w.heap.size)
    (h : ∀ A' c' w' ys, Hid (ys = xs ++ [x]) → OwnL w' base A' c' ys → (w.alloc (.cells #[x.v] 37)).grownBy w' (blk A) → (blk A' = blk A ∨ blk A' = some (w.heap.size + 1)) → wpList Tryd.prog ops Q rest (a.put o.dst (.slice A' ys.length c')) w') :
    wpList Tryd.prog ops Q (o :: rest) a (w.alloc (.cells #[x.v] 37)) := by
  refine wpList_plain hgd fun K hK => ?_
  obtain ⟨A', c', w', hrun, h2, h3, h4⟩ := run_append_el w base x o.type hown hx hle hbase
  unfold Oper.wp execOp
  simp only [ho, resolve, invoke, builtin, Sem.run_bind, Sem.run_pure, Result.andThen_ok, List.map_toArray, List.map_cons, List.map_nil, hs, hy, hrun]
  exact hK _ _ (h A' c' w' _ rfl h2 h3 h4)

end Go.Proofs.YtdjifopdlkppoaaDoor.Oc
