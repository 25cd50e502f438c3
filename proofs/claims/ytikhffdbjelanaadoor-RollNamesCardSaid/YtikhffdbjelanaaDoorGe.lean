/- Slices of structs: elements of n cells. Names no program. append to a full slice of structs, which is left as it was; make of structs. A whole element of a slice of structs is stored. append as a step of a region that draws its order: of values of one cell, of a string, of structs. Names no program. Rolls: voters, validity, adding, the five operations, counts, the encoding; and what the laws say of them. No program named. -/
import Derived.Test.YtikhffdbjelanaaDoorGa
import Derived.Laws.OwnMore
import Derived.Laws.Append
import Derived.Deep.MidRow
import Derived.Deep.RegionHeld3
import Derived.Test.YtikhffdbjelanaaDoorGd
import GoSem.Op.String
namespace Go.Proofs.YtikhffdbjelanaaDoor
open Go.RowKit
set_option linter.unusedVariables false

/-- The slice reads as the elements xs, of n cells each, below block B. -/
structure Rk {α : Type} (n : Nat) (f : α → List Value) (w : World) (B : Nat) (A : Option Addr) (c : Nat) (xs : List α) : Prop where
  cap : xs.length ≤ c
  capm : c ≤ maxLen
  nil : A = none → c = 0
  cell : ∀ ad, A = some ad → ∀ j (h : j < xs.length), ad.block < B ∧ ∀ i u, (f xs[j])[i]? = some u → w.cell? (ad.add (j * n + i)) = some u
section
variable {α : Type} {n : Nat} {f : α → List Value} {w w' : World} {B B' c : Nat} {A : Option Addr} {xs : List α}
theorem Rk.empty (w : World) (B : Nat) : Rk n f w B none 0 [] := ⟨Nat.le_refl _, by simp [maxLen], fun _ => rfl, fun _ h => by cases h⟩
theorem Rk.keep (h : Rk n f w B A c xs) (hk : ∀ p : Addr, p.block < B → w'.cell? p = w.cell? p) : Rk n f w' B A c xs :=
  ⟨h.cap, h.capm, h.nil, fun ad e j hj => ⟨(h.cell ad e j hj).1, fun i u hu => (hk _ (by rw [add_block]; exact (h.cell ad e j hj).1)).trans ((h.cell ad e j hj).2 i u hu)⟩⟩
theorem Rk.more (h : Rk n f w B A c xs) (hB : B ≤ B') : Rk n f w B' A c xs :=
  ⟨h.cap, h.capm, h.nil, fun ad e j hj => ⟨Nat.lt_of_lt_of_le (h.cell ad e j hj).1 hB, (h.cell ad e j hj).2⟩⟩
theorem Rk.below (h : Rk n f w B A c xs) (hb : Below B w w') : Rk n f w' B A c xs := h.keep fun _ hp => hb.cell hp
theorem Rk.alloc (h : Rk n f w B A c xs) (hB : B ≤ w.heap.size) (o : Obj) : Rk n f (w.alloc o) B A c xs := h.keep fun p hp => World.cell?_alloc_lt w o p (by omega)
theorem Rk.drew (h : Rk n f w B A c xs) : Rk n f w.drew B A c xs := h.keep fun _ _ => rfl
theorem Rk.drewN (h : Rk n f w B A c xs) (k : Nat) : Rk n f (w.drewN k) B A c xs := h.keep fun _ _ => rfl
theorem Rk.grown {row : Option Nat} (h : Rk n f w B A c xs) (hg : w.grownBy w' row) (hB : B ≤ w.heap.size) (hne : 0 < xs.length → blk A ≠ row) : Rk n f w' B A c xs := by
  refine ⟨h.cap, h.capm, h.nil, fun ad e j hj => ?_⟩
  subst e
  obtain ⟨h1, h2⟩ := h.cell ad rfl j hj
  refine ⟨h1, fun i u hu => ?_⟩
  have hb : (ad.add (j * n + i)).block = ad.block := add_block _ _
  rw [World.cell?_of_block (hg.block (ad.add (j * n + i)).block (by omega) (by
    intro e2
    exact hne (by omega) (by rw [← e2, hb]; rfl)))]
  exact h2 i u hu
/-- Where the elements have at least a cell: the block, and the cells. -/
theorem Rk.at_ (h : Rk n f w B A c xs) (hf : ∀ x, 0 < (f x).length) {k : Nat} (hk : k < xs.length) : ∃ b o, A = some ⟨b, o, none⟩ ∧ b < B ∧ ∀ j (hj : j < xs.length) i u, (f xs[j])[i]? = some u → w.cell? ⟨b, o + (j * n + i), none⟩ = some u := by
  have hA : A ≠ none := fun e => by have := h.nil e; have := h.cap; omega
  obtain ⟨ad, rfl⟩ := Option.ne_none_iff_exists'.1 hA
  have hc := h.cell ad rfl
  have hb := (hc 0 (by omega)).1
  obtain ⟨b, o, s⟩ := ad
  have h0 := (hc 0 (by omega)).2 0 ((f (xs[0]'(by omega)))[0]'(hf _)) (List.getElem?_eq_getElem (hf _))
  have hs : s = none := by
    have := World.cell?_spot h0
    simpa [Addr.add] using this
  subst hs
  refine ⟨b, o, rfl, hb, fun j hj i u hu => ?_⟩
  have := (hc j hj).2 i u hu
  rwa [add_plain] at this
end

/-- All cells of the elements. -/
def flatK {α : Type} (f : α → List Value) (xs : List α) : List Value := xs.flatMap f
section
variable {α : Type} {n : Nat} {f : α → List Value} (hf : ∀ x, (f x).length = n)
theorem flatK_append (xs ys : List α) : flatK f (xs ++ ys) = flatK f xs ++ flatK f ys := List.flatMap_append
theorem flatK_cons (x : α) (xs : List α) : flatK f (x :: xs) = f x ++ flatK f xs := List.flatMap_cons
include hf in
theorem flatK_len (xs : List α) : (flatK f xs).length = xs.length * n := by
  induction xs with
  | nil => simp [flatK]
  | cons x xs ih => rw [flatK_cons, List.length_append, ih, hf, List.length_cons, Nat.succ_mul, Nat.add_comm]
include hf in
theorem flatK_get : ∀ (xs : List α) (j : Nat) (h : j < xs.length) (i : Nat), i < n → (flatK f xs)[j * n + i]? = (f xs[j])[i]?
  | [], j, h, i, hi => by simp at h
  | x :: xs, 0, h, i, hi => by
    rw [flatK_cons, Nat.zero_mul, Nat.zero_add, List.getElem?_append_left (by rw [hf]; exact hi)]; rfl
  | x :: xs, j + 1, h, i, hi => by
    have e : (j + 1) * n + i = n + (j * n + i) := by rw [Nat.succ_mul]; omega
    have h' : j < xs.length := by simpa using h
    rw [flatK_cons, e, List.getElem?_append_right (by rw [hf]; omega), hf, Nat.add_sub_cancel_left, flatK_get xs j h' i hi]
    rfl
theorem flatK_one (h1 : ∀ x, ∀ u ∈ f x, u.oneCell' = true) (xs : List α) : ∀ u ∈ flatK f xs, u.oneCell' = true := by
  intro u hu
  obtain ⟨x, _, hx⟩ := List.mem_flatMap.1 hu
  exact h1 x u hx
end

/-- A slice of structs of the call's own. e: the number of the element's type. -/
def OwK {α : Type} (n : Nat) (f : α → List Value) (w : World) (base e : Nat) (A : Option Addr) (c : Nat) (xs : List α) : Prop := w.ownsRow base e n (.slice A xs.length c) xs.length (flatK f xs)
section
variable {α : Type} {n : Nat} {f : α → List Value} {w w' : World} {base e c : Nat} {A : Option Addr} {xs : List α}
theorem OwK.nil (w : World) (base e : Nat) : OwK n f w base e none 0 [] := World.ownsRow_nil w base e n
theorem OwK.form (h : OwK n f w base e A c xs) : (A = none ∧ c = 0 ∧ xs = []) ∨ ∃ g, A = some ⟨g, 0, none⟩ ∧ base ≤ g ∧ g < w.heap.size ∧ xs.length ≤ c ∧ c ≤ maxLen := by
  rcases h.2 with ⟨hv, hn⟩ | ⟨g, cap, cur, hv, hb, hg, hnc, hcm, _⟩
  · simp only [Value.slice.injEq] at hv
    exact .inl ⟨hv.1, hv.2.2, List.eq_nil_of_length_eq_zero hn⟩
  · simp only [Value.slice.injEq] at hv
    obtain ⟨rfl, _, rfl⟩ := hv
    exact .inr ⟨g, rfl, hb, (Array.getElem?_eq_some_iff.1 hg).1, hnc, hcm⟩
theorem OwK.rd (h : OwK n f w base e A c xs) (hf : ∀ x, (f x).length = n) : Rk n f w w.heap.size A c xs := by
  rcases h.2 with ⟨hv, hn⟩ | ⟨g, cap, cur, hv, hb, hg, hnc, hcm, hsz, hx⟩
  · simp only [Value.slice.injEq] at hv
    obtain ⟨rfl, _, rfl⟩ := hv
    exact ⟨by omega, by unfold maxLen; omega, (fun _ => rfl), (fun ad e => by cases e)⟩
  · simp only [Value.slice.injEq] at hv
    obtain ⟨rfl, _, rfl⟩ := hv
    refine ⟨hnc, hcm, (fun e => by cases e), fun ad e j hj => ?_⟩
    obtain rfl := Option.some.inj e
    have hlt : g < w.heap.size := (Array.getElem?_eq_some_iff.1 hg).1
    refine ⟨hlt, fun i u hu => ?_⟩
    have hi : i < n := by
      have := (List.getElem?_eq_some_iff.1 hu).1
      rwa [hf] at this
    have h1 := flatK_get hf xs j hj i hi
    rw [hu] at h1
    have hil := (List.getElem?_eq_some_iff.1 h1).1
    rw [flatK_len hf] at hil
    rw [add_plain, Nat.zero_add, cell_of_row w g _ _ _ _ hg, ← h1, ← hx, List.getElem?_take_of_lt hil]
    simp
theorem OwK.blk_ge (h : OwK n f w base e A c xs) : ∀ k, blk A = some k → base ≤ k ∧ k < w.heap.size := by
  intro k hk
  exact World.ownsRow.lt h k (by rw [own_block]; exact hk)
theorem OwK.kept (h : OwK n f w base e A c xs) {row : Option Nat} (hg : w.grownBy w' row) (hne : blk A = none ∨ blk A ≠ row) : OwK n f w' base e A c xs :=
  World.ownsRow.kept h hg (by rw [own_block]; exact hne)
theorem OwK.alloc (h : OwK n f w base e A c xs) (o : Obj) : OwK n f (w.alloc o) base e A c xs := World.ownsRow.alloc h o
theorem OwK.drew (h : OwK n f w base e A c xs) : OwK n f w.drew base e A c xs := h
theorem OwK.drewN (h : OwK n f w base e A c xs) (k : Nat) : OwK n f (w.drewN k) base e A c xs := h
theorem OwK.lower (h : OwK n f w base e A c xs) {b : Nat} (hb : b ≤ base) : OwK n f w b e A c xs := by
  refine ⟨h.1, ?_⟩
  rcases h.2 with hn | ⟨g, cap, cur, hv, hbg, r⟩
  · exact .inl hn
  · exact .inr ⟨g, cap, cur, hv, Nat.le_trans hb hbg, r⟩
theorem OwK.below (h : OwK n f w base e A c xs) {B : Nat} (hB : w.heap.size ≤ B) (hb : Below B w w') : OwK n f w' base e A c xs :=
  h.kept (row := none) ⟨hb.os, hb.tape, hb.output, hb.size, fun k hk _ => hb.block k (Nat.lt_of_lt_of_le hk hB)⟩ (by cases blk A <;> simp)
end

section
variable {P : Program} (w : World)
/-- 'append(s, x...)' over structs: s is owned, x is read. -/
theorem run_append_k {α : Type} {n : Nat} {f : α → List Value} (hn : ∀ x, (f x).length = n) (h1 : ∀ x, ∀ u ∈ f x, u.oneCell' = true) (base e bt : Nat) (t ty : TypeId) (i : TypeInfo) (z : Value) (ht : P.underlying t = some (.slice e)) (hi : P.info? e = some i) (hz : i.zero = some z) (hsize : i.size = n) (hn0 : 0 < n) (hby : i.bytes = bt) (hbt : bt ≤ 400) (hzs : z.cells.size = n)
    {A A2 : Option Addr} {c c2 B : Nat} {l m : List α} (hown : OwK n f w base e A c l) (hr : Rk n f w B A2 c2 m) (hle : l.length + m.length ≤ 4000000000) (hbase : base ≤ w.heap.size) :
    ∃ A' c' w', (Builtin.append_ #[t, t] ty #[.slice A l.length c, .slice A2 m.length c2]).run P w = .ok (.slice A' (l ++ m).length c') w' ∧ OwK n f w' base e A' c' (l ++ m) ∧ w.grownBy w' (blk A) ∧
      (blk A' = blk A ∨ blk A' = some w.heap.size) := by
  cases A2 with
  | some ad =>
    obtain ⟨v', w', hrun, h2, h3, _, h5⟩ := run_append_own_at (P := P) w base t ty e i z n bt ht hi hz hsize hby hzs hn0 _ _ _ hown ad m.length c2 (flatK f m) (flatK_len hn m)
      (fun j u hu => by
        have hj := (List.getElem?_eq_some_iff.1 hu).1
        rw [flatK_len hn] at hj
        have hd : j / n < m.length := Nat.div_lt_of_lt_mul (by rwa [Nat.mul_comm] at hj)
        have hm := Nat.mod_lt j hn0
        have e1 : j / n * n + j % n = j := by rw [Nat.mul_comm]; exact Nat.div_add_mod j n
        have h2 := flatK_get hn m (j / n) hd (j % n) hm
        rw [e1, hu] at h2
        have := (hr.cell ad rfl (j / n) hd).2 (j % n) u h2.symm
        rwa [e1] at this)
      (flatK_one h1 m) (by simp only [maxLen]; omega) (by have := Nat.mul_le_mul hle hbt; omega) hbase
    rw [← flatK_append, ← List.length_append] at h2
    have hform : ∃ A' c', v' = .slice A' (l ++ m).length c' := by
      rcases h2.2 with ⟨rfl, hn⟩ | ⟨g, cap, cur, rfl, _⟩
      · exact ⟨none, 0, by rw [hn]⟩
      · exact ⟨_, _, rfl⟩
    obtain ⟨A', c', rfl⟩ := hform
    refine ⟨A', c', w', hrun, h2, by rw [own_block] at h3; exact h3, ?_⟩
    rw [own_block, own_block] at h5
    exact h5
  | none =>
    have hc2 := hr.nil rfl
    have hm : m = [] := List.eq_nil_of_length_eq_zero (by have := hr.cap; omega)
    subst hm
    subst hc2
    refine ⟨A, c, w, ?_, by simpa using hown, World.grownBy.refl w _, .inl rfl⟩
    have := run_append_owned_none (P := P) w base t ty e i n ht hi _ _ _ hown
    simpa using this

/-- The same, for the walk. -/
theorem wpList_append_k {α : Type} {n : Nat} {f : α → List Value} (hn : ∀ x, (f x).length = n) (h1 : ∀ x, ∀ u ∈ f x, u.oneCell' = true) {ops : Array Oper} {rest : List Oper} {o : Oper} {a : Act} {Q : Exit → Act → World → Prop} (hgd : o.guard = none) (s x : Operand) (t : TypeId)
    (ho : o.op = .call { callee := .builtin .append, args := #[s, x], argTypes := #[t, t] })
    (base e bt : Nat) (i : TypeInfo) (z : Value) (ht : P.underlying t = some (.slice e)) (hi : P.info? e = some i) (hz : i.zero = some z) (hsize : i.size = n) (hn0 : 0 < n) (hby : i.bytes = bt) (hbt : bt ≤ 400) (hzs : z.cells.size = n)
    {A A2 : Option Addr} {c c2 B : Nat} (l m : List α) (hs : a.eval s = .slice A l.length c) (hx : a.eval x = .slice A2 m.length c2) (hown : OwK n f w base e A c l) (hr : Rk n f w B A2 c2 m)
    (hle : l.length + m.length ≤ 4000000000) (hbase : base ≤ w.heap.size)
    (h : ∀ A' c' w' r, Hid (r = l ++ m) → OwK n f w' base e A' c' r → w.grownBy w' (blk A) → (blk A' = blk A ∨ blk A' = some w.heap.size) → wpList P ops Q rest (a.put o.dst (.slice A' r.length c')) w') :
    wpList P ops Q (o :: rest) a w := by
  refine wpList_plain hgd fun K hK => ?_
  obtain ⟨A', c', w', hrun, h2, h3, h4⟩ := run_append_k (P := P) w hn h1 base e bt t o.type i z ht hi hz hsize hn0 hby hbt hzs hown hr hle hbase
  unfold Oper.wp execOp
  simp only [ho, resolve, invoke, builtin, Sem.run_bind, Sem.run_pure, Result.andThen_ok, List.map_toArray, List.map_cons, List.map_nil, hs, hx, hrun]
  exact hK _ _ (h A' c' w' _ rfl h2 h3 h4)

/-- A one-element literal. -/
theorem rk_one {α : Type} {n : Nat} {f : α → List Value} (hn : ∀ x, (f x).length = n) (x : α) (cs : Array Value) (hcs : cs = (f x).toArray) (e : Nat) : Rk n f (w.alloc (.cells cs e)) (w.heap.size + 1) (some ⟨w.heap.size, 0, none⟩) 1 [x] := by
  subst hcs
  refine ⟨by simp, by simp [maxLen], (fun e => by cases e), fun ad he j hj => ?_⟩
  obtain rfl := Option.some.inj he
  refine ⟨by simp, fun i u hu => ?_⟩
  have hj0 : j = 0 := by simp at hj; omega
  subst hj0
  have hbk : Blk (w.alloc (.cells (f x).toArray e)) w.heap.size e (f x).toArray := Blk.new w _ _
  rw [add_plain, hbk.cell]
  simpa using hu
/-- An empty literal. -/
theorem owk_zero {α : Type} {n : Nat} {f : α → List Value} (e base : Nat) (hb : base ≤ w.heap.size) : OwK n f (w.alloc (.cells #[] e)) base e (some ⟨w.heap.size, 0, none⟩) 0 [] := by
  have := World.ownsRow_lit (base := base) (e := e) (size := n) w #[] 0 hb (by simp [maxLen]) (by simp)
  exact this
end

section
variable {α : Type} {n : Nat} {f : α → List Value} (hf : ∀ x, (f x).length = n)
include hf in
theorem flatK_set : ∀ (xs : List α) (j : Nat) (h : j < xs.length) (i : Nat) (y : α) (u : Value), i < n → f y = (f xs[j]).set i u → flatK f (xs.set j y) = (flatK f xs).set (j * n + i) u
  | [], j, h, i, y, u, hi, e => by simp at h
  | x :: xs, 0, h, i, y, u, hi, e => by
    rw [List.set_cons_zero, flatK_cons, flatK_cons, Nat.zero_mul, Nat.zero_add, List.set_append_left _ _ (by rw [hf]; exact hi), e]; rfl
  | x :: xs, j + 1, h, i, y, u, hi, e => by
    have e1 : (j + 1) * n + i = n + (j * n + i) := by rw [Nat.succ_mul]; omega
    rw [List.set_cons_succ, flatK_cons, flatK_cons, e1, List.set_append_right _ _ (by rw [hf]; omega), hf, Nat.add_sub_cancel_left, flatK_set xs j (by simpa using h) i y u hi e]
variable {w : World} {base e c g : Nat} {xs : List α}
include hf in
/-- A cell of an element is stored. -/
theorem OwK.stored (h : OwK n f w base e (some ⟨g, 0, none⟩) c xs) (j : Nat) (hj : j < xs.length) (i : Nat) (hi : i < n) (y : α) (u : Value) (hy : f y = (f xs[j]).set i u) :
    OwK n f (w.setCell ⟨g, j * n + i, none⟩ u) base e (some ⟨g, 0, none⟩) c (xs.set j y) ∧ w.grownBy (w.setCell ⟨g, j * n + i, none⟩ u) (some g) := by
  obtain ⟨h1, h2⟩ := World.ownsRow.stored h (j * n + i) u
  refine ⟨?_, h2⟩
  unfold OwK
  rw [List.length_set, flatK_set hf xs j hj i y u hi hy]
  exact h1
theorem OwK.frozen (h : OwK n f w base e (some ⟨g, 0, none⟩) c xs) (i : Nat) : w.frozen? ⟨g, i, none⟩ = false := World.ownsRow.frozenAt h i
include hf in
theorem OwK.cell (h : OwK n f w base e (some ⟨g, 0, none⟩) c xs) (j : Nat) (hj : j < xs.length) (i : Nat) (hi : i < n) : w.cell? ⟨g, j * n + i, none⟩ = (f xs[j])[i]? := by
  have hl : j * n + i < xs.length * n := by
    have h1 : (j + 1) * n ≤ xs.length * n := Nat.mul_le_mul_right _ hj
    rw [Nat.succ_mul] at h1
    omega
  rw [World.ownsRow.cellAt h (j * n + i) hl, flatK_get hf xs j hj i hi]
end
/-- Behind an append of what has just been laid. -/
theorem below_app {B : Nat} {w0 wr w4 : World} {o : Obj} {A : Option Addr} (hb : Below B w0 wr) (hB : B ≤ wr.heap.size) (hg : (wr.alloc o).grownBy w4 (blk A)) (ha : ∀ k, blk A = some k → B ≤ k) : Below B w0 w4 :=
  (hb.trans ((below_new wr o).mono hB)).trans (below_of_grown hg (by rw [World.size_alloc]; omega) ha)
end Go.Proofs.YtikhffdbjelanaaDoor
namespace Go.Proofs.YtikhffdbjelanaaDoor
open Go.RowKit
set_option linter.unusedVariables false

section
variable {P : Program} (w : World)
/-- 'append(s, x...)' to a slice whose capacity is its length: new memory. -/
theorem wpList_append_full {α : Type} {n : Nat} {f : α → List Value} (hn : ∀ x, (f x).length = n) {ops : Array Oper} {rest : List Oper} {o : Oper} {a : Act} {Q : Exit → Act → World → Prop} (hgd : o.guard = none) (s x : Operand) (t : TypeId)
    (ho : o.op = .call { callee := .builtin .append, args := #[s, x], argTypes := #[t, t] })
    (e bt : Nat) (i : TypeInfo) (z : Value) (ht : P.underlying t = some (.slice e)) (hi : P.info? e = some i) (hz : i.zero = some z) (hsize : i.size = n) (hn0 : 0 < n) (hby : i.bytes = bt) (hbt : bt ≤ 400) (hzs : z.cells.size = n)
    {b b2 : Addr} {c2 B B2 : Nat} (l m : List α) (hs : a.eval s = .slice (some b) l.length l.length) (hx : a.eval x = .slice (some b2) m.length c2) (hrl : Rk n f w B (some b) l.length l) (hr : Rk n f w B2 (some b2) c2 m)
    (hle : l.length + m.length ≤ 4000000000) (hm : 0 < m.length)
    (h : ∀ c' w' r, Hid (r = l ++ m) → OwK n f w' w.heap.size e (some ⟨w.heap.size, 0, none⟩) c' r → Below w.heap.size w w' → wpList P ops Q rest (a.put o.dst (.slice (some ⟨w.heap.size, 0, none⟩) r.length c')) w') :
    wpList P ops Q (o :: rest) a w := by
  have cells : ∀ {B : Nat} {b : Addr} {c : Nat} {l : List α}, Rk n f w B (some b) c l → ∀ j u, (flatK f l)[j]? = some u → w.cell? (b.add j) = some u := by
    intro B b c l hr j u hu
    have hj := (List.getElem?_eq_some_iff.1 hu).1
    rw [flatK_len hn] at hj
    have hd : j / n < l.length := Nat.div_lt_of_lt_mul (by rwa [Nat.mul_comm] at hj)
    have hm := Nat.mod_lt j hn0
    have e1 : j / n * n + j % n = j := by rw [Nat.mul_comm]; exact Nat.div_add_mod j n
    have h2 := flatK_get hn l (j / n) hd (j % n) hm
    rw [e1, hu] at h2
    have := (hr.cell b rfl (j / n) hd).2 (j % n) u h2.symm
    rwa [e1] at this
  have hfit : Builtin.nextslicecap (l.length + m.length) l.length * i.bytes ≤ 281474976710656 := by
    refine growslice_fits (by omega) ?_
    rw [hby]
    have := Nat.mul_le_mul hle hbt
    omega
  have hrun := run_append_grow (P := P) w t o.type e i z ht hi hz b l.length l.length (flatK f l) (by rw [flatK_len hn, hsize]) (cells hrl) b2 m.length c2 (flatK f m) (by rw [flatK_len hn, hsize]) (cells hr) (by omega) (by omega) hfit
  have hge := grownCap_ge w (l.length + m.length) l.length e
  have hcm := grownCap_le_maxLen w (l.length + m.length) l.length e (by simp only [maxLen]; omega)
  generalize grownCap w (l.length + m.length) l.length e = cap at hrun hge hcm
  refine wpList_plain hgd fun K hK => ?_
  unfold Oper.wp execOp
  simp only [ho, resolve, invoke, builtin, Sem.run_bind, Sem.run_pure, Result.andThen_ok, List.map_toArray, List.map_cons, List.map_nil, hs, hx, hrun]
  have hlen : (flatK f l ++ flatK f m).length = (l ++ m).length * n := by rw [← flatK_append, flatK_len hn]
  have key := h cap _ (l ++ m) rfl (show OwK n f (w.drew.alloc (.cells ((flatK f l).toArray ++ (flatK f m).toArray ++ Builtin.zeroCells z.cells (cap - (l.length + m.length))) e)) w.heap.size e (some ⟨w.heap.size, 0, none⟩) cap (l ++ m) from by
    refine ⟨by rw [flatK_len hn], .inr ⟨w.heap.size, cap, _, rfl, Nat.le_refl _, heap_alloc_new w.drew _, by rw [List.length_append]; exact hge, hcm, ?_, ?_⟩⟩
    · simp only [Array.size_append, List.size_toArray, size_zeroCells, hzs, flatK_len hn, ← Nat.add_mul]
      congr 1
      omega
    · simp only [Array.toList_append, List.append_assoc, flatK_append]
      rw [← List.append_assoc, ← hlen]
      exact List.take_left) ((Below.refl _ w).drew.alloc (Nat.le_refl _) _)
  rw [List.length_append] at key
  exact hK _ _ key

/-- What make lays. -/
theorem made_flat {α : Type} {n : Nat} {f : α → List Value} (hn : ∀ x, (f x).length = n) (z : Array Value) (x : α) (hx : f x = z.toList) (k : Nat) : (madeCells z (k * n)).toList = flatK f (List.replicate k x) := by
  have hzn : z.size = n := by rw [← hn x, hx]; simp
  refine List.ext_getElem? fun j => ?_
  by_cases hj : j < k * n
  · have hn0 : 0 < n := Nat.pos_of_ne_zero (fun e => by rw [e] at hj; omega)
    have hd : j / n < k := Nat.div_lt_of_lt_mul (by rwa [Nat.mul_comm] at hj)
    have hm := Nat.mod_lt j hn0
    have e1 : j / n * n + j % n = j := by rw [Nat.mul_comm]; exact Nat.div_add_mod j n
    have h2 := flatK_get hn (List.replicate k x) (j / n) (by simpa using hd) (j % n) hm
    rw [e1] at h2
    rw [h2, List.getElem_replicate, hx]
    have hms : j % z.size < z.size := by rw [hzn]; exact hm
    unfold madeCells
    simp only [Array.toList_map, Array.toList_range, List.getElem?_map, List.getElem?_range hj, Option.map_some]
    rw [getElem!_pos z _ hms, Array.getElem?_toList, ← hzn, Array.getElem?_eq_getElem hms]
  · have h1 : (madeCells z (k * n)).toList.length = k * n := by simp [size_madeCells]
    rw [List.getElem?_eq_none (by omega), List.getElem?_eq_none (by rw [flatK_len hn, List.length_replicate]; omega)]

/-- make of structs. -/
theorem wpList_make_k {α : Type} {n : Nat} {f : α → List Value} (hn : ∀ x, (f x).length = n) {ops : Array Oper} {rest : List Oper} {o : Oper} {a : Act} {Q : Exit → Act → World → Prop} (hgd : o.guard = none) (lo co : Operand) (t : TypeId)
    (ho : o.op = .makeSlice t lo co)
    (e bt : Nat) (i : TypeInfo) (z : Value) (ht : P.underlying t = some (.slice e)) (hi : P.info? e = some i) (hz : i.zero = some z) (hsize : i.size = n) (hby : i.bytes = bt) (hbt : bt ≤ 400)
    (k : Nat) (hl : a.eval lo = .int .i64 k) (hc : a.eval co = .int .i64 k) (hk : k ≤ 1000000) (x : α) (hx : (madeCells z.cells (k * n)).toList = flatK f (List.replicate k x))
    (h : ∀ w', OwK n f w' w.heap.size e (some ⟨w.heap.size, 0, none⟩) k (List.replicate k x) → Below w.heap.size w w' → wpList P ops Q rest (a.put o.dst (.slice (some ⟨w.heap.size, 0, none⟩) k k)) w') :
    wpList P ops Q (o :: rest) a w := by
  refine wpList_plain hgd fun K hK => ?_
  obtain ⟨w', hrun, hown, hg⟩ := run_make_full (P := P) w w.heap.size t e i z n ht hi hz hsize .i64 .i64 k (by rw [hby]; have := Nat.mul_le_mul hbt hk; omega) (by simp only [maxLen]; omega) (Nat.le_refl _)
  unfold Oper.wp
  simp only [execOp, ho, hl, hc, hrun, Result.andThen, Sem.run_bind, Sem.run_pure]
  refine hK _ _ (h w' ?_ (below_of_grown hg (Nat.le_refl _) (fun k e => by cases e)))
  unfold OwK
  rw [List.length_replicate, ← hx]
  exact hown
end
end Go.Proofs.YtikhffdbjelanaaDoor
namespace Go.Proofs.YtikhffdbjelanaaDoor
open Go.RowKit
set_option linter.unusedVariables false

/-- Cells written into a list from a place on. -/
def putL : List Value → Nat → List Value → List Value
  | xs, _, [] => xs
  | xs, o, v :: vs => putL (xs.set o v) (o + 1) vs
theorem putL_len : ∀ (vs xs : List Value) (o : Nat), (putL xs o vs).length = xs.length
  | [], xs, o => rfl
  | v :: vs, xs, o => by unfold putL; rw [putL_len vs, List.length_set]
theorem putL_out : ∀ (vs xs : List Value) (o i : Nat), i < o ∨ o + vs.length ≤ i → (putL xs o vs)[i]? = xs[i]?
  | [], xs, o, i, h => rfl
  | v :: vs, xs, o, i, h => by
    simp only [List.length_cons] at h
    unfold putL
    rw [putL_out vs _ _ i (by omega), List.getElem?_set_ne (by omega)]
theorem putL_in : ∀ (vs xs : List Value) (o j : Nat), o + vs.length ≤ xs.length → j < vs.length → (putL xs o vs)[o + j]? = vs[j]?
  | [], xs, o, j, h, hj => by simp at hj
  | v :: vs, xs, o, 0, h, hj => by
    simp only [List.length_cons] at h
    unfold putL
    rw [putL_out vs _ _ _ (by omega), Nat.add_zero, List.getElem?_set_self (by omega)]; rfl
  | v :: vs, xs, o, j + 1, h, hj => by
    simp only [List.length_cons] at h hj
    unfold putL
    have := putL_in vs (xs.set o v) (o + 1) j (by rw [List.length_set]; omega) (by omega)
    rw [show o + (j + 1) = o + 1 + j by omega, this]; rfl
theorem owns_setCells {base e size n cap g : Nat} : ∀ (vs : List Value) (o : Nat) (w : World) (xs : List Value), w.ownsRow base e size (.slice (some ⟨g, 0, none⟩) n cap) n xs → o + vs.length ≤ xs.length →
    (w.setCells g o vs).ownsRow base e size (.slice (some ⟨g, 0, none⟩) n cap) n (putL xs o vs) ∧ w.grownBy (w.setCells g o vs) (some g)
  | [], o, w, xs, h, hl => ⟨h, World.grownBy.refl w _⟩
  | v :: vs, o, w, xs, h, hl => by
    simp only [List.length_cons] at hl
    obtain ⟨h1, h2⟩ := World.ownsRow.stored h o v
    obtain ⟨h3, h4⟩ := owns_setCells vs (o + 1) _ _ h1 (by rw [List.length_set]; omega)
    refine ⟨h3, ?_⟩
    exact ⟨h4.os.trans h2.os, h4.tape.trans h2.tape, h4.output.trans h2.output, Nat.le_trans h2.size h4.size, fun k hk hne => (h4.block k (Nat.lt_of_lt_of_le hk h2.size) hne).trans (h2.block k hk hne)⟩
section
variable {α : Type} {n : Nat} {f : α → List Value} (hf : ∀ x, (f x).length = n)
include hf in
theorem flatK_put (xs : List α) (j : Nat) (h : j < xs.length) (y : α) : putL (flatK f xs) (j * n) (f y) = flatK f (xs.set j y) := by
  have hl : j * n + n ≤ xs.length * n := by
    have h1 : (j + 1) * n ≤ xs.length * n := Nat.mul_le_mul_right _ h
    rwa [Nat.succ_mul] at h1
  refine List.ext_getElem? fun i => ?_
  by_cases hi : i < xs.length * n
  · have hn0 : 0 < n := Nat.pos_of_ne_zero (fun e => by rw [e] at hi; omega)
    have hd : i / n < xs.length := Nat.div_lt_of_lt_mul (by rwa [Nat.mul_comm] at hi)
    have hm := Nat.mod_lt i hn0
    have e1 : i / n * n + i % n = i := by rw [Nat.mul_comm]; exact Nat.div_add_mod i n
    have h2 := flatK_get hf (xs.set j y) (i / n) (by simpa using hd) (i % n) hm
    have h3 := flatK_get hf xs (i / n) hd (i % n) hm
    rw [e1] at h2 h3
    rw [h2]
    by_cases hij : i / n = j
    · have h4 := putL_in (f y) (flatK f xs) (j * n) (i % n) (by rw [hf, flatK_len hf]; exact hl) (by rw [hf]; exact hm)
      rw [← hij, e1] at h4
      rw [← hij, h4]
      simp
    · rw [putL_out, h3, List.getElem_set_ne (fun e => hij e.symm)]
      rw [hf]
      rcases Nat.lt_or_gt_of_ne hij with hlt | hgt
      · left
        have h1 : (i / n + 1) * n ≤ j * n := Nat.mul_le_mul_right _ hlt
        rw [Nat.succ_mul] at h1
        omega
      · right
        have h1 : (j + 1) * n ≤ i / n * n := Nat.mul_le_mul_right _ hgt
        rw [Nat.succ_mul] at h1
        omega
  · rw [List.getElem?_eq_none (by rw [putL_len, flatK_len hf]; omega), List.getElem?_eq_none (by rw [flatK_len hf, List.length_set]; omega)]
variable {w : World} {base e c g : Nat} {xs : List α}
include hf in
/-- An element is stored whole. -/
theorem OwK.put (h : OwK n f w base e (some ⟨g, 0, none⟩) c xs) (j : Nat) (hj : j < xs.length) (y : α) :
    OwK n f (w.setCells g (j * n) (f y)) base e (some ⟨g, 0, none⟩) c (xs.set j y) ∧ w.grownBy (w.setCells g (j * n) (f y)) (some g) := by
  have hl : j * n + n ≤ xs.length * n := by
    have h1 : (j + 1) * n ≤ xs.length * n := Nat.mul_le_mul_right _ hj
    rwa [Nat.succ_mul] at h1
  obtain ⟨h1, h2⟩ := owns_setCells (f y) (j * n) w _ h (by rw [hf, flatK_len hf]; exact hl)
  refine ⟨?_, h2⟩
  unfold OwK
  rw [List.length_set, ← flatK_put hf xs j hj y]
  exact h1
include hf in
theorem OwK.there (h : OwK n f w base e (some ⟨g, 0, none⟩) c xs) (j : Nat) (hj : j < xs.length) : w.there g (j * n) n := by
  intro i hi
  refine ⟨?_, h.frozen _⟩
  rw [h.cell hf j hj i hi, List.getElem?_eq_getElem (by rw [hf]; exact hi)]
  rfl
end
/-- The same, for the walk. -/
theorem wpList_store_k {P : Program} {α : Type} {n : Nat} {f : α → List Value} (hf : ∀ x, (f x).length = n) (h1 : ∀ x, ∀ u ∈ f x, u.oneCell' = true) {w : World} {ops : Array Oper} {rest : List Oper} {o : Oper} {a : Act} {Q : Exit → Act → World → Prop} (hgd : o.guard = none) (ty : TypeId) (y z : Operand) (ho : o.op = .store ty y z)
    (hi : (P.info? ty).map (·.size) = some n) (g j off : Nat) (hoff : off = j * n) (hx : a.eval y = .pointer (some ⟨g, off, none⟩)) {base e c : Nat} {xs : List α} (h : OwK n f w base e (some ⟨g, 0, none⟩) c xs) (hj : j < xs.length) (x : α) (hy : a.eval z = .agg (f x).toArray)
    (hK : ∀ w' r, Hid (r = xs.set j x) → OwK n f w' base e (some ⟨g, 0, none⟩) c r → w.grownBy w' (some g) → wpList P ops Q rest (a.put o.dst undef) w') : wpList P ops Q (o :: rest) a w := by
  subst hoff
  have hsz : (f x).toArray.size = n := by rw [List.size_toArray, hf]
  obtain ⟨h2, h3⟩ := h.put hf j hj x
  refine wpList_store_mid hgd ty y z ho g (j * n) (f x).toArray hx hy (by rw [hsz]; exact h.there hf j hj) (by rw [hsz]; exact hi) (all_oneCell_toArray (h1 x)) (hK _ _ rfl ?_ h3)
  exact h2
/-- A literal. -/
theorem rk_lit {α : Type} {n : Nat} {f : α → List Value} (hn : ∀ x, (f x).length = n) (w : World) (xs : List α) (cs : Array Value) (hcs : cs = (flatK f xs).toArray) (hl : xs.length ≤ 1000000) (e : Nat) : Rk n f (w.alloc (.cells cs e)) (w.heap.size + 1) (some ⟨w.heap.size, 0, none⟩) xs.length xs := by
  subst hcs
  refine ⟨Nat.le_refl _, by unfold maxLen; omega, (fun e => by cases e), fun ad he j hj => ?_⟩
  obtain rfl := Option.some.inj he
  refine ⟨by simp, fun i u hu => ?_⟩
  have hi : i < n := by
    have := (List.getElem?_eq_some_iff.1 hu).1
    rwa [hn] at this
  have hbk : Blk (w.alloc (.cells (flatK f xs).toArray e)) w.heap.size e (flatK f xs).toArray := Blk.new w _ _
  rw [add_plain, hbk.cell, Nat.zero_add, List.getElem?_toArray, flatK_get hn xs j hj i hi]
  exact hu
/-- A literal of one-cell elements. -/
theorem rf_lit {α : Type} {f : α → Value} (w : World) (xs : List α) (cs : Array Value) (hcs : cs = (xs.map f).toArray) (hl : xs.length ≤ 1000000) (e : Nat) : Rf f (w.alloc (.cells cs e)) (w.heap.size + 1) (some ⟨w.heap.size, 0, none⟩) xs.length xs := by
  subst hcs
  refine ⟨Nat.le_refl _, by unfold maxLen; omega, (fun e => by cases e), fun ad he j hj => ?_⟩
  obtain rfl := Option.some.inj he
  refine ⟨by simp, ?_⟩
  have hbk : Blk (w.alloc (.cells (xs.map f).toArray e)) w.heap.size e (xs.map f).toArray := Blk.new w _ _
  rw [add_plain, hbk.cell, Nat.zero_add, List.getElem?_toArray, List.getElem?_map, List.getElem?_eq_getElem hj]
  rfl
end Go.Proofs.YtikhffdbjelanaaDoor
namespace Go.Proofs.YtikhffdbjelanaaDoor
open Go.RowKit
set_option linter.unusedVariables false

theorem step_append_v {P : Program} {w : World} {α : Type} {f : α → Value} (hf : ∀ x, (f x).oneCell' = true) {ops : Array Oper} {o : Oper} {a : Act} {K : Act → World → Prop} {Q : Exit → Act → World → Prop} {E : Prop} (hgd : o.guard = none) (s x : Operand) (t : TypeId)
    (ho : o.op = .call { callee := .builtin .append, args := #[s, x], argTypes := #[t, t] })
    (base e bt : Nat) (i : TypeInfo) (z : Value) (ht : P.underlying t = some (.slice e)) (hi : P.info? e = some i) (hz : i.zero = some z) (hsize : i.size = 1) (hby : i.bytes = bt) (hbt : bt ≤ 24) (hzs : z.cells.size = 1)
    {A A2 : Option Addr} {c c2 B : Nat} (l m : List α) (hs : a.eval s = .slice A l.length c) (hx : a.eval x = .slice A2 m.length c2) (hown : Ow f w base e A c l) (hr : Rf f w B A2 c2 m)
    (hle : l.length + m.length ≤ 4000000000) (hbase : base ≤ w.heap.size)
    (h : ∀ A' c' w' r, Hid (r = l ++ m) → Ow f w' base e A' c' r → w.grownBy w' (blk A) → (blk A' = blk A ∨ blk A' = some w.heap.size) → K (a.put o.dst (.slice A' r.length c')) w') :
    if Region.wanted o (yielded ops a.tmps) = true then Oper.wp P o a w K Q else E := by
  have hw : Region.wanted o (yielded ops a.tmps) = true := by simp [Region.wanted, hgd]
  rw [if_pos hw]
  obtain ⟨A', c', w', hrun, h2, h3, h4⟩ := run_append_f (P := P) w hf base e bt t o.type i z ht hi hz hsize hby hbt hzs hown hr hle hbase
  unfold Oper.wp execOp
  simp only [ho, resolve, invoke, builtin, Sem.run_bind, Sem.run_pure, Result.andThen_ok, List.map_toArray, List.map_cons, List.map_nil, hs, hx, hrun]
  exact h A' c' w' _ rfl h2 h3 h4
/-- 'append(b, s...)' of a string. -/
theorem step_append_s {P : Program} {w : World} {ops : Array Oper} {o : Oper} {a : Act} {K : Act → World → Prop} {Q : Exit → Act → World → Prop} {E : Prop} (hgd : o.guard = none) (sl x : Operand) (t u : TypeId)
    (ho : o.op = .call { callee := .builtin .append, args := #[sl, x], argTypes := #[t, u] })
    (base : Nat) (e : TypeId) (i : TypeInfo) (ht : P.underlying t = some (.slice e)) (hu : P.underlying u = some .string) (hi : P.info? e = some i) (hz : i.zero = some (.int .u8 0))
    (hsize : i.size = 1) (hby : i.bytes = 1) {A : Option Addr} {c : Nat} (l m : List UInt8) (hs : a.eval sl = .slice A l.length c) (hx : a.eval x = .string ⟨m.toArray⟩) (hown : Ow bv w base e A c l)
    (hle : l.length + m.length ≤ 4000000000) (hbase : base ≤ w.heap.size)
    (h : ∀ A' c' w' r, Hid (r = l ++ m) → Ow bv w' base e A' c' r → w.grownBy w' (blk A) → K (a.put o.dst (.slice A' r.length c')) w') :
    if Region.wanted o (yielded ops a.tmps) = true then Oper.wp P o a w K Q else E := by
  have hw : Region.wanted o (yielded ops a.tmps) = true := by simp [Region.wanted, hgd]
  rw [if_pos hw]
  obtain ⟨v', w', hrun, h2, h3, _⟩ := Lib.run_append_own_string (P := P) w base t u o.type e i ht hu hi hz hsize hby _ _ _ hown ⟨m.toArray⟩ (by simp [ByteArray.size, maxLen]; omega) (by simp [ByteArray.size]; omega) hbase
  have e1 : l.length + (⟨m.toArray⟩ : ByteArray).size = (l ++ m).length := by simp [ByteArray.size]
  have e2 : l.map bv ++ Lib.strCells ⟨m.toArray⟩ = (l ++ m).map bv := by
    rw [List.map_append]
    congr 1
  rw [e1, e2] at h2
  have hform : ∃ A' c', v' = .slice A' (l ++ m).length c' := by
    rcases h2.2 with ⟨rfl, hn⟩ | ⟨g, cap, cur, rfl, _⟩
    · exact ⟨none, 0, by rw [hn]⟩
    · exact ⟨_, _, rfl⟩
  obtain ⟨A', c', rfl⟩ := hform
  rw [own_block] at h3
  unfold Oper.wp execOp
  simp only [ho, resolve, invoke, builtin, Sem.run_bind, Sem.run_pure, Result.andThen_ok, List.map_toArray, List.map_cons, List.map_nil, hs, hx, hrun]
  exact h A' c' w' _ rfl h2 h3
/-- Of structs. -/
theorem step_append_k {P : Program} {w : World} {α : Type} {n : Nat} {f : α → List Value} (hn : ∀ x, (f x).length = n) (h1 : ∀ x, ∀ u ∈ f x, u.oneCell' = true) {ops : Array Oper} {o : Oper} {a : Act} {K : Act → World → Prop} {Q : Exit → Act → World → Prop} {E : Prop} (hgd : o.guard = none) (s x : Operand) (t : TypeId)
    (ho : o.op = .call { callee := .builtin .append, args := #[s, x], argTypes := #[t, t] })
    (base e bt : Nat) (i : TypeInfo) (z : Value) (ht : P.underlying t = some (.slice e)) (hi : P.info? e = some i) (hz : i.zero = some z) (hsize : i.size = n) (hn0 : 0 < n) (hby : i.bytes = bt) (hbt : bt ≤ 400) (hzs : z.cells.size = n)
    {A A2 : Option Addr} {c c2 B : Nat} (l m : List α) (hs : a.eval s = .slice A l.length c) (hx : a.eval x = .slice A2 m.length c2) (hown : OwK n f w base e A c l) (hr : Rk n f w B A2 c2 m)
    (hle : l.length + m.length ≤ 4000000000) (hbase : base ≤ w.heap.size)
    (h : ∀ A' c' w' r, Hid (r = l ++ m) → OwK n f w' base e A' c' r → w.grownBy w' (blk A) → (blk A' = blk A ∨ blk A' = some w.heap.size) → K (a.put o.dst (.slice A' r.length c')) w') :
    if Region.wanted o (yielded ops a.tmps) = true then Oper.wp P o a w K Q else E := by
  have hw : Region.wanted o (yielded ops a.tmps) = true := by simp [Region.wanted, hgd]
  rw [if_pos hw]
  obtain ⟨A', c', w', hrun, h2, h3, h4⟩ := run_append_k (P := P) w hn h1 base e bt t o.type i z ht hi hz hsize hn0 hby hbt hzs hown hr hle hbase
  unfold Oper.wp execOp
  simp only [ho, resolve, invoke, builtin, Sem.run_bind, Sem.run_pure, Result.andThen_ok, List.map_toArray, List.map_cons, List.map_nil, hs, hx, hrun]
  exact h A' c' w' _ rfl h2 h3 h4
end Go.Proofs.YtikhffdbjelanaaDoor
namespace Go.Proofs.YtikhffdbjelanaaDoor
open Go.RowKit
set_option linter.unusedVariables false

/-! ### The order of names -/
def ltB (x y : List UInt8) : Bool := Op.bytesLess x y
theorem ltB_nil (x : List UInt8) : ltB x [] = false := by cases x <;> rfl
theorem ltB_nil_cons (b : UInt8) (y : List UInt8) : ltB [] (b :: y) = true := rfl
theorem ltB_cons (a b : UInt8) (x y : List UInt8) : ltB (a :: x) (b :: y) = (decide (a < b) || (a == b && ltB x y)) := rfl
theorem ltB_irrefl : ∀ x, ltB x x = false
  | [] => rfl
  | a :: x => by
    have h1 : ¬ a < a := by rw [UInt8.lt_iff_toNat_lt]; omega
    rw [ltB_cons, ltB_irrefl x, decide_eq_false h1]; simp
theorem ltB_trans : ∀ {x y z : List UInt8}, ltB x y = true → ltB y z = true → ltB x z = true
  | x, [], z, h, _ => by rw [ltB_nil] at h; cases h
  | x, b :: y, [], _, h => by rw [ltB_nil] at h; cases h
  | [], b :: y, c :: z, _, _ => rfl
  | a :: x, b :: y, c :: z, h, k => by
    rw [ltB_cons] at h k ⊢
    simp only [Bool.or_eq_true, decide_eq_true_eq, Bool.and_eq_true, beq_iff_eq] at h k ⊢
    rw [UInt8.lt_iff_toNat_lt] at *
    rcases h with h | ⟨rfl, h⟩
    · rcases k with k | ⟨rfl, k⟩
      · exact .inl (by omega)
      · exact .inl h
    · rcases k with k | ⟨rfl, k⟩
      · exact .inl k
      · exact .inr ⟨rfl, ltB_trans h k⟩
theorem ltB_asymm {x y : List UInt8} (h : ltB x y = true) : ltB y x = false := by
  rw [Bool.eq_false_iff]
  intro k
  have := ltB_trans h k
  rw [ltB_irrefl] at this; cases this
theorem ltB_tri : ∀ {x y : List UInt8}, ltB x y = false → ltB y x = false → x = y
  | [], [], _, _ => rfl
  | [], b :: y, h, _ => by cases h
  | a :: x, [], _, h => by cases h
  | a :: x, b :: y, h, k => by
    rw [ltB_cons] at h k
    simp only [Bool.or_eq_false_iff, decide_eq_false_iff_not, Bool.and_eq_false_iff] at h k
    obtain ⟨h1, h2⟩ := h
    obtain ⟨k1, k2⟩ := k
    rw [UInt8.lt_iff_toNat_lt] at h1 k1
    have e : a = b := UInt8.toNat_inj.1 (by omega)
    subst e
    simp only [beq_self_eq_true, Bool.true_eq_false, false_or] at h2 k2
    rw [ltB_tri h2 k2]

/-! ### Voters and rolls -/
/-- A voter: name, precinct, state. -/
structure Vt where
  name : List UInt8
  pre : Int
  state : Nat
deriving DecidableEq
def mayV (v : Vt) : Bool := nameB v.name && (decide (0 ≤ v.pre) && (decide (v.pre < 8) && (decide (1 ≤ v.state) && decide (v.state ≤ 4))))
theorem mayV_iff (v : Vt) : mayV v = true ↔ nameB v.name = true ∧ 0 ≤ v.pre ∧ v.pre < 8 ∧ 1 ≤ v.state ∧ v.state ≤ 4 := by simp [mayV]
def ascV : List Vt → Bool
  | [] => true
  | [_] => true
  | x :: y :: l => ltB x.name y.name && ascV (y :: l)
def rollB (l : List Vt) : Bool := l.all mayV && ascV l
def checkV (l : List Vt) : Int := if 64 < l.length then 4 else if rollB l then 0 else 8
theorem ascV_iff : ∀ l : List Vt, ascV l = true ↔ ∀ i (h : i + 1 < l.length), ltB l[i].name l[i+1].name = true
  | [] => by simp [ascV]
  | [x] => by simp [ascV]
  | x :: y :: l => by
    have ih := ascV_iff (y :: l)
    rw [ascV, Bool.and_eq_true, ih]
    constructor
    · rintro ⟨h1, h2⟩ i h
      cases i with
      | zero => exact h1
      | succ i => exact h2 i (by simpa using h)
    · intro h
      exact ⟨h 0 (by simp), fun i hi => h (i + 1) (by simpa using hi)⟩
theorem ascV_lt {l : List Vt} (h : ascV l = true) : ∀ (j i : Nat) (hj : j < l.length) (hi : i < j), ltB (l[i]'(by omega)).name l[j].name = true := by
  have h0 := (ascV_iff l).1 h
  intro j
  induction j with
  | zero => intro i hj hi; omega
  | succ j ih =>
    intro i hj hi
    by_cases e : i = j
    · subst e; exact h0 i hj
    · exact ltB_trans (ih i (by omega) (by omega)) (h0 j hj)
/-- A roll. -/
theorem rowV_iff (l : List Vt) : rollB l = true ↔ (∀ v ∈ l, mayV v = true) ∧ ascV l = true := by simp [rollB]
theorem rowV_at (l : List Vt) : rollB l = true ↔ ∀ i (h : i < l.length), mayV l[i] = true ∧ (0 < i → ltB (l[i-1]'(by omega)).name l[i].name = true) := by
  rw [rowV_iff, ascV_iff]
  constructor
  · rintro ⟨h1, h2⟩ i h
    refine ⟨h1 _ (List.getElem_mem h), fun hi => ?_⟩
    have := h2 (i - 1) (by omega)
    have e : i - 1 + 1 = i := by omega
    simp only [e] at this
    exact this
  · intro h
    refine ⟨fun v hv => ?_, fun i hi => ?_⟩
    · obtain ⟨i, hi, rfl⟩ := List.getElem_of_mem hv
      exact (h i hi).1
    · have := (h (i + 1) hi).2 (by omega)
      exact this
theorem checkV_ok {l : List Vt} : checkV l = 0 ↔ l.length ≤ 64 ∧ rollB l = true := by
  unfold checkV
  constructor
  · intro h
    split at h
    · cases h
    · split at h
      · exact ⟨by omega, by assumption⟩
      · cases h
  · rintro ⟨h1, h2⟩
    rw [if_neg (by omega), if_pos h2]
theorem checkV_cases (l : List Vt) : checkV l = 0 ∨ checkV l = 4 ∨ checkV l = 8 := by
  unfold checkV
  split
  · exact .inr (.inl rfl)
  · split
    · exact .inl rfl
    · exact .inr (.inr rfl)

/-! ### Positions -/
def atV (l : List Vt) (n : List UInt8) : Option Nat := l.findIdx? fun v => decide (v.name = n)
theorem atV_some {l : List Vt} {n : List UInt8} {i : Nat} (h : atV l n = some i) : ∃ hi : i < l.length, l[i].name = n ∧ ∀ j (hj : j < i), (l[j]'(by omega)).name ≠ n := by
  unfold atV at h
  rw [List.findIdx?_eq_some_iff_getElem] at h
  obtain ⟨hi, h1, h2⟩ := h
  refine ⟨hi, by simpa using h1, fun j hj => ?_⟩
  have := h2 j hj
  simpa using this
theorem atV_mk {l : List Vt} {n : List UInt8} {i : Nat} (hi : i < l.length) (h : l[i].name = n) (hpre : ∀ j (hj : j < i), (l[j]'(by omega)).name ≠ n) : atV l n = some i := by
  unfold atV
  rw [List.findIdx?_eq_some_iff_getElem]
  exact ⟨hi, by simpa using h, fun j hj => by simpa using hpre j hj⟩
theorem atV_none {l : List Vt} {n : List UInt8} : atV l n = none ↔ ∀ v ∈ l, v.name ≠ n := by
  unfold atV
  rw [List.findIdx?_eq_none_iff]
  simp
/-- In a roll a voter's name leads to him. -/
theorem atV_self {l : List Vt} (h : ascV l = true) (i : Nat) (hi : i < l.length) : atV l l[i].name = some i := by
  refine atV_mk hi rfl fun j hj e => ?_
  have := ascV_lt h i j hi hj
  rw [e, ltB_irrefl] at this
  cases this
/-- The index of a name, or -1. -/
def atI (l : List Vt) (n : List UInt8) : Int := match atV l n with | some i => (i : Int) | none => -1

/-! ### Adding -/
def insV : List Vt → Vt → List Vt
  | [], v => [v]
  | x :: l, v => if ltB v.name x.name then v :: x :: l else x :: insV l v
theorem insV_len : ∀ (l : List Vt) (v : Vt), (insV l v).length = l.length + 1
  | [], v => rfl
  | x :: l, v => by
    unfold insV
    split
    · rfl
    · simp [insV_len l v]
theorem insV_mem : ∀ (l : List Vt) (v y : Vt), y ∈ insV l v ↔ y = v ∨ y ∈ l
  | [], v, y => by simp [insV]
  | x :: l, v, y => by
    unfold insV
    split
    · simp
    · rw [List.mem_cons, insV_mem l v y, List.mem_cons]
      constructor
      · rintro (h | h | h) <;> simp [h]
      · rintro (h | h | h) <;> simp [h]
theorem insV_asc : ∀ {l : List Vt} {v : Vt}, ascV l = true → (∀ x ∈ l, x.name ≠ v.name) → ascV (insV l v) = true
  | [], v, _, _ => rfl
  | [x], v, _, hn => by
    unfold insV
    split
    · rename_i h; simp [ascV, h]
    · rename_i h
      have hx := hn x (List.mem_cons_self ..)
      have : ltB x.name v.name = true := by
        cases hc : ltB x.name v.name with
        | true => rfl
        | false => exact absurd (ltB_tri hc (by simpa using h)) hx
      simp [insV, ascV, this]
  | x :: y :: l, v, h, hn => by
    rw [ascV, Bool.and_eq_true] at h
    obtain ⟨h1, h2⟩ := h
    unfold insV
    split
    · rename_i h; simp [ascV, h, h1, h2]
    · rename_i h
      have hx := hn x (List.mem_cons_self ..)
      have hxv : ltB x.name v.name = true := by
        cases hc : ltB x.name v.name with
        | true => rfl
        | false => exact absurd (ltB_tri hc (by simpa using h)) hx
      have ih := insV_asc (l := y :: l) (v := v) h2 (fun z hz => hn z (List.mem_cons_of_mem _ hz))
      unfold insV at ih ⊢
      split
      · rename_i k; rw [if_pos k] at ih
        rw [ascV, hxv, ih]; rfl
      · rename_i k; rw [if_neg k] at ih
        rw [ascV, h1, ih]; rfl
/-- Where the new voter comes to stand. -/
theorem insV_split : ∀ (l : List Vt) (v : Vt), ∃ p, p ≤ l.length ∧ insV l v = l.take p ++ v :: l.drop p
  | [], v => ⟨0, by simp, rfl⟩
  | x :: l, v => by
    unfold insV
    split
    · exact ⟨0, by simp, rfl⟩
    · obtain ⟨p, hp, e⟩ := insV_split l v
      exact ⟨p + 1, by simpa using hp, by rw [e]; rfl⟩
def newV (n : List UInt8) (p : Int) : Vt := ⟨n, p, 1⟩
def addV (l : List Vt) (n : List UInt8) (p : Int) : List Vt × Int :=
  if checkV l ≠ 0 then ([], checkV l)
  else if mayV (newV n p) = false then ([], 2)
  else if (atV l n).isSome then ([], 240)
  else if 64 ≤ l.length then ([], 9)
  else (insV l (newV n p), 0)

/-! ### The operations -/
/-- What state an operation asks for, and which it leads to: 1 Issue, 2 Return, 3 Vote, 4 Strike, any other number Restore. -/
def wasis (what : Int) : Nat × Nat := if what = 1 then (1, 2) else if what = 2 then (2, 1) else if what = 3 then (2, 3) else if what = 4 then (1, 4) else (4, 1)
def doneV (l : List Vt) (n : List UInt8) (what : Int) : List Vt × Int :=
  if checkV l ≠ 0 then ([], checkV l)
  else match atV l n with
    | none => ([], 6)
    | some i => match l[i]? with
      | none => ([], 6)
      | some v => if v.state ≠ (wasis what).1 then ([], 241) else (l.set i { v with state := (wasis what).2 }, 0)
def zeroV : Vt := ⟨[], 0, 0⟩
def findV (l : List Vt) (n : List UInt8) : Vt × Int :=
  if checkV l ≠ 0 then (zeroV, checkV l)
  else match atV l n with
    | none => (zeroV, 6)
    | some i => (l[i]?.getD zeroV, 0)
def manyV (l : List Vt) (p : Int) (s : Nat) : Nat := l.countP fun v => decide (v.state = s) && (decide (p < 0) || decide (v.pre = p))
/-- A turnout: four numbers. -/
structure To where
  free : Nat
  holds : Nat
  voted : Nat
  struck : Nat
deriving DecidableEq
def zeroT : To := ⟨0, 0, 0, 0⟩
def toV (l : List Vt) (p : Int) : To := ⟨manyV l p 1, manyV l p 2, manyV l p 3, manyV l p 4⟩
def countV (l : List Vt) (p : Int) : To × Int :=
  if checkV l ≠ 0 then (zeroT, checkV l) else if p < -1 ∨ 8 ≤ p then (zeroT, 2) else (toV l p, 0)

/-! ### The encoding -/
def fieldV (v : Vt) : List UInt8 := UInt8.ofNat v.pre.toNat :: UInt8.ofNat v.state :: v.name
def textV (l : List Vt) : List UInt8 := Oc.flat (l.map fieldV)
def bytesV (l : List Vt) : List UInt8 × Int := if checkV l ≠ 0 then ([], checkV l) else (textV l, 0)
def ofField : List UInt8 → Option Vt
  | p :: s :: n => some ⟨n, (p.toNat : Int), s.toNat⟩
  | _ => none
def ofFields : List (List UInt8) → Option (List Vt)
  | [] => some []
  | f :: fs => match ofField f, ofFields fs with | some v, some l => some (v :: l) | _, _ => none
noncomputable def readV (b : List UInt8) : List Vt × Int :=
  if (Oc.splitM b).2 ≠ 0 then ([], (Oc.splitM b).2)
  else match ofFields (Oc.splitM b).1 with
    | none => ([], 11)
    | some l => if checkV l = 0 then (l, 0) else ([], 11)
theorem ofFields_snoc (f : List UInt8) : ∀ (fs : List (List UInt8)), ofFields (fs ++ [f]) = match ofFields fs, ofField f with | some l, some v => some (l ++ [v]) | _, _ => none
  | [] => by
    simp only [List.nil_append, ofFields]
    cases ofField f <;> rfl
  | a :: fs => by
    rw [List.cons_append, ofFields, ofFields_snoc f fs, ofFields]
    cases ofField a <;> cases ofFields fs <;> cases ofField f <;> rfl
theorem ofFields_none {fs : List (List UInt8)} {f : List UInt8} (hf : f ∈ fs) (h : ofField f = none) : ofFields fs = none := by
  induction fs with
  | nil => cases hf
  | cons a fs ih =>
    rw [ofFields]
    rcases List.mem_cons.1 hf with e | hm
    · subst e; rw [h]
    · rw [ih hm]; cases ofField a <;> rfl
theorem ofField_short {f : List UInt8} (h : f.length < 2) : ofField f = none := by
  match f, h with
  | [], _ => rfl
  | [_], _ => rfl
  | _ :: _ :: _, h => simp at h; omega
theorem ofField_field {v : Vt} (h : mayV v = true) : ofField (fieldV v) = some v := by
  obtain ⟨h1, h2, h3, h4, h5⟩ := (mayV_iff v).1 h
  have e1 : ((UInt8.ofNat v.pre.toNat).toNat : Int) = v.pre := by
    rw [UInt8.toNat_ofNat']
    have : v.pre.toNat % 2 ^ 8 = v.pre.toNat := Nat.mod_eq_of_lt (by omega)
    omega
  have e2 : (UInt8.ofNat v.state).toNat = v.state := by
    rw [UInt8.toNat_ofNat']
    exact Nat.mod_eq_of_lt (by omega)
  obtain ⟨n, p, s⟩ := v
  simp only at e1 e2
  simp only [fieldV, ofField, e1, e2]
theorem ofFields_fields : ∀ {l : List Vt}, (∀ v ∈ l, mayV v = true) → ofFields (l.map fieldV) = some l
  | [], _ => rfl
  | v :: l, h => by
    rw [List.map_cons, ofFields, ofField_field (h v (List.mem_cons_self ..)), ofFields_fields (fun x hx => h x (List.mem_cons_of_mem _ hx))]
theorem field_ofField {f : List UInt8} {v : Vt} (h : ofField f = some v) : fieldV v = f := by
  match f, h with
  | p :: s :: n, h =>
    obtain rfl := Option.some.inj h
    simp [fieldV]
theorem fields_ofFields : ∀ {fs : List (List UInt8)} {l : List Vt}, ofFields fs = some l → l.map fieldV = fs
  | [], l, h => by obtain rfl := Option.some.inj h; rfl
  | f :: fs, l, h => by
    rw [ofFields] at h
    cases h1 : ofField f with
    | none => rw [h1] at h; cases h
    | some v =>
      cases h2 : ofFields fs with
      | none => rw [h1, h2] at h; cases h
      | some m =>
        rw [h1, h2] at h
        obtain rfl := Option.some.inj h
        rw [List.map_cons, field_ofField h1, fields_ofFields h2]
theorem textV_short {l : List Vt} (h : checkV l = 0) : (textV l).length ≤ 3000 := by
  obtain ⟨h1, h2⟩ := checkV_ok.1 h
  have hm := ((rowV_iff l).1 h2).1
  have h := len_le_flat (l.map fieldV) 42 (fun x hx => by
    obtain ⟨v, hv, rfl⟩ := List.mem_map.1 hx
    have := ((nameB_iff _).1 ((mayV_iff v).1 (hm v hv)).1).2.1
    simp [fieldV]; omega)
  rw [List.length_map] at h
  have : l.length * 44 ≤ 64 * 44 := Nat.mul_le_mul_right _ h1
  unfold textV
  omega
/-- Read undoes Bytes. -/
theorem readV_bytes {l : List Vt} (h : checkV l = 0) : readV (bytesV l).1 = (l, 0) := by
  have hb : bytesV l = (textV l, 0) := by unfold bytesV; rw [if_neg (by omega)]
  have hs := textV_short h
  rw [hb]
  have he : Oc.splitM (textV l) = (l.map fieldV, 0) := Oc.splitM_flat (Oc.fit_of_flat (by unfold textV at hs; omega)) (by unfold textV at hs; omega)
  unfold readV
  rw [he]
  simp only [ne_eq, not_true_eq_false, if_false, ofFields_fields ((rowV_iff l).1 (checkV_ok.1 h).2).1, h, if_true]
/-- Bytes undoes Read. -/
theorem bytesV_read {b : List UInt8} (h : (readV b).2 = 0) : bytesV (readV b).1 = (b, 0) ∧ checkV (readV b).1 = 0 := by
  unfold readV at h ⊢
  by_cases h1 : (Oc.splitM b).2 ≠ 0
  · rw [if_pos h1] at h; exact absurd h h1
  · rw [if_neg h1] at h ⊢
    have h0 : (Oc.splitM b).2 = 0 := by omega
    obtain ⟨hf, hb, hl⟩ := Oc.splitM_ok h0
    cases hp : ofFields (Oc.splitM b).1 with
    | none => rw [hp] at h; simp at h
    | some l =>
      rw [hp] at h
      simp only at h
      by_cases hm : checkV l = 0
      · simp only [if_pos hm]
        refine ⟨?_, hm⟩
        unfold bytesV
        rw [if_neg (by simp [hm])]
        unfold textV
        rw [fields_ofFields hp, ← hb]
      · rw [if_neg hm] at h; simp at h
theorem readV_err {b : List UInt8} (h : (readV b).2 ≠ 0) : (readV b).1 = [] := by
  unfold readV at h ⊢
  split
  · rfl
  · rename_i h1
    rw [if_neg h1] at h
    cases hp : ofFields (Oc.splitM b).1 with
    | none => rfl
    | some c =>
      rw [hp] at h
      simp only at h ⊢
      split
      · rename_i hm; rw [if_pos hm] at h; exact absurd rfl h
      · rfl
theorem bytesV_err {l : List Vt} (h : checkV l ≠ 0) : bytesV l = ([], checkV l) := by unfold bytesV; rw [if_pos h]
theorem addV_err {l : List Vt} {n : List UInt8} {p : Int} (h : (addV l n p).2 ≠ 0) : (addV l n p).1 = [] := by
  unfold addV at h ⊢
  repeat' split
  all_goals first | rfl | (exfalso; apply h; simp_all)
theorem addV_ok {l : List Vt} {n : List UInt8} {p : Int} (h : (addV l n p).2 = 0) : checkV l = 0 ∧ mayV (newV n p) = true ∧ atV l n = none ∧ l.length < 64 ∧ (addV l n p).1 = insV l (newV n p) := by
  unfold addV at h ⊢
  by_cases h1 : checkV l ≠ 0
  · rw [if_pos h1] at h; exact absurd h h1
  rw [if_neg h1] at h ⊢
  by_cases h2 : mayV (newV n p) = false
  · rw [if_pos h2] at h; cases h
  rw [if_neg h2] at h ⊢
  by_cases h3 : (atV l n).isSome
  · rw [if_pos h3] at h; cases h
  rw [if_neg h3] at h ⊢
  by_cases h4 : 64 ≤ l.length
  · rw [if_pos h4] at h; cases h
  rw [if_neg h4]
  exact ⟨by omega, by simpa using h2, by simpa using h3, by omega, rfl⟩
theorem addV_check {l : List Vt} {n : List UInt8} {p : Int} (h : (addV l n p).2 = 0) : checkV (addV l n p).1 = 0 := by
  obtain ⟨h1, h2, h3, h4, h5⟩ := addV_ok h
  rw [h5]
  obtain ⟨h6, h7⟩ := checkV_ok.1 h1
  obtain ⟨h8, h9⟩ := (rowV_iff l).1 h7
  refine checkV_ok.2 ⟨by rw [insV_len]; omega, (rowV_iff _).2 ⟨fun v hv => ?_, insV_asc h9 fun x hx => atV_none.1 h3 x hx⟩⟩
  rcases (insV_mem l _ v).1 hv with rfl | hv
  · exact h2
  · exact h8 v hv

/-! ### What an operation does -/
theorem doneV_err {l : List Vt} {n : List UInt8} {o : Int} (h : (doneV l n o).2 ≠ 0) : (doneV l n o).1 = [] := by
  unfold doneV at h ⊢
  split
  · rfl
  · rename_i h1
    rw [if_neg h1] at h
    split
    · rfl
    · split
      · rfl
      · split
        · rfl
        · exfalso
          apply h
          simp_all
theorem doneV_ok {l : List Vt} {n : List UInt8} {o : Int} (h : (doneV l n o).2 = 0) : checkV l = 0 ∧ ∃ i, ∃ hi : i < l.length, atV l n = some i ∧ l[i].name = n ∧ l[i].state = (wasis o).1 ∧ (doneV l n o).1 = l.set i { l[i] with state := (wasis o).2 } := by
  unfold doneV at h ⊢
  by_cases h1 : checkV l ≠ 0
  · rw [if_pos h1] at h; exact absurd h h1
  rw [if_neg h1] at h ⊢
  refine ⟨by omega, ?_⟩
  cases h2 : atV l n with
  | none => rw [h2] at h; cases h
  | some i =>
    obtain ⟨hi, hn, _⟩ := atV_some h2
    rw [h2] at h
    simp only [List.getElem?_eq_getElem hi] at h ⊢
    by_cases h3 : l[i].state ≠ (wasis o).1
    · rw [if_pos h3] at h; cases h
    · rw [if_neg h3]
      exact ⟨i, hi, rfl, hn, by omega, rfl⟩
theorem wasis_may (o : Int) : 1 ≤ (wasis o).2 ∧ (wasis o).2 ≤ 4 ∧ 1 ≤ (wasis o).1 ∧ (wasis o).1 ≤ 4 ∧ (wasis o).1 ≠ 3 ∧ (wasis o).1 ≠ (wasis o).2 := by
  unfold wasis
  repeat' split
  all_goals decide
theorem ascV_names {l m : List Vt} (h : m.map (·.name) = l.map (·.name)) (ha : ascV l = true) : ascV m = true := by
  have hl : m.length = l.length := by have := congrArg List.length h; simpa using this
  rw [ascV_iff] at ha ⊢
  intro i hi
  have e : ∀ j (hj : j < m.length), m[j].name = (l[j]'(by omega)).name := fun j hj => by
    have := congrArg (fun x => x[j]?) h
    simp only [List.getElem?_map, List.getElem?_eq_getElem hj, List.getElem?_eq_getElem (show j < l.length by omega), Option.map_some] at this
    exact Option.some.inj this
  rw [e, e]
  exact ha i (by omega)
/-- An operation keeps a roll a roll, its length, all names and precincts, and all voters but one. -/
theorem doneV_check {l : List Vt} {n : List UInt8} {o : Int} (h : (doneV l n o).2 = 0) : checkV (doneV l n o).1 = 0 ∧ (doneV l n o).1.length = l.length ∧ (doneV l n o).1.map (·.name) = l.map (·.name) ∧ (doneV l n o).1.map (·.pre) = l.map (·.pre) := by
  obtain ⟨h1, i, hi, h2, h3, h4, h5⟩ := doneV_ok h
  rw [h5]
  obtain ⟨h6, h7⟩ := checkV_ok.1 h1
  obtain ⟨h8, h9⟩ := (rowV_iff l).1 h7
  have en : (l.set i { l[i] with state := (wasis o).2 }).map (·.name) = l.map (·.name) := by
    rw [List.map_set]
    show (l.map (·.name)).set i l[i].name = _
    apply List.ext_getElem (by simp)
    intro j h1 h2
    rw [List.getElem_set]
    split
    · rename_i e; subst e; simp
    · rfl
  have ep : (l.set i { l[i] with state := (wasis o).2 }).map (·.pre) = l.map (·.pre) := by
    rw [List.map_set]
    show (l.map (·.pre)).set i l[i].pre = _
    apply List.ext_getElem (by simp)
    intro j h1 h2
    rw [List.getElem_set]
    split
    · rename_i e; subst e; simp
    · rfl
  refine ⟨checkV_ok.2 ⟨by simpa using h6, (rowV_iff _).2 ⟨fun v hv => ?_, ascV_names en h9⟩⟩, by simp, en, ep⟩
  obtain ⟨j, hj, rfl⟩ := List.getElem_of_mem hv
  rw [List.getElem_set]
  split
  · have := (mayV_iff _).1 (h8 _ (List.getElem_mem hi))
    have hw := wasis_may o
    exact (mayV_iff _).2 ⟨this.1, this.2.1, this.2.2.1, hw.1, hw.2.1⟩
  · exact h8 _ (List.getElem_mem _)
end Go.Proofs.YtikhffdbjelanaaDoor
