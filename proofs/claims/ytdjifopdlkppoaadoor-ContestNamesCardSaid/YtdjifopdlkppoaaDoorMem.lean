/- Rows of one-cell values in memory: what a slice reads as, what the call owns, append; strings as lists of bytes. Most of it names no program. -/
import Derived.WalkKit
import Derived.WalkSpells
import Derived.WalkLawsBesides
import Derived.Deep.AppendLies
import Derived.Deep.Draws
import Derived.Laws.BytesArg
import Derived.Laws.IdiomStrings
import Derived.Laws.OwnMore
import Derived.Lib.AppendStr
import Derived.Lib.Hide
import Derived.OpenShut
import Derived.OwnWalkIn
import Derived.Test.YtdjifopdlkppoaaDoorSha
namespace Go.Proofs.YtdjifopdlkppoaaDoor
open Go.RowKit
set_option linter.unusedVariables false

theorem add_block (a : Addr) (n : Nat) : (a.add n).block = a.block := by unfold Addr.add; split <;> rfl
theorem add_plain (g o j : Nat) : (⟨g, o, none⟩ : Addr).add j = ⟨g, o + j, none⟩ := by unfold Addr.add; split <;> simp_all

/-- The slice '.slice A xs.length c' reads as the values f x of the list xs, below block B. -/
structure Rf {α : Type} (f : α → Value) (w : World) (B : Nat) (A : Option Addr) (c : Nat) (xs : List α) : Prop where
  cap : xs.length ≤ c
  capm : c ≤ maxLen
  nil : A = none → c = 0
  cell : ∀ ad, A = some ad → ∀ j (h : j < xs.length), ad.block < B ∧ w.cell? (ad.add j) = some (f xs[j])

section
variable {α : Type} {f : α → Value} {w w' : World} {B B' c : Nat} {A : Option Addr} {xs : List α}
theorem Rf.empty (w : World) (B : Nat) : Rf f w B none 0 [] := ⟨Nat.le_refl _, by simp [maxLen], fun _ => rfl, fun _ h => by cases h⟩
theorem Rf.keep (h : Rf f w B A c xs) (hk : ∀ p : Addr, p.block < B → w'.cell? p = w.cell? p) : Rf f w' B A c xs :=
  ⟨h.cap, h.capm, h.nil, fun ad e j hj => ⟨(h.cell ad e j hj).1, (hk _ (by rw [add_block]; exact (h.cell ad e j hj).1)).trans (h.cell ad e j hj).2⟩⟩
theorem Rf.more (h : Rf f w B A c xs) (hB : B ≤ B') : Rf f w B' A c xs :=
  ⟨h.cap, h.capm, h.nil, fun ad e j hj => ⟨Nat.lt_of_lt_of_le (h.cell ad e j hj).1 hB, (h.cell ad e j hj).2⟩⟩
theorem Rf.below (h : Rf f w B A c xs) (hb : Below B w w') : Rf f w' B A c xs := h.keep fun _ hp => hb.cell hp
theorem Rf.alloc (h : Rf f w B A c xs) (hB : B ≤ w.heap.size) (o : Obj) : Rf f (w.alloc o) B A c xs := h.keep fun p hp => World.cell?_alloc_lt w o p (by omega)
theorem Rf.drew (h : Rf f w B A c xs) : Rf f w.drew B A c xs := h.keep fun _ _ => rfl
theorem Rf.drewN (h : Rf f w B A c xs) (k : Nat) : Rf f (w.drewN k) B A c xs := h.keep fun _ _ => rfl
theorem Rf.at_ (h : Rf f w B A c xs) {k : Nat} (hk : k < xs.length) : ∃ b o, A = some ⟨b, o, none⟩ ∧ b < B ∧ ∀ j (hj : j < xs.length), w.cell? ⟨b, o + j, none⟩ = some (f xs[j]) := by
  have hA : A ≠ none := fun e => by have := h.nil e; have := h.cap; omega
  obtain ⟨ad, rfl⟩ := Option.ne_none_iff_exists'.1 hA
  have hc := h.cell ad rfl
  have hb := (hc 0 (by omega)).1
  obtain ⟨b, o, s⟩ := ad
  have h0 := (hc 0 (by omega)).2
  have hs : s = none := by
    have := World.cell?_spot h0
    simpa [Addr.add] using this
  subst hs
  refine ⟨b, o, rfl, hb, fun j hj => ?_⟩
  have := (hc j hj).2
  rwa [add_plain] at this
theorem Rf.news {ad : Addr} (h : Rf f w B (some ad) c xs) : ∀ j u, (xs.map f)[j]? = some u → w.cell? (ad.add j) = some u := by
  intro j u hu
  have hj : j < xs.length := by
    have := (List.getElem?_eq_some_iff.1 hu).1
    simpa using this
  have e : u = f xs[j] := by simp [hj] at hu; exact hu.symm
  rw [e]
  exact (h.cell ad rfl j hj).2
end

/-- The block of an address. -/
def blk (A : Option Addr) : Option Nat := A.map (·.block)
theorem own_block (A : Option Addr) (n c : Nat) : (Value.slice A n c).ownBlock = blk A := by cases A <;> rfl

/-- The slice holds the values f x, in a block from 'base' on that the call made itself (or it is nil). e: the number of the element's type. -/
def Ow {α : Type} (f : α → Value) (w : World) (base e : Nat) (A : Option Addr) (c : Nat) (xs : List α) : Prop :=
  w.ownsRow base e 1 (.slice A xs.length c) xs.length (xs.map f)

section
variable {α : Type} {f : α → Value} {w w' : World} {base e c : Nat} {A : Option Addr} {xs : List α}
theorem Ow.nil (w : World) (base e : Nat) : Ow f w base e none 0 [] := World.ownsRow_nil w base e 1
theorem Ow.form (h : Ow f w base e A c xs) : (A = none ∧ c = 0 ∧ xs = []) ∨ ∃ g, A = some ⟨g, 0, none⟩ ∧ base ≤ g ∧ g < w.heap.size ∧ xs.length ≤ c ∧ c ≤ maxLen := by
  rcases h.2 with ⟨hv, hn⟩ | ⟨g, cap, cur, hv, hb, hg, hnc, hcm, _⟩
  · simp only [Value.slice.injEq] at hv
    exact .inl ⟨hv.1, hv.2.2, List.eq_nil_of_length_eq_zero hn⟩
  · simp only [Value.slice.injEq] at hv
    obtain ⟨rfl, _, rfl⟩ := hv
    exact .inr ⟨g, rfl, hb, (Array.getElem?_eq_some_iff.1 hg).1, hnc, hcm⟩
theorem Ow.rd (h : Ow f w base e A c xs) : Rf f w w.heap.size A c xs := by
  rcases h.form with ⟨rfl, rfl, rfl⟩ | ⟨g, rfl, hb, hg, hc, hm⟩
  · exact Rf.empty w _
  · refine ⟨hc, hm, (fun e => by cases e), fun ad e j hj => ?_⟩
    obtain rfl := Option.some.inj e
    exact ⟨hg, World.ownsRow.cells h (g := g) rfl j _ (by simp [hj])⟩
theorem Ow.blk_ge (h : Ow f w base e A c xs) : ∀ k, blk A = some k → base ≤ k ∧ k < w.heap.size := by
  intro k hk
  exact World.ownsRow.lt h k (by rw [own_block]; exact hk)
theorem Ow.kept (h : Ow f w base e A c xs) {row : Option Nat} (hg : w.grownBy w' row) (hne : blk A = none ∨ blk A ≠ row) : Ow f w' base e A c xs :=
  World.ownsRow.kept h hg (by rw [own_block]; exact hne)
theorem Ow.alloc (h : Ow f w base e A c xs) (o : Obj) : Ow f (w.alloc o) base e A c xs := World.ownsRow.alloc h o
theorem Ow.drew (h : Ow f w base e A c xs) : Ow f w.drew base e A c xs := h
theorem Ow.drewN (h : Ow f w base e A c xs) (k : Nat) : Ow f (w.drewN k) base e A c xs := h
theorem Ow.lower (h : Ow f w base e A c xs) {b : Nat} (hb : b ≤ base) : Ow f w b e A c xs := by
  refine ⟨h.1, ?_⟩
  rcases h.2 with hn | ⟨g, cap, cur, hv, hbg, r⟩
  · exact .inl hn
  · exact .inr ⟨g, cap, cur, hv, Nat.le_trans hb hbg, r⟩
/-- What is owned stays so where all blocks below B are as they were and it lies below B. -/
theorem Ow.below (h : Ow f w base e A c xs) {B : Nat} (hB : w.heap.size ≤ B) (hb : Below B w w') : Ow f w' base e A c xs :=
  h.kept (row := none) ⟨hb.os, hb.tape, hb.output, hb.size, fun k hk _ => hb.block k (Nat.lt_of_lt_of_le hk hB)⟩ (by cases blk A <;> simp)
end

theorem grown_of_below {a w : World} {B : Nat} (h : Below B a w) (hB : a.heap.size ≤ B) (row : Option Nat) : a.grownBy w row := ⟨h.os, h.tape, h.output, h.size, fun i hi _ => h.block i (Nat.lt_of_lt_of_le hi hB)⟩
theorem below_of_grown {a w : World} {row : Option Nat} (h : a.grownBy w row) {B : Nat} (hB : B ≤ a.heap.size) (hr : ∀ k, row = some k → B ≤ k) : Below B a w := (Below.refl B a).grown h hB hr
theorem below_drewN (B : Nat) (w : World) (n : Nat) : Below B w (w.drewN n) := ⟨rfl, rfl, rfl, Nat.le_refl _, fun _ _ => rfl⟩
theorem below_new (w : World) (o : Obj) : Below w.heap.size w (w.alloc o) := (Below.refl _ w).alloc (Nat.le_refl _) o

section
variable {P : Program} (w : World)

/-- 'append(s, x...)': s is owned, x is read. -/
theorem run_append_f {α : Type} {f : α → Value} (hf : ∀ x, (f x).oneCell' = true) (base e bt : Nat) (t ty : TypeId) (i : TypeInfo) (z : Value) (ht : P.underlying t = some (.slice e)) (hi : P.info? e = some i) (hz : i.zero = some z) (hsize : i.size = 1) (hby : i.bytes = bt) (hbt : bt ≤ 24) (hzs : z.cells.size = 1)
    {A A2 : Option Addr} {c c2 B : Nat} {l m : List α} (hown : Ow f w base e A c l) (hr : Rf f w B A2 c2 m) (hle : l.length + m.length ≤ 4000000000) (hbase : base ≤ w.heap.size) :
    ∃ A' c' w', (Builtin.append_ #[t, t] ty #[.slice A l.length c, .slice A2 m.length c2]).run P w = .ok (.slice A' (l ++ m).length c') w' ∧ Ow f w' base e A' c' (l ++ m) ∧ w.grownBy w' (blk A) ∧
      (blk A' = blk A ∨ blk A' = some w.heap.size) := by
  cases A2 with
  | some ad =>
    obtain ⟨v', w', hrun, h2, h3, _, h5⟩ := run_append_own_at (P := P) w base t ty e i z 1 bt ht hi hz hsize hby hzs (by omega) _ _ _ hown ad m.length c2 (m.map f) (by simp) hr.news (by intro u hu; obtain ⟨x, _, rfl⟩ := List.mem_map.1 hu; exact hf x)
      (by simp only [maxLen]; omega) (by have := Nat.mul_le_mul hle hbt; omega) hbase
    rw [← List.map_append, ← List.length_append] at h2
    have hform : ∃ A' c', v' = .slice A' (l ++ m).length c' := by
      rcases h2.2 with ⟨rfl, hn⟩ | ⟨g, cap, cur, rfl, _⟩
      · exact ⟨none, 0, by rw [hn]⟩
      · exact ⟨_, _, rfl⟩
    obtain ⟨A', c', rfl⟩ := hform
    refine ⟨A', c', w', hrun, h2, by rw [own_block] at h3; exact h3, ?_⟩
    rw [own_block, own_block] at h5
    exact h5
  | none =>
    have hc2 := hr.nil rfl
    have hm : m = [] := List.eq_nil_of_length_eq_zero (by have := hr.cap; omega)
    subst hm
    subst hc2
    refine ⟨A, c, w, ?_, by simpa using hown, World.grownBy.refl w _, .inl rfl⟩
    have := run_append_owned_none (P := P) w base t ty e i 1 ht hi _ _ _ hown
    simpa using this

/-- The same, for the walk. -/
theorem wpList_append_f {α : Type} {f : α → Value} (hf : ∀ x, (f x).oneCell' = true) {ops : Array Oper} {rest : List Oper} {o : Oper} {a : Act} {Q : Exit → Act → World → Prop} (hgd : o.guard = none) (s x : Operand) (t : TypeId)
    (ho : o.op = .call { callee := .builtin .append, args := #[s, x], argTypes := #[t, t] })
    (base e bt : Nat) (i : TypeInfo) (z : Value) (ht : P.underlying t = some (.slice e)) (hi : P.info? e = some i) (hz : i.zero = some z) (hsize : i.size = 1) (hby : i.bytes = bt) (hbt : bt ≤ 24) (hzs : z.cells.size = 1)
    {A A2 : Option Addr} {c c2 B : Nat} (l m : List α) (hs : a.eval s = .slice A l.length c) (hx : a.eval x = .slice A2 m.length c2) (hown : Ow f w base e A c l) (hr : Rf f w B A2 c2 m)
    (hle : l.length + m.length ≤ 4000000000) (hbase : base ≤ w.heap.size)
    (h : ∀ A' c' w' r, Hid (r = l ++ m) → Ow f w' base e A' c' r → w.grownBy w' (blk A) → (blk A' = blk A ∨ blk A' = some w.heap.size) → wpList P ops Q rest (a.put o.dst (.slice A' r.length c')) w') :
    wpList P ops Q (o :: rest) a w := by
  refine wpList_plain hgd fun K hK => ?_
  obtain ⟨A', c', w', hrun, h2, h3, h4⟩ := run_append_f (P := P) w hf base e bt t o.type i z ht hi hz hsize hby hbt hzs hown hr hle hbase
  unfold Oper.wp execOp
  simp only [ho, resolve, invoke, builtin, Sem.run_bind, Sem.run_pure, Result.andThen_ok, List.map_toArray, List.map_cons, List.map_nil, hs, hx, hrun]
  exact hK _ _ (h A' c' w' _ rfl h2 h3 h4)

/-- The same, in a body that is walked inside a fence. -/
theorem wpListIn_append_f {F : Fence} {n : Nat} {α : Type} {f : α → Value} (hf : ∀ x, (f x).oneCell' = true) {ops : Array Oper} {rest : List Oper} {o : Oper} {a : Act} {Q : Exit → Act → World → Prop} (hgd : o.guard = none) (s x : Operand) (t : TypeId)
    (ho : o.op = .call { callee := .builtin .append, args := #[s, x], argTypes := #[t, t] })
    (base e bt : Nat) (i : TypeInfo) (z : Value) (ht : P.underlying t = some (.slice e)) (hi : P.info? e = some i) (hz : i.zero = some z) (hsize : i.size = 1) (hby : i.bytes = bt) (hbt : bt ≤ 24) (hzs : z.cells.size = 1)
    {A A2 : Option Addr} {c c2 B : Nat} (l m : List α) (hs : a.eval s = .slice A l.length c) (hx : a.eval x = .slice A2 m.length c2) (hown : Ow f w base e A c l) (hr : Rf f w B A2 c2 m)
    (hle : l.length + m.length ≤ 4000000000) (hbase : base ≤ w.heap.size)
    (h : ∀ A' c' w' r, Hid (r = l ++ m) → Ow f w' base e A' c' r → w.grownBy w' (blk A) → (blk A' = blk A ∨ blk A' = some w.heap.size) → wpListIn F n P ops Q rest (a.put o.dst (.slice A' r.length c')) w') :
    wpListIn F n P ops Q (o :: rest) a w := by
  refine wpListIn_plain hgd fun K hK => ?_
  obtain ⟨A', c', w', hrun, h2, h3, h4⟩ := run_append_f (P := P) w hf base e bt t o.type i z ht hi hz hsize hby hbt hzs hown hr hle hbase
  unfold Oper.wpIn
  refine ⟨?_, ?_⟩
  · simp [Oper.about, ho, resolve, Target.leads, Sem.run_pure]
  · rw [Oper.semAt_plain F _ _ (by rw [ho]; intro c hc'; cases hc')]
    simp only [execOp, ho, resolve, invoke, builtin, Sem.run_bind, Sem.run_pure, Result.andThen_ok, List.map_toArray, List.map_cons, List.map_nil, hs, hx, hrun]
    exact hK _ _ (h A' c' w' _ rfl h2 h3 h4)

/-- A one-element literal. -/
theorem rf_one {α : Type} {f : α → Value} (x : α) (e : Nat) : Rf f (w.alloc (.cells #[f x] e)) (w.heap.size + 1) (some ⟨w.heap.size, 0, none⟩) 1 [x] := by
  refine ⟨by simp, by simp [maxLen], (fun e => by cases e), fun ad he j hj => ?_⟩
  obtain rfl := Option.some.inj he
  refine ⟨by simp, ?_⟩
  have hj0 : j = 0 := by simp at hj; omega
  subst hj0
  exact cell_one_new w _ e 0 _ rfl
/-- An empty literal. -/
theorem ow_zero {α : Type} {f : α → Value} (e base : Nat) (hb : base ≤ w.heap.size) : Ow f (w.alloc (.cells #[] e)) base e (some ⟨w.heap.size, 0, none⟩) 0 [] := by
  have := World.ownsRow_lit (base := base) (e := e) (size := 1) w #[] 0 hb (by simp [maxLen]) (by simp)
  exact this
end

/-- Block g is just the cells cs of element type t. -/
def Blk (w : World) (g : Nat) (t : TypeId) (cs : Array Value) : Prop := w.heap[g]? = some (.cells cs t (0, 0))
section
variable {w w' : World} {g : Nat} {t : TypeId} {cs : Array Value}
theorem Blk.lt (h : Blk w g t cs) : g < w.heap.size := by
  rcases Nat.lt_or_ge g w.heap.size with hlt | hge
  · exact hlt
  · unfold Blk at h; rw [Array.getElem?_eq_none hge] at h; cases h
theorem Blk.cell (h : Blk w g t cs) (i : Nat) : w.cell? ⟨g, i, none⟩ = cs[i]? := cell_of_row w g i cs t (0, 0) h
theorem Blk.frozen (h : Blk w g t cs) (i : Nat) : w.frozen? ⟨g, i, none⟩ = false := by
  unfold Blk at h
  simp [World.frozen?, h]
theorem Blk.new (w : World) (t : TypeId) (cs : Array Value) : Blk (w.alloc (.cells cs t)) w.heap.size t cs := heap_alloc_new w _
theorem Blk.drewN (h : Blk w g t cs) (n : Nat) : Blk (w.drewN n) g t cs := h
theorem Blk.alloc (h : Blk w g t cs) (o : Obj) : Blk (w.alloc o) g t cs := (Below.heap_alloc w o g h.lt).trans h
theorem Blk.set_ (h : Blk w g t cs) (i : Nat) (u : Value) : Blk (w.setCell ⟨g, i, none⟩ u) g t (cs.setIfInBounds i u) := by
  unfold Blk at h ⊢
  simp [World.setCell, Array.getElem?_modify, h]
theorem Blk.far (h : Blk w g t cs) {p : Addr} (hp : g ≠ p.block) (u : Value) : Blk (w.setCell p u) g t cs := (Below.heap_setCell w p u g hp).trans h
theorem Blk.below {B : Nat} (h : Blk w g t cs) (hb : Below B w w') (hg : g < B) : Blk w' g t cs := (hb.block g hg).trans h
theorem Blk.grown {row : Option Nat} (h : Blk w g t cs) (hb : w.grownBy w' row) (hg : some g ≠ row) : Blk w' g t cs := (hb.block g h.lt hg).trans h
theorem ow_blk_ne {α : Type} {f : α → Value} {base e c : Nat} {A : Option Addr} {xs : List α} (h : Ow f w base e A c xs) (hg : Blk w g t cs) (hne : e ≠ t) : some g ≠ blk A := by
  rcases h.2 with ⟨hv, _⟩ | ⟨g', cap, cur, hv, _, hh, _⟩
  · simp only [Value.slice.injEq] at hv
    rw [hv.1]
    simp [blk]
  · simp only [Value.slice.injEq] at hv
    rw [hv.1]
    intro he
    have : g = g' := by simpa [blk] using he
    subst this
    unfold Blk at hg
    rw [hh] at hg
    injection hg with h'
    injection h' with _ ht
    exact hne ht
end
theorem grown_set (w : World) (p : Addr) (v : Value) : w.grownBy (w.setCell p v) (some p.block) :=
  ⟨rfl, rfl, rfl, (Below.refl 0 w).setCell (p := p) (Nat.zero_le _) v |>.size, fun k _ hk => Below.heap_setCell _ _ _ k (fun e => hk (by rw [e]))⟩

/-- Strings as lists of bytes. -/
def sv (l : List UInt8) : Value := .string ⟨l.toArray⟩
theorem sv_one (l : List UInt8) : (sv l).oneCell' = true := rfl
/-- Bytes. -/
def bv (b : UInt8) : Value := .int .u8 (b.toNat : Int)
theorem bv_one (b : UInt8) : (bv b).oneCell' = true := rfl
/-- Limbs. -/
def uv (x : UInt32) : Value := .int .u32 (x.toNat : Int)
theorem uv_one (x : UInt32) : (uv x).oneCell' = true := rfl

theorem mk_get (l : List UInt8) (k : Nat) (h : k < (⟨l.toArray⟩ : ByteArray).size) : (⟨l.toArray⟩ : ByteArray)[k] = l[k]'(by simpa [ByteArray.size] using h) := rfl
theorem mk_append (l m : List UInt8) : (⟨l.toArray⟩ : ByteArray) ++ ⟨m.toArray⟩ = ⟨(l ++ m).toArray⟩ := ByteArray.mk_append_mk ..
theorem mk_eta (s : ByteArray) : (⟨s.data.toList.toArray⟩ : ByteArray) = s := by cases s; rfl
theorem mk_extract (l : List UInt8) (a b : Nat) : (⟨l.toArray⟩ : ByteArray).extract a b = ⟨((l.drop a).take (b - a)).toArray⟩ := by
  apply ByteArray.ext
  rw [ByteArray.data_extract]
  apply Array.toList_inj.1
  simp

section
variable {P : Program} (w : World)
/-- 'append(b, s...)' of a string. -/
theorem wpList_append_text {ops : Array Oper} {rest : List Oper} {o : Oper} {a : Act} {Q : Exit → Act → World → Prop} (hgd : o.guard = none) (sl x : Operand) (t u : TypeId)
    (ho : o.op = .call { callee := .builtin .append, args := #[sl, x], argTypes := #[t, u] })
    (base : Nat) (e : TypeId) (i : TypeInfo) (ht : P.underlying t = some (.slice e)) (hu : P.underlying u = some .string) (hi : P.info? e = some i) (hz : i.zero = some (.int .u8 0))
    (hsize : i.size = 1) (hby : i.bytes = 1) {A : Option Addr} {c : Nat} (l m : List UInt8) (hs : a.eval sl = .slice A l.length c) (hx : a.eval x = .string ⟨m.toArray⟩) (hown : Ow bv w base e A c l)
    (hle : l.length + m.length ≤ 4000000000) (hbase : base ≤ w.heap.size)
    (h : ∀ A' c' w' r, Hid (r = l ++ m) → Ow bv w' base e A' c' r → w.grownBy w' (blk A) → wpList P ops Q rest (a.put o.dst (.slice A' r.length c')) w') : wpList P ops Q (o :: rest) a w := by
  refine Lib.wpList_append_own_string w hgd sl x t u ho base e i ht hu hi hz hsize hby _ _ _ hs hown ⟨m.toArray⟩ hx (by simp [ByteArray.size, maxLen]; omega) (by simp [ByteArray.size]; omega) hbase ?_
  intro v' w' h2 h3 _
  have e1 : l.length + (⟨m.toArray⟩ : ByteArray).size = (l ++ m).length := by simp [ByteArray.size]
  have e2 : l.map bv ++ Lib.strCells ⟨m.toArray⟩ = (l ++ m).map bv := by
    rw [List.map_append]
    congr 1
  rw [e1, e2] at h2
  have hform : ∃ A' c', v' = .slice A' (l ++ m).length c' := by
    rcases h2.2 with ⟨rfl, hn⟩ | ⟨g, cap, cur, rfl, _⟩
    · exact ⟨none, 0, by rw [hn]⟩
    · exact ⟨_, _, rfl⟩
  obtain ⟨A', c', rfl⟩ := hform
  rw [own_block] at h3
  exact h A' c' w' _ rfl h2 h3

/-- 'string(b)'. -/
theorem run_string_f (src dst e : TypeId) (hs : P.underlying src = some (.slice e)) (he : P.underlying e = some (.int .u8)) (hd : P.underlying dst = some .string) {B c : Nat} {A : Option Addr} {l : List UInt8} (h : Rf bv w B A c l) :
    (convert src dst (.slice A l.length c)).run P w = .ok (.string ⟨l.toArray⟩) w := by
  cases A with
  | none =>
    have hl : l = [] := List.eq_nil_of_length_eq_zero (by have := h.cap; have := h.nil rfl; omega)
    subst hl
    exact run_convert_bytes_nil w src e hs he _ _ dst hd
  | some ad => exact run_convert_bytes_back w src dst e ad c l hs he hd fun j hj => (h.cell ad rfl j hj).2
end
/-- Block g holds just the values f x of the list L. t: the number of the elements' type. -/
def Hb {α : Type} (f : α → Value) (w : World) (g t : Nat) (L : List α) : Prop := Blk w g t (L.map f).toArray
section
variable {α : Type} {f : α → Value} {w w' : World} {g t : Nat} {L : List α}
theorem Hb.lt (h : Hb f w g t L) : g < w.heap.size := Blk.lt h
theorem Hb.cell (h : Hb f w g t L) {i : Nat} (hi : i < L.length) : w.cell? ⟨g, i, none⟩ = some (f L[i]) := by
  have e := Blk.cell h i
  rw [e]
  simp [hi]
theorem Hb.heap (h : Hb f w g t L) : w.heap[g]? = some (.cells (L.map f).toArray t (0, 0)) := h
theorem Hb.frozen (h : Hb f w g t L) (i : Nat) : w.frozen? ⟨g, i, none⟩ = false := Blk.frozen h i
theorem Hb.set_ (h : Hb f w g t L) (i : Nat) (x : α) (v : Value) (hv : v = f x) : Hb f (w.setCell ⟨g, i, none⟩ v) g t (L.set i x) := by
  subst hv
  have e := Blk.set_ h i (f x)
  unfold Hb
  have e2 : ((L.set i x).map f).toArray = (L.map f).toArray.setIfInBounds i (f x) := by
    rw [List.map_set]; simp
  rw [e2]
  exact e
theorem Hb.drewN (h : Hb f w g t L) (n : Nat) : Hb f (w.drewN n) g t L := h
theorem Hb.drew (h : Hb f w g t L) : Hb f w.drew g t L := h
theorem Hb.alloc (h : Hb f w g t L) (o : Obj) : Hb f (w.alloc o) g t L := Blk.alloc h o
theorem Hb.below {B : Nat} (h : Hb f w g t L) (hb : Below B w w') (hg : g < B) : Hb f w' g t L := Blk.below h hb hg
theorem Hb.grown {row : Option Nat} (h : Hb f w g t L) (hb : w.grownBy w' row) (hg : some g ≠ row) : Hb f w' g t L := Blk.grown h hb hg
theorem Hb.away (h : Hb f w g t L) {p : Addr} (hp : g ≠ p.block) (u : Value) : Hb f (w.setCell p u) g t L := Blk.far h hp u
/-- A piece of it reads as a piece of the list. -/
theorem Hb.rf (h : Hb f w g t L) {o n c : Nat} (hn : o + n ≤ L.length) (hc : n ≤ c) (hm : c ≤ maxLen) : Rf f w w.heap.size (some ⟨g, o, none⟩) c (seg L o n) := by
  refine ⟨by rw [seg_len hn]; exact hc, hm, (fun e => by cases e), fun ad e j hj => ?_⟩
  obtain rfl := Option.some.inj e
  rw [seg_len hn] at hj
  rw [add_plain]
  refine ⟨h.lt, ?_⟩
  rw [h.cell (by omega), seg_get hn hj]
theorem Hb.rf_take (h : Hb f w g t L) {n c : Nat} (hn : n ≤ L.length) (hc : n ≤ c) (hm : c ≤ maxLen) : Rf f w w.heap.size (some ⟨g, 0, none⟩) c (L.take n) := by
  have := h.rf (o := 0) (n := n) (c := c) (by omega) hc hm
  rwa [seg_take] at this
theorem Hb.rf_all (h : Hb f w g t L) {c : Nat} (hc : L.length ≤ c) (hm : c ≤ maxLen) : Rf f w w.heap.size (some ⟨g, 0, none⟩) c L := by
  have := h.rf_take (n := L.length) (c := c) (Nat.le_refl _) hc hm
  rwa [List.take_of_length_le (Nat.le_refl _)] at this
end
/-- A piece of what is read. -/
theorem Rf.piece {α : Type} {f : α → Value} {w : World} {B c b o : Nat} {l : List α} (h : Rf f w B (some ⟨b, o, none⟩) c l) (q k : Nat) (hk : q + k ≤ l.length) : Rf f w B (some ⟨b, o + q, none⟩) (c - q) (seg l q k) := by
  have hcap := h.cap
  have hcm := h.capm
  refine ⟨by rw [seg_len hk]; omega, by omega, (fun e => by cases e), fun ad e j hj => ?_⟩
  obtain rfl := Option.some.inj e
  rw [seg_len hk] at hj
  obtain ⟨h1, h2⟩ := h.cell ⟨b, o, none⟩ rfl (q + j) (by omega)
  refine ⟨h1, ?_⟩
  rw [seg_get hk hj]
  rw [add_plain] at h2 ⊢
  rw [show o + q + j = o + (q + j) by omega]
  exact h2
theorem Rf.grown {α : Type} {f : α → Value} {w w' : World} {B c : Nat} {A : Option Addr} {xs : List α} {row : Option Nat} (h : Rf f w B A c xs) (hg : w.grownBy w' row) (hB : B ≤ w.heap.size) (hne : 0 < xs.length → blk A ≠ row) : Rf f w' B A c xs := by
  refine ⟨h.cap, h.capm, h.nil, fun ad e j hj => ?_⟩
  subst e
  obtain ⟨h1, h2⟩ := h.cell ad rfl j hj
  refine ⟨h1, ?_⟩
  have hb : (ad.add j).block = ad.block := add_block _ _
  rw [World.cell?_of_block (hg.block (ad.add j).block (by omega) (by
    intro e2
    exact hne (by omega) (by rw [← e2, hb]; rfl)))]
  exact h2
theorem Rf.ne {α : Type} {f : α → Value} {w : World} {B c g : Nat} {A : Option Addr} {xs : List α} (h : Rf f w B A c xs) (hB : B ≤ g) : 0 < xs.length → blk A ≠ some g := by
  intro hp e
  obtain ⟨b, o, rfl, hb, _⟩ := h.at_ (k := 0) hp
  have : b = g := by simpa [blk] using e
  omega
theorem grown_refl (w : World) (r : Option Nat) : w.grownBy w r := World.grownBy.refl w r
theorem grown_setCell {a w : World} {g : Nat} (h : a.grownBy w (some g)) (i : Nat) (u : Value) : a.grownBy (w.setCell ⟨g, i, none⟩ u) (some g) := h.trans (grown_set w ⟨g, i, none⟩ u)
theorem grown_drewN {a w : World} {r : Option Nat} (h : a.grownBy w r) (n : Nat) : a.grownBy (w.drewN n) r := ⟨h.os, h.tape, h.output, h.size, h.block⟩
theorem grown_drew {a w : World} {r : Option Nat} (h : a.grownBy w r) : a.grownBy w.drew r := ⟨h.os, h.tape, h.output, h.size, h.block⟩
end Go.Proofs.YtdjifopdlkppoaaDoor
