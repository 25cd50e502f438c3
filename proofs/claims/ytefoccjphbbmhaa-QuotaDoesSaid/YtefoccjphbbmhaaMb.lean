/- Rows of values in memory; nat's smallest functions, addition, subtraction, products, shifts, one step of division. -/
import Derived.WalkKit
import Derived.WalkSpells
import Derived.WalkLawsBesides
import Derived.Deep.AppendLies
import Derived.Deep.Draws
import Derived.Laws.BytesArg
import Derived.Laws.IdiomStrings
import Derived.Laws.OwnMore
import Derived.Lib.AppendStr
import Derived.Lib.Hide
import Derived.OpenShut
import Derived.OwnWalkIn
import Derived.Test.YtefoccjphbbmhaaMa
import Derived.Test.YtefoccjphbbmhaaProg
import Derived.Test.YtefoccjphbbmhaaShelf
import Derived.BigQuiet
import Derived.Deep.QuietTactic
import Derived.Outline
import Derived.Laws.BitsAllLaws
import Derived.Laws.CopyOwn
import Derived.Laws.MakeOwn
import Derived.OwnWalk
import Derived.Deep.RegionLaw
import Derived.Deep.RegionHeld3
import Derived.StillTailTactics
import Derived.IntWalk
namespace Go.Proofs.Ytefoccjphbbmhaa
open Go.RowKit
set_option linter.unusedVariables false

theorem add_block (a : Addr) (n : Nat) : (a.add n).block = a.block := by unfold Addr.add; split <;> rfl
theorem add_plain (g o j : Nat) : (⟨g, o, none⟩ : Addr).add j = ⟨g, o + j, none⟩ := by unfold Addr.add; split <;> simp_all

/-- The slice '.slice A xs.length c' reads as the values f x of the list xs, below block B. -/
structure Rf {α : Type} (f : α → Value) (w : World) (B : Nat) (A : Option Addr) (c : Nat) (xs : List α) : Prop where
  cap : xs.length ≤ c
  capm : c ≤ maxLen
  nil : A = none → c = 0
  cell : ∀ ad, A = some ad → ∀ j (h : j < xs.length), ad.block < B ∧ w.cell? (ad.add j) = some (f xs[j])

section
variable {α : Type} {f : α → Value} {w w' : World} {B B' c : Nat} {A : Option Addr} {xs : List α}
theorem Rf.empty (w : World) (B : Nat) : Rf f w B none 0 [] := ⟨Nat.le_refl _, by simp [maxLen], fun _ => rfl, fun _ h => by cases h⟩
theorem Rf.keep (h : Rf f w B A c xs) (hk : ∀ p : Addr, p.block < B → w'.cell? p = w.cell? p) : Rf f w' B A c xs :=
  ⟨h.cap, h.capm, h.nil, fun ad e j hj => ⟨(h.cell ad e j hj).1, (hk _ (by rw [add_block]; exact (h.cell ad e j hj).1)).trans (h.cell ad e j hj).2⟩⟩
theorem Rf.more (h : Rf f w B A c xs) (hB : B ≤ B') : Rf f w B' A c xs :=
  ⟨h.cap, h.capm, h.nil, fun ad e j hj => ⟨Nat.lt_of_lt_of_le (h.cell ad e j hj).1 hB, (h.cell ad e j hj).2⟩⟩
theorem Rf.below (h : Rf f w B A c xs) (hb : Below B w w') : Rf f w' B A c xs := h.keep fun _ hp => hb.cell hp
theorem Rf.alloc (h : Rf f w B A c xs) (hB : B ≤ w.heap.size) (o : Obj) : Rf f (w.alloc o) B A c xs := h.keep fun p hp => World.cell?_alloc_lt w o p (by omega)
theorem Rf.drew (h : Rf f w B A c xs) : Rf f w.drew B A c xs := h.keep fun _ _ => rfl
theorem Rf.drewN (h : Rf f w B A c xs) (k : Nat) : Rf f (w.drewN k) B A c xs := h.keep fun _ _ => rfl
theorem Rf.at_ (h : Rf f w B A c xs) {k : Nat} (hk : k < xs.length) : ∃ b o, A = some ⟨b, o, none⟩ ∧ b < B ∧ ∀ j (hj : j < xs.length), w.cell? ⟨b, o + j, none⟩ = some (f xs[j]) := by
  have hA : A ≠ none := fun e => by have := h.nil e; have := h.cap; omega
  obtain ⟨ad, rfl⟩ := Option.ne_none_iff_exists'.1 hA
  have hc := h.cell ad rfl
  have hb := (hc 0 (by omega)).1
  obtain ⟨b, o, s⟩ := ad
  have h0 := (hc 0 (by omega)).2
  have hs : s = none := by
    have := World.cell?_spot h0
    simpa [Addr.add] using this
  subst hs
  refine ⟨b, o, rfl, hb, fun j hj => ?_⟩
  have := (hc j hj).2
  rwa [add_plain] at this
theorem Rf.news {ad : Addr} (h : Rf f w B (some ad) c xs) : ∀ j u, (xs.map f)[j]? = some u → w.cell? (ad.add j) = some u := by
  intro j u hu
  have hj : j < xs.length := by
    have := (List.getElem?_eq_some_iff.1 hu).1
    simpa using this
  have e : u = f xs[j] := by simp [hj] at hu; exact hu.symm
  rw [e]
  exact (h.cell ad rfl j hj).2
end

/-- The block of an address. -/
def blk (A : Option Addr) : Option Nat := A.map (·.block)
theorem own_block (A : Option Addr) (n c : Nat) : (Value.slice A n c).ownBlock = blk A := by cases A <;> rfl

/-- The slice holds the values f x, in a block from 'base' on that the call made itself (or it is nil). e: the number of the element's type. -/
def Ow {α : Type} (f : α → Value) (w : World) (base e : Nat) (A : Option Addr) (c : Nat) (xs : List α) : Prop :=
  w.ownsRow base e 1 (.slice A xs.length c) xs.length (xs.map f)

section
variable {α : Type} {f : α → Value} {w w' : World} {base e c : Nat} {A : Option Addr} {xs : List α}
theorem Ow.nil (w : World) (base e : Nat) : Ow f w base e none 0 [] := World.ownsRow_nil w base e 1
theorem Ow.form (h : Ow f w base e A c xs) : (A = none ∧ c = 0 ∧ xs = []) ∨ ∃ g, A = some ⟨g, 0, none⟩ ∧ base ≤ g ∧ g < w.heap.size ∧ xs.length ≤ c ∧ c ≤ maxLen := by
  rcases h.2 with ⟨hv, hn⟩ | ⟨g, cap, cur, hv, hb, hg, hnc, hcm, _⟩
  · simp only [Value.slice.injEq] at hv
    exact .inl ⟨hv.1, hv.2.2, List.eq_nil_of_length_eq_zero hn⟩
  · simp only [Value.slice.injEq] at hv
    obtain ⟨rfl, _, rfl⟩ := hv
    exact .inr ⟨g, rfl, hb, (Array.getElem?_eq_some_iff.1 hg).1, hnc, hcm⟩
theorem Ow.rd (h : Ow f w base e A c xs) : Rf f w w.heap.size A c xs := by
  rcases h.form with ⟨rfl, rfl, rfl⟩ | ⟨g, rfl, hb, hg, hc, hm⟩
  · exact Rf.empty w _
  · refine ⟨hc, hm, (fun e => by cases e), fun ad e j hj => ?_⟩
    obtain rfl := Option.some.inj e
    exact ⟨hg, World.ownsRow.cells h (g := g) rfl j _ (by simp [hj])⟩
theorem Ow.blk_ge (h : Ow f w base e A c xs) : ∀ k, blk A = some k → base ≤ k ∧ k < w.heap.size := by
  intro k hk
  exact World.ownsRow.lt h k (by rw [own_block]; exact hk)
theorem Ow.kept (h : Ow f w base e A c xs) {row : Option Nat} (hg : w.grownBy w' row) (hne : blk A = none ∨ blk A ≠ row) : Ow f w' base e A c xs :=
  World.ownsRow.kept h hg (by rw [own_block]; exact hne)
theorem Ow.alloc (h : Ow f w base e A c xs) (o : Obj) : Ow f (w.alloc o) base e A c xs := World.ownsRow.alloc h o
theorem Ow.drew (h : Ow f w base e A c xs) : Ow f w.drew base e A c xs := h
theorem Ow.drewN (h : Ow f w base e A c xs) (k : Nat) : Ow f (w.drewN k) base e A c xs := h
theorem Ow.lower (h : Ow f w base e A c xs) {b : Nat} (hb : b ≤ base) : Ow f w b e A c xs := by
  refine ⟨h.1, ?_⟩
  rcases h.2 with hn | ⟨g, cap, cur, hv, hbg, r⟩
  · exact .inl hn
  · exact .inr ⟨g, cap, cur, hv, Nat.le_trans hb hbg, r⟩
/-- What is owned stays so where all blocks below B are as they were and it lies below B. -/
theorem Ow.below (h : Ow f w base e A c xs) {B : Nat} (hB : w.heap.size ≤ B) (hb : Below B w w') : Ow f w' base e A c xs :=
  h.kept (row := none) ⟨hb.os, hb.tape, hb.output, hb.size, fun k hk _ => hb.block k (Nat.lt_of_lt_of_le hk hB)⟩ (by cases blk A <;> simp)
end

theorem grown_of_below {a w : World} {B : Nat} (h : Below B a w) (hB : a.heap.size ≤ B) (row : Option Nat) : a.grownBy w row := ⟨h.os, h.tape, h.output, h.size, fun i hi _ => h.block i (Nat.lt_of_lt_of_le hi hB)⟩
theorem below_of_grown {a w : World} {row : Option Nat} (h : a.grownBy w row) {B : Nat} (hB : B ≤ a.heap.size) (hr : ∀ k, row = some k → B ≤ k) : Below B a w := (Below.refl B a).grown h hB hr
theorem below_drewN (B : Nat) (w : World) (n : Nat) : Below B w (w.drewN n) := ⟨rfl, rfl, rfl, Nat.le_refl _, fun _ _ => rfl⟩
theorem below_new (w : World) (o : Obj) : Below w.heap.size w (w.alloc o) := (Below.refl _ w).alloc (Nat.le_refl _) o

section
variable {P : Program} (w : World)

/-- 'append(s, x...)': s is owned, x is read. -/
theorem run_append_f {α : Type} {f : α → Value} (hf : ∀ x, (f x).oneCell' = true) (base e bt : Nat) (t ty : TypeId) (i : TypeInfo) (z : Value) (ht : P.underlying t = some (.slice e)) (hi : P.info? e = some i) (hz : i.zero = some z) (hsize : i.size = 1) (hby : i.bytes = bt) (hbt : bt ≤ 24) (hzs : z.cells.size = 1)
    {A A2 : Option Addr} {c c2 B : Nat} {l m : List α} (hown : Ow f w base e A c l) (hr : Rf f w B A2 c2 m) (hle : l.length + m.length ≤ 4000000000) (hbase : base ≤ w.heap.size) :
    ∃ A' c' w', (Builtin.append_ #[t, t] ty #[.slice A l.length c, .slice A2 m.length c2]).run P w = .ok (.slice A' (l ++ m).length c') w' ∧ Ow f w' base e A' c' (l ++ m) ∧ w.grownBy w' (blk A) ∧
      (blk A' = blk A ∨ blk A' = some w.heap.size) := by
  cases A2 with
  | some ad =>
    obtain ⟨v', w', hrun, h2, h3, _, h5⟩ := run_append_own_at (P := P) w base t ty e i z 1 bt ht hi hz hsize hby hzs (by omega) _ _ _ hown ad m.length c2 (m.map f) (by simp) hr.news (by intro u hu; obtain ⟨x, _, rfl⟩ := List.mem_map.1 hu; exact hf x)
      (by simp only [maxLen]; omega) (by have := Nat.mul_le_mul hle hbt; omega) hbase
    rw [← List.map_append, ← List.length_append] at h2
    have hform : ∃ A' c', v' = .slice A' (l ++ m).length c' := by
      rcases h2.2 with ⟨rfl, hn⟩ | ⟨g, cap, cur, rfl, _⟩
      · exact ⟨none, 0, by rw [hn]⟩
      · exact ⟨_, _, rfl⟩
    obtain ⟨A', c', rfl⟩ := hform
    refine ⟨A', c', w', hrun, h2, by rw [own_block] at h3; exact h3, ?_⟩
    rw [own_block, own_block] at h5
    exact h5
  | none =>
    have hc2 := hr.nil rfl
    have hm : m = [] := List.eq_nil_of_length_eq_zero (by have := hr.cap; omega)
    subst hm
    subst hc2
    refine ⟨A, c, w, ?_, by simpa using hown, World.grownBy.refl w _, .inl rfl⟩
    have := run_append_owned_none (P := P) w base t ty e i 1 ht hi _ _ _ hown
    simpa using this

/-- The same, for the walk. -/
theorem wpList_append_f {α : Type} {f : α → Value} (hf : ∀ x, (f x).oneCell' = true) {ops : Array Oper} {rest : List Oper} {o : Oper} {a : Act} {Q : Exit → Act → World → Prop} (hgd : o.guard = none) (s x : Operand) (t : TypeId)
    (ho : o.op = .call { callee := .builtin .append, args := #[s, x], argTypes := #[t, t] })
    (base e bt : Nat) (i : TypeInfo) (z : Value) (ht : P.underlying t = some (.slice e)) (hi : P.info? e = some i) (hz : i.zero = some z) (hsize : i.size = 1) (hby : i.bytes = bt) (hbt : bt ≤ 24) (hzs : z.cells.size = 1)
    {A A2 : Option Addr} {c c2 B : Nat} (l m : List α) (hs : a.eval s = .slice A l.length c) (hx : a.eval x = .slice A2 m.length c2) (hown : Ow f w base e A c l) (hr : Rf f w B A2 c2 m)
    (hle : l.length + m.length ≤ 4000000000) (hbase : base ≤ w.heap.size)
    (h : ∀ A' c' w' r, Hid (r = l ++ m) → Ow f w' base e A' c' r → w.grownBy w' (blk A) → (blk A' = blk A ∨ blk A' = some w.heap.size) → wpList P ops Q rest (a.put o.dst (.slice A' r.length c')) w') :
    wpList P ops Q (o :: rest) a w := by
  refine wpList_plain hgd fun K hK => ?_
  obtain ⟨A', c', w', hrun, h2, h3, h4⟩ := run_append_f (P := P) w hf base e bt t o.type i z ht hi hz hsize hby hbt hzs hown hr hle hbase
  unfold Oper.wp execOp
  simp only [ho, resolve, invoke, builtin, Sem.run_bind, Sem.run_pure, Result.andThen_ok, List.map_toArray, List.map_cons, List.map_nil, hs, hx, hrun]
  exact hK _ _ (h A' c' w' _ rfl h2 h3 h4)

/-- The same, in a body that is walked inside a fence. -/
theorem wpListIn_append_f {F : Fence} {n : Nat} {α : Type} {f : α → Value} (hf : ∀ x, (f x).oneCell' = true) {ops : Array Oper} {rest : List Oper} {o : Oper} {a : Act} {Q : Exit → Act → World → Prop} (hgd : o.guard = none) (s x : Operand) (t : TypeId)
    (ho : o.op = .call { callee := .builtin .append, args := #[s, x], argTypes := #[t, t] })
    (base e bt : Nat) (i : TypeInfo) (z : Value) (ht : P.underlying t = some (.slice e)) (hi : P.info? e = some i) (hz : i.zero = some z) (hsize : i.size = 1) (hby : i.bytes = bt) (hbt : bt ≤ 24) (hzs : z.cells.size = 1)
    {A A2 : Option Addr} {c c2 B : Nat} (l m : List α) (hs : a.eval s = .slice A l.length c) (hx : a.eval x = .slice A2 m.length c2) (hown : Ow f w base e A c l) (hr : Rf f w B A2 c2 m)
    (hle : l.length + m.length ≤ 4000000000) (hbase : base ≤ w.heap.size)
    (h : ∀ A' c' w' r, Hid (r = l ++ m) → Ow f w' base e A' c' r → w.grownBy w' (blk A) → (blk A' = blk A ∨ blk A' = some w.heap.size) → wpListIn F n P ops Q rest (a.put o.dst (.slice A' r.length c')) w') :
    wpListIn F n P ops Q (o :: rest) a w := by
  refine wpListIn_plain hgd fun K hK => ?_
  obtain ⟨A', c', w', hrun, h2, h3, h4⟩ := run_append_f (P := P) w hf base e bt t o.type i z ht hi hz hsize hby hbt hzs hown hr hle hbase
  unfold Oper.wpIn
  refine ⟨?_, ?_⟩
  · simp [Oper.about, ho, resolve, Target.leads, Sem.run_pure]
  · rw [Oper.semAt_plain F _ _ (by rw [ho]; intro c hc'; cases hc')]
    simp only [execOp, ho, resolve, invoke, builtin, Sem.run_bind, Sem.run_pure, Result.andThen_ok, List.map_toArray, List.map_cons, List.map_nil, hs, hx, hrun]
    exact hK _ _ (h A' c' w' _ rfl h2 h3 h4)

/-- A one-element literal. -/
theorem rf_one {α : Type} {f : α → Value} (x : α) (e : Nat) : Rf f (w.alloc (.cells #[f x] e)) (w.heap.size + 1) (some ⟨w.heap.size, 0, none⟩) 1 [x] := by
  refine ⟨by simp, by simp [maxLen], (fun e => by cases e), fun ad he j hj => ?_⟩
  obtain rfl := Option.some.inj he
  refine ⟨by simp, ?_⟩
  have hj0 : j = 0 := by simp at hj; omega
  subst hj0
  exact cell_one_new w _ e 0 _ rfl
/-- An empty literal. -/
theorem ow_zero {α : Type} {f : α → Value} (e base : Nat) (hb : base ≤ w.heap.size) : Ow f (w.alloc (.cells #[] e)) base e (some ⟨w.heap.size, 0, none⟩) 0 [] := by
  have := World.ownsRow_lit (base := base) (e := e) (size := 1) w #[] 0 hb (by simp [maxLen]) (by simp)
  exact this
end

/-- Block g is just the cells cs of element type t. -/
def Blk (w : World) (g : Nat) (t : TypeId) (cs : Array Value) : Prop := w.heap[g]? = some (.cells cs t (0, 0))
section
variable {w w' : World} {g : Nat} {t : TypeId} {cs : Array Value}
theorem Blk.lt (h : Blk w g t cs) : g < w.heap.size := by
  rcases Nat.lt_or_ge g w.heap.size with hlt | hge
  · exact hlt
  · unfold Blk at h; rw [Array.getElem?_eq_none hge] at h; cases h
theorem Blk.cell (h : Blk w g t cs) (i : Nat) : w.cell? ⟨g, i, none⟩ = cs[i]? := cell_of_row w g i cs t (0, 0) h
theorem Blk.frozen (h : Blk w g t cs) (i : Nat) : w.frozen? ⟨g, i, none⟩ = false := by
  unfold Blk at h
  simp [World.frozen?, h]
theorem Blk.new (w : World) (t : TypeId) (cs : Array Value) : Blk (w.alloc (.cells cs t)) w.heap.size t cs := heap_alloc_new w _
theorem Blk.drewN (h : Blk w g t cs) (n : Nat) : Blk (w.drewN n) g t cs := h
theorem Blk.alloc (h : Blk w g t cs) (o : Obj) : Blk (w.alloc o) g t cs := (Below.heap_alloc w o g h.lt).trans h
theorem Blk.set_ (h : Blk w g t cs) (i : Nat) (u : Value) : Blk (w.setCell ⟨g, i, none⟩ u) g t (cs.setIfInBounds i u) := by
  unfold Blk at h ⊢
  simp [World.setCell, Array.getElem?_modify, h]
theorem Blk.far (h : Blk w g t cs) {p : Addr} (hp : g ≠ p.block) (u : Value) : Blk (w.setCell p u) g t cs := (Below.heap_setCell w p u g hp).trans h
theorem Blk.below {B : Nat} (h : Blk w g t cs) (hb : Below B w w') (hg : g < B) : Blk w' g t cs := (hb.block g hg).trans h
theorem Blk.grown {row : Option Nat} (h : Blk w g t cs) (hb : w.grownBy w' row) (hg : some g ≠ row) : Blk w' g t cs := (hb.block g h.lt hg).trans h
theorem ow_blk_ne {α : Type} {f : α → Value} {base e c : Nat} {A : Option Addr} {xs : List α} (h : Ow f w base e A c xs) (hg : Blk w g t cs) (hne : e ≠ t) : some g ≠ blk A := by
  rcases h.2 with ⟨hv, _⟩ | ⟨g', cap, cur, hv, _, hh, _⟩
  · simp only [Value.slice.injEq] at hv
    rw [hv.1]
    simp [blk]
  · simp only [Value.slice.injEq] at hv
    rw [hv.1]
    intro he
    have : g = g' := by simpa [blk] using he
    subst this
    unfold Blk at hg
    rw [hh] at hg
    injection hg with h'
    injection h' with _ ht
    exact hne ht
end
theorem grown_set (w : World) (p : Addr) (v : Value) : w.grownBy (w.setCell p v) (some p.block) :=
  ⟨rfl, rfl, rfl, (Below.refl 0 w).setCell (p := p) (Nat.zero_le _) v |>.size, fun k _ hk => Below.heap_setCell _ _ _ k (fun e => hk (by rw [e]))⟩

/-- Strings as lists of bytes. -/
def sv (l : List UInt8) : Value := .string ⟨l.toArray⟩
theorem sv_one (l : List UInt8) : (sv l).oneCell' = true := rfl
/-- Bytes. -/
def bv (b : UInt8) : Value := .int .u8 (b.toNat : Int)
theorem bv_one (b : UInt8) : (bv b).oneCell' = true := rfl
/-- Limbs. -/
def uv (x : UInt32) : Value := .int .u32 (x.toNat : Int)
theorem uv_one (x : UInt32) : (uv x).oneCell' = true := rfl

theorem mk_get (l : List UInt8) (k : Nat) (h : k < (⟨l.toArray⟩ : ByteArray).size) : (⟨l.toArray⟩ : ByteArray)[k] = l[k]'(by simpa [ByteArray.size] using h) := rfl
theorem mk_append (l m : List UInt8) : (⟨l.toArray⟩ : ByteArray) ++ ⟨m.toArray⟩ = ⟨(l ++ m).toArray⟩ := ByteArray.mk_append_mk ..
theorem mk_eta (s : ByteArray) : (⟨s.data.toList.toArray⟩ : ByteArray) = s := by cases s; rfl
theorem mk_extract (l : List UInt8) (a b : Nat) : (⟨l.toArray⟩ : ByteArray).extract a b = ⟨((l.drop a).take (b - a)).toArray⟩ := by
  apply ByteArray.ext
  rw [ByteArray.data_extract]
  apply Array.toList_inj.1
  simp

section
variable {P : Program} (w : World)
/-- 'append(b, s...)' of a string. -/
theorem wpList_append_text {ops : Array Oper} {rest : List Oper} {o : Oper} {a : Act} {Q : Exit → Act → World → Prop} (hgd : o.guard = none) (sl x : Operand) (t u : TypeId)
    (ho : o.op = .call { callee := .builtin .append, args := #[sl, x], argTypes := #[t, u] })
    (base : Nat) (e : TypeId) (i : TypeInfo) (ht : P.underlying t = some (.slice e)) (hu : P.underlying u = some .string) (hi : P.info? e = some i) (hz : i.zero = some (.int .u8 0))
    (hsize : i.size = 1) (hby : i.bytes = 1) {A : Option Addr} {c : Nat} (l m : List UInt8) (hs : a.eval sl = .slice A l.length c) (hx : a.eval x = .string ⟨m.toArray⟩) (hown : Ow bv w base e A c l)
    (hle : l.length + m.length ≤ 4000000000) (hbase : base ≤ w.heap.size)
    (h : ∀ A' c' w' r, Hid (r = l ++ m) → Ow bv w' base e A' c' r → w.grownBy w' (blk A) → wpList P ops Q rest (a.put o.dst (.slice A' r.length c')) w') : wpList P ops Q (o :: rest) a w := by
  refine Lib.wpList_append_own_string w hgd sl x t u ho base e i ht hu hi hz hsize hby _ _ _ hs hown ⟨m.toArray⟩ hx (by simp [ByteArray.size, maxLen]; omega) (by simp [ByteArray.size]; omega) hbase ?_
  intro v' w' h2 h3 _
  have e1 : l.length + (⟨m.toArray⟩ : ByteArray).size = (l ++ m).length := by simp [ByteArray.size]
  have e2 : l.map bv ++ Lib.strCells ⟨m.toArray⟩ = (l ++ m).map bv := by
    rw [List.map_append]
    congr 1
  rw [e1, e2] at h2
  have hform : ∃ A' c', v' = .slice A' (l ++ m).length c' := by
    rcases h2.2 with ⟨rfl, hn⟩ | ⟨g, cap, cur, rfl, _⟩
    · exact ⟨none, 0, by rw [hn]⟩
    · exact ⟨_, _, rfl⟩
  obtain ⟨A', c', rfl⟩ := hform
  rw [own_block] at h3
  exact h A' c' w' _ rfl h2 h3

/-- 'string(b)'. -/
theorem run_string_f (src dst e : TypeId) (hs : P.underlying src = some (.slice e)) (he : P.underlying e = some (.int .u8)) (hd : P.underlying dst = some .string) {B c : Nat} {A : Option Addr} {l : List UInt8} (h : Rf bv w B A c l) :
    (convert src dst (.slice A l.length c)).run P w = .ok (.string ⟨l.toArray⟩) w := by
  cases A with
  | none =>
    have hl : l = [] := List.eq_nil_of_length_eq_zero (by have := h.cap; have := h.nil rfl; omega)
    subst hl
    exact run_convert_bytes_nil w src e hs he _ _ dst hd
  | some ad => exact run_convert_bytes_back w src dst e ad c l hs he hd fun j hj => (h.cell ad rfl j hj).2
end
/-- Block g holds just the limbs L. t: the number of the type uint32. -/
def Ub (w : World) (g t : Nat) (L : List UInt32) : Prop := Blk w g t (L.map uv).toArray
section
variable {w w' : World} {g t : Nat} {L : List UInt32}
theorem Ub.lt (h : Ub w g t L) : g < w.heap.size := Blk.lt h
theorem Ub.cell (h : Ub w g t L) {i : Nat} (hi : i < L.length) : w.cell? ⟨g, i, none⟩ = some (.int .u32 ((L[i]).toNat : Int)) := by
  have e := Blk.cell h i
  rw [e]
  simp [hi, uv]
theorem Ub.frozen (h : Ub w g t L) (i : Nat) : w.frozen? ⟨g, i, none⟩ = false := Blk.frozen h i
theorem Ub.set_ (h : Ub w g t L) (i : Nat) (x : UInt32) (v : Int) (hv : v = (x.toNat : Int)) : Ub (w.setCell ⟨g, i, none⟩ (.int .u32 v)) g t (L.set i x) := by
  subst hv
  have e := Blk.set_ h i (uv x)
  unfold Ub
  have e2 : ((L.set i x).map uv).toArray = (L.map uv).toArray.setIfInBounds i (uv x) := by
    rw [List.map_set]; simp
  rw [e2]
  exact e
theorem Ub.drewN (h : Ub w g t L) (n : Nat) : Ub (w.drewN n) g t L := h
theorem Ub.drew (h : Ub w g t L) : Ub w.drew g t L := h
theorem Ub.alloc (h : Ub w g t L) (o : Obj) : Ub (w.alloc o) g t L := Blk.alloc h o
theorem Ub.below {B : Nat} (h : Ub w g t L) (hb : Below B w w') (hg : g < B) : Ub w' g t L := Blk.below h hb hg
theorem Ub.grown {row : Option Nat} (h : Ub w g t L) (hb : w.grownBy w' row) (hg : some g ≠ row) : Ub w' g t L := Blk.grown h hb hg
theorem Ub.away (h : Ub w g t L) {p : Addr} (hp : g ≠ p.block) (u : Value) : Ub (w.setCell p u) g t L := Blk.far h hp u
/-- A piece of it reads as a piece of the list. -/
theorem Ub.rf (h : Ub w g t L) {o n c : Nat} (hn : o + n ≤ L.length) (hc : n ≤ c) (hm : c ≤ maxLen) : Rf uv w w.heap.size (some ⟨g, o, none⟩) c (seg L o n) := by
  refine ⟨by rw [seg_len hn]; exact hc, hm, (fun e => by cases e), fun ad e j hj => ?_⟩
  obtain rfl := Option.some.inj e
  rw [seg_len hn] at hj
  rw [add_plain]
  refine ⟨h.lt, ?_⟩
  rw [h.cell (by omega), seg_get hn hj]
  rfl
theorem Ub.rf_take (h : Ub w g t L) {n c : Nat} (hn : n ≤ L.length) (hc : n ≤ c) (hm : c ≤ maxLen) : Rf uv w w.heap.size (some ⟨g, 0, none⟩) c (L.take n) := by
  have := h.rf (o := 0) (n := n) (c := c) (by omega) hc hm
  rwa [seg_take] at this
theorem Ub.rf_all (h : Ub w g t L) {c : Nat} (hc : L.length ≤ c) (hm : c ≤ maxLen) : Rf uv w w.heap.size (some ⟨g, 0, none⟩) c L := by
  have := h.rf_take (n := L.length) (c := c) (Nat.le_refl _) hc hm
  rwa [List.take_of_length_le (Nat.le_refl _)] at this
end
theorem Rf.grown {α : Type} {f : α → Value} {w w' : World} {B c : Nat} {A : Option Addr} {xs : List α} {row : Option Nat} (h : Rf f w B A c xs) (hg : w.grownBy w' row) (hB : B ≤ w.heap.size) (hne : 0 < xs.length → blk A ≠ row) : Rf f w' B A c xs := by
  refine ⟨h.cap, h.capm, h.nil, fun ad e j hj => ?_⟩
  subst e
  obtain ⟨h1, h2⟩ := h.cell ad rfl j hj
  refine ⟨h1, ?_⟩
  have hb : (ad.add j).block = ad.block := add_block _ _
  rw [World.cell?_of_block (hg.block (ad.add j).block (by omega) (by
    intro e2
    exact hne (by omega) (by rw [← e2, hb]; rfl)))]
  exact h2
theorem Rf.ne {α : Type} {f : α → Value} {w : World} {B c g : Nat} {A : Option Addr} {xs : List α} (h : Rf f w B A c xs) (hB : B ≤ g) : 0 < xs.length → blk A ≠ some g := by
  intro hp e
  obtain ⟨b, o, rfl, hb, _⟩ := h.at_ (k := 0) hp
  have : b = g := by simpa [blk] using e
  omega
theorem grown_refl (w : World) (r : Option Nat) : w.grownBy w r := World.grownBy.refl w r
theorem grown_setCell {a w : World} {g : Nat} (h : a.grownBy w (some g)) (i : Nat) (u : Value) : a.grownBy (w.setCell ⟨g, i, none⟩ u) (some g) := h.trans (grown_set w ⟨g, i, none⟩ u)
theorem grown_drewN {a w : World} {r : Option Nat} (h : a.grownBy w r) (n : Nat) : a.grownBy (w.drewN n) r := ⟨h.os, h.tape, h.output, h.size, h.block⟩
theorem grown_drew {a w : World} {r : Option Nat} (h : a.grownBy w r) : a.grownBy w.drew r := ⟨h.os, h.tape, h.output, h.size, h.block⟩

theorem quiet_add_left {P : Program} {f : FuncId} {args : Array Value} {w : World} {a n : Nat} {v : Value}
    (h : Calls P f args (w.drewN (a + n)) fun e w' => e = .returned v ∧ w.drewN (a + n) = w') :
    Calls P f args (w.drewN (a + n)) fun e w'' => e = .returned v ∧ ∃ m, w'' = w.drewN (a + m) :=
  h.mono fun _ _ ⟨he, hm⟩ => ⟨he, n, hm.symm⟩
theorem quiet_left {P : Program} {f : FuncId} {args : Array Value} {w : World} {n : Nat} {v : Value}
    (h : Calls P f args (w.drewN n) fun e w' => e = .returned v ∧ w.drewN n = w') : Calls P f args (w.drewN n) fun e w'' => e = .returned v ∧ ∃ m, w'' = w.drewN m :=
  h.mono fun _ _ ⟨he, hm⟩ => ⟨he, n, hm.symm⟩
theorem or_low (h l : Nat) (hh : h < 4294967296) (hl : l < 4294967296) : bits .or .u64 ((h : Int) * 4294967296) (l : Int) = ((4294967296 * h + l : Nat) : Int) := by
  have e : ((h : Int) * 4294967296) = ((2 ^ 32 * h : Nat) : Int) := by simp; omega
  rw [e, u64_or_nat _ _ (by omega) (by omega), ← Nat.two_pow_add_eq_or_of_lt (by omega)]

set_option maxHeartbeats 400000 in
theorem word_any (h l : Nat) (w : World) (hh : h < 4294967296) (hl : l < 4294967296) : Calls Try.prog 95 #[.int .u32 h, .int .u32 l] w fun e w' => e = .returned (.int .u64 ((4294967296 * h + l : Nat) : Int)) ∧ w = w' := by
  go_enter Try.func95, Try.ntmps95
  go_wp2_with fail
  go_ret
  exact ⟨congrArg (fun n => Ending.returned (.int .u64 n)) (or_low h l hh hl), rfl⟩

set_option maxHeartbeats 400000 in
theorem add32_any (x y c : Nat) (w : World) (hx : x < 4294967296) (hy : y < 4294967296) (hc : c < 4294967296) : Calls Try.prog 93 #[.int .u32 x, .int .u32 y, .int .u32 c] w fun e w' => e = .returned (.tuple #[.int .u32 (((x + y + c) % 4294967296 : Nat) : Int), .int .u32 (((x + y + c) / 4294967296 : Nat) : Int)]) ∧ w = w' := by
  go_enter Try.func93, Try.ntmps93
  go_wp2_with fail
  go_ret2
  refine ⟨?_, rfl⟩
  simp

/-- What Sub32 borrows. -/
def brw (x y : Nat) : Nat := if x < y then 1 else 0
theorem brw_le (x y : Nat) : brw x y ≤ 1 := by unfold brw; split <;> omega
theorem div_31 (n : Nat) (h : n < 4294967296) : n / 2147483648 = (n.testBit 31).toNat := by
  rw [Nat.testBit_eq_decide_div_mod_eq]
  have e : (2 : Nat) ^ 31 = 2147483648 := by decide
  rw [e]
  by_cases hd : n / 2147483648 % 2 = 1
  · rw [decide_eq_true hd]; simp; omega
  · rw [decide_eq_false hd]; simp; omega
theorem bit_31 (n : Nat) (h : n < 4294967296) : n.testBit 31 = decide (2147483648 ≤ n) := by
  rw [Nat.testBit_eq_decide_div_mod_eq]
  have e : (2 : Nat) ^ 31 = 2147483648 := by decide
  rw [e]
  by_cases hd : 2147483648 ≤ n
  · rw [decide_eq_true hd]; simp; omega
  · rw [decide_eq_false hd]; simp; omega
theorem borrow_nat (x y : Nat) (hx : x < 4294967296) (hy : y < 4294967296) :
    ((4294967295 ^^^ x) &&& y ||| ((4294967295 ^^^ (x ^^^ y)) &&& ((x + 4294967296 - y) % 4294967296))) / 2147483648 = brw x y := by
  have b1 : (4294967295 ^^^ x) < 2 ^ 32 := Nat.xor_lt_two_pow (by decide) hx
  have b2 : (x ^^^ y) < 2 ^ 32 := Nat.xor_lt_two_pow hx hy
  have b3 : (4294967295 ^^^ (x ^^^ y)) < 2 ^ 32 := Nat.xor_lt_two_pow (by decide) b2
  have b4 : ((4294967295 ^^^ x) &&& y) < 2 ^ 32 := Nat.and_lt_two_pow _ hy
  have b5 : ((4294967295 ^^^ (x ^^^ y)) &&& ((x + 4294967296 - y) % 4294967296)) < 2 ^ 32 := Nat.and_lt_two_pow _ (by omega)
  rw [div_31 _ (Nat.or_lt_two_pow b4 b5), Nat.testBit_or, Nat.testBit_and, Nat.testBit_and, Nat.testBit_xor, Nat.testBit_xor, Nat.testBit_xor, bit_31 x hx, bit_31 y hy, bit_31 _ (show (x + 4294967296 - y) % 4294967296 < 4294967296 by omega)]
  have e : (4294967295 : Nat).testBit 31 = true := by decide
  rw [e]
  unfold brw
  by_cases h1 : 2147483648 ≤ x <;> by_cases h2 : 2147483648 ≤ y <;> by_cases h3 : 2147483648 ≤ (x + 4294967296 - y) % 4294967296 <;> by_cases h4 : x < y <;> simp [h1, h2, h3, h4] <;> omega
theorem borrow_int (x y : Nat) (hx : x < 4294967296) (hy : y < 4294967296) :
    bits .or .u32 (bits .and .u32 (bits .xor .u32 IntKind.u32.max (x : Int)) (y : Int)) (bits .and .u32 (bits .xor .u32 IntKind.u32.max (bits .xor .u32 (x : Int) (y : Int))) (((x : Int) - (y : Int)) % 4294967296)) / 2147483648 = (brw x y : Int) := by
  have em : IntKind.u32.max = ((4294967295 : Nat) : Int) := by decide
  have ed : ((x : Int) - (y : Int)) % 4294967296 = (((x + 4294967296 - y) % 4294967296 : Nat) : Int) := by omega
  have b1 : (4294967295 ^^^ x) < 2 ^ 32 := Nat.xor_lt_two_pow (by decide) hx
  have b2 : (x ^^^ y) < 2 ^ 32 := Nat.xor_lt_two_pow hx hy
  have b3 : (4294967295 ^^^ (x ^^^ y)) < 2 ^ 32 := Nat.xor_lt_two_pow (by decide) b2
  have b4 : ((4294967295 ^^^ x) &&& y) < 2 ^ 32 := Nat.and_lt_two_pow _ hy
  have b5 : ((4294967295 ^^^ (x ^^^ y)) &&& ((x + 4294967296 - y) % 4294967296)) < 2 ^ 32 := Nat.and_lt_two_pow _ (by omega)
  rw [em, ed, u32_xor_nat _ _ (by decide) hx, u32_xor_nat _ _ hx hy, u32_xor_nat _ _ (by decide) b2, u32_and_nat _ _ b1 hy, u32_and_nat _ _ b3 (by omega), u32_or_nat _ _ b4 b5, ← borrow_nat x y hx hy]
  simp

set_option maxHeartbeats 400000 in
theorem sub32_any (x y : Nat) (w : World) (hx : x < 4294967296) (hy : y < 4294967296) : Calls Try.prog 100 #[.int .u32 x, .int .u32 y, .int .u32 0] w fun e w' => e = .returned (.tuple #[.int .u32 (((x + 4294967296 - y) % 4294967296 : Nat) : Int), .int .u32 (brw x y)]) ∧ w = w' := by
  have HB := Lib.hid (borrow_int x y hx hy)
  have HS := Lib.hid (show ((x : Int) - (y : Int)) % 4294967296 = (((x + 4294967296 - y) % 4294967296 : Nat) : Int) by omega)
  go_enter Try.func100, Try.ntmps100
  go_wp2_with fail
  go_ret2
  refine ⟨?_, rfl⟩
  rw [← HB.out]
  simp
  omega

/-- The shift of a division: x shifted so far stays one limb. -/
theorem bitLen_lt : ∀ (f x : Nat), x < 2 ^ f → x < 2 ^ Lib.bitLenAux f x := by
  intro f
  induction f with
  | zero => intro x h; simp at h; subst h; decide
  | succ f ih =>
    intro x h
    unfold Lib.bitLenAux
    split
    · omega
    · have := ih (x / 2) (by rw [Nat.pow_succ] at h; omega)
      rw [Nat.add_comm, Nat.pow_succ]
      omega
/-- LeadingZeros32: x shifted so far is one limb. -/
theorem zeros_any (x : Nat) (w : World) (h0 : x < 4294967296) (h1 : 0 < x) : Calls Try.prog 89 #[.int .u32 x] w fun e w' => ∃ n : Nat, e = .returned (.int .i64 n) ∧ n ≤ 31 ∧ x * 2 ^ n < 4294967296 ∧ w = w' := by
  refine (Try.bits_LeadingZeros32 x w (by omega) (by omega)).mono ?_
  rintro e w' ⟨rfl, rfl⟩
  have e1 : ((x : Int)).toNat = x := by omega
  rw [e1]
  have h2 : x < 2 ^ Lib.bitLen x := bitLen_lt 64 x (Nat.lt_of_lt_of_le h0 (by decide))
  have h3 : Lib.bitLen x ≤ 32 := by have := Any.bitLen_le32 (x : Int) (by omega) (by omega); rwa [e1] at this
  have h4 : 1 ≤ Lib.bitLen x := by
    rcases Nat.eq_zero_or_pos (Lib.bitLen x) with e | e
    · rw [e] at h2; omega
    · exact e
  refine ⟨32 - Lib.bitLen x, ?_, by omega, ?_, rfl⟩
  · congr 2; omega
  · have h5 : x * 2 ^ (32 - Lib.bitLen x) < 2 ^ Lib.bitLen x * 2 ^ (32 - Lib.bitLen x) := Nat.mul_lt_mul_of_pos_right h2 (Nat.pow_pos (by decide))
    rw [← Nat.pow_add] at h5
    have h6 : Lib.bitLen x + (32 - Lib.bitLen x) = 32 := by omega
    rw [h6] at h5
    exact h5

set_option maxHeartbeats 400000 in
theorem limbAt_any (A : Option Addr) (c B : Nat) (xs : List UInt32) (i : Nat) (w : World) (hr : Rf uv w B A c xs) (hi : i ≤ 4000000000) : Calls Try.prog 94 #[.slice A xs.length c, .int .i64 i] w fun e w' => e = .returned (.int .u32 (lat xs i)) ∧ w = w' := by
  by_cases h : i < xs.length
  · have e := lat_in h
    obtain ⟨b, o, rfl, hb, hc⟩ := hr.at_ h
    have hci := hc i h
    unfold uv at hci
    have HE := Lib.hid e
    clear e hc
    go_enter Try.func94, Try.ntmps94
    go_wp2_with fail
    go_ret
    exact ⟨by rw [HE.out]; rfl, rfl⟩
  · have e := lat_out (m := xs) (i := i) (by omega)
    have HE := Lib.hid e
    clear e
    go_enter Try.func94, Try.ntmps94
    go_wp2_with fail
    go_ret
    exact ⟨by rw [HE.out]; rfl, rfl⟩

theorem uInfo : (Try.prog.info? 55).map (fun i => (i.zero, i.size, i.bytes)) = some (some (.int .u32 0), 1, 4) := by kernel_rfl
theorem uSize : (Try.prog.info? 55).map (·.size) = some 1 := by kernel_rfl
theorem ub_made (w : World) (n : Nat) : Ub (w.alloc (.cells (madeCells #[.int .u32 0] (n * 1)) 55)) w.heap.size 55 (List.replicate n 0) := by
  have e : ((List.replicate n (0 : UInt32)).map uv).toArray = madeCells #[.int .u32 0] (n * 1) := by
    apply Array.toList_inj.1
    rw [toList_madeCells_one, List.map_replicate, Nat.mul_one]
    rfl
  unfold Ub
  rw [e]
  exact Blk.new w _ _
theorem wpList_make_ub (w : World) {ops : Array Oper} {rest : List Oper} {o : Oper} {a : Act} {Q : Exit → Act → World → Prop}
    (hg : o.guard = none) (l c : Operand) (hop : o.op = Op.makeSlice 25 l c) (C : Int) (n : Nat) (hl : a.eval l = .int .i64 C) (hc : a.eval c = .int .i64 C) (hC : C = (n : Int)) (hn : n ≤ 1000000)
    (hK : ∀ w', Ub w' w.heap.size 55 (List.replicate n 0) → Below w.heap.size w w' → w.heap.size < w'.heap.size → wpList Try.prog ops Q rest (a.put o.dst (.slice (some ⟨w.heap.size, 0, none⟩) n n)) w') :
    wpList Try.prog ops Q (o :: rest) a w := by
  obtain ⟨i, hi, hz0, hz1, hz2⟩ := info_parts uInfo
  refine wpList_plain hg fun K hK' => ?_
  have hrun := run_make (P := Try.prog) w 25 55 i _ Try.underlying25 hi hz0 .i64 .i64 (n : Int) (n : Int) (by omega) (by omega) (by rw [hz2]; omega) (by omega)
  subst hC
  simp only [Int.toNat_natCast] at hrun
  rw [hz1] at hrun
  unfold Oper.wp
  simp [execOp, hop, hl, hc, hrun, Result.andThen]
  refine hK' _ _ (hK _ ?_ (below_new _ _) (by simp))
  have := ub_made w n
  rwa [Nat.mul_one] at this

set_option maxHeartbeats 400000 in
theorem trim_any (A : Option Addr) (c B : Nat) (L : List UInt32) (w : World) (hr : Rf uv w B A c L) (hl : L.length ≤ 1000000) :
    Calls Try.prog 81 #[.slice A L.length c] w fun e w' => e = .returned (.slice A (limbs (val L)).length (limbs (val L)).length) ∧ w = w' := by
  have hcap := hr.cap
  have hcm := hr.capm
  unfold maxLen at hcm
  go_enter Try.func81, Try.ntmps81
  go_wp2_with fail
  go_loop [3] (fun i => ∃ k : Nat, k ≤ L.length ∧ i = .int .i64 k ∧ Hid (val L = val (L.take k))) (fun i => (intOf i).toNat)
  case atStart => exact ⟨L.length, Nat.le_refl _, rfl, (val_take_len L).symm⟩
  case round =>
    obtain ⟨k, hk, rfl, hv⟩ := hrel
    by_cases h0 : k = 0
    · subst h0
      have HZ := Lib.hid (show limbs (val L) = [] by rw [hv.out]; exact limbs_zero)
      go_wp2_with fail
      go_ret
      refine ⟨?_, rfl⟩
      rw [HZ.out]; rfl
    · obtain ⟨j, rfl⟩ : ∃ j, k = j + 1 := ⟨k - 1, by omega⟩
      have hj : j < L.length := by omega
      obtain ⟨b, o, rfl, hb, hc⟩ := hr.at_ hj
      have hcj := hc j hj
      unfold uv at hcj
      have HV := val_take_succ hj
      have HS := Lib.hid (show (L.take (j + 1)).length = j + 1 by rw [List.length_take]; omega)
      have HL := @limbs_val_last (L.take (j + 1)) j
      have HG : (L.take (j + 1))[j]'(by rw [HS.out]; omega) = L[j] := by simp
      by_cases hx : L[j] = 0
      · have HN : Hid (val L = val (L.take j)) := by
          show val L = _
          rw [hv.out, HV, hx]; simp
        have HX : ((L[j]).toNat : Int) = 0 := by rw [hx]; rfl
        clear HV HL HG hx hc
        go_wp2_with fail
        go_round
        case rel => exact ⟨j, by omega, by go_num, HN⟩
        case measure => simp [intOf]
      · have hx2 : (L[j]).toNat ≠ 0 := fun e => hx (u32_eq (by rw [e]; rfl))
        have HZ := Lib.hid (show (limbs (val L)).length = j + 1 by rw [hv.out, HL HS.out (by rw [HG]; exact hx), HS.out])
        have HX : (((L[j]).toNat : Int) == 0) = false := by simp; omega
        clear HV HL HG hx hc
        go_wp2_with fail
        go_ret
        refine ⟨?_, rfl⟩
        rw [HZ.out]; rfl
theorem limbs_prefix (L : List UInt32) : ∀ k, val L = val (L.take k) → (k = 0 ∨ ∃ j, k = j + 1 ∧ ∃ h : j < L.length, L[j] ≠ 0) → limbs (val L) = L.take k := by
  intro k hv hk
  rcases hk with rfl | ⟨j, rfl, hj, hx⟩
  · rw [hv]; simp [val_nil, limbs_zero]
  · rw [hv]
    have hs : (L.take (j + 1)).length = j + 1 := by rw [List.length_take]; omega
    exact limbs_val_last hs (by simpa using hx)
theorem limbs_take (L : List UInt32) : limbs (val L) = L.take (limbs (val L)).length := by
  have h : ∀ k, k ≤ L.length → val L = val (L.take k) → ∃ m, limbs (val L) = L.take m := by
    intro k
    induction k with
    | zero => intro _ hv; exact ⟨0, limbs_prefix L 0 hv (.inl rfl)⟩
    | succ k ih =>
      intro hk hv
      by_cases hx : L[k] = 0
      · refine ih (by omega) ?_
        rw [hv, val_take_succ (by omega), hx]; simp
      · exact ⟨k + 1, limbs_prefix L (k + 1) hv (.inr ⟨k, rfl, by omega, hx⟩)⟩
  obtain ⟨m, hm⟩ := h L.length (Nat.le_refl _) (val_take_len L).symm
  by_cases hml : m ≤ L.length
  · have : (limbs (val L)).length = m := by rw [hm, List.length_take]; omega
    rw [this]; exact hm
  · have : (limbs (val L)).length = L.length := by rw [hm, List.length_take]; omega
    rw [this, hm, List.take_of_length_le (by omega), List.take_of_length_le (by omega)]
theorem limbs_val_le (L : List UInt32) : (limbs (val L)).length ≤ L.length := limbs_len_le.2 (val_lt L)
/-- What trim cuts off reads as the shortest list. -/
theorem Rf.trim {w : World} {B c : Nat} {A : Option Addr} {L : List UInt32} (h : Rf uv w B A c L) : Rf uv w B A (limbs (val L)).length (limbs (val L)) := by
  have hle := limbs_val_le L
  refine ⟨Nat.le_refl _, Nat.le_trans hle (Nat.le_trans h.cap h.capm), fun e => ?_, fun ad e j hj => ?_⟩
  · have := h.nil e
    have := h.cap
    omega
  · have hj2 : j < L.length := by omega
    obtain ⟨h1, h2⟩ := h.cell ad e j hj2
    refine ⟨h1, ?_⟩
    rw [h2]
    congr 1
    have e2 : (limbs (val L))[j]? = L[j]? := by
      rw [limbs_take L, List.getElem?_take_of_lt hj]
    rw [List.getElem?_eq_getElem hj, List.getElem?_eq_getElem hj2] at e2
    rw [Option.some.inj e2]
theorem Ub.heap {w : World} {g t : Nat} {L : List UInt32} (h : Ub w g t L) : w.heap[g]? = some (.cells (L.map uv).toArray t (0, 0)) := h
theorem uvs_one {L : List UInt32} : ∀ v ∈ L.map uv, v.oneCell' = true := by intro v hv; obtain ⟨x, _, rfl⟩ := List.mem_map.1 hv; rfl
theorem copy_pos {w : World} {B c g : Nat} {A : Option Addr} {L : List UInt32} (hr : Rf uv w B A c L) :
    0 < (L.map uv).length → (some (⟨g, 0, none⟩ : Addr)) = some ⟨g, 0, none⟩ ∧ ∃ ad, A = some ad ∧ ∀ j v, (L.map uv)[j]? = some v → w.cell? (ad.add j) = some v := by
  intro hp
  refine ⟨rfl, ?_⟩
  obtain ⟨b, o, rfl, hb, hc⟩ := hr.at_ (k := 0) (by simpa using hp)
  exact ⟨_, rfl, fun j v hv => hr.news j v hv⟩
set_option maxHeartbeats 400000 in
theorem twin_any (A : Option Addr) (c B n : Nat) (L : List UInt32) (w : World) (hr : Rf uv w B A c L) (hB : B ≤ w.heap.size) (hn : L.length ≤ n) (hl : n ≤ 1000000) :
    Calls Try.prog 80 #[.slice A L.length c, .int .i64 n] w fun e w' => e = .returned (.slice (some ⟨w.heap.size, 0, none⟩) n n) ∧ Ub w' w.heap.size 55 (L ++ List.replicate (n - L.length) 0) ∧ Below w.heap.size w w' ∧ w.heap.size < w'.heap.size := by
  go_enter Try.func80, Try.ntmps80
  go_wp2_with (first
    | (at_make; refine wpList_make_ub _ rfl _ _ rfl _ n rfl rfl rfl hl ?_; intro w1 hu1 hb1 hs1)
    | ((with_reducible refine wpList_copy_splice rfl (.tmp 8) (.tmp 9) 25 25 rfl 55 Try.underlying25 uSize _ A n n L.length c rfl rfl w.heap.size 0 ((List.replicate n 0).map uv) 55 hu1.heap (L.map uv) (by rw [List.length_map]; exact (Nat.min_eq_left hn).symm) (copy_pos (hr.below (hb1.mono hB))) (by simp; omega) uvs_one w.heap.size w hb1 (Nat.le_refl _) ?_); intro w2 hu2 hb2))
  go_ret
  refine ⟨rfl, ?_, hb2, ?_⟩
  · have e := hu2.out
    unfold Ub Blk
    rw [e]
    congr 3
    unfold splice
    simp
  · have e := hu2.out
    exact (Array.getElem?_eq_some_iff.1 e).1

theorem Ub.cell_far {w : World} {g t o k p : Nat} {M L : List UInt32} (hu : Ub w g t M) (hf : far M L o k) (hp : p < L.length) (hd : p < o ∨ o + k ≤ p) : w.cell? ⟨g, p, none⟩ = some (.int .u32 ((L[p]).toNat : Int)) := by
  rw [hu.cell (i := p) (by rw [hf.1]; exact hp), far_get hf hp hd]
def AddP (g o n cb : Nat) (A : Option Addr) (L m : List UInt32) (w w' : World) (e : Ending) : Prop :=
  ∃ (M : List UInt32) (k : Nat), e = .returned (.int .u32 k) ∧ k ≤ 1 ∧ far M L o n ∧ val (seg M o n) + bp n * k = val (seg L o n) + val m ∧ Ub w' g 55 M ∧ w.grownBy w' (some g)

theorem add_step {M L m : List UInt32} {o k cr x : Nat} (hf : far M L o k) (hv : val (seg M o k) + bp k * cr = val (seg L o k) + val (m.take k)) (hkl : o + k < L.length) (hx : x = (L[o + k]).toNat) :
    far (M.set (o + k) (UInt32.ofNat ((x + lat m k + cr) % 4294967296))) L o (k + 1) ∧
    val (seg (M.set (o + k) (UInt32.ofNat ((x + lat m k + cr) % 4294967296))) o (k + 1)) + bp (k + 1) * ((x + lat m k + cr) / 4294967296) = val (seg L o (k + 1)) + val (m.take (k + 1)) := by
  refine ⟨far_set hf _, ?_⟩
  rw [val_seg_set (by rw [hf.1]; exact hkl), val_seg_snoc hkl, val_take_lat, u32_of _ (by omega), ← hx, bp_succ]
  exact add_round hv (by omega)
set_option maxRecDepth 100000 in
set_option maxHeartbeats 1000000 in
theorem add_any (g o n c cb B : Nat) (A : Option Addr) (L m : List UInt32) (w : World) (hu : Ub w g 55 L) (hon : o + n ≤ L.length) (hnc : n ≤ c) (hl : L.length ≤ 1000000) (hr : Rf uv w B A cb m) (hB : B ≤ w.heap.size) (hne : 0 < m.length → blk A ≠ some g) (hm : m.length ≤ n) :
    Calls Try.prog 82 #[.slice (some ⟨g, o, none⟩) n c, .slice A m.length cb] w fun e w' => AddP g o n cb A L m w w' e := by
  go_enter Try.func82, Try.ntmps82
  go_wp2_with fail
  go_loopw [5, 9] (fun x i wr => ∃ k cr : Nat, ∃ M : List UInt32, k ≤ n ∧ cr ≤ 1 ∧ i = .int .i64 k ∧ x = .int .u32 cr ∧ Hid (far M L o k) ∧ Hid (val (seg M o k) + bp k * cr = val (seg L o k) + val (m.take k)) ∧ Hid (Ub wr g 55 M) ∧ Hid (w.grownBy wr (some g))) (fun _ i _ => n - (intOf i).toNat)
  case atStart => exact ⟨0, 0, L, Nat.zero_le _, by omega, rfl, rfl, far_refl _ _ _, (by simp [seg_zero, val_nil, Hid]), hu, grown_refl _ _⟩
  case round =>
    obtain ⟨k, cr, M, hk, hcr, rfl, rfl, hf, hv, hub, hg⟩ := hrel
    by_cases hlt : k < n
    · have hkl : o + k < L.length := by omega
      have hcell := Ub.cell_far hub.out hf.out hkl (.inr (Nat.le_refl _))
      have hxlt := u32_lt L[o + k]
      have hfz := Ub.frozen hub.out (o + k)
      have hrr := hr.grown hg.out hB hne
      have hylt := lat_lt m k
      obtain ⟨x, hx⟩ : ∃ x, x = (L[o + k]).toNat := ⟨_, rfl⟩
      rw [← hx] at hcell hxlt
      have HX := Lib.hid hx
      have HS := Lib.hid (add_step (m := m) hf.out hv.out hkl hx)
      clear hx
      have hk0 : (0 : Int) ≤ (k : Int) := by omega
      have hk1 : (k : Int) < (n : Int) := by omega
      go_wp2_with fail
      go_region_law (first | (go_simp; go_at_call 94; (with_reducible refine (limbAt_any _ _ _ _ _ _ hrr.drew (by omega)).mono ?_); rintro e w' ⟨rfl, rfl⟩) | (go_simp; go_at_call 93; (with_reducible refine (add32_any _ _ _ _ hxlt hylt (by omega)).mono ?_); rintro e w' ⟨rfl, rfl⟩))
      all_goals
        go_wp2_with fail
        go_roundw
        case rel => exact ⟨k + 1, (x + lat m k + cr) / 4294967296, _, by omega, by omega, by go_num, by go_num, HS.out.1, HS.out.2, Ub.set_ (Ub.drew hub.out) _ _ _ (by rw [u32_of _ (by omega)]; simp), grown_setCell (grown_drew hg.out) _ _⟩
        case measure => simp [intOf]; omega
    · obtain rfl : k = n := by omega
      go_wp2_with fail
      go_ret
      refine ⟨M, cr, rfl, hcr, hf.out, ?_, hub.out, hg.out⟩
      have e := hv.out
      rwa [val_take_ge hm] at e

def SubP (g o n t : Nat) (L m : List UInt32) (w w' : World) (e : Ending) : Prop :=
  ∃ (M : List UInt32) (k : Nat), e = .returned (.int .u32 k) ∧ k < 4294967296 ∧ far M L o n ∧ val (seg M o n) + val m * t = val (seg L o n) + bp n * k ∧ Ub w' g 55 M ∧ w.grownBy w' (some g)
theorem sub_step {M L m : List UInt32} {o k ow x t T s b : Nat} (hf : far M L o k) (hv : val (seg M o k) + val (m.take k) * t = val (seg L o k) + bp k * ow) (hkl : o + k < L.length) (hx : x = (L[o + k]).toNat)
    (hT : T = ow + lat m k * t) (how : ow < 4294967296) (ht : t < 4294967296) (hs : s = (x + 4294967296 - T % 4294967296) % 4294967296) (hb : b = brw x (T % 4294967296)) :
    far (M.set (o + k) (UInt32.ofNat s)) L o (k + 1) ∧ val (seg (M.set (o + k) (UInt32.ofNat s)) o (k + 1)) + val (m.take (k + 1)) * t = val (seg L o (k + 1)) + bp (k + 1) * (T / 4294967296 + b) ∧ T / 4294967296 + b < 4294967296 := by
  have hxl : x < 4294967296 := by rw [hx]; exact u32_lt _
  have hml := mul_le_max (lat_lt m k) ht
  have h1 := sub_owed (T := T) (l := x) (by omega) hxl
  have hb2 : (if x < T % 4294967296 then 1 else 0) = b := by rw [hb]; rfl
  rw [hb2, ← hs] at h1
  refine ⟨far_set hf _, ?_, h1.2⟩
  rw [val_seg_set (by rw [hf.1]; exact hkl), val_seg_snoc hkl, val_take_lat, u32_of _ (by omega), ← hx, bp_succ]
  refine sub_round hv ?_
  rw [← h1.1, hT]
  omega

set_option maxRecDepth 100000 in
set_option maxHeartbeats 1000000 in
theorem subtract_any (g o n c cb B t : Nat) (A : Option Addr) (L m : List UInt32) (w : World) (hu : Ub w g 55 L) (hon : o + n ≤ L.length) (hnc : n ≤ c) (hl : L.length ≤ 1000000) (hr : Rf uv w B A cb m) (hB : B ≤ w.heap.size) (hne : 0 < m.length → blk A ≠ some g) (hm : m.length ≤ n) (ht : t < 4294967296) :
    Calls Try.prog 99 #[.slice (some ⟨g, o, none⟩) n c, .slice A m.length cb, .int .u32 t] w fun e w' => SubP g o n t L m w w' e := by
  go_enter Try.func99, Try.ntmps99
  go_wp2_with fail
  go_loopw [7, 13] (fun x i wr => ∃ k ow : Nat, ∃ M : List UInt32, k ≤ n ∧ ow < 4294967296 ∧ i = .int .i64 k ∧ x = .int .u64 ow ∧ Hid (far M L o k) ∧ Hid (val (seg M o k) + val (m.take k) * t = val (seg L o k) + bp k * ow) ∧ Hid (Ub wr g 55 M) ∧ Hid (w.grownBy wr (some g))) (fun _ i _ => n - (intOf i).toNat)
  case atStart => exact ⟨0, 0, L, Nat.zero_le _, by omega, rfl, rfl, far_refl _ _ _, (by simp [seg_zero, val_nil, Hid]), hu, grown_refl _ _⟩
  case round =>
    obtain ⟨k, ow, M, hk, how, rfl, rfl, hf, hv, hub, hg⟩ := hrel
    by_cases hlt : k < n
    · have hkl : o + k < L.length := by omega
      have hcell := Ub.cell_far hub.out hf.out hkl (.inr (Nat.le_refl _))
      have hxlt := u32_lt L[o + k]
      have hfz := Ub.frozen hub.out (o + k)
      have hrr := hr.grown hg.out hB hne
      have hylt := lat_lt m k
      have hpl := mul_le_max hylt ht
      obtain ⟨x, hx⟩ : ∃ x, x = (L[o + k]).toNat := ⟨_, rfl⟩
      rw [← hx] at hcell hxlt
      obtain ⟨p, hp⟩ : ∃ p, p = lat m k * t := ⟨_, rfl⟩
      rw [← hp] at hpl
      obtain ⟨s, hs⟩ : ∃ s, s = (x + 4294967296 - (ow + p) % 4294967296) % 4294967296 := ⟨_, rfl⟩
      obtain ⟨b, hb⟩ : ∃ b, b = brw x ((ow + p) % 4294967296) := ⟨_, rfl⟩
      have HS := Lib.hid (sub_step (m := m) hf.out hv.out hkl hx (by rw [← hp]) how ht hs hb)
      have hs3 := HS.out.2.2
      have hsl : s < 4294967296 := by omega
      have hbl : b ≤ 1 := by rw [hb]; exact brw_le _ _
      have hsub : ∀ (W : World) (v : Int), v = (((ow + p) % 4294967296 : Nat) : Int) → Calls Try.prog 100 #[.int .u32 x, .int .u32 v, .int .u32 0] W fun e w' => e = .returned (.tuple #[.int .u32 s, .int .u32 b]) ∧ W = w' := by
        intro W v hv
        subst hv
        rw [hs, hb]
        exact sub32_any _ _ _ hxlt (by omega)
      have HSUB := Lib.hid hsub
      have HP : ((lat m k : Nat) : Int) * (t : Int) = (p : Int) := by rw [hp]; simp
      have hk0 : (0 : Int) ≤ (k : Int) := by omega
      have hk1 : (k : Int) < (n : Int) := by omega
      clear hx hs hb hsub hp
      go_wp2_with (first | (go_at_call 94; (with_reducible refine (limbAt_any _ _ _ _ _ _ hrr (by omega)).mono ?_); rintro e w' ⟨rfl, rfl⟩) | (go_at_call 100; (with_reducible refine (HSUB.out _ _ (by simp)).mono ?_); rintro e w' ⟨rfl, rfl⟩))
      go_roundw
      case rel => exact ⟨k + 1, (ow + p) / 4294967296 + b, _, by omega, by omega, by go_num, by go_num, HS.out.1, HS.out.2.1, Ub.set_ hub.out _ _ _ (by rw [u32_of _ (by omega)]), grown_setCell hg.out _ _⟩
      case measure => simp [intOf]; omega
    · obtain rfl : k = n := by omega
      go_wp2_with fail
      go_ret
      refine ⟨M, ow, by simp, how, hf.out, ?_, hub.out, hg.out⟩
      have e := hv.out
      rwa [val_take_ge hm] at e

def ProdP (g o n t : Nat) (L m : List UInt32) (w w' : World) (e : Ending) : Prop :=
  ∃ (M : List UInt32), e = .returned (.tuple #[]) ∧ far M L o (n + 1) ∧ val (seg M o (n + 1)) = val (seg L o (n + 1)) + val m * t ∧ Ub w' g 55 M ∧ w.grownBy w' (some g)
theorem prod_step {M L m : List UInt32} {o k cr t x y p : Nat} (hf : far M L o k) (hv : val (seg M o k) + bp k * cr = val (seg L o k) + val (m.take k) * t) (hkl : o + k < L.length) (hk : k < m.length) (hx : x = (L[o + k]).toNat) (hy : y = (m[k]).toNat) (hp : p = y * t) :
    far (M.set (o + k) (UInt32.ofNat ((cr + (p + x)) % 4294967296))) L o (k + 1) ∧
    val (seg (M.set (o + k) (UInt32.ofNat ((cr + (p + x)) % 4294967296))) o (k + 1)) + bp (k + 1) * ((cr + (p + x)) / 4294967296) = val (seg L o (k + 1)) + val (m.take (k + 1)) * t := by
  refine ⟨far_set hf _, ?_⟩
  rw [val_seg_set (by rw [hf.1]; exact hkl), val_seg_snoc hkl, val_take_succ hk, u32_of _ (by omega), ← hx, ← hy, bp_succ]
  refine prod_round hv ?_
  rw [← hp]
  omega
theorem prod_end {M L m : List UInt32} {o cr t : Nat} (hf : far M L o m.length) (hv : val (seg M o m.length) + bp m.length * cr = val (seg L o m.length) + val (m.take m.length) * t) (hkl : o + m.length < L.length) (h0 : L[o + m.length] = 0) (hc : cr < 4294967296) :
    far (M.set (o + m.length) (UInt32.ofNat cr)) L o (m.length + 1) ∧ val (seg (M.set (o + m.length) (UInt32.ofNat cr)) o (m.length + 1)) = val (seg L o (m.length + 1)) + val m * t := by
  refine ⟨far_set hf _, ?_⟩
  rw [val_seg_set (by rw [hf.1]; exact hkl), val_seg_snoc hkl, h0, u32_of _ hc, hv, val_take_len, u32_zero]
  omega

set_option maxRecDepth 100000 in
set_option maxHeartbeats 1000000 in
theorem addProduct_any (g o n c cb B t : Nat) (A : Option Addr) (L m : List UInt32) (w : World) (hu : Ub w g 55 L) (hn : n = m.length) (hon : o + (n + 1) ≤ L.length) (h0 : Hid (L[o + n]? = some 0)) (hnc : n + 1 ≤ c) (hl : L.length ≤ 1000000) (hr : Rf uv w B A cb m) (hB : B ≤ w.heap.size) (hne : 0 < m.length → blk A ≠ some g) (ht : t < 4294967296) :
    Calls Try.prog 98 #[.slice (some ⟨g, o, none⟩) (n + 1) c, .slice A m.length cb, .int .u32 t] w fun e w' => ProdP g o n t L m w w' e := by
  subst hn
  have hcb := hr.cap
  have hcm := hr.capm
  unfold maxLen at hcm
  go_enter Try.func98, Try.ntmps98
  go_wp2_with fail
  go_loopw [6, 11] (fun x i wr => ∃ k cr : Nat, ∃ M : List UInt32, k ≤ m.length ∧ cr < 4294967296 ∧ i = .int .i64 k ∧ x = .int .u64 cr ∧ Hid (far M L o k) ∧ Hid (val (seg M o k) + bp k * cr = val (seg L o k) + val (m.take k) * t) ∧ Hid (Ub wr g 55 M) ∧ Hid (w.grownBy wr (some g))) (fun _ i _ => m.length - (intOf i).toNat)
  case atStart => exact ⟨0, 0, L, Nat.zero_le _, by omega, rfl, rfl, far_refl _ _ _, (by simp [seg_zero, val_nil, Hid]), hu, grown_refl _ _⟩
  case round =>
    obtain ⟨k, cr, M, hk, hcr, rfl, rfl, hf, hv, hub, hg⟩ := hrel
    by_cases hlt : k < m.length
    · have hkl : o + k < L.length := by omega
      have hcell := Ub.cell_far hub.out hf.out hkl (.inr (Nat.le_refl _))
      have hxlt := u32_lt L[o + k]
      have hfz := Ub.frozen hub.out (o + k)
      have hrr := hr.grown hg.out hB hne
      obtain ⟨b, o1, rfl, hb, hc⟩ := hrr.at_ hlt
      have hcj := hc k hlt
      unfold uv at hcj
      have hylt := u32_lt m[k]
      obtain ⟨x, hx⟩ : ∃ x, x = (L[o + k]).toNat := ⟨_, rfl⟩
      rw [← hx] at hcell hxlt
      obtain ⟨y, hy⟩ : ∃ y, y = (m[k]).toNat := ⟨_, rfl⟩
      rw [← hy] at hcj hylt
      have hpl := mul_le_max hylt ht
      obtain ⟨p, hp⟩ : ∃ p, p = y * t := ⟨_, rfl⟩
      rw [← hp] at hpl
      have HS := Lib.hid (prod_step (m := m) hf.out hv.out hkl hlt hx hy hp)
      have HP : (y : Int) * (t : Int) = (p : Int) := by rw [hp]; simp
      have hk0 : (0 : Int) ≤ (k : Int) := by omega
      have hk1 : (k : Int) < (m.length : Int) := by omega
      clear hx hy hp hc
      go_wp2_with fail
      go_roundw
      case rel => exact ⟨k + 1, (cr + (p + x)) / 4294967296, _, by omega, by omega, by go_num, by go_num, HS.out.1, HS.out.2, Ub.set_ hub.out _ _ _ (by rw [u32_of _ (by omega)]; simp), grown_setCell hg.out _ _⟩
      case measure => simp [intOf]; omega
    · obtain rfl : k = m.length := by omega
      have hkl : o + m.length < L.length := by omega
      have hcell := Ub.cell_far hub.out hf.out hkl (.inr (Nat.le_refl _))
      have hfz := Ub.frozen hub.out (o + m.length)
      have h00 : L[o + m.length] = 0 := by have := h0.out; rw [List.getElem?_eq_getElem hkl] at this; exact Option.some.inj this
      have HE := Lib.hid (prod_end hf.out hv.out hkl h00 hcr)
      clear h00
      have hk1 : (m.length : Int) < (m.length : Int) + 1 := by omega
      go_wp2_with fail
      go_end0
      exact ⟨_, rfl, HE.out.1, HE.out.2, Ub.set_ hub.out _ _ _ (by rw [u32_of _ hcr]), grown_setCell hg.out _ _⟩

theorem zeros_get {n j : Nat} (h : j < n) : (List.replicate n (0 : UInt32))[j]? = some 0 := by rw [List.getElem?_replicate, if_pos h]
theorem far_zero {M : List UInt32} {n k j : Nat} (hf : far M (List.replicate n 0) 0 k) (hj : k ≤ j) (hn : j < n) : M[j]? = some 0 := by
  rw [hf.2 j (by omega), zeros_get hn]
theorem mul_step {M M' a b : List UInt32} {k : Nat} (hl : M.length = a.length + b.length) (hk : k < a.length) (hf : far M (List.replicate (a.length + b.length) 0) 0 (k + b.length)) (hv : val M = val (a.take k) * val b) (hf2 : far M' M k (b.length + 1))
    (hv2 : val (seg M' k (b.length + 1)) = val (seg M k (b.length + 1)) + val b * (a[k]).toNat) : M'.length = a.length + b.length ∧ far M' (List.replicate (a.length + b.length) 0) 0 (k + 1 + b.length) ∧ val M' = val (a.take (k + 1)) * val b := by
  have h1 := far_val hf2 (by omega)
  refine ⟨by rw [hf2.1, hl], far_trans (far_more hf2 (by omega) (by omega)) (far_more hf (by omega) (by omega)), ?_⟩
  rw [hv2, hv, Nat.mul_add] at h1
  rw [val_take_succ hk, Nat.add_mul]
  have e : bp k * (a[k]).toNat * val b = bp k * (val b * (a[k]).toNat) := by rw [Nat.mul_assoc, Nat.mul_comm (a[k]).toNat]
  omega

def MulP (w w' : World) (n v : Nat) (e : Ending) : Prop :=
  ∃ M, e = .returned (.slice (some ⟨w.heap.size, 0, none⟩) n n) ∧ M.length = n ∧ val M = v ∧ Ub w' w.heap.size 55 M ∧ Below w.heap.size w w' ∧ w.heap.size < w'.heap.size

set_option maxRecDepth 100000 in
set_option maxHeartbeats 1000000 in
theorem multiply_any (A1 A2 : Option Addr) (c1 c2 : Nat) (a b : List UInt32) (w : World) (hr1 : Rf uv w w.heap.size A1 c1 a) (hr2 : Rf uv w w.heap.size A2 c2 b) (ha : a.length ≤ 400000) (hb : b.length ≤ 400000) :
    Calls Try.prog 96 #[.slice A1 a.length c1, .slice A2 b.length c2] w fun e w' => MulP w w' (a.length + b.length) (val a * val b) e := by
  have hcap1 := hr1.cap
  have hcap2 := hr2.cap
  go_enter Try.func96, Try.ntmps96
  go_wp2_with (at_make; refine wpList_make_ub _ rfl _ _ rfl _ (a.length + b.length) rfl rfl (by omega) (by omega) ?_; intro w1 hu1 hb1 hs1)
  go_loopw [16] (fun i wr => ∃ k : Nat, ∃ M : List UInt32, k ≤ a.length ∧ i = .int .i64 k ∧ Hid (M.length = a.length + b.length) ∧ Hid (far M (List.replicate (a.length + b.length) 0) 0 (k + b.length)) ∧ Hid (val M = val (a.take k) * val b) ∧ Hid (Ub wr w.heap.size 55 M) ∧ Hid (Below w.heap.size w wr)) (fun i _ => a.length - (intOf i).toNat)
  case atStart => exact ⟨0, List.replicate (a.length + b.length) 0, Nat.zero_le _, rfl, (by simp [Hid]), far_refl _ _ _, (by simp [val_zeros, val_nil, Hid]), hu1, hb1⟩
  case round =>
    obtain ⟨k, M, hk, rfl, hl, hf, hv, hub, hbl⟩ := hrel
    by_cases hlt : k < a.length
    · have hra := hr1.below hbl.out
      have hrb := hr2.below hbl.out
      obtain ⟨b1, o1, rfl, hbb, hc⟩ := hra.at_ hlt
      have hcj := hc k hlt
      unfold uv at hcj
      have hylt := u32_lt a[k]
      obtain ⟨y, hy⟩ : ∃ y, y = (a[k]).toNat := ⟨_, rfl⟩
      rw [← hy] at hcj hylt
      have HY := Lib.hid hy
      have hk0 : (0 : Int) ≤ (k : Int) := by omega
      have hk1 : (k : Int) < (a.length : Int) := by omega
      have hl0 := hl.out
      have h0 : Hid (M[k + b.length]? = some 0) := far_zero hf.out (Nat.le_refl _) (by omega)
      have HL := Lib.hid hl0
      have hl1 : k + (b.length + 1) ≤ M.length := by omega
      have hl2 : M.length ≤ 1000000 := by omega
      clear hl0
      clear hy hc
      go_wp2_with fail
      have es : k + b.length + 1 - k = b.length + 1 := by omega
      rw [es]
      clear es
      (with_reducible refine (addProduct_any w.heap.size k b.length (b.length + 1) c2 w.heap.size y A2 M b wr hub.out rfl hl1 h0 (Nat.le_refl _) hl2 hrb hbl.out.size (hrb.ne (Nat.le_refl _)) hylt).mono ?_)
      rintro e w3 ⟨M3, rfl, hf3, hv3, hub3, hg3⟩
      have HS := Lib.hid (mul_step HL.out hlt hf.out hv.out hf3 (by rw [hv3, HY.out]))
      have HU := Lib.hid hub3
      have hb3 := Lib.hid (hbl.out.trans (below_of_grown hg3 hbl.out.size (by intro g e; injection e with e; omega)))
      clear hf3 hv3 hub3 hg3
      go_wp2_with fail
      go_roundw
      case rel => exact ⟨k + 1, M3, by omega, by go_num, HS.out.1, HS.out.2.1, HS.out.2.2, HU, hb3⟩
      case measure => simp [intOf]; omega
    · obtain rfl : k = a.length := by omega
      go_wp2_with fail
      go_ret
      exact ⟨M, rfl, hl.out, (by have := hv.out; rwa [val_take_len] at this), hub.out, hbl.out, hub.out.lt⟩

theorem pow_31 {n : Nat} (h : n ≤ 31) : 2 ^ n ≤ 2147483648 := Nat.pow_le_pow_right (by decide) h
set_option maxRecDepth 100000 in
set_option maxHeartbeats 1000000 in
theorem shiftedUp_any (A : Option Addr) (c n : Nat) (a : List UInt32) (w : World) (hr : Rf uv w w.heap.size A c a) (ha : a.length ≤ 400000) (hn : n ≤ 31) :
    Calls Try.prog 90 #[.slice A a.length c, .int .i64 n] w fun e w' => MulP w w' (a.length + 1) (val a * 2 ^ n) e := by
  have hcap := hr.cap
  have hp := pow_31 hn
  have hpp : 0 < 2 ^ n := Nat.pow_pos (by decide)
  obtain ⟨t, ht⟩ : ∃ t, t = 2 ^ n := ⟨_, rfl⟩
  rw [← ht] at hp hpp
  have HT := Lib.hid ht
  have h0 : Hid ((List.replicate (a.length + 1) (0 : UInt32))[0 + a.length]? = some 0) := zeros_get (by omega)
  have hl1 : 0 + (a.length + 1) ≤ (List.replicate (a.length + 1) (0 : UInt32)).length := by simp
  have hl2 : (List.replicate (a.length + 1) (0 : UInt32)).length ≤ 1000000 := by simp; omega
  clear ht
  go_enter Try.func90, Try.ntmps90
  go_wp2_with (at_make; refine wpList_make_ub _ rfl _ _ rfl _ (a.length + 1) rfl rfl (by omega) (by omega) ?_; intro w1 hu1 hb1 hs1)
  have hra := hr.below hb1
  have et : (2 : Int) ^ n % 4294967296 = (t : Int) := by
    have e := HT.out
    have e2 : (t : Int) = (2 : Int) ^ n := by rw [e]; simp
    rw [← e2]; omega
  rw [et]
  clear et
  (with_reducible refine (addProduct_any w.heap.size 0 a.length (a.length + 1) c w.heap.size t A (List.replicate (a.length + 1) 0) a w1 hu1 rfl hl1 h0 (Nat.le_refl _) hl2 hra hb1.size (hra.ne (Nat.le_refl _)) (by omega)).mono ?_)
  rintro e w3 ⟨M3, rfl, hf3, hv3, hub3, hg3⟩
  have hlen3 := hf3.1
  have HL := Lib.hid (show M3.length = a.length + 1 by rw [hlen3]; simp)
  have HV := Lib.hid (show val M3 = val a * 2 ^ n by
    have e1 : seg M3 0 (a.length + 1) = M3 := by rw [← HL.out, seg_all]
    have e2 : seg (List.replicate (a.length + 1) (0 : UInt32)) 0 (a.length + 1) = List.replicate (a.length + 1) 0 := by rw [seg_take, List.take_of_length_le (by simp)]
    rw [e1, e2, val_zeros, HT.out] at hv3
    omega)
  have HU := Lib.hid hub3
  have hb3 := Lib.hid (hb1.trans (below_of_grown hg3 hb1.size (by intro g e; injection e with e; omega)))
  clear hf3 hv3 hub3 hg3 hlen3
  go_wp2_with fail
  go_ret
  exact ⟨M3, rfl, HL.out, HV.out, HU.out, hb3.out, HU.out.lt⟩

/-- The limbs of the number V, n of them. -/
def lmb (n V : Nat) : List UInt32 := (List.range n).map fun j => UInt32.ofNat (V / bp j % 4294967296)
theorem lmb_len (n V : Nat) : (lmb n V).length = n := by simp [lmb]
theorem lmb_get {n V j : Nat} (h : j < n) : (lmb n V)[j]'(by rw [lmb_len]; exact h) = UInt32.ofNat (V / bp j % 4294967296) := by simp [lmb]
theorem val_lmb (n V : Nat) : val (lmb n V) = V % bp n := by
  induction n with
  | zero => simp [lmb, val_nil, bp_zero, Nat.mod_one]
  | succ n ih =>
    have e : lmb (n + 1) V = lmb n V ++ [UInt32.ofNat (V / bp n % 4294967296)] := by simp [lmb, List.range_succ]
    rw [e, val_snoc, ih, lmb_len, u32_of _ (by omega), bp_succ, Nat.mul_comm 4294967296 (bp n), Nat.mod_mul]
theorem limb_of_val : ∀ (L : List UInt32) (j : Nat) (h : j < L.length), val L / bp j % 4294967296 = (L[j]).toNat
  | x :: L, 0, _ => by
    have := u32_lt x
    rw [val_cons, bp_zero, Nat.div_one]
    show _ = x.toNat
    omega
  | x :: L, j + 1, h => by
    have hx := u32_lt x
    have ih := limb_of_val L j (by simpa using h)
    rw [bp_succ, ← Nat.div_div_eq_div_mul, val_cons]
    have e : (x.toNat + 4294967296 * val L) / 4294967296 = val L := by omega
    rw [e, ih]
    rfl
theorem val_div (L : List UInt32) : ∀ j, val L / bp j = val (L.drop j) := by
  intro j
  induction j generalizing L with
  | zero => simp [bp_zero]
  | succ j ih =>
    cases L with
    | nil => simp [val_nil]
    | cons x L =>
      have hx := u32_lt x
      rw [bp_succ, ← Nat.div_div_eq_div_mul, val_cons]
      have e : (x.toNat + 4294967296 * val L) / 4294967296 = val L := by omega
      rw [e, ih, List.drop_succ_cons]
/-- The limb of a number shifted down. -/
theorem shift_limb (L : List UInt32) (s i : Nat) (hs : s ≤ 31) (hi : i < L.length) : val L / 2 ^ s / bp i % 4294967296 = (4294967296 * lat L (i + 1) + (L[i]).toNat) / 2 ^ s % 4294967296 := by
  have hpos : 0 < 2 ^ s := Nat.pow_pos (by decide)
  rw [Nat.div_div_eq_div_mul, Nat.mul_comm, ← Nat.div_div_eq_div_mul, val_div, val_drop_cons hi]
  have e2 : val (L.drop (i + 1)) = lat L (i + 1) + 4294967296 * val (L.drop (i + 2)) := by
    by_cases h : i + 1 < L.length
    · rw [val_drop_cons h, lat_in h]
    · rw [lat_out (by omega), List.drop_of_length_le (by omega), List.drop_of_length_le (by omega)]; rfl
  rw [e2]
  have e3 : 4294967296 = 2 ^ s * 2 ^ (32 - s) := by rw [← Nat.pow_add, show s + (32 - s) = 32 by omega]
  have e4 : (L[i]).toNat + 4294967296 * (lat L (i + 1) + 4294967296 * val (L.drop (i + 2))) = (4294967296 * lat L (i + 1) + (L[i]).toNat) + 2 ^ s * (2 ^ (32 - s) * 4294967296 * val (L.drop (i + 2))) := by
    rw [Nat.mul_add, ← Nat.mul_assoc (2 ^ s), ← Nat.mul_assoc (2 ^ s), ← e3, Nat.mul_assoc]; omega
  rw [e4, Nat.add_mul_div_left _ _ hpos]
  have e5 : 2 ^ (32 - s) * 4294967296 * val (L.drop (i + 2)) = 4294967296 * (2 ^ (32 - s) * val (L.drop (i + 2))) := by
    rw [Nat.mul_comm (2 ^ (32 - s)) 4294967296, Nat.mul_assoc]
  rw [e5, Nat.add_mul_mod_self_left]

theorem limbAt_n (A : Option Addr) (n c B : Nat) (xs : List UInt32) (i : Nat) (v : Int) (w : World) (hr : Rf uv w B A c xs) (hn : n = xs.length) (hi : i ≤ 4000000000) (hv : v = (i : Int)) : Calls Try.prog 94 #[.slice A n c, .int .i64 v] w fun e w' => e = .returned (.int .u32 (lat xs i)) ∧ w = w' := by
  subst hn hv
  exact limbAt_any A c B xs i w hr hi
theorem word_n (h l z : Nat) (w : World) (hh : h < 4294967296) (hl : l < 4294967296) (hz : z = 4294967296 * h + l) : Calls Try.prog 95 #[.int .u32 h, .int .u32 l] w fun e w' => e = .returned (.int .u64 z) ∧ w = w' := by
  subst hz
  exact word_any h l w hh hl
theorem down_step {L M : List UInt32} {k s V : Nat} (hM : M = lmb k V ++ L.drop k) (hk : k < L.length) (hs : s ≤ 31) (hV : V = val L / 2 ^ s) :
    M.length = L.length ∧ M[k]? = some (L[k]) ∧ lat M (k + 1) = lat L (k + 1) ∧ M.set k (UInt32.ofNat ((4294967296 * lat L (k + 1) + (L[k]).toNat) / 2 ^ s % 4294967296)) = lmb (k + 1) V ++ L.drop (k + 1) := by
  have hl : M.length = L.length := by rw [hM]; simp [lmb_len]; omega
  have hg : ∀ j, k ≤ j → M[j]? = L[j]? := by
    intro j hj
    rw [hM, List.getElem?_append_right (by rw [lmb_len]; exact hj), lmb_len, List.getElem?_drop]
    congr 1; omega
  refine ⟨hl, by rw [hg k (Nat.le_refl _), List.getElem?_eq_getElem hk], ?_, ?_⟩
  · unfold lat
    by_cases h : k + 1 < L.length
    · rw [dif_pos (by omega), dif_pos h]
      have := hg (k + 1) (by omega)
      rw [List.getElem?_eq_getElem h, List.getElem?_eq_getElem (by omega)] at this
      rw [Option.some.inj this]
    · rw [dif_neg (by omega), dif_neg h]
  · rw [← shift_limb L s k hs hk, ← hV, hM, List.set_append_right _ _ (by rw [lmb_len]; exact Nat.le_refl _), lmb_len, Nat.sub_self, List.drop_eq_getElem_cons hk, List.set_cons_zero]
    have e : lmb (k + 1) V = lmb k V ++ [UInt32.ofNat (V / bp k % 4294967296)] := by simp [lmb, List.range_succ]
    rw [e, List.append_assoc]
    rfl
set_option maxRecDepth 100000 in
set_option maxHeartbeats 1000000 in
theorem shiftDown_any (g n c s : Nat) (L : List UInt32) (w : World) (hu : Ub w g 55 L) (hn : n = L.length) (hnc : n ≤ c) (hcm : c ≤ 1000000) (hs : s ≤ 31) :
    Calls Try.prog 92 #[.slice (some ⟨g, 0, none⟩) n c, .int .i64 s] w fun e w' => e = .returned (.tuple #[]) ∧ Ub w' g 55 (lmb n (val L / 2 ^ s)) ∧ w.grownBy w' (some g) := by
  obtain ⟨V, hV⟩ : ∃ V, V = val L / 2 ^ s := ⟨_, rfl⟩
  rw [← hV]
  have HN := Lib.hid hn
  have HVV := Lib.hid hV
  have hnl : n ≤ L.length := Nat.le_of_eq hn
  have hnl2 : L.length ≤ n := Nat.le_of_eq hn.symm
  clear hn hV
  go_enter Try.func92, Try.ntmps92
  go_wp2_with fail
  go_loopw [7] (fun i wr => ∃ k : Nat, ∃ M : List UInt32, k ≤ n ∧ i = .int .i64 k ∧ Hid (M = lmb k V ++ L.drop k) ∧ Hid (Ub wr g 55 M) ∧ Hid (w.grownBy wr (some g))) (fun i _ => n - (intOf i).toNat)
  case atStart => exact ⟨0, L, Nat.zero_le _, rfl, (by simp [lmb, Hid]), hu, grown_refl _ _⟩
  case round =>
    obtain ⟨k, M, hk, rfl, hM, hub, hg⟩ := hrel
    by_cases hlt : k < n
    · have hkl : k < L.length := by omega
      have hxlt := u32_lt L[k]
      have HD := down_step hM.out hkl hs HVV.out
      have hcell : wr.cell? ⟨g, k, none⟩ = some (.int .u32 ((L[k]).toNat : Int)) := by
        have h1 := HD.1
        have h2 := HD.2.1
        rw [List.getElem?_eq_getElem (by omega)] at h2
        rw [hub.out.cell (by omega), Option.some.inj h2]
      have hfz := Ub.frozen hub.out k
      obtain ⟨x, hx⟩ : ∃ x, x = (L[k]).toNat := ⟨_, rfl⟩
      rw [← hx] at hcell hxlt HD
      have hrr : Rf uv wr wr.heap.size (some ⟨g, 0, none⟩) c M := hub.out.rf_all (by have := HD.1; omega) (by unfold maxLen; omega)
      have hylt := lat_lt L (k + 1)
      obtain ⟨y, hy⟩ : ∃ y, y = lat L (k + 1) := ⟨_, rfl⟩
      rw [← hy] at HD hylt
      obtain ⟨z, hz⟩ : ∃ z, z = 4294967296 * y + x := ⟨_, rfl⟩
      rw [← hz] at HD
      have hzl : z < 18446744073709551616 := by omega
      have hlat : ∀ W, Rf uv W wr.heap.size (some ⟨g, 0, none⟩) c M → Calls Try.prog 94 #[.slice (some ⟨g, 0, none⟩) n c, .int .i64 ((k : Int) + 1)] W fun e w' => e = .returned (.int .u32 y) ∧ W = w' := by
        intro W hW
        have := limbAt_n (some ⟨g, 0, none⟩) n c wr.heap.size M (k + 1) ((k : Int) + 1) W hW (by have := HD.1; have := HN.out; omega) (by omega) (by omega)
        rwa [HD.2.2.1] at this
      have HLAT := Lib.hid hlat
      have hwd := fun W => word_n y x z W hylt hxlt hz
      have HW := Lib.hid hwd
      have HS := Lib.hid HD
      have hk0 : (0 : Int) ≤ (k : Int) := by omega
      have hk1 : (k : Int) < (n : Int) := by omega
      clear hx hy hz HD hlat hwd
      have hwrap : IntKind.i64.wrap ((k : Int) + 1) = (k : Int) + 1 := IntWalk.i64_in _ (by omega)
      go_wp2_with fail
      go_region_law (first | (go_simp; go_at_call 94; (with_reducible refine (HLAT.out _ hrr.drew).mono ?_); rintro e w' ⟨rfl, rfl⟩) | (go_simp; go_at_call 95; (with_reducible refine (HW.out _).mono ?_); rintro e w' ⟨rfl, rfl⟩))
      all_goals
        clear hwrap
        go_wp2_with fail
        go_roundw
        case rel => exact ⟨k + 1, _, by omega, by go_num, HS.out.2.2.2, Ub.set_ (Ub.drew hub.out) _ _ _ (by rw [u32_of _ (by omega)]; simp), grown_setCell (grown_drew hg.out) _ _⟩
        case measure => simp [intOf]; omega
    · obtain rfl : k = n := by omega
      go_wp2_with fail
      go_end0
      refine ⟨rfl, ?_, hg.out⟩
      have e := hub.out
      rw [hM.out, List.drop_of_length_le (by omega), List.append_nil] at e
      exact e

def OnceP (g i n : Nat) (L D : List UInt32) (w w' : World) (e : Ending) : Prop :=
  ∃ (M : List UInt32), e = .returned (.int .u32 ((val (seg L i (n + 1)) / val D : Nat) : Int)) ∧ far M L i (n + 1) ∧ val (seg M i (n + 1)) = val (seg L i (n + 1)) % val D ∧ Ub w' g 55 M ∧ w.grownBy w' (some g)

theorem subtract_n (g o n c cb B t nb : Nat) (A : Option Addr) (L m : List UInt32) (w : World) (hu : Ub w g 55 L) (hon : o + n ≤ L.length) (hnc : n ≤ c) (hl : L.length ≤ 1000000) (hr : Rf uv w B A cb m) (hB : B ≤ w.heap.size) (hne : 0 < m.length → blk A ≠ some g) (hm : m.length ≤ n) (ht : t < 4294967296) (hnb : m.length = nb) :
    Calls Try.prog 99 #[.slice (some ⟨g, o, none⟩) n c, .slice A nb cb, .int .u32 t] w fun e w' => SubP g o n t L m w w' e := by
  subst hnb
  exact subtract_any g o n c cb B t A L m w hu hon hnc hl hr hB hne hm ht
theorem add_n (g o n c cb B nb : Nat) (A : Option Addr) (L m : List UInt32) (w : World) (hu : Ub w g 55 L) (hon : o + n ≤ L.length) (hnc : n ≤ c) (hl : L.length ≤ 1000000) (hr : Rf uv w B A cb m) (hB : B ≤ w.heap.size) (hne : 0 < m.length → blk A ≠ some g) (hm : m.length ≤ n) (hnb : m.length = nb) :
    Calls Try.prog 82 #[.slice (some ⟨g, o, none⟩) n c, .slice A nb cb] w fun e w' => AddP g o n cb A L m w w' e := by
  subst hnb
  exact add_any g o n c cb B A L m w hu hon hnc hl hr hB hne hm
theorem guess_int {z x G : Nat} (hx : 0 < x) (hz : z < 18446744073709551616) (hG : G = min (z / x) 4294967295) : min (IntKind.u64.wrap ((z : Int) / (x : Int))) 4294967295 % 4294967296 = (G : Int) := by
  have h1 : z / x ≤ z := Nat.div_le_self z x
  have e1 : (z : Int) / (x : Int) = ((z / x : Nat) : Int) := by simp
  have e2 : IntKind.u64.wrap ((z / x : Nat) : Int) = ((z / x : Nat) : Int) := by
    generalize z / x = q at h1
    rw [IntKind.wrap_u64]
    omega
  rw [e1, e2]
  generalize z / x = q at hG
  omega

set_option maxRecDepth 100000 in
set_option maxHeartbeats 1000000 in
theorem divideOnce_any (g i j n c cb B : Nat) (A : Option Addr) (L D : List UInt32) (w : World) (hu : Ub w g 55 L) (hn : n = j + 1) (hD : D.length = n) (hon : i + (n + 1) ≤ L.length) (hnc : n + 1 ≤ c) (hl : L.length ≤ 1000000) (hr : Rf uv w B A cb D) (hB : B ≤ w.heap.size) (hne : 0 < D.length → blk A ≠ some g)
    (hd0 : ∀ h : j < D.length, D[j] ≠ 0) (hlt : val (seg L i (n + 1)) < val D * 4294967296) :
    Calls Try.prog 91 #[.slice (some ⟨g, i, none⟩) (n + 1) c, .slice A n cb] w fun e w' => OnceP g i n L D w w' e := by
  subst hn
  have hjD : j < D.length := by omega
  have hc1 := Ub.cell hu (i := i + (j + 1)) (by omega)
  have hc2 := Ub.cell hu (i := i + j) (by omega)
  obtain ⟨b, o, rfl, hb, hcd⟩ := hr.at_ hjD
  have hc3 := hcd j hjD
  unfold uv at hc3
  clear hcd
  have hx1 := u32_lt L[i + (j + 1)]
  have hx2 := u32_lt L[i + j]
  have hx3 := u32_lt D[j]
  have hdp : 0 < (D[j]).toNat := by
    rcases Nat.eq_zero_or_pos (D[j]).toNat with e | e
    · exact absurd (u32_eq (by rw [e]; rfl)) (hd0 hjD)
    · exact e
  have e1 : val (seg L i (j + 1 + 1)) < (4294967296 * (L[i + (j + 1)]).toNat + (L[i + j]).toNat + 1) * bp j := by
    have h1 := val_seg_snoc (l := L) (o := i) (n := j + 1) (by omega)
    have h2 := val_seg_snoc (l := L) (o := i) (n := j) (by omega)
    have h3 := val_seg_lt L i j (by omega)
    rw [h1, h2, bp_succ]
    have e : (4294967296 * (L[i + (j + 1)]).toNat + (L[i + j]).toNat + 1) * bp j = 4294967296 * bp j * (L[i + (j + 1)]).toNat + bp j * (L[i + j]).toNat + bp j := by
      rw [Nat.add_mul, Nat.add_mul, Nat.one_mul, Nat.mul_comm (L[i + j]).toNat]
      congr 2
      rw [Nat.mul_assoc, Nat.mul_assoc, Nat.mul_comm (L[i + (j + 1)]).toNat]
    rw [e]
    omega
  have e2 : (D[j]).toNat * bp j ≤ val D := by
    have h1 := val_take_succ hjD
    rw [List.take_of_length_le (by omega), Nat.mul_comm] at h1
    omega
  have hD0 : 0 < val D := Nat.lt_of_lt_of_le (Nat.mul_pos hdp (bp_pos j)) e2
  have HG := Lib.hid (guess_ge hdp e1 e2 hlt)
  obtain ⟨x1, hh1⟩ : ∃ x, x = (L[i + (j + 1)]).toNat := ⟨_, rfl⟩
  obtain ⟨x2, hh2⟩ : ∃ x, x = (L[i + j]).toNat := ⟨_, rfl⟩
  obtain ⟨x3, hh3⟩ : ∃ x, x = (D[j]).toNat := ⟨_, rfl⟩
  rw [← hh1, ← hh2, ← hh3] at HG
  rw [← hh1] at hc1 hx1
  rw [← hh2] at hc2 hx2
  rw [← hh3] at hc3 hx3 hdp
  obtain ⟨z, hz⟩ : ∃ z, z = 4294967296 * x1 + x2 := ⟨_, rfl⟩
  rw [← hz] at HG
  have hzl : z < 18446744073709551616 := by omega
  have hwd := fun W => word_n x1 x2 z W hx1 hx2 hz
  have HW := Lib.hid hwd
  obtain ⟨G, hG⟩ : ∃ G, G = min (z / x3) 4294967295 := ⟨_, rfl⟩
  rw [← hG] at HG
  have HGG := Lib.hid hG
  have hGl : G ≤ 4294967295 := by omega
  have HDL := Lib.hid hD
  have HD0 := Lib.hid hd0
  have HQ := Lib.hid (guess_int hdp hzl HGG.out)
  have hwrap : IntKind.i64.wrap ((j : Int) + 1 - 1) = (j : Int) := by rw [IntWalk.i64_in _ (by omega)]; omega
  clear hh1 hh2 hh3 hz e1 e2 hwd hG hD hd0 hlt
  go_enter Try.func91, Try.ntmps91
  go_wp2_with fail
  go_quiet ((go_at_call 95; exact quiet_left (HW.out _)))
  clear hwrap
  go_wp2_with fail
  rw [HQ.out]
  have hBq : B ≤ (w.drewN nq).heap.size := hB
  have hjl : D.length ≤ j + 1 + 1 := by have := HDL.out; omega
  (with_reducible refine (subtract_n g i (j + 1 + 1) c cb B G (j + 1) (some ⟨b, o, none⟩) L D (w.drewN nq) (hu.drewN nq) hon hnc hl (hr.drewN nq) hBq hne hjl (by omega) HDL.out).mono ?_)
  rintro e w1 ⟨M1, k1, rfl, hk1, hf1, hv1, hub1, hg1⟩
  have HF1 := Lib.hid hf1
  have HV1 := Lib.hid hv1
  have HU1 := Lib.hid hub1
  have HK1 := Lib.hid (show w.grownBy w1 (some g) from (grown_drewN (grown_refl w (some g)) nq).trans hg1)
  clear hf1 hv1 hub1 hg1
  obtain ⟨S, hS⟩ : ∃ S, S = val (seg L i (j + 1 + 1)) := ⟨_, rfl⟩
  obtain ⟨DV, hDV⟩ : ∃ DV, DV = val D := ⟨_, rfl⟩
  rw [← hS, ← hDV] at HG
  rw [← hDV] at hD0
  rw [← hS, ← hDV] at HV1
  have HSS := Lib.hid hS
  have HDV := Lib.hid hDV
  clear hS hDV
  go_wp2_with fail
  go_loopw [6, 7] (fun gv ov wr => ∃ gu ow : Nat, ∃ M : List UInt32, gu ≤ 4294967295 ∧ ow < 4294967296 ∧ gv = .int .u32 gu ∧ ov = .int .u32 ow ∧ Hid (far M L i (j + 1 + 1)) ∧ Hid (val (seg M i (j + 1 + 1)) + gu * DV = S + bp (j + 1 + 1) * ow) ∧ Hid (S / DV ≤ gu) ∧ Hid (Ub wr g 55 M) ∧ Hid (w.grownBy wr (some g))) (fun gv _ _ => (intOf gv).toNat)
  case atStart => exact ⟨G, k1, M1, hGl, hk1, rfl, rfl, HF1, (by have := HV1.out; rw [Nat.mul_comm] at this; exact this), HG, HU1, HK1⟩
  case round =>
    obtain ⟨gu, ow, M, hgu, how, rfl, rfl, hf, hv, hq, hub, hg⟩ := hrel
    by_cases h0 : ow = 0
    · subst h0
      have hend := guess_end hD0 (by have := hv.out; rw [Nat.mul_zero, Nat.add_zero] at this; exact this) hq.out
      have HE := Lib.hid hend
      clear hend
      go_wp2_with fail
      go_ret
      refine ⟨M, ?_, hf.out, ?_, hub.out, hg.out⟩
      · have e := HE.out.1
        rw [HSS.out, HDV.out] at e
        rw [← e]; rfl
      · have e := HE.out.2
        rwa [HSS.out, HDV.out] at e
    · have hlM := hf.out.1
      have hR := val_seg_lt M i (j + 1 + 1) (by omega)
      have hh := guess_high hD0 hv.out hR (by omega) hq.out
      have HQ2 := Lib.hid hh.1
      have hg1 : 1 ≤ gu := hh.2
      have how1 : 0 < ow := by omega
      have hon2 : i + (j + 1 + 1) ≤ M.length := by omega
      have hl2 : M.length ≤ 1000000 := by omega
      have hrr := hr.grown hg.out hB hne
      have hBr : B ≤ wr.heap.size := Nat.le_trans hB hg.out.size
      have HLM := Lib.hid hlM
      clear hlM hh hR h0
      go_wp2_with fail
      (with_reducible refine (add_n g i (j + 1 + 1) c cb B (j + 1) (some ⟨b, o, none⟩) M D wr hub.out hon2 hnc hl2 hrr hBr hne hjl HDL.out).mono ?_)
      rintro e w4 ⟨M4, cr, rfl, hcr, hf4, hv4, hub4, hg4⟩
      have HF4 := Lib.hid (far_trans hf4 hf.out)
      have HV4 := Lib.hid (guess_step (c := cr) (R' := val (seg M4 i (j + 1 + 1))) hv.out hg1 (by omega) (by rw [HDV.out]; exact hv4))
      have HU4 := Lib.hid hub4
      have HK4 := Lib.hid (hg.out.trans hg4)
      clear hf4 hv4 hub4 hg4
      go_wp2_with fail
      go_roundw
      case rel => exact ⟨gu - 1, ow - cr, M4, by omega, by omega, by go_num, by go_num, HF4, HV4, HQ2, HU4, HK4⟩
      case measure => simp [intOf]; omega
end Go.Proofs.Ytefoccjphbbmhaa
