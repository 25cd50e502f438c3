/- Words for byte slices in memory: what a []byte reads as, and the append of one byte slice to another that the call owns. No program is named here. -/
import Derived.WalkKit
import Derived.WalkSpells
import Derived.WalkLawsBesides
import Derived.Deep.AppendLies
import Derived.Deep.Draws
import Derived.Laws.BytesArg
import Derived.Laws.IdiomStrings
import Derived.Lib.Hide
import Derived.OpenShut
namespace Go.Proofs.YtdjifopdlkppoaaDoor.Oc
open Go.RowKit

/-- The cells that hold the bytes l. -/
def bv (l : List UInt8) : List Value := l.map fun b => Value.int .u8 (b.toNat : Int)

theorem bv_len (l : List UInt8) : (bv l).length = l.length := by simp [bv]
theorem bv_app (l m : List UInt8) : bv (l ++ m) = bv l ++ bv m := by simp [bv]
theorem bv_one (l : List UInt8) : ∀ u ∈ bv l, u.oneCell' = true := by
  intro u hu
  obtain ⟨_, _, rfl⟩ := List.mem_map.1 hu
  rfl
theorem bv_get {l : List UInt8} {j : Nat} (h : j < l.length) : (bv l)[j]? = some (.int .u8 (l[j].toNat : Int)) := by
  simp [bv, h]
theorem bv_at {l : List UInt8} {j : Nat} {u : Value} (hu : (bv l)[j]? = some u) : ∃ h : j < l.length, u = .int .u8 (l[j].toNat : Int) := by
  have h : j < l.length := by
    have := (List.getElem?_eq_some_iff.1 hu).1
    simpa [bv] using this
  refine ⟨h, ?_⟩
  rw [bv_get h] at hu
  exact (Option.some.inj hu).symm

theorem add_block (a : Addr) (n : Nat) : (a.add n).block = a.block := by unfold Addr.add; split <;> rfl
theorem add_plain (g o j : Nat) : (⟨g, o, none⟩ : Addr).add j = ⟨g, o + j, none⟩ := by unfold Addr.add; split <;> simp_all
theorem add_add (a : Addr) (i j : Nat) : (a.add i).add j = a.add (i + j) := by
  obtain ⟨b, o, s⟩ := a
  unfold Addr.add
  by_cases hi : i = 0 <;> by_cases hj : j = 0 <;> simp [hi, hj, Nat.add_assoc]

/-- The []byte '.slice A l.length c' reads as the bytes l in the world w, and lies below block B. -/
structure Rd (w : World) (B : Nat) (A : Option Addr) (c : Nat) (l : List UInt8) : Prop where
  cap : l.length ≤ c
  capm : c ≤ maxLen
  nil : A = none → c = 0
  cell : ∀ ad, A = some ad → ∀ j (h : j < l.length), ad.block < B ∧ w.cell? (ad.add j) = some (.int .u8 (l[j].toNat : Int))

section
variable {w w' : World} {B B' c : Nat} {A : Option Addr} {l : List UInt8}
theorem Rd.empty (w : World) (B : Nat) : Rd w B none 0 [] := ⟨Nat.le_refl _, by simp [maxLen], fun _ => rfl, fun _ h => by cases h⟩
theorem Rd.keep (h : Rd w B A c l) (hk : ∀ p : Addr, p.block < B → w'.cell? p = w.cell? p) : Rd w' B A c l :=
  ⟨h.cap, h.capm, h.nil, fun ad e j hj => ⟨(h.cell ad e j hj).1, (hk _ (by rw [add_block]; exact (h.cell ad e j hj).1)).trans (h.cell ad e j hj).2⟩⟩
theorem Rd.more (h : Rd w B A c l) (hB : B ≤ B') : Rd w B' A c l :=
  ⟨h.cap, h.capm, h.nil, fun ad e j hj => ⟨Nat.lt_of_lt_of_le (h.cell ad e j hj).1 hB, (h.cell ad e j hj).2⟩⟩
theorem Rd.below (h : Rd w B A c l) (hb : Below B w w') : Rd w' B A c l := h.keep fun _ hp => hb.cell hp
theorem Rd.alloc (h : Rd w B A c l) (hB : B ≤ w.heap.size) (o : Obj) : Rd (w.alloc o) B A c l := h.keep fun p hp => World.cell?_alloc_lt w o p (by omega)
theorem Rd.drew (h : Rd w B A c l) : Rd w.drew B A c l := h.keep fun _ _ => rfl
theorem Rd.drewN (h : Rd w B A c l) (k : Nat) : Rd (w.drewN k) B A c l := h.keep fun _ _ => rfl
/-- The address and the cell of element k. -/
theorem Rd.at_ (h : Rd w B A c l) {k : Nat} (hk : k < l.length) : ∃ b o, A = some ⟨b, o, none⟩ ∧ b < B ∧ ∀ j (hj : j < l.length), w.cell? ⟨b, o + j, none⟩ = some (.int .u8 (l[j].toNat : Int)) := by
  have hA : A ≠ none := fun e => by have := h.nil e; have := h.cap; omega
  obtain ⟨ad, rfl⟩ := Option.ne_none_iff_exists'.1 hA
  have hc := h.cell ad rfl
  have hb := (hc 0 (by omega)).1
  obtain ⟨b, o, s⟩ := ad
  have h0 := (hc 0 (by omega)).2
  have hs : s = none := by
    have := World.cell?_spot h0
    simpa [Addr.add] using this
  subst hs
  refine ⟨b, o, rfl, hb, fun j hj => ?_⟩
  have := (hc j hj).2
  rwa [add_plain] at this
/-- A piece of it. -/
theorem Rd.cut {b o : Nat} (h : Rd w B (some ⟨b, o, none⟩) c l) (q k : Nat) (hk : q + k ≤ l.length) : Rd w B (some ⟨b, o + q, none⟩) (c - q) ((l.drop q).take k) := by
  have hc := h.cap
  have hm := h.capm
  refine ⟨by simp; omega, by omega, (fun e => by cases e), fun ad e j hj => ?_⟩
  obtain rfl := Option.some.inj e
  have hj' : j < k := by simp at hj; omega
  obtain ⟨hb, this⟩ := h.cell _ rfl (q + j) (by omega)
  refine ⟨hb, ?_⟩
  rw [add_plain] at this ⊢
  rw [Nat.add_assoc, this]
  simp
/-- The cells, as the laws on append ask them. -/
theorem Rd.news {ad : Addr} (h : Rd w B (some ad) c l) : ∀ j u, (bv l)[j]? = some u → w.cell? (ad.add j) = some u := by
  intro j u hu
  obtain ⟨hj, rfl⟩ := bv_at hu
  exact (h.cell ad rfl j hj).2
end

/-- The []byte '.slice A l.length c' holds the bytes l, in a block from 'base' on that the call made itself (or it is nil). e: the number of the type uint8. -/
def Own (w : World) (base e : Nat) (A : Option Addr) (c : Nat) (l : List UInt8) : Prop :=
  w.ownsRow base e 1 (.slice A l.length c) l.length (bv l)

/-- A []byte that came in, as the row's reading tells it. -/
theorem rd_of_row {w : World} {a : Option Addr} {len cap : Nat} {zs : List Int}
    (h : (a = none ∧ len = 0 ∧ cap = 0 ∧ zs = []) ∨ ∃ x, a = some x ∧ len ≤ cap ∧ cap ≤ maxLen ∧ zs.length = cap ∧ (∀ i, i < zs.length → w.cell? (x.add i) = some (.int .u8 (zs.getD i 0))) ∧ ∀ n ∈ zs, (Lit.int .u8 n).wf = true) :
    ∃ l : List UInt8, l.length = len ∧ Rd w w.heap.size a cap l := by
  rcases h with ⟨rfl, rfl, rfl, rfl⟩ | ⟨x, rfl, hlc, hcm, hz, hcell, hwf⟩
  · exact ⟨[], rfl, Rd.empty _ _⟩
  · refine ⟨(zs.take len).map fun n => UInt8.ofNat n.toNat, by simp; omega, by simp; omega, hcm, (fun e => by cases e), fun ad e j hj => ?_⟩
    obtain rfl := Option.some.inj e
    have hj' : j < zs.length := by simp at hj; omega
    have hc := hcell j hj'
    have hw := hwf zs[j] (List.getElem_mem hj')
    have hb := bounds_u8 hw
    refine ⟨by have := World.block_lt_of_cell? w _ hc; rwa [add_block] at this, ?_⟩
    rw [hc]
    have e1 : zs.getD j 0 = zs[j] := by simp [List.getD, hj']
    rw [e1]
    simp only [List.getElem_map, List.getElem_take]
    have e2 : ((UInt8.ofNat zs[j].toNat).toNat : Int) = zs[j] := by
      rw [UInt8.toNat_ofNat']
      omega
    rw [e2]

/-- The block of an address. -/
def blk (A : Option Addr) : Option Nat := A.map (·.block)

section
variable {w w' : World} {base e c : Nat} {A : Option Addr} {l : List UInt8}
theorem own_block (A : Option Addr) (n c : Nat) : (Value.slice A n c).ownBlock = blk A := by cases A <;> rfl
theorem Own.nil (w : World) (base e : Nat) : Own w base e none 0 [] := World.ownsRow_nil w base e 1
theorem Own.form (h : Own w base e A c l) : (A = none ∧ c = 0 ∧ l = []) ∨ ∃ g, A = some ⟨g, 0, none⟩ ∧ base ≤ g ∧ g < w.heap.size ∧ l.length ≤ c ∧ c ≤ maxLen := by
  rcases h.2 with ⟨hv, hn⟩ | ⟨g, cap, cur, hv, hb, hg, hnc, hcm, _⟩
  · simp only [Value.slice.injEq] at hv
    exact .inl ⟨hv.1, hv.2.2, List.eq_nil_of_length_eq_zero hn⟩
  · simp only [Value.slice.injEq] at hv
    obtain ⟨rfl, _, rfl⟩ := hv
    exact .inr ⟨g, rfl, hb, (Array.getElem?_eq_some_iff.1 hg).1, hnc, hcm⟩
theorem Own.rd (h : Own w base e A c l) : Rd w w.heap.size A c l := by
  rcases h.form with ⟨rfl, rfl, rfl⟩ | ⟨g, rfl, hb, hg, hc, hm⟩
  · exact Rd.empty w _
  · refine ⟨hc, hm, (fun e => by cases e), fun ad e j hj => ?_⟩
    obtain rfl := Option.some.inj e
    exact ⟨hg, World.ownsRow.cells h (g := g) rfl j _ (bv_get hj)⟩
theorem Own.blk_ge (h : Own w base e A c l) : ∀ k, blk A = some k → base ≤ k ∧ k < w.heap.size := by
  intro k hk
  exact World.ownsRow.lt h k (by rw [own_block]; exact hk)
theorem Own.kept (h : Own w base e A c l) {row : Option Nat} (hg : w.grownBy w' row) (hne : blk A = none ∨ blk A ≠ row) : Own w' base e A c l :=
  World.ownsRow.kept h hg (by rw [own_block]; exact hne)
theorem Own.alloc (h : Own w base e A c l) (o : Obj) : Own (w.alloc o) base e A c l := World.ownsRow.alloc h o
theorem Own.drew (h : Own w base e A c l) : Own w.drew base e A c l := h
theorem Own.drewN (h : Own w base e A c l) (k : Nat) : Own (w.drewN k) base e A c l := h
theorem Own.lower (h : Own w base e A c l) {b : Nat} (hb : b ≤ base) : Own w b e A c l := by
  refine ⟨h.1, ?_⟩
  rcases h.2 with hn | ⟨g, cap, cur, hv, hbg, r⟩
  · exact .inl hn
  · exact .inr ⟨g, cap, cur, hv, Nat.le_trans hb hbg, r⟩
/-- What is owned stays so where all blocks below B are as they were and it lies below B. -/
theorem Own.below (h : Own w base e A c l) {B : Nat} (hB : w.heap.size ≤ B) (hb : Below B w w') : Own w' base e A c l :=
  h.kept (row := none) ⟨hb.os, hb.tape, hb.output, hb.size, fun k hk _ => hb.block k (Nat.lt_of_lt_of_le hk hB)⟩ (by cases blk A <;> simp)
end

/-- Blocks of two slices: one was there before the other's base. -/
theorem blk_apart {A1 A2 : Option Addr} {H : Nat} (h1 : ∀ k, blk A1 = some k → k < H) (h2 : ∀ k, blk A2 = some k → H ≤ k) : blk A1 = none ∨ blk A1 ≠ blk A2 := by
  cases e : blk A1 with
  | none => exact .inl rfl
  | some g =>
    refine .inr fun e2 => ?_
    have := h1 g e
    have := h2 g e2.symm
    omega

theorem grown_of_below {a w : World} {B : Nat} (h : Below B a w) (hB : a.heap.size ≤ B) (row : Option Nat) : a.grownBy w row := ⟨h.os, h.tape, h.output, h.size, fun i hi _ => h.block i (Nat.lt_of_lt_of_le hi hB)⟩
theorem below_of_grown {a w : World} {row : Option Nat} (h : a.grownBy w row) {B : Nat} (hB : B ≤ a.heap.size) (hr : ∀ k, row = some k → B ≤ k) : Below B a w := (Below.refl B a).grown h hB hr
/-- Two steps: the second wrote to the same row, or to a block that the first made. -/
theorem grown_step {a b c : World} {r s : Option Nat} (h : a.grownBy b r) (k : b.grownBy c s) (hs : ∀ g, s = some g → r = some g ∨ a.heap.size ≤ g) : a.grownBy c r :=
  ⟨k.os.trans h.os, k.tape.trans h.tape, k.output.trans h.output, Nat.le_trans h.size k.size, fun i hi hne => (k.block i (Nat.lt_of_lt_of_le hi h.size) (fun e => by
    rcases hs i e.symm with h1 | h1
    · exact hne h1.symm
    · omega)).trans (h.block i hi hne)⟩

section
variable {P : Program} (w : World)

/-- 'append(s, x...)': s is owned, x reads as m. -/
theorem run_append_bytes (base e : Nat) (t ty : TypeId) (i : TypeInfo) (z : Value) (ht : P.underlying t = some (.slice e)) (hi : P.info? e = some i) (hz : i.zero = some z) (hsize : i.size = 1) (hby : i.bytes = 1) (hzs : z.cells.size = 1)
    {A A2 : Option Addr} {c c2 B : Nat} {l m : List UInt8} (hown : Own w base e A c l) (hr : Rd w B A2 c2 m) (hle : l.length + m.length ≤ 140737488355328) (hbase : base ≤ w.heap.size) :
    ∃ A' c' w', (Builtin.append_ #[t, t] ty #[.slice A l.length c, .slice A2 m.length c2]).run P w = .ok (.slice A' (l ++ m).length c') w' ∧ Own w' base e A' c' (l ++ m) ∧ w.grownBy w' (blk A) ∧
      (blk A' = blk A ∨ blk A' = some w.heap.size) := by
  cases A2 with
  | some ad =>
    obtain ⟨v', w', hrun, h2, h3, _, h5⟩ := run_append_own_at (P := P) w base t ty e i z 1 1 ht hi hz hsize hby hzs (by omega) _ _ _ hown ad m.length c2 (bv m) (by rw [bv_len, Nat.mul_one]) hr.news (bv_one m)
      (by simp only [maxLen]; omega) (by omega) hbase
    rw [← bv_app, ← List.length_append] at h2
    have hform : ∃ A' c', v' = .slice A' (l ++ m).length c' := by
      rcases h2.2 with ⟨rfl, hn⟩ | ⟨g, cap, cur, rfl, _⟩
      · exact ⟨none, 0, by rw [hn]⟩
      · exact ⟨_, _, rfl⟩
    obtain ⟨A', c', rfl⟩ := hform
    refine ⟨A', c', w', hrun, h2, by rw [own_block] at h3; exact h3, ?_⟩
    rw [own_block, own_block] at h5
    exact h5
  | none =>
    have hc2 := hr.nil rfl
    have hm : m = [] := List.eq_nil_of_length_eq_zero (by have := hr.cap; omega)
    subst hm
    subst hc2
    refine ⟨A, c, w, ?_, by simpa using hown, World.grownBy.refl w _, .inl rfl⟩
    have := run_append_owned_none (P := P) w base t ty e i 1 ht hi _ _ _ hown
    simpa using this

/-- The same, for the walk. -/
theorem wpList_append_bytes {ops : Array Oper} {rest : List Oper} {o : Oper} {a : Act} {Q : Exit → Act → World → Prop} (hgd : o.guard = none) (s x : Operand) (t : TypeId)
    (ho : o.op = .call { callee := .builtin .append, args := #[s, x], argTypes := #[t, t] })
    (base e : Nat) (i : TypeInfo) (z : Value) (ht : P.underlying t = some (.slice e)) (hi : P.info? e = some i) (hz : i.zero = some z) (hsize : i.size = 1) (hby : i.bytes = 1) (hzs : z.cells.size = 1)
    {A A2 : Option Addr} {c c2 B : Nat} (l m : List UInt8) (hs : a.eval s = .slice A l.length c) (hx : a.eval x = .slice A2 m.length c2) (hown : Own w base e A c l) (hr : Rd w B A2 c2 m)
    (hle : l.length + m.length ≤ 140737488355328) (hbase : base ≤ w.heap.size)
    (h : ∀ A' c' w' r, Hid (r = l ++ m) → Own w' base e A' c' r → w.grownBy w' (blk A) → (blk A' = blk A ∨ blk A' = some w.heap.size) → wpList P ops Q rest (a.put o.dst (.slice A' r.length c')) w') :
    wpList P ops Q (o :: rest) a w := by
  refine wpList_plain hgd fun K hK => ?_
  obtain ⟨A', c', w', hrun, h2, h3, h4⟩ := run_append_bytes (P := P) w base e t o.type i z ht hi hz hsize hby hzs hown hr hle hbase
  unfold Oper.wp execOp
  simp only [ho, resolve, invoke, builtin, Sem.run_bind, Sem.run_pure, Result.andThen_ok, List.map_toArray, List.map_cons, List.map_nil, hs, hx, hrun]
  exact hK _ _ (h A' c' w' _ rfl h2 h3 h4)

/-- A one-element literal. -/
theorem rd_one (x : UInt8) (v : Int) (hv : v = (x.toNat : Int)) (e : Nat) : Rd (w.alloc (.cells #[.int .u8 v] e)) (w.heap.size + 1) (some ⟨w.heap.size, 0, none⟩) 1 [x] := by
  subst hv
  refine ⟨by simp, by simp [maxLen], (fun e => by cases e), fun ad he j hj => ?_⟩
  obtain rfl := Option.some.inj he
  refine ⟨by simp, ?_⟩
  have hj0 : j = 0 := by simp at hj; omega
  subst hj0
  exact cell_one_new w _ e 0 _ rfl
theorem own_one (x : UInt8) (v : Int) (hv : v = (x.toNat : Int)) (e base : Nat) (hb : base ≤ w.heap.size) : Own (w.alloc (.cells #[.int .u8 v] e)) base e (some ⟨w.heap.size, 0, none⟩) 1 [x] := by
  subst hv
  have := World.ownsRow_lit (base := base) (e := e) (size := 1) w #[.int .u8 (x.toNat : Int)] 1 hb (by simp [maxLen]) (by simp)
  exact this

/-- 'string(b)'. -/
theorem run_string_bytes (src dst e : TypeId) (hs : P.underlying src = some (.slice e)) (he : P.underlying e = some (.int .u8)) (hd : P.underlying dst = some .string) {B c : Nat} {A : Option Addr} {l : List UInt8} (h : Rd w B A c l) :
    (convert src dst (.slice A l.length c)).run P w = .ok (.string ⟨l.toArray⟩) w := by
  cases A with
  | none =>
    have hl : l = [] := List.eq_nil_of_length_eq_zero (by have := h.cap; have := h.nil rfl; omega)
    subst hl
    exact run_convert_bytes_nil w src e hs he _ _ dst hd
  | some ad => exact run_convert_bytes_back w src dst e ad c l hs he hd fun j hj => (h.cell ad rfl j hj).2
end

end Go.Proofs.YtdjifopdlkppoaaDoor.Oc
