/- Words for byte slices in memory: what a []byte reads as, and the append of one byte slice to another that the call owns. No program is named here. The small functions of octet: isSize, fits. octet's Take. The reference of layer 1: Twin, Digits, Number, Put, Take; and the law's spoil. octet's PutField and TakeField. The reference's PutField and TakeField answer what octet's do. Lists of byte strings and their concatenation as fields: plain lists, no program. -/
import Derived.WalkKit
import Derived.WalkSpells
import Derived.WalkLawsBesides
import Derived.Deep.AppendLies
import Derived.Deep.Draws
import Derived.Laws.BytesArg
import Derived.Laws.IdiomStrings
import Derived.Lib.Hide
import Derived.OpenShut
import Derived.Test.YtejphpcngbjgjaaDoorProg
import Derived.BigQuiet
import Derived.Deep.QuietTactic
import Derived.Outline
namespace Go.Proofs.YtejphpcngbjgjaaDoor.Oc
open Go.RowKit

/-- The cells that hold the bytes l. -/
def bv (l : List UInt8) : List Value := l.map fun b => Value.int .u8 (b.toNat : Int)

theorem bv_len (l : List UInt8) : (bv l).length = l.length := by simp [bv]
theorem bv_app (l m : List UInt8) : bv (l ++ m) = bv l ++ bv m := by simp [bv]
theorem bv_one (l : List UInt8) : ∀ u ∈ bv l, u.oneCell' = true := by
  intro u hu
  obtain ⟨_, _, rfl⟩ := List.mem_map.1 hu
  rfl
theorem bv_get {l : List UInt8} {j : Nat} (h : j < l.length) : (bv l)[j]? = some (.int .u8 (l[j].toNat : Int)) := by
  simp [bv, h]
theorem bv_at {l : List UInt8} {j : Nat} {u : Value} (hu : (bv l)[j]? = some u) : ∃ h : j < l.length, u = .int .u8 (l[j].toNat : Int) := by
  have h : j < l.length := by
    have := (List.getElem?_eq_some_iff.1 hu).1
    simpa [bv] using this
  refine ⟨h, ?_⟩
  rw [bv_get h] at hu
  exact (Option.some.inj hu).symm

theorem add_block (a : Addr) (n : Nat) : (a.add n).block = a.block := by unfold Addr.add; split <;> rfl
theorem add_plain (g o j : Nat) : (⟨g, o, none⟩ : Addr).add j = ⟨g, o + j, none⟩ := by unfold Addr.add; split <;> simp_all
theorem add_add (a : Addr) (i j : Nat) : (a.add i).add j = a.add (i + j) := by
  obtain ⟨b, o, s⟩ := a
  unfold Addr.add
  by_cases hi : i = 0 <;> by_cases hj : j = 0 <;> simp [hi, hj, Nat.add_assoc]

/-- The []byte '.slice A l.length c' reads as the bytes l in the world w, and lies below block B. -/
structure Rd (w : World) (B : Nat) (A : Option Addr) (c : Nat) (l : List UInt8) : Prop where
  cap : l.length ≤ c
  capm : c ≤ maxLen
  nil : A = none → c = 0
  cell : ∀ ad, A = some ad → ∀ j (h : j < l.length), ad.block < B ∧ w.cell? (ad.add j) = some (.int .u8 (l[j].toNat : Int))

section
variable {w w' : World} {B B' c : Nat} {A : Option Addr} {l : List UInt8}
theorem Rd.empty (w : World) (B : Nat) : Rd w B none 0 [] := ⟨Nat.le_refl _, by simp [maxLen], fun _ => rfl, fun _ h => by cases h⟩
theorem Rd.keep (h : Rd w B A c l) (hk : ∀ p : Addr, p.block < B → w'.cell? p = w.cell? p) : Rd w' B A c l :=
  ⟨h.cap, h.capm, h.nil, fun ad e j hj => ⟨(h.cell ad e j hj).1, (hk _ (by rw [add_block]; exact (h.cell ad e j hj).1)).trans (h.cell ad e j hj).2⟩⟩
theorem Rd.more (h : Rd w B A c l) (hB : B ≤ B') : Rd w B' A c l :=
  ⟨h.cap, h.capm, h.nil, fun ad e j hj => ⟨Nat.lt_of_lt_of_le (h.cell ad e j hj).1 hB, (h.cell ad e j hj).2⟩⟩
theorem Rd.below (h : Rd w B A c l) (hb : Below B w w') : Rd w' B A c l := h.keep fun _ hp => hb.cell hp
theorem Rd.alloc (h : Rd w B A c l) (hB : B ≤ w.heap.size) (o : Obj) : Rd (w.alloc o) B A c l := h.keep fun p hp => World.cell?_alloc_lt w o p (by omega)
theorem Rd.drew (h : Rd w B A c l) : Rd w.drew B A c l := h.keep fun _ _ => rfl
theorem Rd.drewN (h : Rd w B A c l) (k : Nat) : Rd (w.drewN k) B A c l := h.keep fun _ _ => rfl
/-- The address and the cell of element k. -/
theorem Rd.at_ (h : Rd w B A c l) {k : Nat} (hk : k < l.length) : ∃ b o, A = some ⟨b, o, none⟩ ∧ b < B ∧ ∀ j (hj : j < l.length), w.cell? ⟨b, o + j, none⟩ = some (.int .u8 (l[j].toNat : Int)) := by
  have hA : A ≠ none := fun e => by have := h.nil e; have := h.cap; omega
  obtain ⟨ad, rfl⟩ := Option.ne_none_iff_exists'.1 hA
  have hc := h.cell ad rfl
  have hb := (hc 0 (by omega)).1
  obtain ⟨b, o, s⟩ := ad
  have h0 := (hc 0 (by omega)).2
  have hs : s = none := by
    have := World.cell?_spot h0
    simpa [Addr.add] using this
  subst hs
  refine ⟨b, o, rfl, hb, fun j hj => ?_⟩
  have := (hc j hj).2
  rwa [add_plain] at this
/-- A piece of it. -/
theorem Rd.cut {b o : Nat} (h : Rd w B (some ⟨b, o, none⟩) c l) (q k : Nat) (hk : q + k ≤ l.length) : Rd w B (some ⟨b, o + q, none⟩) (c - q) ((l.drop q).take k) := by
  have hc := h.cap
  have hm := h.capm
  refine ⟨by simp; omega, by omega, (fun e => by cases e), fun ad e j hj => ?_⟩
  obtain rfl := Option.some.inj e
  have hj' : j < k := by simp at hj; omega
  obtain ⟨hb, this⟩ := h.cell _ rfl (q + j) (by omega)
  refine ⟨hb, ?_⟩
  rw [add_plain] at this ⊢
  rw [Nat.add_assoc, this]
  simp
/-- The cells, as the laws on append ask them. -/
theorem Rd.news {ad : Addr} (h : Rd w B (some ad) c l) : ∀ j u, (bv l)[j]? = some u → w.cell? (ad.add j) = some u := by
  intro j u hu
  obtain ⟨hj, rfl⟩ := bv_at hu
  exact (h.cell ad rfl j hj).2
end

/-- The []byte '.slice A l.length c' holds the bytes l, in a block from 'base' on that the call made itself (or it is nil). e: the number of the type uint8. -/
def Own (w : World) (base e : Nat) (A : Option Addr) (c : Nat) (l : List UInt8) : Prop :=
  w.ownsRow base e 1 (.slice A l.length c) l.length (bv l)

/-- A []byte that came in, as the row's reading tells it. -/
theorem rd_of_row {w : World} {a : Option Addr} {len cap : Nat} {zs : List Int}
    (h : (a = none ∧ len = 0 ∧ cap = 0 ∧ zs = []) ∨ ∃ x, a = some x ∧ len ≤ cap ∧ cap ≤ maxLen ∧ zs.length = cap ∧ (∀ i, i < zs.length → w.cell? (x.add i) = some (.int .u8 (zs.getD i 0))) ∧ ∀ n ∈ zs, (Lit.int .u8 n).wf = true) :
    ∃ l : List UInt8, l.length = len ∧ Rd w w.heap.size a cap l := by
  rcases h with ⟨rfl, rfl, rfl, rfl⟩ | ⟨x, rfl, hlc, hcm, hz, hcell, hwf⟩
  · exact ⟨[], rfl, Rd.empty _ _⟩
  · refine ⟨(zs.take len).map fun n => UInt8.ofNat n.toNat, by simp; omega, by simp; omega, hcm, (fun e => by cases e), fun ad e j hj => ?_⟩
    obtain rfl := Option.some.inj e
    have hj' : j < zs.length := by simp at hj; omega
    have hc := hcell j hj'
    have hw := hwf zs[j] (List.getElem_mem hj')
    have hb := bounds_u8 hw
    refine ⟨by have := World.block_lt_of_cell? w _ hc; rwa [add_block] at this, ?_⟩
    rw [hc]
    have e1 : zs.getD j 0 = zs[j] := by simp [List.getD, hj']
    rw [e1]
    simp only [List.getElem_map, List.getElem_take]
    have e2 : ((UInt8.ofNat zs[j].toNat).toNat : Int) = zs[j] := by
      rw [UInt8.toNat_ofNat']
      omega
    rw [e2]

/-- The block of an address. -/
def blk (A : Option Addr) : Option Nat := A.map (·.block)

section
variable {w w' : World} {base e c : Nat} {A : Option Addr} {l : List UInt8}
theorem own_block (A : Option Addr) (n c : Nat) : (Value.slice A n c).ownBlock = blk A := by cases A <;> rfl
theorem Own.nil (w : World) (base e : Nat) : Own w base e none 0 [] := World.ownsRow_nil w base e 1
theorem Own.form (h : Own w base e A c l) : (A = none ∧ c = 0 ∧ l = []) ∨ ∃ g, A = some ⟨g, 0, none⟩ ∧ base ≤ g ∧ g < w.heap.size ∧ l.length ≤ c ∧ c ≤ maxLen := by
  rcases h.2 with ⟨hv, hn⟩ | ⟨g, cap, cur, hv, hb, hg, hnc, hcm, _⟩
  · simp only [Value.slice.injEq] at hv
    exact .inl ⟨hv.1, hv.2.2, List.eq_nil_of_length_eq_zero hn⟩
  · simp only [Value.slice.injEq] at hv
    obtain ⟨rfl, _, rfl⟩ := hv
    exact .inr ⟨g, rfl, hb, (Array.getElem?_eq_some_iff.1 hg).1, hnc, hcm⟩
theorem Own.rd (h : Own w base e A c l) : Rd w w.heap.size A c l := by
  rcases h.form with ⟨rfl, rfl, rfl⟩ | ⟨g, rfl, hb, hg, hc, hm⟩
  · exact Rd.empty w _
  · refine ⟨hc, hm, (fun e => by cases e), fun ad e j hj => ?_⟩
    obtain rfl := Option.some.inj e
    exact ⟨hg, World.ownsRow.cells h (g := g) rfl j _ (bv_get hj)⟩
theorem Own.blk_ge (h : Own w base e A c l) : ∀ k, blk A = some k → base ≤ k ∧ k < w.heap.size := by
  intro k hk
  exact World.ownsRow.lt h k (by rw [own_block]; exact hk)
theorem Own.kept (h : Own w base e A c l) {row : Option Nat} (hg : w.grownBy w' row) (hne : blk A = none ∨ blk A ≠ row) : Own w' base e A c l :=
  World.ownsRow.kept h hg (by rw [own_block]; exact hne)
theorem Own.alloc (h : Own w base e A c l) (o : Obj) : Own (w.alloc o) base e A c l := World.ownsRow.alloc h o
theorem Own.drew (h : Own w base e A c l) : Own w.drew base e A c l := h
theorem Own.drewN (h : Own w base e A c l) (k : Nat) : Own (w.drewN k) base e A c l := h
theorem Own.lower (h : Own w base e A c l) {b : Nat} (hb : b ≤ base) : Own w b e A c l := by
  refine ⟨h.1, ?_⟩
  rcases h.2 with hn | ⟨g, cap, cur, hv, hbg, r⟩
  · exact .inl hn
  · exact .inr ⟨g, cap, cur, hv, Nat.le_trans hb hbg, r⟩
/-- What is owned stays so where all blocks below B are as they were and it lies below B. -/
theorem Own.below (h : Own w base e A c l) {B : Nat} (hB : w.heap.size ≤ B) (hb : Below B w w') : Own w' base e A c l :=
  h.kept (row := none) ⟨hb.os, hb.tape, hb.output, hb.size, fun k hk _ => hb.block k (Nat.lt_of_lt_of_le hk hB)⟩ (by cases blk A <;> simp)
end

/-- Blocks of two slices: one was there before the other's base. -/
theorem blk_apart {A1 A2 : Option Addr} {H : Nat} (h1 : ∀ k, blk A1 = some k → k < H) (h2 : ∀ k, blk A2 = some k → H ≤ k) : blk A1 = none ∨ blk A1 ≠ blk A2 := by
  cases e : blk A1 with
  | none => exact .inl rfl
  | some g =>
    refine .inr fun e2 => ?_
    have := h1 g e
    have := h2 g e2.symm
    omega

theorem grown_of_below {a w : World} {B : Nat} (h : Below B a w) (hB : a.heap.size ≤ B) (row : Option Nat) : a.grownBy w row := ⟨h.os, h.tape, h.output, h.size, fun i hi _ => h.block i (Nat.lt_of_lt_of_le hi hB)⟩
theorem below_of_grown {a w : World} {row : Option Nat} (h : a.grownBy w row) {B : Nat} (hB : B ≤ a.heap.size) (hr : ∀ k, row = some k → B ≤ k) : Below B a w := (Below.refl B a).grown h hB hr
/-- Two steps: the second wrote to the same row, or to a block that the first made. -/
theorem grown_step {a b c : World} {r s : Option Nat} (h : a.grownBy b r) (k : b.grownBy c s) (hs : ∀ g, s = some g → r = some g ∨ a.heap.size ≤ g) : a.grownBy c r :=
  ⟨k.os.trans h.os, k.tape.trans h.tape, k.output.trans h.output, Nat.le_trans h.size k.size, fun i hi hne => (k.block i (Nat.lt_of_lt_of_le hi h.size) (fun e => by
    rcases hs i e.symm with h1 | h1
    · exact hne h1.symm
    · omega)).trans (h.block i hi hne)⟩

section
variable {P : Program} (w : World)

/-- 'append(s, x...)': s is owned, x reads as m. -/
theorem run_append_bytes (base e : Nat) (t ty : TypeId) (i : TypeInfo) (z : Value) (ht : P.underlying t = some (.slice e)) (hi : P.info? e = some i) (hz : i.zero = some z) (hsize : i.size = 1) (hby : i.bytes = 1) (hzs : z.cells.size = 1)
    {A A2 : Option Addr} {c c2 B : Nat} {l m : List UInt8} (hown : Own w base e A c l) (hr : Rd w B A2 c2 m) (hle : l.length + m.length ≤ 140737488355328) (hbase : base ≤ w.heap.size) :
    ∃ A' c' w', (Builtin.append_ #[t, t] ty #[.slice A l.length c, .slice A2 m.length c2]).run P w = .ok (.slice A' (l ++ m).length c') w' ∧ Own w' base e A' c' (l ++ m) ∧ w.grownBy w' (blk A) ∧
      (blk A' = blk A ∨ blk A' = some w.heap.size) := by
  cases A2 with
  | some ad =>
    obtain ⟨v', w', hrun, h2, h3, _, h5⟩ := run_append_own_at (P := P) w base t ty e i z 1 1 ht hi hz hsize hby hzs (by omega) _ _ _ hown ad m.length c2 (bv m) (by rw [bv_len, Nat.mul_one]) hr.news (bv_one m)
      (by simp only [maxLen]; omega) (by omega) hbase
    rw [← bv_app, ← List.length_append] at h2
    have hform : ∃ A' c', v' = .slice A' (l ++ m).length c' := by
      rcases h2.2 with ⟨rfl, hn⟩ | ⟨g, cap, cur, rfl, _⟩
      · exact ⟨none, 0, by rw [hn]⟩
      · exact ⟨_, _, rfl⟩
    obtain ⟨A', c', rfl⟩ := hform
    refine ⟨A', c', w', hrun, h2, by rw [own_block] at h3; exact h3, ?_⟩
    rw [own_block, own_block] at h5
    exact h5
  | none =>
    have hc2 := hr.nil rfl
    have hm : m = [] := List.eq_nil_of_length_eq_zero (by have := hr.cap; omega)
    subst hm
    subst hc2
    refine ⟨A, c, w, ?_, by simpa using hown, World.grownBy.refl w _, .inl rfl⟩
    have := run_append_owned_none (P := P) w base t ty e i 1 ht hi _ _ _ hown
    simpa using this

/-- The same, for the walk. -/
theorem wpList_append_bytes {ops : Array Oper} {rest : List Oper} {o : Oper} {a : Act} {Q : Exit → Act → World → Prop} (hgd : o.guard = none) (s x : Operand) (t : TypeId)
    (ho : o.op = .call { callee := .builtin .append, args := #[s, x], argTypes := #[t, t] })
    (base e : Nat) (i : TypeInfo) (z : Value) (ht : P.underlying t = some (.slice e)) (hi : P.info? e = some i) (hz : i.zero = some z) (hsize : i.size = 1) (hby : i.bytes = 1) (hzs : z.cells.size = 1)
    {A A2 : Option Addr} {c c2 B : Nat} (l m : List UInt8) (hs : a.eval s = .slice A l.length c) (hx : a.eval x = .slice A2 m.length c2) (hown : Own w base e A c l) (hr : Rd w B A2 c2 m)
    (hle : l.length + m.length ≤ 140737488355328) (hbase : base ≤ w.heap.size)
    (h : ∀ A' c' w' r, Hid (r = l ++ m) → Own w' base e A' c' r → w.grownBy w' (blk A) → (blk A' = blk A ∨ blk A' = some w.heap.size) → wpList P ops Q rest (a.put o.dst (.slice A' r.length c')) w') :
    wpList P ops Q (o :: rest) a w := by
  refine wpList_plain hgd fun K hK => ?_
  obtain ⟨A', c', w', hrun, h2, h3, h4⟩ := run_append_bytes (P := P) w base e t o.type i z ht hi hz hsize hby hzs hown hr hle hbase
  unfold Oper.wp execOp
  simp only [ho, resolve, invoke, builtin, Sem.run_bind, Sem.run_pure, Result.andThen_ok, List.map_toArray, List.map_cons, List.map_nil, hs, hx, hrun]
  exact hK _ _ (h A' c' w' _ rfl h2 h3 h4)

/-- A one-element literal. -/
theorem rd_one (x : UInt8) (v : Int) (hv : v = (x.toNat : Int)) (e : Nat) : Rd (w.alloc (.cells #[.int .u8 v] e)) (w.heap.size + 1) (some ⟨w.heap.size, 0, none⟩) 1 [x] := by
  subst hv
  refine ⟨by simp, by simp [maxLen], (fun e => by cases e), fun ad he j hj => ?_⟩
  obtain rfl := Option.some.inj he
  refine ⟨by simp, ?_⟩
  have hj0 : j = 0 := by simp at hj; omega
  subst hj0
  exact cell_one_new w _ e 0 _ rfl
theorem own_one (x : UInt8) (v : Int) (hv : v = (x.toNat : Int)) (e base : Nat) (hb : base ≤ w.heap.size) : Own (w.alloc (.cells #[.int .u8 v] e)) base e (some ⟨w.heap.size, 0, none⟩) 1 [x] := by
  subst hv
  have := World.ownsRow_lit (base := base) (e := e) (size := 1) w #[.int .u8 (x.toNat : Int)] 1 hb (by simp [maxLen]) (by simp)
  exact this

/-- 'string(b)'. -/
theorem run_string_bytes (src dst e : TypeId) (hs : P.underlying src = some (.slice e)) (he : P.underlying e = some (.int .u8)) (hd : P.underlying dst = some .string) {B c : Nat} {A : Option Addr} {l : List UInt8} (h : Rd w B A c l) :
    (convert src dst (.slice A l.length c)).run P w = .ok (.string ⟨l.toArray⟩) w := by
  cases A with
  | none =>
    have hl : l = [] := List.eq_nil_of_length_eq_zero (by have := h.cap; have := h.nil rfl; omega)
    subst hl
    exact run_convert_bytes_nil w src e hs he _ _ dst hd
  | some ad => exact run_convert_bytes_back w src dst e ad c l hs he hd fun j hj => (h.cell ad rfl j hj).2
end

end Go.Proofs.YtejphpcngbjgjaaDoor.Oc
namespace Go.Proofs.YtejphpcngbjgjaaDoor.Oc
open Go.RowKit
set_option linter.unusedVariables false

/-- The bytes of n, the most significant one first. -/
def be (s n : Nat) : List UInt8 := (List.range s).map fun i => UInt8.ofNat (n / 2 ^ (8 * (s - 1 - i)))
theorem be_len (s n : Nat) : (be s n).length = s := by simp [be]
theorem be_take (s n k : Nat) (h : k < s) : (be s n).take (k + 1) = (be s n).take k ++ [UInt8.ofNat (n / 2 ^ (8 * (s - 1 - k)))] := by
  rw [List.take_succ_eq_append_getElem (by rw [be_len]; exact h)]
  simp [be]

theorem byte_of_nat (n k : Nat) (x : UInt8) (h : x = UInt8.ofNat (n / 2 ^ k)) : (n : Int) / 2 ^ k % 256 = (x.toNat : Int) := by
  subst h
  have : ((n / 2 ^ k % 256 : Nat) : Int) = (n : Int) / 2 ^ k % 256 := by simp
  rw [← this]
  simp

theorem info5 : (Tryd.prog.info? 5).map (fun i => (i.zero, i.size, i.bytes)) = some (some (.int .u8 0), 1, 1) := by kernel_rfl

/-- What Put answers: the bytes and the error. -/
def putM (l : List UInt8) (n : Nat) (s : Int) : List UInt8 × Int :=
  if 1 ≤ s ∧ s ≤ 8 ∧ n < 2 ^ (8 * s.toNat) then (if l.length + s.toNat ≤ 16384 then (l ++ be s.toNat n, 0) else ([], 4)) else ([], 2)

theorem putM_len (l : List UInt8) (n : Nat) (s : Int) : (putM l n s).1.length ≤ 200000 := by
  unfold putM
  split
  · split
    · simp only [List.length_append, be_len]; omega
    · simp
  · simp

/-- What a call answers that returns new bytes and an error. -/
def BytesErr (w : World) (q : List UInt8 × Int) (e : Ending) (w' : World) : Prop :=
  ∃ A' c' r, e = .returned (.tuple #[.slice A' r.length c', .int .i64 q.2]) ∧ r = q.1 ∧ Own w' w.heap.size 5 A' c' r ∧ Below w.heap.size w w'

theorem bytesErr_bad (w : World) (er : Int) : BytesErr w ([], er) (.returned (.tuple #[.slice none 0 0, .int .i64 er])) w :=
  ⟨none, 0, [], rfl, rfl, Own.nil _ _ _, Below.refl _ _⟩

end Go.Proofs.YtejphpcngbjgjaaDoor.Oc
namespace Go.Proofs.YtejphpcngbjgjaaDoor.Oc
open Go.RowKit
set_option linter.unusedVariables false

/-- What bytes are as a number. -/
def num (l : List UInt8) : Nat := l.foldl (fun n b => n * 256 + b.toNat) 0
theorem num_snoc (l : List UInt8) (b : UInt8) : num (l ++ [b]) = num l * 256 + b.toNat := by simp [num]
theorem num_lt (l : List UInt8) : num l < 256 ^ l.length := by
  have : ∀ (l : List UInt8) (a : Nat), l.foldl (fun n b => n * 256 + b.toNat) a < (a + 1) * 256 ^ l.length := by
    intro l
    induction l with
    | nil => intro a; simp
    | cons b l ih =>
      intro a
      simp only [List.foldl_cons, List.length_cons]
      refine Nat.lt_of_lt_of_le (ih _) ?_
      have hb := b.toNat_lt
      rw [Nat.pow_succ, Nat.mul_comm (256 ^ l.length) 256, ← Nat.mul_assoc]
      exact Nat.mul_le_mul_right _ (by omega)
  simpa [num] using this l 0
theorem num_lt_of (l : List UInt8) (k : Nat) (h : l.length ≤ k) : num l < 256 ^ k := Nat.lt_of_lt_of_le (num_lt l) (Nat.pow_le_pow_right (by omega) h)

theorem or_byte (x : Nat) (b : UInt8) (h : x < 72057594037927936) : bits .or .u64 ((x : Int) * 256) (IntKind.u64.wrap (b.toNat : Int)) = ((x * 256 + b.toNat : Nat) : Int) := by
  have hb := b.toNat_lt
  rw [IntWalk.u64_in _ (by omega)]
  have : (x : Int) * 256 = ((x * 256 : Nat) : Int) := by simp
  rw [this, u64_or_nat _ _ (by omega) (by omega), nat_join 8 _ _ (by omega) (by omega)]

/-- What Take answers. -/
def takeM (l : List UInt8) (at' size : Int) : Nat × Int × Int :=
  if 1 ≤ size ∧ size ≤ 8 ∧ 0 ≤ at' ∧ at' ≤ l.length then (if (l.length : Int) - at' < size then (0, 0, 10) else (num ((l.drop at'.toNat).take size.toNat), at' + size, 0)) else (0, 0, 2)

def IntsEnd (w : World) (q : Nat × Int × Int) (e : Ending) (w' : World) : Prop :=
  e = .returned (.tuple #[.int .u64 q.1, .int .i64 q.2.1, .int .i64 q.2.2]) ∧ w = w'

theorem takeM_ok {l : List UInt8} {p k : Nat} (hk1 : 1 ≤ k) (hk2 : k ≤ 8) (hp : p + k ≤ l.length) : takeM l p k = (num ((l.drop p).take k), (p : Int) + k, 0) := by
  unfold takeM
  rw [if_pos (by omega), if_neg (by omega)]
  simp
theorem takeM_short {l : List UInt8} {p k : Nat} (hk1 : 1 ≤ k) (hk2 : k ≤ 8) (hp : p ≤ l.length) (h : ¬ p + k ≤ l.length) : takeM l p k = (0, 0, 10) := by
  unfold takeM
  rw [if_pos (by omega), if_pos (by omega)]
theorem takeM_bad {l : List UInt8} {p k : Int} (h : ¬ (1 ≤ k ∧ k ≤ 8 ∧ 0 ≤ p ∧ p ≤ l.length)) : takeM l p k = (0, 0, 2) := by
  unfold takeM
  rw [if_neg h]

end Go.Proofs.YtejphpcngbjgjaaDoor.Oc
namespace Go.Proofs.YtejphpcngbjgjaaDoor.Oc
open Go.RowKit
set_option linter.unusedVariables false

theorem be_front (k n : Nat) : be (k + 1) n = UInt8.ofNat (n / 2 ^ (8 * k)) :: be k n := by
  unfold be
  rw [List.range_succ_eq_map, List.map_cons, List.map_map]
  congr 1
  apply List.map_congr_left
  intro i _
  simp only [Function.comp]
  congr 4
  omega

theorem num_cons (b : UInt8) (l : List UInt8) : num (b :: l) = b.toNat * 256 ^ l.length + num l := by
  have : ∀ (l : List UInt8) (a : Nat), l.foldl (fun n b => n * 256 + b.toNat) a = a * 256 ^ l.length + num l := by
    intro l
    induction l with
    | nil => intro a; simp [num]
    | cons x l ih =>
      intro a
      have h2 : num (x :: l) = x.toNat * 256 ^ l.length + num l := by
        show List.foldl _ (0 * 256 + x.toNat) l = _
        rw [ih, Nat.zero_mul, Nat.zero_add]
      rw [List.foldl_cons, ih, h2, List.length_cons, Nat.pow_succ, Nat.add_mul, Nat.mul_assoc, Nat.mul_comm 256, Nat.add_assoc]
  have := this (b :: l) 0
  show List.foldl _ (0 * 256 + b.toNat) l = _
  rw [‹∀ (l : List UInt8) (a : Nat), l.foldl (fun n b => n * 256 + b.toNat) a = a * 256 ^ l.length + num l› l, Nat.zero_mul, Nat.zero_add]

theorem pow_256 (k : Nat) : 256 ^ k = 2 ^ (8 * k) := by rw [Nat.pow_mul]
theorem num_be (k n : Nat) : num (be k n) = n % 2 ^ (8 * k) := by
  induction k with
  | zero => simp [be, num, Nat.mod_one]
  | succ k ih =>
    rw [be_front, num_cons, ih, be_len, pow_256, Nat.mul_add, Nat.pow_add, Nat.mod_mul, Nat.add_comm, Nat.mul_comm (2 ^ (8 * k))]
    simp

end Go.Proofs.YtejphpcngbjgjaaDoor.Oc
namespace Go.Proofs.YtejphpcngbjgjaaDoor.Oc
open Go.RowKit
set_option linter.unusedVariables false

/-- A byte string as a field. -/
def fld (f : List UInt8) : List UInt8 := be 2 f.length ++ f
theorem fld_len (f : List UInt8) : (fld f).length = 2 + f.length := by simp [fld, be_len]

def putFieldM (l f : List UInt8) : List UInt8 × Int := if f.length ≤ 65535 ∧ l.length + 2 + f.length ≤ 16384 then (l ++ fld f, 0) else ([], 4)
theorem putFieldM_len (l f : List UInt8) : (putFieldM l f).1.length ≤ 200000 := by
  unfold putFieldM
  split
  · simp only [List.length_append, fld_len]; omega
  · simp

/-- What TakeField answers. -/
def takeFieldM (l : List UInt8) (p : Int) : List UInt8 × Int × Int :=
  if 0 ≤ p ∧ p ≤ l.length then
    if p + 2 ≤ l.length ∧ p + 2 + num ((l.drop p.toNat).take 2) ≤ l.length then ((l.drop (p.toNat + 2)).take (num ((l.drop p.toNat).take 2)), p + 2 + num ((l.drop p.toNat).take 2), 0) else ([], 0, 10)
  else ([], 0, 2)
theorem takeFieldM_len (l : List UInt8) (p : Int) : (takeFieldM l p).1.length ≤ l.length := by
  unfold takeFieldM
  split
  · split
    · simp only [List.length_take, List.length_drop]; omega
    · simp
  · simp

def BytesIntErr (w : World) (q : List UInt8 × Int × Int) (e : Ending) (w' : World) : Prop :=
  ∃ A' c' r, e = .returned (.tuple #[.slice A' r.length c', .int .i64 q.2.1, .int .i64 q.2.2]) ∧ r = q.1 ∧ Own w' w.heap.size 5 A' c' r ∧ Below w.heap.size w w'
theorem bytesIntErr_bad (w : World) (er : Int) : BytesIntErr w ([], 0, er) (.returned (.tuple #[.slice none 0 0, .int .i64 0, .int .i64 er])) w :=
  ⟨none, 0, [], rfl, rfl, Own.nil _ _ _, Below.refl _ _⟩

end Go.Proofs.YtejphpcngbjgjaaDoor.Oc
namespace Go.Proofs.YtejphpcngbjgjaaDoor.Oc
open Go.RowKit
set_option linter.unusedVariables false

end Go.Proofs.YtejphpcngbjgjaaDoor.Oc
namespace Go.Proofs.YtejphpcngbjgjaaDoor.Oc
set_option linter.unusedVariables false

theorem num_inj : ∀ (s t : List UInt8), s.length = t.length → num s = num t → s = t
  | [], [], _, _ => rfl
  | [], _ :: _, h, _ => by simp at h
  | _ :: _, [], h, _ => by simp at h
  | b :: s, c :: t, h, hn => by
    have hl : s.length = t.length := by simpa using h
    rw [num_cons, num_cons, hl] at hn
    have h1 := num_lt s
    have h2 := num_lt t
    rw [hl] at h1
    generalize 256 ^ t.length = K at *
    have hb : b.toNat = c.toNat := by
      have e1 := Nat.div_eq_of_lt h1
      have e2 := Nat.div_eq_of_lt h2
      have d1 : (b.toNat * K + num s) / K = b.toNat := by rw [Nat.mul_comm, Nat.mul_add_div (by omega), e1, Nat.add_zero]
      have d2 : (c.toNat * K + num t) / K = c.toNat := by rw [Nat.mul_comm, Nat.mul_add_div (by omega), e2, Nat.add_zero]
      rw [← d1, ← d2, hn]
    rw [hb] at hn
    have hs := num_inj s t hl (by omega)
    rw [UInt8.toNat_inj.1 hb, hs]

theorem be_num (s : List UInt8) : be s.length (num s) = s := by
  refine num_inj _ _ (be_len _ _) ?_
  rw [num_be, ← pow_256]
  exact Nat.mod_eq_of_lt (num_lt s)
theorem num_be2 {n : Nat} (h : n ≤ 65535) : num (be 2 n) = n := by
  rw [num_be]
  exact Nat.mod_eq_of_lt (by omega)

theorem fld_inj {x y r s : List UInt8} (hx : x.length ≤ 65535) (hy : y.length ≤ 65535) (h : fld x ++ r = fld y ++ s) : x = y ∧ r = s := by
  unfold fld at h
  rw [List.append_assoc, List.append_assoc] at h
  obtain ⟨h1, h2⟩ := List.append_inj h (by rw [be_len, be_len])
  have hl : x.length = y.length := by
    have := congrArg num h1
    rwa [num_be2 hx, num_be2 hy] at this
  exact List.append_inj h2 hl

/-- The concatenation of byte strings as fields. -/
def flat (L : List (List UInt8)) : List UInt8 := (L.map fld).flatten
theorem flat_nil : flat [] = [] := rfl
theorem flat_cons (x : List UInt8) (L : List (List UInt8)) : flat (x :: L) = fld x ++ flat L := by simp [flat]
theorem flat_snoc (L : List (List UInt8)) (x : List UInt8) : flat (L ++ [x]) = flat L ++ fld x := by simp [flat]
theorem flat_append (L M : List (List UInt8)) : flat (L ++ M) = flat L ++ flat M := by simp [flat]
/-- All are short enough to be fields. -/
def Fit (L : List (List UInt8)) : Prop := ∀ x ∈ L, x.length ≤ 65535
theorem flat_len_le {x : List UInt8} {L : List (List UInt8)} (h : x ∈ L) : 2 + x.length ≤ (flat L).length := by
  induction L with
  | nil => cases h
  | cons y L ih =>
    rw [flat_cons, List.length_append, fld_len]
    rcases List.mem_cons.1 h with rfl | h'
    · omega
    · have := ih h'; omega
theorem flat_count (L : List (List UInt8)) : 2 * L.length ≤ (flat L).length := by
  induction L with
  | nil => simp [flat]
  | cons y L ih => rw [flat_cons, List.length_append, fld_len, List.length_cons]; omega

theorem flat_inj : ∀ {L M : List (List UInt8)}, Fit L → Fit M → flat L = flat M → L = M
  | [], [], _, _, _ => rfl
  | [], y :: M, _, _, h => by
    rw [flat_nil, flat_cons] at h
    have := congrArg List.length h
    rw [List.length_append, fld_len] at this
    simp at this
    omega
  | x :: L, [], _, _, h => by
    rw [flat_nil, flat_cons] at h
    have := congrArg List.length h
    rw [List.length_append, fld_len] at this
    simp at this
  | x :: L, y :: M, hL, hM, h => by
    rw [flat_cons, flat_cons] at h
    obtain ⟨rfl, h2⟩ := fld_inj (hL x List.mem_cons_self) (hM y List.mem_cons_self) h
    rw [flat_inj (fun z hz => hL z (List.mem_cons_of_mem _ hz)) (fun z hz => hM z (List.mem_cons_of_mem _ hz)) h2]

/-- What TakeField finds at p: a field, or none. -/
theorem takeFieldM_spec (l : List UInt8) (p : Nat) (hp : p ≤ l.length) :
    (∃ x, x.length ≤ 65535 ∧ p + 2 + x.length ≤ l.length ∧ takeFieldM l p = (x, ((p + 2 + x.length : Nat) : Int), 0) ∧ l.drop p = fld x ++ l.drop (p + 2 + x.length)) ∨
    (takeFieldM l p = ([], 0, 10) ∧ ∀ x r, x.length ≤ 65535 → l.drop p ≠ fld x ++ r) := by
  unfold takeFieldM
  rw [if_pos ⟨by omega, by omega⟩]
  simp only [Int.toNat_natCast]
  by_cases h : (p : Int) + 2 ≤ l.length ∧ (p : Int) + 2 + num ((l.drop p).take 2) ≤ l.length
  · rw [if_pos h]
    obtain ⟨h1, h2⟩ := h
    have hnum : num ((l.drop p).take 2) < 65536 := Nat.lt_of_lt_of_le (num_lt_of _ 2 (by simp; omega)) (by decide)
    have hl2 : ((l.drop p).take 2).length = 2 := by simp; omega
    have hbe := be_num ((l.drop p).take 2)
    rw [hl2] at hbe
    generalize hm : num ((l.drop p).take 2) = m at *
    have hlx : ((l.drop (p + 2)).take m).length = m := by simp; omega
    refine .inl ⟨(l.drop (p + 2)).take m, by omega, by omega, by rw [hlx]; simp, ?_⟩
    rw [fld, hlx, hbe, List.append_assoc]
    have e1 : (l.drop (p + 2)).take m ++ l.drop (p + 2 + m) = l.drop (p + 2) := by
      rw [← List.drop_drop (i := m)]; exact List.take_append_drop _ _
    have e2 : (l.drop p).take 2 ++ l.drop (p + 2) = l.drop p := by
      rw [← List.drop_drop]; exact List.take_append_drop _ _
    rw [e1, e2]
  · rw [if_neg h]
    refine .inr ⟨rfl, fun x r hx he => h ?_⟩
    have hlen := congrArg List.length he
    rw [List.length_append, fld_len, List.length_drop] at hlen
    have ht : (l.drop p).take 2 = be 2 x.length := by
      rw [he, fld, List.append_assoc, List.take_append_of_le_length (by rw [be_len]; omega), List.take_of_length_le (by rw [be_len]; omega)]
    rw [ht, num_be2 hx]
    omega

/-- Where what has been taken is 'done' and no field follows, the whole is no concatenation of fields. -/
theorem no_flat : ∀ (done : List (List UInt8)) (rest : List UInt8), Fit done → rest ≠ [] → (∀ x r, x.length ≤ 65535 → rest ≠ fld x ++ r) → ∀ L, Fit L → flat done ++ rest ≠ flat L
  | [], rest, _, hne, hno, L, hL, h => by
    rw [flat_nil, List.nil_append] at h
    cases L with
    | nil => exact hne h
    | cons x L => rw [flat_cons] at h; exact hno x _ (hL x List.mem_cons_self) h
  | d :: done, rest, hd, hne, hno, L, hL, h => by
    rw [flat_cons, List.append_assoc] at h
    cases L with
    | nil =>
      have := congrArg List.length h
      rw [List.length_append, fld_len, flat_nil] at this
      simp at this
    | cons x L =>
      rw [flat_cons] at h
      obtain ⟨_, h2⟩ := fld_inj (hd d List.mem_cons_self) (hL x List.mem_cons_self) h
      exact no_flat done rest (fun z hz => hd z (List.mem_cons_of_mem _ hz)) hne hno L (fun z hz => hL z (List.mem_cons_of_mem _ hz)) h2

open Classical in
/-- What Split answers. -/
noncomputable def splitM (l : List UInt8) : List (List UInt8) × Int :=
  if l.length > 16384 then ([], 4) else if h : ∃ L, Fit L ∧ l = flat L then (Classical.choose h, 0) else ([], 10)
theorem splitM_big {l : List UInt8} (h : 16384 < l.length) : splitM l = ([], 4) := by unfold splitM; rw [if_pos h]
theorem splitM_flat {L : List (List UInt8)} (hf : Fit L) (h : (flat L).length ≤ 16384) : splitM (flat L) = (L, 0) := by
  unfold splitM
  have hex : ∃ M, Fit M ∧ flat L = flat M := ⟨L, hf, rfl⟩
  rw [if_neg (by omega), dif_pos hex]
  have := Classical.choose_spec hex
  exact congrArg (fun M => (M, (0 : Int))) (flat_inj hf this.1 this.2).symm
theorem splitM_no {l : List UInt8} (h : l.length ≤ 16384) (hno : ∀ L, Fit L → l ≠ flat L) : splitM l = ([], 10) := by
  unfold splitM
  rw [if_neg (by omega), dif_neg (fun ⟨L, hL, e⟩ => hno L hL e)]
theorem splitM_ok {l : List UInt8} (h : (splitM l).2 = 0) : Fit (splitM l).1 ∧ l = flat (splitM l).1 ∧ l.length ≤ 16384 := by
  by_cases h1 : l.length ≤ 16384
  · by_cases h2 : ∃ L, Fit L ∧ l = flat L
    · obtain ⟨L, hL, rfl⟩ := h2
      rw [splitM_flat hL h1]
      exact ⟨hL, rfl, h1⟩
    · rw [splitM_no h1 (fun L hL e => h2 ⟨L, hL, e⟩)] at h
      simp at h
  · rw [splitM_big (by omega)] at h
    simp at h
theorem splitM_err {l : List UInt8} (h : (splitM l).2 ≠ 0) : (splitM l).1 = [] := by
  by_cases h1 : l.length ≤ 16384
  · by_cases h2 : ∃ L, Fit L ∧ l = flat L
    · obtain ⟨L, hL, rfl⟩ := h2
      rw [splitM_flat hL h1] at h
      exact absurd rfl h
    · rw [splitM_no h1 (fun L hL e => h2 ⟨L, hL, e⟩)]
  · rw [splitM_big (by omega)]

/-- What Join answers. -/
def joinM (L : List (List UInt8)) : List UInt8 × Int := if (flat L).length ≤ 16384 then (flat L, 0) else ([], 4)
theorem fit_of_flat {L : List (List UInt8)} (h : (flat L).length ≤ 16384) : Fit L := fun x hx => by have := flat_len_le hx; omega
theorem joinM_len (L : List (List UInt8)) : (joinM L).1.length ≤ 16384 := by unfold joinM; split <;> simp_all
end Go.Proofs.YtejphpcngbjgjaaDoor.Oc
