/- Words for byte slices in memory: what a []byte reads as, and the append of one byte slice to another that the call owns. No program is named here. The small functions of octet: isSize, fits. octet's Take. The reference of layer 1: Twin, Digits, Number, Put, Take; and the law's spoil. octet's PutField and TakeField. The reference's PutField and TakeField answer what octet's do. Lists of byte strings and their concatenation as fields: plain lists, no program. Lists of byte strings in memory: a [][]byte that is read; one that the call owns; append of one element. The reference's SameFields, Split and Join. octet's Join and the reference's Join. The reference's Split. -/
import Derived.WalkKit
import Derived.WalkSpells
import Derived.WalkLawsBesides
import Derived.Deep.AppendLies
import Derived.Deep.Draws
import Derived.Laws.BytesArg
import Derived.Laws.IdiomStrings
import Derived.Lib.Hide
import Derived.OpenShut
import Derived.Test.YtikhffdbjelanaaDoorProg
import Derived.BigQuiet
import Derived.Deep.QuietTactic
import Derived.Outline
namespace Go.Proofs.YtikhffdbjelanaaDoor.Oc
open Go.RowKit

/-- The cells that hold the bytes l. -/
def bv (l : List UInt8) : List Value := l.map fun b => Value.int .u8 (b.toNat : Int)

theorem bv_len (l : List UInt8) : (bv l).length = l.length := by simp [bv]
theorem bv_app (l m : List UInt8) : bv (l ++ m) = bv l ++ bv m := by simp [bv]
theorem bv_one (l : List UInt8) : ∀ u ∈ bv l, u.oneCell' = true := by
  intro u hu
  obtain ⟨_, _, rfl⟩ := List.mem_map.1 hu
  rfl
theorem bv_get {l : List UInt8} {j : Nat} (h : j < l.length) : (bv l)[j]? = some (.int .u8 (l[j].toNat : Int)) := by
  simp [bv, h]
theorem bv_at {l : List UInt8} {j : Nat} {u : Value} (hu : (bv l)[j]? = some u) : ∃ h : j < l.length, u = .int .u8 (l[j].toNat : Int) := by
  have h : j < l.length := by
    have := (List.getElem?_eq_some_iff.1 hu).1
    simpa [bv] using this
  refine ⟨h, ?_⟩
  rw [bv_get h] at hu
  exact (Option.some.inj hu).symm

theorem add_block (a : Addr) (n : Nat) : (a.add n).block = a.block := by unfold Addr.add; split <;> rfl
theorem add_plain (g o j : Nat) : (⟨g, o, none⟩ : Addr).add j = ⟨g, o + j, none⟩ := by unfold Addr.add; split <;> simp_all
theorem add_add (a : Addr) (i j : Nat) : (a.add i).add j = a.add (i + j) := by
  obtain ⟨b, o, s⟩ := a
  unfold Addr.add
  by_cases hi : i = 0 <;> by_cases hj : j = 0 <;> simp [hi, hj, Nat.add_assoc]

/-- The []byte '.slice A l.length c' reads as the bytes l in the world w, and lies below block B. -/
structure Rd (w : World) (B : Nat) (A : Option Addr) (c : Nat) (l : List UInt8) : Prop where
  cap : l.length ≤ c
  capm : c ≤ maxLen
  nil : A = none → c = 0
  cell : ∀ ad, A = some ad → ∀ j (h : j < l.length), ad.block < B ∧ w.cell? (ad.add j) = some (.int .u8 (l[j].toNat : Int))

section
variable {w w' : World} {B B' c : Nat} {A : Option Addr} {l : List UInt8}
theorem Rd.empty (w : World) (B : Nat) : Rd w B none 0 [] := ⟨Nat.le_refl _, by simp [maxLen], fun _ => rfl, fun _ h => by cases h⟩
theorem Rd.keep (h : Rd w B A c l) (hk : ∀ p : Addr, p.block < B → w'.cell? p = w.cell? p) : Rd w' B A c l :=
  ⟨h.cap, h.capm, h.nil, fun ad e j hj => ⟨(h.cell ad e j hj).1, (hk _ (by rw [add_block]; exact (h.cell ad e j hj).1)).trans (h.cell ad e j hj).2⟩⟩
theorem Rd.more (h : Rd w B A c l) (hB : B ≤ B') : Rd w B' A c l :=
  ⟨h.cap, h.capm, h.nil, fun ad e j hj => ⟨Nat.lt_of_lt_of_le (h.cell ad e j hj).1 hB, (h.cell ad e j hj).2⟩⟩
theorem Rd.below (h : Rd w B A c l) (hb : Below B w w') : Rd w' B A c l := h.keep fun _ hp => hb.cell hp
theorem Rd.alloc (h : Rd w B A c l) (hB : B ≤ w.heap.size) (o : Obj) : Rd (w.alloc o) B A c l := h.keep fun p hp => World.cell?_alloc_lt w o p (by omega)
theorem Rd.drew (h : Rd w B A c l) : Rd w.drew B A c l := h.keep fun _ _ => rfl
theorem Rd.drewN (h : Rd w B A c l) (k : Nat) : Rd (w.drewN k) B A c l := h.keep fun _ _ => rfl
/-- The address and the cell of element k. -/
theorem Rd.at_ (h : Rd w B A c l) {k : Nat} (hk : k < l.length) : ∃ b o, A = some ⟨b, o, none⟩ ∧ b < B ∧ ∀ j (hj : j < l.length), w.cell? ⟨b, o + j, none⟩ = some (.int .u8 (l[j].toNat : Int)) := by
  have hA : A ≠ none := fun e => by have := h.nil e; have := h.cap; omega
  obtain ⟨ad, rfl⟩ := Option.ne_none_iff_exists'.1 hA
  have hc := h.cell ad rfl
  have hb := (hc 0 (by omega)).1
  obtain ⟨b, o, s⟩ := ad
  have h0 := (hc 0 (by omega)).2
  have hs : s = none := by
    have := World.cell?_spot h0
    simpa [Addr.add] using this
  subst hs
  refine ⟨b, o, rfl, hb, fun j hj => ?_⟩
  have := (hc j hj).2
  rwa [add_plain] at this
/-- A piece of it. -/
theorem Rd.cut {b o : Nat} (h : Rd w B (some ⟨b, o, none⟩) c l) (q k : Nat) (hk : q + k ≤ l.length) : Rd w B (some ⟨b, o + q, none⟩) (c - q) ((l.drop q).take k) := by
  have hc := h.cap
  have hm := h.capm
  refine ⟨by simp; omega, by omega, (fun e => by cases e), fun ad e j hj => ?_⟩
  obtain rfl := Option.some.inj e
  have hj' : j < k := by simp at hj; omega
  obtain ⟨hb, this⟩ := h.cell _ rfl (q + j) (by omega)
  refine ⟨hb, ?_⟩
  rw [add_plain] at this ⊢
  rw [Nat.add_assoc, this]
  simp
/-- The cells, as the laws on append ask them. -/
theorem Rd.news {ad : Addr} (h : Rd w B (some ad) c l) : ∀ j u, (bv l)[j]? = some u → w.cell? (ad.add j) = some u := by
  intro j u hu
  obtain ⟨hj, rfl⟩ := bv_at hu
  exact (h.cell ad rfl j hj).2
end

/-- The []byte '.slice A l.length c' holds the bytes l, in a block from 'base' on that the call made itself (or it is nil). e: the number of the type uint8. -/
def Own (w : World) (base e : Nat) (A : Option Addr) (c : Nat) (l : List UInt8) : Prop :=
  w.ownsRow base e 1 (.slice A l.length c) l.length (bv l)

/-- A []byte that came in, as the row's reading tells it. -/
theorem rd_of_row {w : World} {a : Option Addr} {len cap : Nat} {zs : List Int}
    (h : (a = none ∧ len = 0 ∧ cap = 0 ∧ zs = []) ∨ ∃ x, a = some x ∧ len ≤ cap ∧ cap ≤ maxLen ∧ zs.length = cap ∧ (∀ i, i < zs.length → w.cell? (x.add i) = some (.int .u8 (zs.getD i 0))) ∧ ∀ n ∈ zs, (Lit.int .u8 n).wf = true) :
    ∃ l : List UInt8, l.length = len ∧ Rd w w.heap.size a cap l := by
  rcases h with ⟨rfl, rfl, rfl, rfl⟩ | ⟨x, rfl, hlc, hcm, hz, hcell, hwf⟩
  · exact ⟨[], rfl, Rd.empty _ _⟩
  · refine ⟨(zs.take len).map fun n => UInt8.ofNat n.toNat, by simp; omega, by simp; omega, hcm, (fun e => by cases e), fun ad e j hj => ?_⟩
    obtain rfl := Option.some.inj e
    have hj' : j < zs.length := by simp at hj; omega
    have hc := hcell j hj'
    have hw := hwf zs[j] (List.getElem_mem hj')
    have hb := bounds_u8 hw
    refine ⟨by have := World.block_lt_of_cell? w _ hc; rwa [add_block] at this, ?_⟩
    rw [hc]
    have e1 : zs.getD j 0 = zs[j] := by simp [List.getD, hj']
    rw [e1]
    simp only [List.getElem_map, List.getElem_take]
    have e2 : ((UInt8.ofNat zs[j].toNat).toNat : Int) = zs[j] := by
      rw [UInt8.toNat_ofNat']
      omega
    rw [e2]

/-- The block of an address. -/
def blk (A : Option Addr) : Option Nat := A.map (·.block)

section
variable {w w' : World} {base e c : Nat} {A : Option Addr} {l : List UInt8}
theorem own_block (A : Option Addr) (n c : Nat) : (Value.slice A n c).ownBlock = blk A := by cases A <;> rfl
theorem Own.nil (w : World) (base e : Nat) : Own w base e none 0 [] := World.ownsRow_nil w base e 1
theorem Own.form (h : Own w base e A c l) : (A = none ∧ c = 0 ∧ l = []) ∨ ∃ g, A = some ⟨g, 0, none⟩ ∧ base ≤ g ∧ g < w.heap.size ∧ l.length ≤ c ∧ c ≤ maxLen := by
  rcases h.2 with ⟨hv, hn⟩ | ⟨g, cap, cur, hv, hb, hg, hnc, hcm, _⟩
  · simp only [Value.slice.injEq] at hv
    exact .inl ⟨hv.1, hv.2.2, List.eq_nil_of_length_eq_zero hn⟩
  · simp only [Value.slice.injEq] at hv
    obtain ⟨rfl, _, rfl⟩ := hv
    exact .inr ⟨g, rfl, hb, (Array.getElem?_eq_some_iff.1 hg).1, hnc, hcm⟩
theorem Own.rd (h : Own w base e A c l) : Rd w w.heap.size A c l := by
  rcases h.form with ⟨rfl, rfl, rfl⟩ | ⟨g, rfl, hb, hg, hc, hm⟩
  · exact Rd.empty w _
  · refine ⟨hc, hm, (fun e => by cases e), fun ad e j hj => ?_⟩
    obtain rfl := Option.some.inj e
    exact ⟨hg, World.ownsRow.cells h (g := g) rfl j _ (bv_get hj)⟩
theorem Own.blk_ge (h : Own w base e A c l) : ∀ k, blk A = some k → base ≤ k ∧ k < w.heap.size := by
  intro k hk
  exact World.ownsRow.lt h k (by rw [own_block]; exact hk)
theorem Own.kept (h : Own w base e A c l) {row : Option Nat} (hg : w.grownBy w' row) (hne : blk A = none ∨ blk A ≠ row) : Own w' base e A c l :=
  World.ownsRow.kept h hg (by rw [own_block]; exact hne)
theorem Own.alloc (h : Own w base e A c l) (o : Obj) : Own (w.alloc o) base e A c l := World.ownsRow.alloc h o
theorem Own.drew (h : Own w base e A c l) : Own w.drew base e A c l := h
theorem Own.drewN (h : Own w base e A c l) (k : Nat) : Own (w.drewN k) base e A c l := h
theorem Own.lower (h : Own w base e A c l) {b : Nat} (hb : b ≤ base) : Own w b e A c l := by
  refine ⟨h.1, ?_⟩
  rcases h.2 with hn | ⟨g, cap, cur, hv, hbg, r⟩
  · exact .inl hn
  · exact .inr ⟨g, cap, cur, hv, Nat.le_trans hb hbg, r⟩
/-- What is owned stays so where all blocks below B are as they were and it lies below B. -/
theorem Own.below (h : Own w base e A c l) {B : Nat} (hB : w.heap.size ≤ B) (hb : Below B w w') : Own w' base e A c l :=
  h.kept (row := none) ⟨hb.os, hb.tape, hb.output, hb.size, fun k hk _ => hb.block k (Nat.lt_of_lt_of_le hk hB)⟩ (by cases blk A <;> simp)
end

/-- Blocks of two slices: one was there before the other's base. -/
theorem blk_apart {A1 A2 : Option Addr} {H : Nat} (h1 : ∀ k, blk A1 = some k → k < H) (h2 : ∀ k, blk A2 = some k → H ≤ k) : blk A1 = none ∨ blk A1 ≠ blk A2 := by
  cases e : blk A1 with
  | none => exact .inl rfl
  | some g =>
    refine .inr fun e2 => ?_
    have := h1 g e
    have := h2 g e2.symm
    omega

theorem grown_of_below {a w : World} {B : Nat} (h : Below B a w) (hB : a.heap.size ≤ B) (row : Option Nat) : a.grownBy w row := ⟨h.os, h.tape, h.output, h.size, fun i hi _ => h.block i (Nat.lt_of_lt_of_le hi hB)⟩
theorem below_of_grown {a w : World} {row : Option Nat} (h : a.grownBy w row) {B : Nat} (hB : B ≤ a.heap.size) (hr : ∀ k, row = some k → B ≤ k) : Below B a w := (Below.refl B a).grown h hB hr
/-- Two steps: the second wrote to the same row, or to a block that the first made. -/
theorem grown_step {a b c : World} {r s : Option Nat} (h : a.grownBy b r) (k : b.grownBy c s) (hs : ∀ g, s = some g → r = some g ∨ a.heap.size ≤ g) : a.grownBy c r :=
  ⟨k.os.trans h.os, k.tape.trans h.tape, k.output.trans h.output, Nat.le_trans h.size k.size, fun i hi hne => (k.block i (Nat.lt_of_lt_of_le hi h.size) (fun e => by
    rcases hs i e.symm with h1 | h1
    · exact hne h1.symm
    · omega)).trans (h.block i hi hne)⟩

section
variable {P : Program} (w : World)

/-- 'append(s, x...)': s is owned, x reads as m. -/
theorem run_append_bytes (base e : Nat) (t ty : TypeId) (i : TypeInfo) (z : Value) (ht : P.underlying t = some (.slice e)) (hi : P.info? e = some i) (hz : i.zero = some z) (hsize : i.size = 1) (hby : i.bytes = 1) (hzs : z.cells.size = 1)
    {A A2 : Option Addr} {c c2 B : Nat} {l m : List UInt8} (hown : Own w base e A c l) (hr : Rd w B A2 c2 m) (hle : l.length + m.length ≤ 140737488355328) (hbase : base ≤ w.heap.size) :
    ∃ A' c' w', (Builtin.append_ #[t, t] ty #[.slice A l.length c, .slice A2 m.length c2]).run P w = .ok (.slice A' (l ++ m).length c') w' ∧ Own w' base e A' c' (l ++ m) ∧ w.grownBy w' (blk A) ∧
      (blk A' = blk A ∨ blk A' = some w.heap.size) := by
  cases A2 with
  | some ad =>
    obtain ⟨v', w', hrun, h2, h3, _, h5⟩ := run_append_own_at (P := P) w base t ty e i z 1 1 ht hi hz hsize hby hzs (by omega) _ _ _ hown ad m.length c2 (bv m) (by rw [bv_len, Nat.mul_one]) hr.news (bv_one m)
      (by simp only [maxLen]; omega) (by omega) hbase
    rw [← bv_app, ← List.length_append] at h2
    have hform : ∃ A' c', v' = .slice A' (l ++ m).length c' := by
      rcases h2.2 with ⟨rfl, hn⟩ | ⟨g, cap, cur, rfl, _⟩
      · exact ⟨none, 0, by rw [hn]⟩
      · exact ⟨_, _, rfl⟩
    obtain ⟨A', c', rfl⟩ := hform
    refine ⟨A', c', w', hrun, h2, by rw [own_block] at h3; exact h3, ?_⟩
    rw [own_block, own_block] at h5
    exact h5
  | none =>
    have hc2 := hr.nil rfl
    have hm : m = [] := List.eq_nil_of_length_eq_zero (by have := hr.cap; omega)
    subst hm
    subst hc2
    refine ⟨A, c, w, ?_, by simpa using hown, World.grownBy.refl w _, .inl rfl⟩
    have := run_append_owned_none (P := P) w base t ty e i 1 ht hi _ _ _ hown
    simpa using this

/-- The same, for the walk. -/
theorem wpList_append_bytes {ops : Array Oper} {rest : List Oper} {o : Oper} {a : Act} {Q : Exit → Act → World → Prop} (hgd : o.guard = none) (s x : Operand) (t : TypeId)
    (ho : o.op = .call { callee := .builtin .append, args := #[s, x], argTypes := #[t, t] })
    (base e : Nat) (i : TypeInfo) (z : Value) (ht : P.underlying t = some (.slice e)) (hi : P.info? e = some i) (hz : i.zero = some z) (hsize : i.size = 1) (hby : i.bytes = 1) (hzs : z.cells.size = 1)
    {A A2 : Option Addr} {c c2 B : Nat} (l m : List UInt8) (hs : a.eval s = .slice A l.length c) (hx : a.eval x = .slice A2 m.length c2) (hown : Own w base e A c l) (hr : Rd w B A2 c2 m)
    (hle : l.length + m.length ≤ 140737488355328) (hbase : base ≤ w.heap.size)
    (h : ∀ A' c' w' r, Hid (r = l ++ m) → Own w' base e A' c' r → w.grownBy w' (blk A) → (blk A' = blk A ∨ blk A' = some w.heap.size) → wpList P ops Q rest (a.put o.dst (.slice A' r.length c')) w') :
    wpList P ops Q (o :: rest) a w := by
  refine wpList_plain hgd fun K hK => ?_
  obtain ⟨A', c', w', hrun, h2, h3, h4⟩ := run_append_bytes (P := P) w base e t o.type i z ht hi hz hsize hby hzs hown hr hle hbase
  unfold Oper.wp execOp
  simp only [ho, resolve, invoke, builtin, Sem.run_bind, Sem.run_pure, Result.andThen_ok, List.map_toArray, List.map_cons, List.map_nil, hs, hx, hrun]
  exact hK _ _ (h A' c' w' _ rfl h2 h3 h4)

/-- A one-element literal. -/
theorem rd_one (x : UInt8) (v : Int) (hv : v = (x.toNat : Int)) (e : Nat) : Rd (w.alloc (.cells #[.int .u8 v] e)) (w.heap.size + 1) (some ⟨w.heap.size, 0, none⟩) 1 [x] := by
  subst hv
  refine ⟨by simp, by simp [maxLen], (fun e => by cases e), fun ad he j hj => ?_⟩
  obtain rfl := Option.some.inj he
  refine ⟨by simp, ?_⟩
  have hj0 : j = 0 := by simp at hj; omega
  subst hj0
  exact cell_one_new w _ e 0 _ rfl
theorem own_one (x : UInt8) (v : Int) (hv : v = (x.toNat : Int)) (e base : Nat) (hb : base ≤ w.heap.size) : Own (w.alloc (.cells #[.int .u8 v] e)) base e (some ⟨w.heap.size, 0, none⟩) 1 [x] := by
  subst hv
  have := World.ownsRow_lit (base := base) (e := e) (size := 1) w #[.int .u8 (x.toNat : Int)] 1 hb (by simp [maxLen]) (by simp)
  exact this

/-- 'string(b)'. -/
theorem run_string_bytes (src dst e : TypeId) (hs : P.underlying src = some (.slice e)) (he : P.underlying e = some (.int .u8)) (hd : P.underlying dst = some .string) {B c : Nat} {A : Option Addr} {l : List UInt8} (h : Rd w B A c l) :
    (convert src dst (.slice A l.length c)).run P w = .ok (.string ⟨l.toArray⟩) w := by
  cases A with
  | none =>
    have hl : l = [] := List.eq_nil_of_length_eq_zero (by have := h.cap; have := h.nil rfl; omega)
    subst hl
    exact run_convert_bytes_nil w src e hs he _ _ dst hd
  | some ad => exact run_convert_bytes_back w src dst e ad c l hs he hd fun j hj => (h.cell ad rfl j hj).2
end

end Go.Proofs.YtikhffdbjelanaaDoor.Oc
namespace Go.Proofs.YtikhffdbjelanaaDoor.Oc
open Go.RowKit
set_option linter.unusedVariables false

set_option maxHeartbeats 400000 in
theorem isSize_yes (n : Int) (w : World) (h1 : 1 ≤ n) (h2 : n ≤ 8) : Calls Tryd.prog 81 #[.int .i64 n] w fun e w' => e = .returned (.bool true) ∧ w = w' := by
  go_enter Tryd.func81, Tryd.ntmps81
  go_wp2
  go_ret
  exact ⟨rfl, rfl⟩
set_option maxHeartbeats 400000 in
theorem isSize_low (n : Int) (w : World) (h1 : n < 1) : Calls Tryd.prog 81 #[.int .i64 n] w fun e w' => e = .returned (.bool false) ∧ w = w' := by
  go_enter Tryd.func81, Tryd.ntmps81
  go_wp2
  go_ret
  exact ⟨rfl, rfl⟩
set_option maxHeartbeats 400000 in
theorem isSize_high (n : Int) (w : World) (h1 : 8 < n) (h2 : decide (n ≤ 8) = false) : Calls Tryd.prog 81 #[.int .i64 n] w fun e w' => e = .returned (.bool false) ∧ w = w' := by
  go_enter Tryd.func81, Tryd.ntmps81
  go_wp2
  go_ret
  exact ⟨rfl, rfl⟩

/-- The bytes of n, the most significant one first. -/
def be (s n : Nat) : List UInt8 := (List.range s).map fun i => UInt8.ofNat (n / 2 ^ (8 * (s - 1 - i)))
theorem be_len (s n : Nat) : (be s n).length = s := by simp [be]
theorem be_take (s n k : Nat) (h : k < s) : (be s n).take (k + 1) = (be s n).take k ++ [UInt8.ofNat (n / 2 ^ (8 * (s - 1 - k)))] := by
  rw [List.take_succ_eq_append_getElem (by rw [be_len]; exact h)]
  simp [be]

theorem byte_of_nat (n k : Nat) (x : UInt8) (h : x = UInt8.ofNat (n / 2 ^ k)) : (n : Int) / 2 ^ k % 256 = (x.toNat : Int) := by
  subst h
  have : ((n / 2 ^ k % 256 : Nat) : Int) = (n : Int) / 2 ^ k % 256 := by simp
  rw [← this]
  simp

theorem info5 : (Tryd.prog.info? 5).map (fun i => (i.zero, i.size, i.bytes)) = some (some (.int .u8 0), 1, 1) := by kernel_rfl

set_option maxHeartbeats 400000 in
theorem appendInteger_any (A : Option Addr) (c : Nat) (l : List UInt8) (n s base : Nat) (w : World) (hs : s ≤ 8) (hn : n < 18446744073709551616) (hl : l.length ≤ 200000) (hown : Own w base 5 A c l) (hbase : base ≤ w.heap.size) :
    Calls Tryd.prog 69 #[.slice A l.length c, .int .u64 n, .int .i64 s] w fun e w' => ∃ A' c' r, e = .returned (.slice A' r.length c') ∧ r = l ++ be s n ∧ Own w' base 5 A' c' r ∧
      w.grownBy w' (blk A) ∧ (∀ g, blk A' = some g → blk A = some g ∨ w.heap.size ≤ g) := by
  obtain ⟨i0, hi, hz0, hz1, hz2⟩ := info_parts info5
  go_enter Tryd.func69, Tryd.ntmps69
  go_wp2
  go_loopw [0, 9] (fun v i wr => ∃ k : Nat, ∃ A' c' r, k ≤ s ∧ i = .int .i64 k ∧ v = .slice A' r.length c' ∧ Hid (r = l ++ (be s n).take k) ∧ r.length ≤ 200000 + k ∧ Own wr base 5 A' c' r ∧ w.grownBy wr (blk A) ∧ (∀ g, blk A' = some g → blk A = some g ∨ w.heap.size ≤ g))
    (fun _ i _ => s - (intOf i).toNat)
  case atStart => exact ⟨0, A, c, l, Nat.zero_le _, rfl, rfl, by simp [Hid], by omega, hown, World.grownBy.refl _ _, fun g h => .inl h⟩
  case round =>
    obtain ⟨k, A1, c1, r, hk, rfl, rfl, hr, hrl, hown1, hg1, hb1⟩ := hrel
    by_cases hlt : k < s
    · obtain ⟨x, hx⟩ : ∃ x : UInt8, x = UInt8.ofNat (n / 2 ^ (8 * (s - 1 - k))) := ⟨_, rfl⟩
      have hv := byte_of_nat n (8 * (s - 1 - k)) x hx
      have HT := Lib.hid (be_take s n k hlt)
      have HX := Lib.hid hx
      have HV := Lib.hid hv
      clear hx hv
      have hb0 := hg1.size
      go_wp2_with (at_builtin; refine wpList_append_bytes _ rfl _ _ 37 rfl base 5 i0 _ Tryd.underlying37 hi hz0 hz1 hz2 rfl r [x] rfl rfl (hown1.alloc _) (rd_one _ x _ HV.out _) (by simp; omega) (by simp; omega) ?_; intro A2 c2 w2 r2 hr2 hown2 hg2 hb2)
      have hgn : w.grownBy w2 (blk A) := grown_step (hg1.trans (World.grownBy_alloc _ _ _)) hg2 (fun g hg => (hb1 g hg).imp id id)
      have hr3 : r2 = l ++ (be s n).take (k + 1) := by rw [hr2.out, HT.out, hr.out, HX.out, List.append_assoc]
      have hlen : r2.length ≤ 200000 + (k + 1) := by rw [hr2.out]; simp; omega
      have hbn : ∀ g, blk A2 = some g → blk A = some g ∨ w.heap.size ≤ g := fun g hg => by
        rcases hb2 with e | e
        · exact hb1 g (e ▸ hg)
        · rw [e] at hg
          have : w.heap.size ≤ (wr.alloc (Obj.cells #[Value.int IntKind.u8 (↑n / 2 ^ (8 * (s - 1 - k)) % 256)] 5)).heap.size := by simp; omega
          right
          have := Option.some.inj hg
          omega
      go_roundw
      case rel => exact ⟨k + 1, A2, c2, r2, by omega, by go_num, rfl, hr3, hlen, hown2, hgn, hbn⟩
      case measure => simp [intOf]; omega
    · go_wp2
      go_ret
      obtain rfl : k = s := by omega
      refine ⟨A1, c1, r, rfl, ?_, hown1, hg1, hb1⟩
      rw [hr.out, List.take_of_length_le (by rw [be_len]; exact Nat.le_refl _)]

set_option maxHeartbeats 400000 in
theorem copyOf_any (A : Option Addr) (c : Nat) (l : List UInt8) (k : Nat) (w : World) (hr : Rd w w.heap.size A c l) (hl : l.length ≤ 200000) (hk : k ≤ 200000) :
    Calls Tryd.prog 76 #[.slice A l.length c, .int .i64 k] w fun e w' => ∃ A' c', e = .returned (.slice A' l.length c') ∧ Own w' w.heap.size 5 A' c' l ∧ Below w.heap.size w w' := by
  obtain ⟨i0, hi, hz0, hz1, hz2⟩ := info_parts info5
  go_enter Tryd.func76, Tryd.ntmps76
  go_wp2_with (first
    | (at_make; refine wpList_make_own _ rfl _ _ 37 rfl w.heap.size 5 i0 _ 1 Tryd.underlying37 hi hz0 hz1 _ _ _ (l.length + k) rfl rfl (by omega) (by rw [hz2]; omega) (by unfold maxLen; omega) (Nat.le_refl _) ?_; intro w1 hown1 hg1)
    | (at_builtin; refine wpList_append_bytes _ rfl _ _ 37 rfl w.heap.size 5 i0 _ Tryd.underlying37 hi hz0 hz1 hz2 rfl [] l rfl rfl hown1 (hr.below (below_of_grown hg1 (Nat.le_refl _) (by simp))) (by simp; omega) hg1.size ?_; intro A2 c2 w2 r2 hr2 hown2 hg2 hb2))
  go_ret
  obtain rfl : r2 = l := hr2.out
  refine ⟨A2, c2, rfl, hown2, (below_of_grown hg1 (Nat.le_refl _) (by simp)).trans (below_of_grown hg2 hg1.size ?_)⟩
  intro g hg
  have := World.ownsRow.lt hown1 g (by rw [own_block]; exact hg)
  omega

/-- What Put answers: the bytes and the error. -/
def putM (l : List UInt8) (n : Nat) (s : Int) : List UInt8 × Int :=
  if 1 ≤ s ∧ s ≤ 8 ∧ n < 2 ^ (8 * s.toNat) then (if l.length + s.toNat ≤ 16384 then (l ++ be s.toNat n, 0) else ([], 4)) else ([], 2)

theorem putM_len (l : List UInt8) (n : Nat) (s : Int) : (putM l n s).1.length ≤ 200000 := by
  unfold putM
  split
  · split
    · simp only [List.length_append, be_len]; omega
    · simp
  · simp

/-- What a call answers that returns new bytes and an error. -/
def BytesErr (w : World) (q : List UInt8 × Int) (e : Ending) (w' : World) : Prop :=
  ∃ A' c' r, e = .returned (.tuple #[.slice A' r.length c', .int .i64 q.2]) ∧ r = q.1 ∧ Own w' w.heap.size 5 A' c' r ∧ Below w.heap.size w w'

theorem bytesErr_bad (w : World) (er : Int) : BytesErr w ([], er) (.returned (.tuple #[.slice none 0 0, .int .i64 er])) w :=
  ⟨none, 0, [], rfl, rfl, Own.nil _ _ _, Below.refl _ _⟩

end Go.Proofs.YtikhffdbjelanaaDoor.Oc
namespace Go.Proofs.YtikhffdbjelanaaDoor.Oc
open Go.RowKit
set_option linter.unusedVariables false

/-- What bytes are as a number. -/
def num (l : List UInt8) : Nat := l.foldl (fun n b => n * 256 + b.toNat) 0
theorem num_snoc (l : List UInt8) (b : UInt8) : num (l ++ [b]) = num l * 256 + b.toNat := by simp [num]
theorem num_lt (l : List UInt8) : num l < 256 ^ l.length := by
  have : ∀ (l : List UInt8) (a : Nat), l.foldl (fun n b => n * 256 + b.toNat) a < (a + 1) * 256 ^ l.length := by
    intro l
    induction l with
    | nil => intro a; simp
    | cons b l ih =>
      intro a
      simp only [List.foldl_cons, List.length_cons]
      refine Nat.lt_of_lt_of_le (ih _) ?_
      have hb := b.toNat_lt
      rw [Nat.pow_succ, Nat.mul_comm (256 ^ l.length) 256, ← Nat.mul_assoc]
      exact Nat.mul_le_mul_right _ (by omega)
  simpa [num] using this l 0
theorem num_lt_of (l : List UInt8) (k : Nat) (h : l.length ≤ k) : num l < 256 ^ k := Nat.lt_of_lt_of_le (num_lt l) (Nat.pow_le_pow_right (by omega) h)

theorem or_byte (x : Nat) (b : UInt8) (h : x < 72057594037927936) : bits .or .u64 ((x : Int) * 256) (IntKind.u64.wrap (b.toNat : Int)) = ((x * 256 + b.toNat : Nat) : Int) := by
  have hb := b.toNat_lt
  rw [IntWalk.u64_in _ (by omega)]
  have : (x : Int) * 256 = ((x * 256 : Nat) : Int) := by simp
  rw [this, u64_or_nat _ _ (by omega) (by omega), nat_join 8 _ _ (by omega) (by omega)]

/-- What Take answers. -/
def takeM (l : List UInt8) (at' size : Int) : Nat × Int × Int :=
  if 1 ≤ size ∧ size ≤ 8 ∧ 0 ≤ at' ∧ at' ≤ l.length then (if (l.length : Int) - at' < size then (0, 0, 10) else (num ((l.drop at'.toNat).take size.toNat), at' + size, 0)) else (0, 0, 2)

def IntsEnd (w : World) (q : Nat × Int × Int) (e : Ending) (w' : World) : Prop :=
  e = .returned (.tuple #[.int .u64 q.1, .int .i64 q.2.1, .int .i64 q.2.2]) ∧ w = w'

set_option maxHeartbeats 1000000 in
theorem take_ok (A : Option Addr) (c : Nat) (l : List UInt8) (p k : Nat) (w : World) (hr : Rd w w.heap.size A c l) (hl : l.length ≤ 200000) (hk1 : 1 ≤ k) (hk2 : k ≤ 8) (hp : p + k ≤ l.length) :
    Calls Tryd.prog 75 #[.slice A l.length c, .int .i64 p, .int .i64 k] w (IntsEnd w (num ((l.drop p).take k), (p : Int) + k, 0)) := by
  obtain ⟨b, o, rfl, hb, hcell⟩ := hr.at_ (k := 0) (by omega)
  have hi1 : (1 : Int) ≤ k := by omega
  have hi2 : (k : Int) ≤ 8 := by omega
  have hcap := hr.cap
  go_enter Tryd.func75, Tryd.ntmps75
  go_wp2_with fail
  refine (isSize_yes _ _ hi1 hi2).mono ?_
  rintro e w' ⟨rfl, rfl⟩
  go_wp2_with fail
  go_loop [6, 30] (fun v i => ∃ j : Nat, j ≤ k ∧ i = .int .i64 j ∧ v = .int .u64 (num ((l.drop p).take j))) (fun _ i => k - (intOf i).toNat)
  case atStart => exact ⟨0, Nat.zero_le _, rfl, by simp [num]⟩
  case round =>
    obtain ⟨j, hj, rfl, rfl⟩ := hrel
    by_cases hlt : j < k
    · have hc := hcell (p + j) (by omega)
      have hn := num_lt_of ((l.drop p).take j) 7 (by simp; omega)
      go_wp2_with fail
      rw [or_byte _ _ (Nat.lt_of_lt_of_le hn (by decide))]
      have hsn : num ((l.drop p).take (j + 1)) = num ((l.drop p).take j) * 256 + (l[p + j]'(by omega)).toNat := by
        rw [List.take_succ_eq_append_getElem (by simp; omega), num_snoc]
        simp
      go_round
      case rel => exact ⟨j + 1, by omega, by go_num, by rw [hsn]⟩
      case measure => simp [intOf]; omega
    · obtain rfl : j = k := by omega
      go_wp2_with fail
      go_ret3
      exact ⟨rfl, rfl⟩

theorem takeM_ok {l : List UInt8} {p k : Nat} (hk1 : 1 ≤ k) (hk2 : k ≤ 8) (hp : p + k ≤ l.length) : takeM l p k = (num ((l.drop p).take k), (p : Int) + k, 0) := by
  unfold takeM
  rw [if_pos (by omega), if_neg (by omega)]
  simp
theorem takeM_short {l : List UInt8} {p k : Nat} (hk1 : 1 ≤ k) (hk2 : k ≤ 8) (hp : p ≤ l.length) (h : ¬ p + k ≤ l.length) : takeM l p k = (0, 0, 10) := by
  unfold takeM
  rw [if_pos (by omega), if_pos (by omega)]
theorem takeM_bad {l : List UInt8} {p k : Int} (h : ¬ (1 ≤ k ∧ k ≤ 8 ∧ 0 ≤ p ∧ p ≤ l.length)) : takeM l p k = (0, 0, 2) := by
  unfold takeM
  rw [if_neg h]

set_option maxHeartbeats 1000000 in
theorem take_any (A : Option Addr) (c : Nat) (l : List UInt8) (p s : Int) (w : World) (hr : Rd w w.heap.size A c l) (hl : l.length ≤ 200000) (hs1 : -9223372036854775808 ≤ s) (hs2 : s ≤ 9223372036854775807)
    (hp1 : -9223372036854775808 ≤ p) (hp2 : p ≤ 9223372036854775807) :
    Calls Tryd.prog 75 #[.slice A l.length c, .int .i64 p, .int .i64 s] w (IntsEnd w (takeM l p s)) := by
  by_cases h1 : s < 1
  · rw [takeM_bad (by omega)]
    go_enter Tryd.func75, Tryd.ntmps75
    go_wp2_with (go_at_call 81; refine (isSize_low _ _ h1).mono ?_; rintro e w' ⟨rfl, rfl⟩)
    go_ret3
    exact ⟨rfl, rfl⟩
  by_cases h2 : 8 < s
  · rw [takeM_bad (by omega)]
    go_enter Tryd.func75, Tryd.ntmps75
    go_wp2_with (go_at_call 81; refine (isSize_high _ _ h2 (by simp; omega)).mono ?_; rintro e w' ⟨rfl, rfl⟩)
    go_ret3
    exact ⟨rfl, rfl⟩
  have hi1 : (1 : Int) ≤ s := by omega
  have hi2 : (s : Int) ≤ 8 := by omega
  by_cases h3 : p < 0
  · rw [takeM_bad (by omega)]
    go_enter Tryd.func75, Tryd.ntmps75
    go_wp2_with (go_at_call 81; refine (isSize_yes _ _ hi1 hi2).mono ?_; rintro e w' ⟨rfl, rfl⟩)
    go_ret3
    exact ⟨rfl, rfl⟩
  by_cases h4 : (l.length : Int) < p
  · rw [takeM_bad (by omega)]
    have hd : decide (p < 0) = false := by simp; omega
    go_enter Tryd.func75, Tryd.ntmps75
    go_wp2_with (go_at_call 81; refine (isSize_yes _ _ hi1 hi2).mono ?_; rintro e w' ⟨rfl, rfl⟩)
    go_ret3
    exact ⟨rfl, rfl⟩
  obtain ⟨k, rfl⟩ := Int.eq_ofNat_of_zero_le (show 0 ≤ s by omega)
  obtain ⟨q, rfl⟩ := Int.eq_ofNat_of_zero_le (show 0 ≤ p by omega)
  by_cases h5 : q + k ≤ l.length
  · rw [takeM_ok (by omega) (by omega) h5]
    exact take_ok A c l q k w hr hl (by omega) (by omega) h5
  · rw [takeM_short (by omega) (by omega) (by omega) h5]
    have hq1 : (0 : Int) ≤ q := by omega
    have hq2 : (q : Int) ≤ l.length := by omega
    have hd : decide ((q : Int) < 0) = false := by simp
    have hd2 : decide (l.length < q) = false := by simp; omega
    have hd3 : (l.length : Int) - q < k := by omega
    go_enter Tryd.func75, Tryd.ntmps75
    go_wp2_with (go_at_call 81; refine (isSize_yes _ _ hi1 hi2).mono ?_; rintro e w' ⟨rfl, rfl⟩)
    go_ret3
    exact ⟨rfl, rfl⟩
end Go.Proofs.YtikhffdbjelanaaDoor.Oc
namespace Go.Proofs.YtikhffdbjelanaaDoor.Oc
open Go.RowKit
set_option linter.unusedVariables false

set_option maxHeartbeats 400000 in
theorem twin_any (A : Option Addr) (c : Nat) (l : List UInt8) (w : World) (hr : Rd w w.heap.size A c l) (hl : l.length ≤ 200000) :
    Calls Tryd.prog 72 #[.slice A l.length c] w fun e w' => ∃ A' c', e = .returned (.slice A' l.length c') ∧ Own w' w.heap.size 5 A' c' l ∧ Below w.heap.size w w' := by
  obtain ⟨i0, hi, hz0, hz1, hz2⟩ := info_parts info5
  go_enter Tryd.func72, Tryd.ntmps72
  go_wp2_with (at_builtin; refine wpList_append_bytes _ rfl _ _ 37 rfl w.heap.size 5 i0 _ Tryd.underlying37 hi hz0 hz1 hz2 rfl [] l rfl rfl (Own.nil _ _ _) hr (by simp; omega) (Nat.le_refl _) ?_; intro A2 c2 w2 r2 hr2 hown2 hg2 hb2)
  go_ret
  obtain rfl : r2 = l := hr2.out
  exact ⟨A2, c2, rfl, hown2, below_of_grown hg2 (Nat.le_refl _) (by simp [blk])⟩

theorem be_front (k n : Nat) : be (k + 1) n = UInt8.ofNat (n / 2 ^ (8 * k)) :: be k n := by
  unfold be
  rw [List.range_succ_eq_map, List.map_cons, List.map_map]
  congr 1
  apply List.map_congr_left
  intro i _
  simp only [Function.comp]
  congr 4
  omega

set_option maxHeartbeats 400000 in
theorem digits_any (n s : Nat) (w : World) (hs : s ≤ 8) (hn : n < 18446744073709551616) :
    Calls Tryd.prog 70 #[.int .u64 n, .int .i64 s] w fun e w' => ∃ A' c' r, e = .returned (.slice A' r.length c') ∧ r = be s n ∧ Own w' w.heap.size 5 A' c' r ∧ Below w.heap.size w w' := by
  obtain ⟨i0, hi, hz0, hz1, hz2⟩ := info_parts info5
  go_enter Tryd.func70, Tryd.ntmps70
  go_wp2
  go_loopw [0, 5, 6] (fun m v i wr => ∃ k : Nat, ∃ x : Nat, ∃ A' c' r, k ≤ s ∧ i = .int .i64 k ∧ m = .int .u64 x ∧ Hid (x = n / 2 ^ (8 * k)) ∧ x < 18446744073709551616 ∧ v = .slice A' r.length c' ∧ Hid (r = be k n) ∧ r.length ≤ k ∧ Own wr w.heap.size 5 A' c' r ∧ Below w.heap.size w wr)
    (fun _ _ i _ => s - (intOf i).toNat)
  case atStart => exact ⟨0, n, none, 0, [], Nat.zero_le _, rfl, rfl, by simp [Hid], hn, rfl, rfl, by simp, Own.nil _ _ _, Below.refl _ _⟩
  case round =>
    obtain ⟨k, x, A1, c1, r, hk, rfl, rfl, hx, hxl, rfl, hr, hrl, hown1, hb1⟩ := hrel
    by_cases hlt : k < s
    · have hsz := hb1.size
      obtain ⟨y, hy⟩ : ∃ y : UInt8, y = UInt8.ofNat x := ⟨_, rfl⟩
      have hv : (x : Int) % 256 = (y.toNat : Int) := by subst hy; simp
      have HY := Lib.hid hy
      have HV := Lib.hid hv
      clear hy hv
      go_wp2_with (at_builtin; refine wpList_append_bytes _ rfl _ _ 37 rfl w.heap.size 5 i0 _ Tryd.underlying37 hi hz0 hz1 hz2 rfl [y] r rfl rfl (own_one _ y _ HV.out _ _ hsz) ((hown1.rd).alloc (Nat.le_refl _) _) (by simp; omega) (by simp; omega) ?_; intro A2 c2 w2 r2 hr2 hown2 hg2 hb2)
      have hlen : r2.length ≤ k + 1 := by rw [hr2.out]; simp; omega
      have hr3 : r2 = be (k + 1) n := by rw [hr2.out, be_front, HY.out, hx.out, hr.out]; rfl
      have hx3 : x / 256 = n / 2 ^ (8 * (k + 1)) := by rw [hx.out, Nat.div_div_eq_div_mul, Nat.mul_add, Nat.pow_add]
      have hbn : Below w.heap.size w w2 := (hb1.alloc hsz _).trans (below_of_grown hg2 (by simp; omega) (fun g hg => by simp [blk] at hg; omega))
      go_roundw
      case rel => exact ⟨k + 1, x / 256, A2, c2, r2, by omega, by go_num, by simp, hx3, by omega, rfl, hr3, hlen, hown2, hbn⟩
      case measure => simp [intOf]; omega
    · obtain rfl : k = s := by omega
      go_wp2
      go_ret
      exact ⟨A1, c1, r, rfl, hr.out, hown1, hb1⟩

set_option maxHeartbeats 400000 in
theorem number_any (A : Option Addr) (c : Nat) (l : List UInt8) (B : Nat) (w : World) (hr : Rd w B A c l) (hl : l.length ≤ 8) :
    Calls Tryd.prog 71 #[.slice A l.length c] w fun e w' => e = .returned (.int .u64 (num l)) ∧ w = w' := by
  go_enter Tryd.func71, Tryd.ntmps71
  go_wp2
  go_loop [3, 4] (fun v i => ∃ j : Nat, j ≤ l.length ∧ i = .int .i64 j ∧ v = .int .u64 (num (l.take j))) (fun _ i => l.length - (intOf i).toNat)
  case atStart => exact ⟨0, Nat.zero_le _, rfl, rfl⟩
  case round =>
    obtain ⟨j, hj, rfl, rfl⟩ := hrel
    by_cases hlt : j < l.length
    · obtain ⟨b, o, rfl, hb, hcell⟩ := hr.at_ hlt
      have hc := hcell j hlt
      have hn : num (l.take j) < 72057594037927936 := Nat.lt_of_lt_of_le (num_lt_of (l.take j) 7 (by simp; omega)) (by decide)
      have hbt := l[j].toNat_lt
      have hsn : num (l.take (j + 1)) = num (l.take j) * 256 + l[j].toNat := by
        rw [List.take_succ_eq_append_getElem hlt, num_snoc]
      have HS := Lib.hid hsn
      clear hsn
      go_wp2_with fail
      go_round
      case rel => exact ⟨j + 1, by omega, by go_num, by rw [HS.out]; simp⟩
      case measure => simp [intOf]; omega
    · obtain rfl : j = l.length := by omega
      go_wp2
      go_ret
      exact ⟨by simp, rfl⟩

theorem num_cons (b : UInt8) (l : List UInt8) : num (b :: l) = b.toNat * 256 ^ l.length + num l := by
  have : ∀ (l : List UInt8) (a : Nat), l.foldl (fun n b => n * 256 + b.toNat) a = a * 256 ^ l.length + num l := by
    intro l
    induction l with
    | nil => intro a; simp [num]
    | cons x l ih =>
      intro a
      have h2 : num (x :: l) = x.toNat * 256 ^ l.length + num l := by
        show List.foldl _ (0 * 256 + x.toNat) l = _
        rw [ih, Nat.zero_mul, Nat.zero_add]
      rw [List.foldl_cons, ih, h2, List.length_cons, Nat.pow_succ, Nat.add_mul, Nat.mul_assoc, Nat.mul_comm 256, Nat.add_assoc]
  have := this (b :: l) 0
  show List.foldl _ (0 * 256 + b.toNat) l = _
  rw [‹∀ (l : List UInt8) (a : Nat), l.foldl (fun n b => n * 256 + b.toNat) a = a * 256 ^ l.length + num l› l, Nat.zero_mul, Nat.zero_add]

theorem pow_256 (k : Nat) : 256 ^ k = 2 ^ (8 * k) := by rw [Nat.pow_mul]
theorem num_be (k n : Nat) : num (be k n) = n % 2 ^ (8 * k) := by
  induction k with
  | zero => simp [be, num, Nat.mod_one]
  | succ k ih =>
    rw [be_front, num_cons, ih, be_len, pow_256, Nat.mul_add, Nat.pow_add, Nat.mod_mul, Nat.add_comm, Nat.mul_comm (2 ^ (8 * k))]
    simp

end Go.Proofs.YtikhffdbjelanaaDoor.Oc
namespace Go.Proofs.YtikhffdbjelanaaDoor.Oc
open Go.RowKit
set_option linter.unusedVariables false

set_option maxHeartbeats 400000 in
theorem hasRoom_yes (A : Option Addr) (c : Nat) (f : List UInt8) (u : Nat) (w : World) (h1 : f.length ≤ 65535) (h2 : u + 2 + f.length ≤ 16384) :
    Calls Tryd.prog 60 #[.int .i64 u, .slice A f.length c] w fun e w' => e = .returned (.bool true) ∧ w = w' := by
  have hi1 : (f.length : Int) ≤ 65535 := by omega
  have hi2 : (u : Int) ≤ 16382 - f.length := by omega
  go_enter Tryd.func60, Tryd.ntmps60
  go_wp2
  go_ret
  exact ⟨rfl, rfl⟩
set_option maxHeartbeats 400000 in
theorem hasRoom_no (A : Option Addr) (c : Nat) (f : List UInt8) (u : Nat) (w : World) (h0 : f.length ≤ 200000) (h : ¬ (f.length ≤ 65535 ∧ u + 2 + f.length ≤ 16384)) :
    Calls Tryd.prog 60 #[.int .i64 u, .slice A f.length c] w fun e w' => e = .returned (.bool false) ∧ w = w' := by
  by_cases h1 : f.length ≤ 65535
  · have hi1 : (f.length : Int) ≤ 65535 := by omega
    have hi2 : ¬ (u : Int) ≤ 16382 - f.length := by omega
    have hd : decide ((u : Int) ≤ 16382 - f.length) = false := by simp; omega
    clear h
    go_enter Tryd.func60, Tryd.ntmps60
    go_wp2
    go_ret
    exact ⟨rfl, rfl⟩
  · have hi1 : ¬ (f.length : Int) ≤ 65535 := by omega
    have hd : decide ((f.length : Int) ≤ 65535) = false := by simp; omega
    have hd2 : decide (f.length ≤ 65535) = false := by simp; omega
    clear h
    go_enter Tryd.func60, Tryd.ntmps60
    go_wp2
    go_ret
    exact ⟨rfl, rfl⟩

/-- A byte string as a field. -/
def fld (f : List UInt8) : List UInt8 := be 2 f.length ++ f
theorem fld_len (f : List UInt8) : (fld f).length = 2 + f.length := by simp [fld, be_len]

set_option maxHeartbeats 400000 in
theorem appendField_any (A A2 : Option Addr) (c c2 : Nat) (l f : List UInt8) (base : Nat) (w : World) (hl : l.length ≤ 100000) (hf : f.length ≤ 100000) (hown : Own w base 5 A c l) (hbase : base ≤ w.heap.size) (hr : Rd w base A2 c2 f) :
    Calls Tryd.prog 61 #[.slice A l.length c, .slice A2 f.length c2] w fun e w' => ∃ A' c' r, e = .returned (.slice A' r.length c') ∧ r = l ++ fld f ∧ Own w' base 5 A' c' r ∧
      w.grownBy w' (blk A) ∧ (∀ g, blk A' = some g → blk A = some g ∨ w.heap.size ≤ g) := by
  obtain ⟨i0, hi, hz0, hz1, hz2⟩ := info_parts info5
  go_enter Tryd.func61, Tryd.ntmps61
  go_wp2_with fail
  refine (appendInteger_any A c l f.length 2 base _ (by omega) (by omega) (by omega) hown hbase).mono ?_
  rintro e w1 ⟨A1, c1, r1, rfl, hr1, hown1, hg1, hb1⟩
  have hl1 : r1.length = l.length + 2 := by rw [hr1]; simp [be_len]
  have HR1 := Lib.hid hr1
  have HL1 := Lib.hid hl1
  have hl1' : r1.length ≤ 100002 := by omega
  have hs1 := hg1.size
  have hbb := fun k hk => (hown.blk_ge k hk).1
  have hrd := hr.below (below_of_grown hg1 hbase hbb)
  have HB := Lib.hid hbb
  clear hr1 hl1 hbb
  go_wp2_with (at_builtin; refine wpList_append_bytes _ rfl _ _ 37 rfl base 5 i0 _ Tryd.underlying37 hi hz0 hz1 hz2 rfl r1 f rfl rfl hown1 hrd (by omega) (by omega) ?_; intro A3 c3 w3 r3 hr3 hown3 hg3 hb3)
  go_ret
  refine ⟨A3, c3, r3, rfl, by rw [hr3.out, HR1.out, fld, List.append_assoc], hown3, grown_step hg1 hg3 hb1, fun g hg => ?_⟩
  rcases hb3 with e | e
  · exact hb1 g (e ▸ hg)
  · rw [e] at hg
    right
    have := Option.some.inj hg
    omega

def putFieldM (l f : List UInt8) : List UInt8 × Int := if f.length ≤ 65535 ∧ l.length + 2 + f.length ≤ 16384 then (l ++ fld f, 0) else ([], 4)
theorem putFieldM_len (l f : List UInt8) : (putFieldM l f).1.length ≤ 200000 := by
  unfold putFieldM
  split
  · simp only [List.length_append, fld_len]; omega
  · simp

/-- What TakeField answers. -/
def takeFieldM (l : List UInt8) (p : Int) : List UInt8 × Int × Int :=
  if 0 ≤ p ∧ p ≤ l.length then
    if p + 2 ≤ l.length ∧ p + 2 + num ((l.drop p.toNat).take 2) ≤ l.length then ((l.drop (p.toNat + 2)).take (num ((l.drop p.toNat).take 2)), p + 2 + num ((l.drop p.toNat).take 2), 0) else ([], 0, 10)
  else ([], 0, 2)
theorem takeFieldM_len (l : List UInt8) (p : Int) : (takeFieldM l p).1.length ≤ l.length := by
  unfold takeFieldM
  split
  · split
    · simp only [List.length_take, List.length_drop]; omega
    · simp
  · simp

def BytesIntErr (w : World) (q : List UInt8 × Int × Int) (e : Ending) (w' : World) : Prop :=
  ∃ A' c' r, e = .returned (.tuple #[.slice A' r.length c', .int .i64 q.2.1, .int .i64 q.2.2]) ∧ r = q.1 ∧ Own w' w.heap.size 5 A' c' r ∧ Below w.heap.size w w'
theorem bytesIntErr_bad (w : World) (er : Int) : BytesIntErr w ([], 0, er) (.returned (.tuple #[.slice none 0 0, .int .i64 0, .int .i64 er])) w :=
  ⟨none, 0, [], rfl, rfl, Own.nil _ _ _, Below.refl _ _⟩

set_option maxHeartbeats 1000000 in
theorem takeField_any (A : Option Addr) (c : Nat) (l : List UInt8) (p : Int) (w : World) (hr : Rd w w.heap.size A c l) (hl : l.length ≤ 200000) (hp1 : -9223372036854775808 ≤ p) (hp2 : p ≤ 9223372036854775807) :
    Calls Tryd.prog 68 #[.slice A l.length c, .int .i64 p] w (BytesIntErr w (takeFieldM l p)) := by
  have hcap := hr.cap
  by_cases h1 : 0 ≤ p ∧ p ≤ l.length
  · obtain ⟨k, rfl⟩ := Int.eq_ofNat_of_zero_le h1.1
    have hk : k ≤ l.length := by omega
    by_cases h2 : k + 2 ≤ l.length
    · have hnum : num ((l.drop k).take 2) < 65536 := Nat.lt_of_lt_of_le (num_lt_of _ 2 (by simp; omega)) (by decide)
      have hT := take_any A c l k 2 w hr hl (by omega) (by omega) hp1 hp2
      have hTq := takeM_ok (l := l) (p := k) (k := 2) (by omega) (by omega) h2
      rw [show ((2 : Nat) : Int) = 2 from rfl] at hTq
      rw [hTq] at hT
      by_cases h3 : k + 2 + num ((l.drop k).take 2) ≤ l.length
      · have hq : takeFieldM l k = ((l.drop (k + 2)).take (num ((l.drop k).take 2)), (k : Int) + 2 + num ((l.drop k).take 2), 0) := by
          unfold takeFieldM
          rw [if_pos h1, if_pos (by simp only [Int.toNat_natCast]; omega)]
          simp
        rw [hq]
        clear hq hTq h1
        generalize hm : num ((l.drop k).take 2) = m at *
        clear hm
        obtain ⟨b, o, rfl, hb, hcell⟩ := hr.at_ (k := 0) (by omega)
        have H3 : ¬ ((l.length : Int) - (k + 2) < m) := by omega
        have HT := Lib.hid hT
        clear hT hcell
        have hlen : ((l.drop (k + 2)).take m).length = m := by simp; omega
        have hcut : ∃ X Y, Rd w w.heap.size X Y ((l.drop (k + 2)).take m) ∧ (c = k + 2 → X = some ⟨b, o, none⟩ ∧ Y = 0) ∧ (¬ c = k + 2 → X = some ⟨b, o + (k + 2), none⟩ ∧ Y = c - (k + 2)) := by
          by_cases hck : c = k + 2
          · have hl0 : (l.drop (k + 2)).take m = [] := List.eq_nil_of_length_eq_zero (by omega)
            refine ⟨some ⟨b, o, none⟩, 0, ?_, fun _ => ⟨rfl, rfl⟩, fun h => absurd hck h⟩
            rw [hl0]
            exact ⟨by simp, by simp [maxLen], (fun e => by cases e), fun ad e j hj => by simp at hj⟩
          · exact ⟨_, _, hr.cut (k + 2) m h3, fun h => absurd h hck, fun _ => ⟨rfl, rfl⟩⟩
        obtain ⟨X, Y, hcut, hX1, hX2⟩ := hcut
        have hC := copyOf_any X Y ((l.drop (k + 2)).take m) 0 w hcut (by omega) (by omega)
        rw [show ((0 : Nat) : Int) = 0 from rfl] at hC
        generalize hs : (l.drop (k + 2)).take m = r at *
        clear hs hcut
        subst hlen
        have HC := Lib.hid hC
        clear hC
        by_cases hck : c = k + 2
        · obtain ⟨rfl, rfl⟩ := hX1 hck
          clear hX1 hX2
          subst hck
          go_enter Tryd.func68, Tryd.ntmps68
          go_wp2_with fail
          refine HT.out.mono ?_
          rintro e w' ⟨rfl, rfl⟩
          go_wp2_with fail
          refine HC.out.mono ?_
          rintro e w1 ⟨A1, c1, rfl, hown1, hb1⟩
          go_wp2_with fail
          go_ret3
          exact ⟨A1, c1, r, rfl, rfl, hown1, hb1⟩
        · obtain ⟨rfl, rfl⟩ := hX2 hck
          clear hX1 hX2
          go_enter Tryd.func68, Tryd.ntmps68
          go_wp2_with fail
          refine HT.out.mono ?_
          rintro e w' ⟨rfl, rfl⟩
          go_wp2_with fail
          refine HC.out.mono ?_
          rintro e w1 ⟨A1, c1, rfl, hown1, hb1⟩
          go_wp2_with fail
          go_ret3
          exact ⟨A1, c1, r, rfl, rfl, hown1, hb1⟩
      · have hq : takeFieldM l k = ([], 0, 10) := by
          unfold takeFieldM
          rw [if_pos h1, if_neg (by simp only [Int.toNat_natCast]; omega)]
        rw [hq]
        clear hq hTq h1
        generalize hm : num ((l.drop k).take 2) = m at *
        clear hm
        have H3 : (l.length : Int) - (k + 2) < m := by omega
        have HT := Lib.hid hT
        clear hT
        go_enter Tryd.func68, Tryd.ntmps68
        go_wp2_with fail
        refine HT.out.mono ?_
        rintro e w' ⟨rfl, rfl⟩
        go_wp2_with fail
        go_ret3
        exact bytesIntErr_bad w 10
    · have hq : takeFieldM l k = ([], 0, 10) := by
        unfold takeFieldM
        rw [if_pos h1, if_neg (by omega)]
      have hT := take_any A c l k 2 w hr hl (by omega) (by omega) hp1 hp2
      have hTq := takeM_short (l := l) (p := k) (k := 2) (by omega) (by omega) hk h2
      rw [show ((2 : Nat) : Int) = 2 from rfl] at hTq
      rw [hTq] at hT
      rw [hq]
      have HT := Lib.hid hT
      clear hT hq hTq
      go_enter Tryd.func68, Tryd.ntmps68
      go_wp2_with fail
      refine HT.out.mono ?_
      rintro e w' ⟨rfl, rfl⟩
      go_wp2_with fail
      go_ret3
      exact bytesIntErr_bad w 10
  · have hq : takeFieldM l p = ([], 0, 2) := by unfold takeFieldM; rw [if_neg h1]
    have hT := take_any A c l p 2 w hr hl (by omega) (by omega) hp1 hp2
    rw [takeM_bad (by omega)] at hT
    rw [hq]
    have HT := Lib.hid hT
    clear hT hq
    go_enter Tryd.func68, Tryd.ntmps68
    go_wp2_with fail
    refine HT.out.mono ?_
    rintro e w' ⟨rfl, rfl⟩
    go_wp2_with fail
    go_ret3
    exact bytesIntErr_bad w 2
end Go.Proofs.YtikhffdbjelanaaDoor.Oc
namespace Go.Proofs.YtikhffdbjelanaaDoor.Oc
open Go.RowKit
set_option linter.unusedVariables false

set_option maxHeartbeats 400000 in
theorem refField_any (A : Option Addr) (c : Nat) (f : List UInt8) (w : World) (hr : Rd w w.heap.size A c f) (hf : f.length ≤ 100000) :
    Calls Tryd.prog 62 #[.slice A f.length c] w fun e w' => ∃ A' c' r, e = .returned (.slice A' r.length c') ∧ r = fld f ∧ Own w' w.heap.size 5 A' c' r ∧ Below w.heap.size w w' := by
  obtain ⟨i0, hi, hz0, hz1, hz2⟩ := info_parts info5
  go_enter Tryd.func62, Tryd.ntmps62
  go_wp2_with fail
  refine (digits_any f.length 2 _ (by omega) (by omega)).mono ?_
  rintro e w1 ⟨A1, c1, r1, rfl, hr1, hown1, hb1⟩
  have hl1 : r1.length ≤ 2 := by rw [hr1, be_len]; omega
  have HR1 := Lib.hid hr1
  have hs1 := hb1.size
  have hrd := hr.below hb1
  clear hr1
  go_wp2_with (at_builtin; refine wpList_append_bytes _ rfl _ _ 37 rfl w.heap.size 5 i0 _ Tryd.underlying37 hi hz0 hz1 hz2 rfl r1 f rfl rfl hown1 hrd (by omega) (by omega) ?_; intro A3 c3 w3 r3 hr3 hown3 hg3 hb3)
  go_ret
  exact ⟨A3, c3, r3, rfl, by rw [hr3.out, HR1.out, fld], hown3, hb1.trans (below_of_grown hg3 hs1 (fun k hk => (hown1.blk_ge k hk).1))⟩

set_option maxHeartbeats 1000000 in
theorem refTakeField_any (A : Option Addr) (c : Nat) (l : List UInt8) (p : Int) (w : World) (hr : Rd w w.heap.size A c l) (hl : l.length ≤ 200000) (hp1 : -9223372036854775808 ≤ p) (hp2 : p ≤ 9223372036854775807) :
    Calls Tryd.prog 63 #[.slice A l.length c, .int .i64 p] w (BytesIntErr w (takeFieldM l p)) := by
  have hcap := hr.cap
  by_cases h0 : p < 0
  · have hq : takeFieldM l p = ([], 0, 2) := by unfold takeFieldM; rw [if_neg (by omega)]
    rw [hq]
    go_enter Tryd.func63, Tryd.ntmps63
    go_wp2_with fail
    go_ret3
    exact bytesIntErr_bad w 2
  obtain ⟨k, rfl⟩ := Int.eq_ofNat_of_zero_le (show 0 ≤ p by omega)
  have hd0 : decide ((k : Int) < 0) = false := by simp
  by_cases h1 : l.length < k
  · have hq : takeFieldM l k = ([], 0, 2) := by unfold takeFieldM; rw [if_neg (by omega)]
    rw [hq]
    have hi1 : (l.length : Int) < k := by omega
    go_enter Tryd.func63, Tryd.ntmps63
    go_wp2_with fail
    go_ret3
    exact bytesIntErr_bad w 2
  have hd1 : decide (l.length < k) = false := by simp; omega
  by_cases h2 : k + 2 ≤ l.length
  · have hnum : num ((l.drop k).take 2) < 65536 := Nat.lt_of_lt_of_le (num_lt_of _ 2 (by simp; omega)) (by decide)
    obtain ⟨b, o, rfl, hb, hcell⟩ := hr.at_ (k := 0) (by omega)
    have hcut2 := hr.cut k 2 h2
    have hl2 : ((l.drop k).take 2).length = 2 := by simp; omega
    have hN := number_any _ (c - k) ((l.drop k).take 2) _ w hcut2 (by omega)
    rw [hl2] at hN
    by_cases h3 : k + 2 + num ((l.drop k).take 2) ≤ l.length
    · have hq : takeFieldM l k = ((l.drop (k + 2)).take (num ((l.drop k).take 2)), (k : Int) + 2 + num ((l.drop k).take 2), 0) := by
        unfold takeFieldM
        rw [if_pos (by omega), if_pos (by simp only [Int.toNat_natCast]; omega)]
        simp
      rw [hq]
      clear hq hl2 hcut2 hcell
      generalize hm : num ((l.drop k).take 2) = m at *
      clear hm
      have HN := Lib.hid hN
      clear hN
      have hlen : ((l.drop (k + 2)).take m).length = m := by simp; omega
      have hcut : ∃ X Y, Rd w w.heap.size X Y ((l.drop (k + 2)).take m) ∧ (c = k + 2 → X = some ⟨b, o, none⟩ ∧ Y = 0) ∧ (¬ c = k + 2 → X = some ⟨b, o + (k + 2), none⟩ ∧ Y = c - (k + 2)) := by
        by_cases hck : c = k + 2
        · have hl0 : (l.drop (k + 2)).take m = [] := List.eq_nil_of_length_eq_zero (by omega)
          refine ⟨some ⟨b, o, none⟩, 0, ?_, fun _ => ⟨rfl, rfl⟩, fun h => absurd hck h⟩
          rw [hl0]
          exact ⟨by simp, by simp [maxLen], (fun e => by cases e), fun ad e j hj => by simp at hj⟩
        · exact ⟨_, _, hr.cut (k + 2) m h3, fun h => absurd h hck, fun _ => ⟨rfl, rfl⟩⟩
      obtain ⟨X, Y, hcut, hX1, hX2⟩ := hcut
      have hC := twin_any X Y ((l.drop (k + 2)).take m) w hcut (by omega)
      generalize hs : (l.drop (k + 2)).take m = r at *
      clear hs hcut
      subst hlen
      have HC := Lib.hid hC
      clear hC
      by_cases hck : c = k + 2
      · obtain ⟨rfl, rfl⟩ := hX1 hck
        clear hX1 hX2
        subst hck
        go_enter Tryd.func63, Tryd.ntmps63
        go_wp2_with fail
        have hN := HN.out
        simp only [Nat.add_sub_cancel_left] at hN
        refine hN.mono ?_
        rintro e w' ⟨rfl, rfl⟩
        clear hN
        go_wp2_with fail
        refine HC.out.mono ?_
        rintro e w1 ⟨A1, c1, rfl, hown1, hb1⟩
        go_wp2_with fail
        go_ret3
        exact ⟨A1, c1, r, rfl, rfl, hown1, hb1⟩
      · obtain ⟨rfl, rfl⟩ := hX2 hck
        clear hX1 hX2
        go_enter Tryd.func63, Tryd.ntmps63
        go_wp2_with fail
        refine HN.out.mono ?_
        rintro e w' ⟨rfl, rfl⟩
        go_wp2_with fail
        refine HC.out.mono ?_
        rintro e w1 ⟨A1, c1, rfl, hown1, hb1⟩
        go_wp2_with fail
        go_ret3
        exact ⟨A1, c1, r, rfl, rfl, hown1, hb1⟩
    · have hq : takeFieldM l k = ([], 0, 10) := by
        unfold takeFieldM
        rw [if_pos (by omega), if_neg (by simp only [Int.toNat_natCast]; omega)]
      rw [hq]
      clear hq hl2 hcut2 hcell
      generalize hm : num ((l.drop k).take 2) = m at *
      clear hm
      have hi3 : (l.length : Int) < k + 2 + m := by omega
      have HN := Lib.hid hN
      clear hN
      go_enter Tryd.func63, Tryd.ntmps63
      go_wp2_with fail
      refine HN.out.mono ?_
      rintro e w' ⟨rfl, rfl⟩
      go_wp2_with fail
      go_ret3
      exact bytesIntErr_bad w 10
  · have hq : takeFieldM l k = ([], 0, 10) := by
      unfold takeFieldM
      rw [if_pos (by omega), if_neg (by omega)]
    rw [hq]
    have hi2 : (l.length : Int) < k + 2 := by omega
    go_enter Tryd.func63, Tryd.ntmps63
    go_wp2_with fail
    go_ret3
    exact bytesIntErr_bad w 10
end Go.Proofs.YtikhffdbjelanaaDoor.Oc
namespace Go.Proofs.YtikhffdbjelanaaDoor.Oc
set_option linter.unusedVariables false

theorem num_inj : ∀ (s t : List UInt8), s.length = t.length → num s = num t → s = t
  | [], [], _, _ => rfl
  | [], _ :: _, h, _ => by simp at h
  | _ :: _, [], h, _ => by simp at h
  | b :: s, c :: t, h, hn => by
    have hl : s.length = t.length := by simpa using h
    rw [num_cons, num_cons, hl] at hn
    have h1 := num_lt s
    have h2 := num_lt t
    rw [hl] at h1
    generalize 256 ^ t.length = K at *
    have hb : b.toNat = c.toNat := by
      have e1 := Nat.div_eq_of_lt h1
      have e2 := Nat.div_eq_of_lt h2
      have d1 : (b.toNat * K + num s) / K = b.toNat := by rw [Nat.mul_comm, Nat.mul_add_div (by omega), e1, Nat.add_zero]
      have d2 : (c.toNat * K + num t) / K = c.toNat := by rw [Nat.mul_comm, Nat.mul_add_div (by omega), e2, Nat.add_zero]
      rw [← d1, ← d2, hn]
    rw [hb] at hn
    have hs := num_inj s t hl (by omega)
    rw [UInt8.toNat_inj.1 hb, hs]

theorem be_num (s : List UInt8) : be s.length (num s) = s := by
  refine num_inj _ _ (be_len _ _) ?_
  rw [num_be, ← pow_256]
  exact Nat.mod_eq_of_lt (num_lt s)
theorem num_be2 {n : Nat} (h : n ≤ 65535) : num (be 2 n) = n := by
  rw [num_be]
  exact Nat.mod_eq_of_lt (by omega)

theorem fld_inj {x y r s : List UInt8} (hx : x.length ≤ 65535) (hy : y.length ≤ 65535) (h : fld x ++ r = fld y ++ s) : x = y ∧ r = s := by
  unfold fld at h
  rw [List.append_assoc, List.append_assoc] at h
  obtain ⟨h1, h2⟩ := List.append_inj h (by rw [be_len, be_len])
  have hl : x.length = y.length := by
    have := congrArg num h1
    rwa [num_be2 hx, num_be2 hy] at this
  exact List.append_inj h2 hl

/-- The concatenation of byte strings as fields. -/
def flat (L : List (List UInt8)) : List UInt8 := (L.map fld).flatten
theorem flat_nil : flat [] = [] := rfl
theorem flat_cons (x : List UInt8) (L : List (List UInt8)) : flat (x :: L) = fld x ++ flat L := by simp [flat]
theorem flat_snoc (L : List (List UInt8)) (x : List UInt8) : flat (L ++ [x]) = flat L ++ fld x := by simp [flat]
theorem flat_append (L M : List (List UInt8)) : flat (L ++ M) = flat L ++ flat M := by simp [flat]
/-- All are short enough to be fields. -/
def Fit (L : List (List UInt8)) : Prop := ∀ x ∈ L, x.length ≤ 65535
theorem flat_len_le {x : List UInt8} {L : List (List UInt8)} (h : x ∈ L) : 2 + x.length ≤ (flat L).length := by
  induction L with
  | nil => cases h
  | cons y L ih =>
    rw [flat_cons, List.length_append, fld_len]
    rcases List.mem_cons.1 h with rfl | h'
    · omega
    · have := ih h'; omega
theorem flat_count (L : List (List UInt8)) : 2 * L.length ≤ (flat L).length := by
  induction L with
  | nil => simp [flat]
  | cons y L ih => rw [flat_cons, List.length_append, fld_len, List.length_cons]; omega

theorem flat_inj : ∀ {L M : List (List UInt8)}, Fit L → Fit M → flat L = flat M → L = M
  | [], [], _, _, _ => rfl
  | [], y :: M, _, _, h => by
    rw [flat_nil, flat_cons] at h
    have := congrArg List.length h
    rw [List.length_append, fld_len] at this
    simp at this
    omega
  | x :: L, [], _, _, h => by
    rw [flat_nil, flat_cons] at h
    have := congrArg List.length h
    rw [List.length_append, fld_len] at this
    simp at this
  | x :: L, y :: M, hL, hM, h => by
    rw [flat_cons, flat_cons] at h
    obtain ⟨rfl, h2⟩ := fld_inj (hL x List.mem_cons_self) (hM y List.mem_cons_self) h
    rw [flat_inj (fun z hz => hL z (List.mem_cons_of_mem _ hz)) (fun z hz => hM z (List.mem_cons_of_mem _ hz)) h2]

/-- What TakeField finds at p: a field, or none. -/
theorem takeFieldM_spec (l : List UInt8) (p : Nat) (hp : p ≤ l.length) :
    (∃ x, x.length ≤ 65535 ∧ p + 2 + x.length ≤ l.length ∧ takeFieldM l p = (x, ((p + 2 + x.length : Nat) : Int), 0) ∧ l.drop p = fld x ++ l.drop (p + 2 + x.length)) ∨
    (takeFieldM l p = ([], 0, 10) ∧ ∀ x r, x.length ≤ 65535 → l.drop p ≠ fld x ++ r) := by
  unfold takeFieldM
  rw [if_pos ⟨by omega, by omega⟩]
  simp only [Int.toNat_natCast]
  by_cases h : (p : Int) + 2 ≤ l.length ∧ (p : Int) + 2 + num ((l.drop p).take 2) ≤ l.length
  · rw [if_pos h]
    obtain ⟨h1, h2⟩ := h
    have hnum : num ((l.drop p).take 2) < 65536 := Nat.lt_of_lt_of_le (num_lt_of _ 2 (by simp; omega)) (by decide)
    have hl2 : ((l.drop p).take 2).length = 2 := by simp; omega
    have hbe := be_num ((l.drop p).take 2)
    rw [hl2] at hbe
    generalize hm : num ((l.drop p).take 2) = m at *
    have hlx : ((l.drop (p + 2)).take m).length = m := by simp; omega
    refine .inl ⟨(l.drop (p + 2)).take m, by omega, by omega, by rw [hlx]; simp, ?_⟩
    rw [fld, hlx, hbe, List.append_assoc]
    have e1 : (l.drop (p + 2)).take m ++ l.drop (p + 2 + m) = l.drop (p + 2) := by
      rw [← List.drop_drop (i := m)]; exact List.take_append_drop _ _
    have e2 : (l.drop p).take 2 ++ l.drop (p + 2) = l.drop p := by
      rw [← List.drop_drop]; exact List.take_append_drop _ _
    rw [e1, e2]
  · rw [if_neg h]
    refine .inr ⟨rfl, fun x r hx he => h ?_⟩
    have hlen := congrArg List.length he
    rw [List.length_append, fld_len, List.length_drop] at hlen
    have ht : (l.drop p).take 2 = be 2 x.length := by
      rw [he, fld, List.append_assoc, List.take_append_of_le_length (by rw [be_len]; omega), List.take_of_length_le (by rw [be_len]; omega)]
    rw [ht, num_be2 hx]
    omega

/-- Where what has been taken is 'done' and no field follows, the whole is no concatenation of fields. -/
theorem no_flat : ∀ (done : List (List UInt8)) (rest : List UInt8), Fit done → rest ≠ [] → (∀ x r, x.length ≤ 65535 → rest ≠ fld x ++ r) → ∀ L, Fit L → flat done ++ rest ≠ flat L
  | [], rest, _, hne, hno, L, hL, h => by
    rw [flat_nil, List.nil_append] at h
    cases L with
    | nil => exact hne h
    | cons x L => rw [flat_cons] at h; exact hno x _ (hL x List.mem_cons_self) h
  | d :: done, rest, hd, hne, hno, L, hL, h => by
    rw [flat_cons, List.append_assoc] at h
    cases L with
    | nil =>
      have := congrArg List.length h
      rw [List.length_append, fld_len, flat_nil] at this
      simp at this
    | cons x L =>
      rw [flat_cons] at h
      obtain ⟨_, h2⟩ := fld_inj (hd d List.mem_cons_self) (hL x List.mem_cons_self) h
      exact no_flat done rest (fun z hz => hd z (List.mem_cons_of_mem _ hz)) hne hno L (fun z hz => hL z (List.mem_cons_of_mem _ hz)) h2

open Classical in
/-- What Split answers. -/
noncomputable def splitM (l : List UInt8) : List (List UInt8) × Int :=
  if l.length > 16384 then ([], 4) else if h : ∃ L, Fit L ∧ l = flat L then (Classical.choose h, 0) else ([], 10)
theorem splitM_big {l : List UInt8} (h : 16384 < l.length) : splitM l = ([], 4) := by unfold splitM; rw [if_pos h]
theorem splitM_flat {L : List (List UInt8)} (hf : Fit L) (h : (flat L).length ≤ 16384) : splitM (flat L) = (L, 0) := by
  unfold splitM
  have hex : ∃ M, Fit M ∧ flat L = flat M := ⟨L, hf, rfl⟩
  rw [if_neg (by omega), dif_pos hex]
  have := Classical.choose_spec hex
  exact congrArg (fun M => (M, (0 : Int))) (flat_inj hf this.1 this.2).symm
theorem splitM_no {l : List UInt8} (h : l.length ≤ 16384) (hno : ∀ L, Fit L → l ≠ flat L) : splitM l = ([], 10) := by
  unfold splitM
  rw [if_neg (by omega), dif_neg (fun ⟨L, hL, e⟩ => hno L hL e)]
theorem splitM_ok {l : List UInt8} (h : (splitM l).2 = 0) : Fit (splitM l).1 ∧ l = flat (splitM l).1 ∧ l.length ≤ 16384 := by
  by_cases h1 : l.length ≤ 16384
  · by_cases h2 : ∃ L, Fit L ∧ l = flat L
    · obtain ⟨L, hL, rfl⟩ := h2
      rw [splitM_flat hL h1]
      exact ⟨hL, rfl, h1⟩
    · rw [splitM_no h1 (fun L hL e => h2 ⟨L, hL, e⟩)] at h
      simp at h
  · rw [splitM_big (by omega)] at h
    simp at h
theorem splitM_err {l : List UInt8} (h : (splitM l).2 ≠ 0) : (splitM l).1 = [] := by
  by_cases h1 : l.length ≤ 16384
  · by_cases h2 : ∃ L, Fit L ∧ l = flat L
    · obtain ⟨L, hL, rfl⟩ := h2
      rw [splitM_flat hL h1] at h
      exact absurd rfl h
    · rw [splitM_no h1 (fun L hL e => h2 ⟨L, hL, e⟩)]
  · rw [splitM_big (by omega)]

/-- What Join answers. -/
def joinM (L : List (List UInt8)) : List UInt8 × Int := if (flat L).length ≤ 16384 then (flat L, 0) else ([], 4)
theorem fit_of_flat {L : List (List UInt8)} (h : (flat L).length ≤ 16384) : Fit L := fun x hx => by have := flat_len_le hx; omega
theorem joinM_len (L : List (List UInt8)) : (joinM L).1.length ≤ 16384 := by unfold joinM; split <;> simp_all
end Go.Proofs.YtikhffdbjelanaaDoor.Oc
namespace Go.Proofs.YtikhffdbjelanaaDoor.Oc
open Go.RowKit
set_option linter.unusedVariables false

/-- An element of a [][]byte: where its bytes lie, its capacity, its bytes. -/
structure El where
  A : Option Addr
  c : Nat
  l : List UInt8
def El.v (x : El) : Value := .slice x.A x.l.length x.c
def byts (xs : List El) : List (List UInt8) := xs.map (·.l)
theorem byts_len (xs : List El) : (byts xs).length = xs.length := by simp [byts]
theorem byts_app (xs ys : List El) : byts (xs ++ ys) = byts xs ++ byts ys := by simp [byts]

/-- The [][]byte '.slice A xs.length c' reads as the elements xs; all of it lies below block B. -/
structure RdL (w : World) (B : Nat) (A : Option Addr) (c : Nat) (xs : List El) : Prop where
  cap : xs.length ≤ c
  capm : c ≤ maxLen
  nil : A = none → c = 0
  cell : ∀ ad, A = some ad → ∀ j (h : j < xs.length), ad.block < B ∧ w.cell? (ad.add j) = some xs[j].v
  el : ∀ x ∈ xs, Rd w B x.A x.c x.l

section
variable {w w' : World} {B B' c : Nat} {A : Option Addr} {xs : List El}
theorem RdL.empty (w : World) (B : Nat) : RdL w B none 0 [] := ⟨Nat.le_refl _, by simp [maxLen], fun _ => rfl, (fun _ h => by cases h), (fun _ h => by cases h)⟩
theorem RdL.keep (h : RdL w B A c xs) (hk : ∀ p : Addr, p.block < B → w'.cell? p = w.cell? p) : RdL w' B A c xs :=
  ⟨h.cap, h.capm, h.nil, fun ad e j hj => ⟨(h.cell ad e j hj).1, (hk _ (by rw [add_block]; exact (h.cell ad e j hj).1)).trans (h.cell ad e j hj).2⟩, fun x hx => (h.el x hx).keep hk⟩
theorem RdL.more (h : RdL w B A c xs) (hB : B ≤ B') : RdL w B' A c xs :=
  ⟨h.cap, h.capm, h.nil, fun ad e j hj => ⟨Nat.lt_of_lt_of_le (h.cell ad e j hj).1 hB, (h.cell ad e j hj).2⟩, fun x hx => (h.el x hx).more hB⟩
theorem RdL.below (h : RdL w B A c xs) (hb : Below B w w') : RdL w' B A c xs := h.keep fun _ hp => hb.cell hp
theorem RdL.drewN (h : RdL w B A c xs) (k : Nat) : RdL (w.drewN k) B A c xs := h.keep fun _ _ => rfl
theorem RdL.alloc (h : RdL w B A c xs) (hB : B ≤ w.heap.size) (o : Obj) : RdL (w.alloc o) B A c xs := h.keep fun p hp => World.cell?_alloc_lt w o p (by omega)
/-- The address, and the cells. -/
theorem RdL.at_ (h : RdL w B A c xs) {k : Nat} (hk : k < xs.length) : ∃ b o, A = some ⟨b, o, none⟩ ∧ b < B ∧ ∀ j (hj : j < xs.length), w.cell? ⟨b, o + j, none⟩ = some xs[j].v := by
  have hA : A ≠ none := fun e => by have := h.nil e; have := h.cap; omega
  obtain ⟨ad, rfl⟩ := Option.ne_none_iff_exists'.1 hA
  have hc := h.cell ad rfl
  have hb := (hc 0 (by omega)).1
  obtain ⟨b, o, s⟩ := ad
  have h0 := (hc 0 (by omega)).2
  have hs : s = none := by
    have := World.cell?_spot h0
    simpa [Addr.add] using this
  subst hs
  refine ⟨b, o, rfl, hb, fun j hj => ?_⟩
  have := (hc j hj).2
  rwa [add_plain] at this
end

/-- The [][]byte '.slice A xs.length c' and all its elements lie in blocks from 'base' on that the call made itself. -/
def OwnL (w : World) (base : Nat) (A : Option Addr) (c : Nat) (xs : List El) : Prop :=
  w.ownsRow base 37 1 (.slice A xs.length c) xs.length (xs.map El.v) ∧ ∀ x ∈ xs, Own w base 5 x.A x.c x.l

/-- Rows of two element types lie in two blocks. -/
theorem rows_apart {w : World} {b1 b2 t1 t2 s1 s2 n1 n2 : Nat} {v1 v2 : Value} {x1 x2 : List Value} (hne : t1 ≠ t2) (h1 : w.ownsRow b1 t1 s1 v1 n1 x1) (h2 : w.ownsRow b2 t2 s2 v2 n2 x2) : v1.ownBlock = none ∨ v1.ownBlock ≠ v2.ownBlock := by
  rcases h1.2 with ⟨rfl, _⟩ | ⟨g1, cap1, cur1, rfl, _, hg1, _⟩
  · exact .inl rfl
  · refine .inr fun e => ?_
    rcases h2.2 with ⟨rfl, _⟩ | ⟨g2, cap2, cur2, rfl, _, hg2, _⟩
    · simp [Value.ownBlock] at e
    · simp [Value.ownBlock] at e
      subst e
      rw [hg1] at hg2
      simp at hg2
      exact hne hg2.2

section
variable {w w' : World} {base c : Nat} {A : Option Addr} {xs : List El}
theorem OwnL.nil (w : World) (base : Nat) : OwnL w base none 0 [] := ⟨World.ownsRow_nil w base _ 1, fun _ h => by cases h⟩
theorem OwnL.form (h : OwnL w base A c xs) : (A = none ∧ c = 0 ∧ xs = []) ∨ ∃ g, A = some ⟨g, 0, none⟩ ∧ base ≤ g ∧ g < w.heap.size ∧ xs.length ≤ c ∧ c ≤ maxLen := by
  rcases h.1.2 with ⟨hv, hn⟩ | ⟨g, cap, cur, hv, hb, hg, hnc, hcm, _⟩
  · simp only [Value.slice.injEq] at hv
    exact .inl ⟨hv.1, hv.2.2, List.eq_nil_of_length_eq_zero hn⟩
  · simp only [Value.slice.injEq] at hv
    obtain ⟨rfl, _, rfl⟩ := hv
    exact .inr ⟨g, rfl, hb, (Array.getElem?_eq_some_iff.1 hg).1, hnc, hcm⟩
theorem OwnL.rd (h : OwnL w base A c xs) : RdL w w.heap.size A c xs := by
  rcases h.form with ⟨rfl, rfl, rfl⟩ | ⟨g, rfl, hb, hg, hc, hm⟩
  · exact RdL.empty w _
  · refine ⟨hc, hm, (fun e => by cases e), fun ad e j hj => ?_, fun x hx => (h.2 x hx).rd⟩
    obtain rfl := Option.some.inj e
    exact ⟨hg, World.ownsRow.cells h.1 (g := g) rfl j _ (by simp [hj])⟩
theorem OwnL.blk_ge (h : OwnL w base A c xs) : ∀ k, blk A = some k → base ≤ k ∧ k < w.heap.size := fun k hk => World.ownsRow.lt h.1 k (by rw [own_block]; exact hk)
/-- It is kept through a step that wrote to no block of it. -/
theorem OwnL.kept (h : OwnL w base A c xs) {row : Option Nat} (hg : w.grownBy w' row) (hne : blk A = none ∨ blk A ≠ row) (hel : ∀ x ∈ xs, blk x.A = none ∨ blk x.A ≠ row) : OwnL w' base A c xs :=
  ⟨World.ownsRow.kept h.1 hg (by rw [own_block]; exact hne), fun x hx => (h.2 x hx).kept hg (hel x hx)⟩
theorem OwnL.below (h : OwnL w base A c xs) {B : Nat} (hB : w.heap.size ≤ B) (hb : Below B w w') : OwnL w' base A c xs :=
  h.kept (row := none) ⟨hb.os, hb.tape, hb.output, hb.size, fun k hk _ => hb.block k (Nat.lt_of_lt_of_le hk hB)⟩ (by cases blk A <;> simp) (fun x _ => by cases blk x.A <;> simp)
theorem OwnL.alloc (h : OwnL w base A c xs) (o : Obj) : OwnL (w.alloc o) base A c xs := ⟨World.ownsRow.alloc h.1 o, fun x hx => (h.2 x hx).alloc o⟩
theorem OwnL.drewN (h : OwnL w base A c xs) (k : Nat) : OwnL (w.drewN k) base A c xs := h
theorem OwnL.lower (h : OwnL w base A c xs) {b : Nat} (hb : b ≤ base) : OwnL w b A c xs := by
  refine ⟨⟨h.1.1, ?_⟩, fun x hx => (h.2 x hx).lower hb⟩
  rcases h.1.2 with hn | ⟨g, cap, cur, hv, hbg, r⟩
  · exact .inl hn
  · exact .inr ⟨g, cap, cur, hv, Nat.le_trans hb hbg, r⟩
end

theorem info22 : (Tryd.prog.info? 37).map (fun i => (i.zero, i.size, i.bytes)) = some (some (.slice none 0 0), 1, 24) := by kernel_rfl

/-- 'append(out, x)': x has just been laid in a block of its own. -/
theorem run_append_el (w : World) (base : Nat) {A : Option Addr} {c : Nat} {xs : List El} (x : El) (ty : Nat) (hown : OwnL w base A c xs) (hx : Own w base 5 x.A x.c x.l) (hle : xs.length ≤ 1000000) (hbase : base ≤ w.heap.size) :
    ∃ A' c' w', (Builtin.append_ #[77, 77] ty #[.slice A xs.length c, .slice (some ⟨w.heap.size, 0, none⟩) 1 1]).run Tryd.prog (w.alloc (.cells #[x.v] 37)) = .ok (.slice A' (xs ++ [x]).length c') w' ∧
      OwnL w' base A' c' (xs ++ [x]) ∧ (w.alloc (.cells #[x.v] 37)).grownBy w' (blk A) ∧ (blk A' = blk A ∨ blk A' = some (w.heap.size + 1)) := by
  obtain ⟨i0, hi, hz0, hz1, hz2⟩ := info_parts info22
  have hown2 := hown.alloc (.cells #[x.v] 37)
  obtain ⟨v', w', hrun, h2, h3, _, h5⟩ := run_append_own_at (P := Tryd.prog) (w.alloc (.cells #[x.v] 37)) base 77 ty 37 i0 _ 1 24 Tryd.underlying77 hi hz0 hz1 hz2 rfl (by omega) _ _ _ hown2.1
    ⟨w.heap.size, 0, none⟩ 1 1 [x.v] rfl (cell_one_new w x.v _) (by simp [El.v, Value.oneCell']) (by simp only [maxLen]; omega) (by omega) (by simp; omega)
  have e1 : xs.map El.v ++ [x.v] = (xs ++ [x]).map El.v := by simp
  have e2 : xs.length + 1 = (xs ++ [x]).length := by simp
  rw [e1, e2] at h2
  have hform : ∃ A' c', v' = .slice A' (xs ++ [x]).length c' := by
    rcases h2.2 with ⟨rfl, hn⟩ | ⟨g, cap, cur, rfl, _⟩
    · exact ⟨none, 0, by rw [hn]⟩
    · exact ⟨_, _, rfl⟩
  obtain ⟨A', c', rfl⟩ := hform
  refine ⟨A', c', w', hrun, ⟨h2, fun y hy => ?_⟩, by rw [own_block] at h3; exact h3, ?_⟩
  · have hy2 : Own (w.alloc (.cells #[x.v] 37)) base 5 y.A y.c y.l := by
      rcases List.mem_append.1 hy with h | h
      · exact hown2.2 y h
      · simp at h; subst h; exact hx.alloc _
    exact World.ownsRow.kept hy2 h3 (rows_apart (by decide) hy2 hown2.1)
  · rw [own_block, own_block] at h5
    simpa using h5

/-- The same, for the walk. -/
theorem wpList_append_el (w : World) {ops : Array Oper} {rest : List Oper} {o : Oper} {a : Act} {Q : Exit → Act → World → Prop} (hgd : o.guard = none) (s y : Operand)
    (ho : o.op = .call { callee := .builtin .append, args := #[s, y], argTypes := #[77, 77] })
    (base : Nat) {A : Option Addr} {c : Nat} (xs : List El) (x : El) (hs : a.eval s = .slice A xs.length c) (hy : a.eval y = .slice (some ⟨w.heap.size, 0, none⟩) 1 1) (hown : OwnL w base A c xs) (hx : Own w base 5 x.A x.c x.l) (hle : xs.length ≤ 1000000) (hbase : base ≤ w.heap.size)
    (h : ∀ A' c' w' ys, Hid (ys = xs ++ [x]) → OwnL w' base A' c' ys → (w.alloc (.cells #[x.v] 37)).grownBy w' (blk A) → (blk A' = blk A ∨ blk A' = some (w.heap.size + 1)) → wpList Tryd.prog ops Q rest (a.put o.dst (.slice A' ys.length c')) w') :
    wpList Tryd.prog ops Q (o :: rest) a (w.alloc (.cells #[x.v] 37)) := by
  refine wpList_plain hgd fun K hK => ?_
  obtain ⟨A', c', w', hrun, h2, h3, h4⟩ := run_append_el w base x o.type hown hx hle hbase
  unfold Oper.wp execOp
  simp only [ho, resolve, invoke, builtin, Sem.run_bind, Sem.run_pure, Result.andThen_ok, List.map_toArray, List.map_cons, List.map_nil, hs, hy, hrun]
  exact hK _ _ (h A' c' w' _ rfl h2 h3 h4)

end Go.Proofs.YtikhffdbjelanaaDoor.Oc
namespace Go.Proofs.YtikhffdbjelanaaDoor.Oc
open Go.RowKit
set_option linter.unusedVariables false

theorem str_bytes' {B c : Nat} {A : Option Addr} {l : List UInt8} {w : World} (h : Rd w B A c l) : (convert 37 9 (.slice A l.length c)).run Tryd.prog w = .ok (.string ⟨l.toArray⟩) w :=
  run_string_bytes (P := Tryd.prog) w 37 9 5 Tryd.underlying37 Tryd.underlying5 Tryd.underlying9 h

end Go.Proofs.YtikhffdbjelanaaDoor.Oc
namespace Go.Proofs.YtikhffdbjelanaaDoor.Oc
open Go.RowKit
set_option linter.unusedVariables false

theorem byts_take (xs : List El) (k : Nat) (h : k < xs.length) : (byts xs).take (k + 1) = (byts xs).take k ++ [xs[k].l] := by
  rw [List.take_succ_eq_append_getElem (by rw [byts_len]; exact h)]
  simp [byts]
theorem flat_take (xs : List El) (k : Nat) (h : k < xs.length) : flat ((byts xs).take (k + 1)) = flat ((byts xs).take k) ++ fld xs[k].l := by rw [byts_take xs k h, flat_snoc]
theorem flat_take_len (xs : List El) (k : Nat) (h : k < xs.length) : (flat ((byts xs).take (k + 1))).length = (flat ((byts xs).take k)).length + (2 + xs[k].l.length) := by
  rw [flat_take xs k h, List.length_append, fld_len]
theorem flat_take_le (L : List (List UInt8)) (k : Nat) : (flat (L.take k)).length ≤ (flat L).length := by
  have := congrArg List.length (flat_append (L.take k) (L.drop k))
  rw [List.take_append_drop, List.length_append] at this
  omega
theorem joinM_bad {L : List (List UInt8)} (k : Nat) (h : 16384 < (flat (L.take k)).length) : joinM L = ([], 4) := by
  unfold joinM
  rw [if_neg]
  have := flat_take_le L k
  omega
theorem joinM_good {L : List (List UInt8)} (h : (flat L).length ≤ 16384) : joinM L = (flat L, 0) := by unfold joinM; rw [if_pos h]

set_option maxHeartbeats 2000000 in
theorem join_any (A : Option Addr) (c : Nat) (xs : List El) (w : World) (hr : RdL w w.heap.size A c xs) (hl : xs.length ≤ 1000000) (hel : ∀ x ∈ xs, x.l.length ≤ 100000) :
    Calls Tryd.prog 49 #[.slice A xs.length c] w (BytesErr w (joinM (byts xs))) := by
  obtain ⟨i0, hi, hz0, hz1, hz2⟩ := info_parts info5
  have HEL := Lib.hid hel
  clear hel
  go_enter Tryd.func49, Tryd.ntmps49
  go_wp2_with fail
  go_loop [4, 12] (fun s i => ∃ k m : Nat, k ≤ xs.length ∧ i = .int .i64 k ∧ s = .int .i64 m ∧ Hid (m = (flat ((byts xs).take k)).length) ∧ m ≤ 16384) (fun _ i => xs.length - (intOf i).toNat)
  case atStart => exact ⟨0, 0, Nat.zero_le _, rfl, rfl, rfl, by omega⟩
  case round =>
    obtain ⟨k, m, hk, rfl, rfl, hm, hml⟩ := hrel
    by_cases hlt : k < xs.length
    · obtain ⟨b, o, rfl, hb, hc⟩ := hr.at_ hlt
      have hck := hc k hlt
      have hxl := HEL.out _ (List.getElem_mem hlt)
      have rx := hr.el xs[k] (List.getElem_mem _)
      have hfl := flat_take_len xs k hlt
      obtain ⟨x, hxk⟩ : ∃ x, x = xs[k] := ⟨_, rfl⟩
      rw [← hxk] at hck rx hxl hfl
      unfold El.v at hck
      have HFL := Lib.hid hfl
      clear hc hxk hfl
      by_cases hroom : x.l.length ≤ 65535 ∧ m + 2 + x.l.length ≤ 16384
      · obtain ⟨hr1, hr2⟩ := hroom
        go_wp2_with fail
        refine (hasRoom_yes x.A x.c x.l m _ hr1 hr2).mono ?_
        rintro e w' ⟨rfl, rfl⟩
        go_wp2_with fail
        go_round
        case rel => exact ⟨k + 1, m + (2 + x.l.length), by omega, by go_num, by go_num, by show _ = _; rw [HFL.out, hm.out], by omega⟩
        case measure => simp [intOf]; omega
      · have hq : joinM (byts xs) = ([], 4) := joinM_bad (k + 1) (by rw [HFL.out, ← hm.out]; omega)
        rw [hq]
        go_wp2_with fail
        refine (hasRoom_no x.A x.c x.l m _ (by omega) hroom).mono ?_
        rintro e w' ⟨rfl, rfl⟩
        go_wp2_with fail
        go_ret2
        exact bytesErr_bad w 4
    · have hke : k = xs.length := by omega
      have hmt : m = (flat (byts xs)).length := by rw [hm.out, List.take_of_length_le (by rw [byts_len]; omega)]
      have hq : joinM (byts xs) = (flat (byts xs), 0) := joinM_good (by omega)
      have HQ := Lib.hid hq
      have HMT := Lib.hid hmt
      clear hmt hke hq
      go_wp2_with (at_make; refine wpList_make_own _ rfl _ _ 37 rfl w.heap.size 5 i0 _ 1 Tryd.underlying37 hi hz0 hz1 _ _ _ m rfl rfl (by omega) (by rw [hz2]; omega) (by unfold maxLen; omega) (Nat.le_refl _) ?_; intro w1 hown1 hg1)
      have hb1 : Below w.heap.size w w1 := below_of_grown hg1 (Nat.le_refl _) (by simp)
      have hown1' : Own w1 w.heap.size 5 (some ⟨w.heap.size, 0, none⟩) m [] := hown1
      go_loopw [7, 30] (fun v i wr => ∃ j : Nat, ∃ A' c' r, j ≤ xs.length ∧ i = .int .i64 j ∧ v = .slice A' r.length c' ∧ Hid (r = flat ((byts xs).take j)) ∧ r.length ≤ 16384 ∧ Own wr w.heap.size 5 A' c' r ∧ Below w.heap.size w wr) (fun _ i _ => xs.length - (intOf i).toNat)
      case atStart => exact ⟨0, _, _, [], Nat.zero_le _, rfl, rfl, rfl, by simp, hown1', hb1⟩
      case round =>
        obtain ⟨j, A2, c2, r, hj, rfl, rfl, hr2, hrl, hown2, hb2⟩ := hrel
        by_cases hlt2 : j < xs.length
        · obtain ⟨b, o, rfl, hb, hc⟩ := hr.at_ hlt2
          have hs2 := hb2.size
          have hck := (hb2.cell (p := ⟨b, o + j, none⟩) hb).trans (hc j hlt2)
          have hxl := HEL.out _ (List.getElem_mem hlt2)
          have rx := (hr.el xs[j] (List.getElem_mem _)).below hb2
          have hft := flat_take xs j hlt2
          have hle := flat_take_le (byts xs) (j + 1)
          obtain ⟨x, hxk⟩ : ∃ x, x = xs[j] := ⟨_, rfl⟩
          rw [← hxk] at hck rx hxl hft
          unfold El.v at hck
          have HFT := Lib.hid hft
          have HLE := Lib.hid hle
          clear hc hxk hft hle
          go_wp2_with fail
          refine (appendField_any A2 x.A c2 x.c r x.l w.heap.size _ (by omega) (by omega) hown2 hs2 rx).mono ?_
          rintro e w3 ⟨A3, c3, r3, rfl, hr3, hown3, hg3, hb3⟩
          have HR3 : Hid (r3 = flat ((byts xs).take (j + 1))) := by show _ = _; rw [hr3, hr2.out, HFT.out]
          have hl3 : r3.length ≤ 16384 := by
            have := HLE.out
            rw [← HMT.out] at this
            rw [HR3.out]
            omega
          clear hr3
          have hbn : Below w.heap.size w w3 := hb2.trans (below_of_grown hg3 hs2 (fun g hg => (hown2.blk_ge g hg).1))
          go_wp2_with fail
          go_roundw
          case rel => exact ⟨j + 1, A3, c3, r3, by omega, by go_num, rfl, HR3, hl3, hown3, hbn⟩
          case measure => simp [intOf]; omega
        · have hje : j = xs.length := by omega
          have hrt : r = flat (byts xs) := by rw [hr2.out, List.take_of_length_le (by rw [byts_len]; omega)]
          have HRT := Lib.hid hrt
          clear hje hrt
          go_wp2_with fail
          go_ret2
          refine ⟨A2, c2, r, ?_, by rw [HQ.out]; exact HRT.out, hown2, hb2⟩
          rw [HQ.out]
          rfl

end Go.Proofs.YtikhffdbjelanaaDoor.Oc
namespace Go.Proofs.YtikhffdbjelanaaDoor.Oc
open Go.RowKit
set_option linter.unusedVariables false

/-- What a call answers that returns a list of byte strings and an error. -/
def ListErr (w : World) (q : List (List UInt8) × Int) (e : Ending) (w' : World) : Prop :=
  ∃ A' c' ys, e = .returned (.tuple #[.slice A' ys.length c', .int .i64 q.2]) ∧ byts ys = q.1 ∧ OwnL w' w.heap.size A' c' ys ∧ Below w.heap.size w w'

/-- Where the loop of a split stands: 'ys' have been taken, p is the place behind them. -/
structure SplitAt (l : List UInt8) (p : Nat) (ys : List El) : Prop where
  fit : Fit (byts ys)
  len : p = (flat (byts ys)).length
  whole : l = flat (byts ys) ++ l.drop p
theorem SplitAt.start (l : List UInt8) : SplitAt l 0 [] := ⟨(fun _ h => by cases h), rfl, rfl⟩
theorem SplitAt.le {l : List UInt8} {p : Nat} {ys : List El} (h : SplitAt l p ys) : p ≤ l.length := by
  have := congrArg List.length h.whole
  rw [List.length_append, ← h.len] at this
  omega
theorem SplitAt.count {l : List UInt8} {p : Nat} {ys : List El} (h : SplitAt l p ys) : 2 * ys.length ≤ l.length := by
  have := flat_count (byts ys)
  rw [byts_len, ← h.len] at this
  have := h.le
  omega
theorem SplitAt.step {l : List UInt8} {p : Nat} {ys : List El} (h : SplitAt l p ys) {x : El} (hx : x.l.length ≤ 65535) (hd : l.drop p = fld x.l ++ l.drop (p + 2 + x.l.length)) : SplitAt l (p + 2 + x.l.length) (ys ++ [x]) := by
  have e : byts (ys ++ [x]) = byts ys ++ [x.l] := by simp [byts]
  refine ⟨?_, ?_, ?_⟩
  · rw [e]
    intro z hz
    rcases List.mem_append.1 hz with hz | hz
    · exact h.fit z hz
    · simp at hz; subst hz; exact hx
  · rw [e, flat_snoc, List.length_append, fld_len, ← h.len]; omega
  · rw [e, flat_snoc, List.append_assoc, ← hd]; exact h.whole
theorem SplitAt.done {l : List UInt8} {p : Nat} {ys : List El} (h : SplitAt l p ys) (hp : ¬ p < l.length) (hl : l.length ≤ 16384) : splitM l = (byts ys, 0) := by
  have e : l = flat (byts ys) := by
    have := h.whole
    rw [List.drop_eq_nil_of_le (by omega), List.append_nil] at this
    exact this
  have hl' : (flat (byts ys)).length ≤ 16384 := by rw [← e]; exact hl
  rw [e]
  exact splitM_flat h.fit hl'
theorem SplitAt.stuck {l : List UInt8} {p : Nat} {ys : List El} (h : SplitAt l p ys) (hp : p < l.length) (hl : l.length ≤ 16384) (hno : ∀ x r, x.length ≤ 65535 → l.drop p ≠ fld x ++ r) : splitM l = ([], 10) := by
  refine splitM_no hl fun L hL e => ?_
  refine no_flat (byts ys) (l.drop p) h.fit (fun e0 => ?_) hno L hL (h.whole ▸ e)
  have := congrArg List.length e0
  rw [List.length_drop] at this
  simp at this
  omega

set_option maxHeartbeats 2000000 in
theorem refSplit_any (A : Option Addr) (c : Nat) (l : List UInt8) (w : World) (hr : Rd w w.heap.size A c l) (hl : l.length ≤ 200000) :
    Calls Tryd.prog 51 #[.slice A l.length c] w (ListErr w (splitM l)) := by
  by_cases hbig : 16384 < l.length
  · rw [splitM_big hbig]
    have hi : (16384 : Int) < l.length := by omega
    go_enter Tryd.func51, Tryd.ntmps51
    go_wp2_with fail
    go_ret2
    exact ⟨none, 0, [], rfl, rfl, OwnL.nil _ _, Below.refl _ _⟩
  have hi : ¬ (16384 : Int) < l.length := by omega
  have hle : l.length ≤ 16384 := by omega
  go_enter Tryd.func51, Tryd.ntmps51
  go_wp2_with fail
  go_loopw [4, 5] (fun v i wr => ∃ p : Nat, ∃ A' c' ys, i = .int .i64 p ∧ v = .slice A' ys.length c' ∧ SplitAt l p ys ∧ OwnL wr w.heap.size A' c' ys ∧ Below w.heap.size w wr) (fun _ i _ => l.length - (intOf i).toNat)
  case atStart => exact ⟨0, none, 0, [], rfl, rfl, SplitAt.start l, OwnL.nil _ _, Below.refl _ _⟩
  case round =>
    obtain ⟨p, A1, c1, ys, rfl, rfl, hsp, hown1, hb1⟩ := hrel
    have hs1 := hb1.size
    have hple := hsp.le
    have hcnt := hsp.count
    by_cases hlt : p < l.length
    · have hT := refTakeField_any A c l p wr ((hr.below hb1).more hs1) hl (by omega) (by omega)
      rcases takeFieldM_spec l p hple with ⟨x, hx, hxl, hq, hd⟩ | ⟨hq, hno⟩
      · rw [hq] at hT
        have HT := Lib.hid hT
        have HD := Lib.hid hd
        clear hT hd hq
        go_wp2_with fail
        refine HT.out.mono ?_
        rintro e w2 ⟨A2, c2, r2, rfl, hr2, hown2, hb2⟩
        obtain rfl : r2 = x := hr2
        have hs2 := hb2.size
        have hown1' := hown1.below (Nat.le_refl _) hb2
        have hx2 := hown2.lower hs1
        obtain ⟨X, hX⟩ : ∃ X : El, X = ⟨A2, c2, r2⟩ := ⟨_, rfl⟩
        go_wp2_with (at_builtin; refine wpList_append_el w2 rfl _ _ rfl w.heap.size ys ⟨A2, c2, r2⟩ rfl rfl hown1' hx2 (by omega) (by omega) ?_; intro A3 c3 w3 zs hzs hown3 hg3 hb3)
        have hst := hsp.step (x := ⟨A2, c2, r2⟩) hx HD.out
        have hzs' : zs = ys ++ [⟨A2, c2, r2⟩] := hzs.out
        rw [← hzs'] at hst
        have hbn : Below w.heap.size w w3 := ((hb1.trans (hb2.mono hs1)).alloc (by omega) _).trans (below_of_grown hg3 (by simp; omega) (fun g hg => (hown1.blk_ge g hg).1))
        clear hzs'
        go_roundw
        case rel => exact ⟨p + 2 + r2.length, A3, c3, zs, by go_num, rfl, hst, hown3, hbn⟩
        case measure => simp [intOf]; omega
      · rw [hq] at hT
        have HT := Lib.hid hT
        have hq2 := hsp.stuck hlt hle hno
        have HQ := Lib.hid hq2
        clear hT hq hno hq2
        go_wp2_with fail
        refine HT.out.mono ?_
        rintro e w2 ⟨A2, c2, r2, rfl, hr2, hown2, hb2⟩
        go_wp2_with fail
        go_ret2
        rw [HQ.out]
        exact ⟨none, 0, [], rfl, rfl, OwnL.nil _ _, hb1.trans (hb2.mono hs1)⟩
    · have hq2 := hsp.done hlt hle
      have HQ := Lib.hid hq2
      clear hq2
      go_wp2_with fail
      go_ret2
      rw [HQ.out]
      exact ⟨A1, c1, ys, rfl, rfl, hown1, hb1⟩
end Go.Proofs.YtikhffdbjelanaaDoor.Oc
