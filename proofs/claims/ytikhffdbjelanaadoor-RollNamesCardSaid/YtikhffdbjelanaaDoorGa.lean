/- SHA-256 over lists of words and bytes: rotations, the schedule, turns, compressing, padding, the fold over blocks. No program is named here. Rows of one-cell values in memory: what a slice reads as, what the call owns, append; strings as lists of bytes. Most of it names no program. -/
import Derived.WalkKit
import Derived.WalkSpells
import Derived.WalkLawsBesides
import Derived.Deep.AppendLies
import Derived.Deep.Draws
import Derived.Laws.BytesArg
import Derived.Laws.IdiomStrings
import Derived.Laws.OwnMore
import Derived.Lib.AppendStr
import Derived.Lib.Hide
import Derived.OpenShut
import Derived.OwnWalkIn
namespace Go.Proofs.YtikhffdbjelanaaDoor
open Go.RowKit
set_option linter.unusedVariables false
set_option linter.unusedSimpArgs false

theorem u32_lt (x : UInt32) : x.toNat < 4294967296 := x.toNat_lt
theorem u32_of (n : Nat) (h : n < 4294967296) : (UInt32.ofNat n).toNat = n := by rw [UInt32.toNat_ofNat']; exact Nat.mod_eq_of_lt h
theorem u32_mod (n : Nat) : (UInt32.ofNat n).toNat = n % 4294967296 := UInt32.toNat_ofNat'
theorem u32_eq {x y : UInt32} (h : x.toNat = y.toNat) : x = y := UInt32.toNat_inj.1 h
theorem u8_lt (x : UInt8) : x.toNat < 256 := x.toNat_lt
theorem u8_mod (n : Nat) : (UInt8.ofNat n).toNat = n % 256 := UInt8.toNat_ofNat'

/-- The rotation to the right. -/
def rot (x : UInt32) (n : Nat) : UInt32 := UInt32.ofNat (x.toNat / 2 ^ n ||| x.toNat * 2 ^ (32 - n) % 4294967296)
def shr (x : UInt32) (n : Nat) : UInt32 := UInt32.ofNat (x.toNat / 2 ^ n)
def sg0 (x : UInt32) : UInt32 := rot x 7 ^^^ rot x 18 ^^^ shr x 3
def sg1 (x : UInt32) : UInt32 := rot x 17 ^^^ rot x 19 ^^^ shr x 10
def bs0 (a : UInt32) : UInt32 := rot a 2 ^^^ rot a 13 ^^^ rot a 22
def bs1 (e : UInt32) : UInt32 := rot e 6 ^^^ rot e 11 ^^^ rot e 25
def chX (e f g : UInt32) : UInt32 := (e &&& f) ^^^ (~~~e &&& g)
def chO (e f g : UInt32) : UInt32 := (e &&& f) ||| (~~~e &&& g)
def mjX (a b c : UInt32) : UInt32 := (a &&& b) ^^^ (a &&& c) ^^^ (b &&& c)
def mjO (a b c : UInt32) : UInt32 := (a &&& b) ||| (a &&& c) ||| (b &&& c)
theorem ch_eq (e f g : UInt32) : chO e f g = chX e f g := by
  unfold chO chX
  apply UInt32.eq_of_toBitVec_eq
  simp only [UInt32.toBitVec_or, UInt32.toBitVec_xor, UInt32.toBitVec_and, UInt32.toBitVec_not]
  ext i hi
  simp only [BitVec.getElem_or, BitVec.getElem_xor, BitVec.getElem_and, BitVec.getElem_not]
  cases e.toBitVec[i] <;> cases f.toBitVec[i] <;> cases g.toBitVec[i] <;> rfl
theorem mj_eq (a b c : UInt32) : mjO a b c = mjX a b c := by
  unfold mjO mjX
  apply UInt32.eq_of_toBitVec_eq
  simp only [UInt32.toBitVec_or, UInt32.toBitVec_xor, UInt32.toBitVec_and]
  ext i hi
  simp only [BitVec.getElem_or, BitVec.getElem_xor, BitVec.getElem_and]
  cases a.toBitVec[i] <;> cases b.toBitVec[i] <;> cases c.toBitVec[i] <;> rfl

/-- A turn, n the constant and the word together. -/
def turn : List UInt32 → UInt32 → List UInt32
  | [a, b, c, d, e, f, g, h], n => [h + bs1 e + chX e f g + n + (bs0 a + mjX a b c), a, b, c, d + (h + bs1 e + chX e f g + n), e, f, g]
  | l, _ => l
theorem len8 {l : List UInt32} (h : l.length = 8) : ∃ a b c d e f g i, l = [a, b, c, d, e, f, g, i] := by
  rcases l with _ | ⟨a, _ | ⟨b, _ | ⟨c, _ | ⟨d, _ | ⟨e, _ | ⟨f, _ | ⟨g, _ | ⟨i, _ | ⟨j, l⟩⟩⟩⟩⟩⟩⟩⟩⟩ <;> simp at h
  exact ⟨_, _, _, _, _, _, _, _, rfl⟩
theorem turn_len {l : List UInt32} (n : UInt32) (h : l.length = 8) : (turn l n).length = 8 := by
  obtain ⟨a, b, c, d, e, f, g, i, rfl⟩ := len8 h
  rfl

/-- The constants. -/
def kk : List UInt32 := [
  0x428a2f98, 0x71374491, 0xb5c0fbcf, 0xe9b5dba5, 0x3956c25b, 0x59f111f1, 0x923f82a4, 0xab1c5ed5,
  0xd807aa98, 0x12835b01, 0x243185be, 0x550c7dc3, 0x72be5d74, 0x80deb1fe, 0x9bdc06a7, 0xc19bf174,
  0xe49b69c1, 0xefbe4786, 0x0fc19dc6, 0x240ca1cc, 0x2de92c6f, 0x4a7484aa, 0x5cb0a9dc, 0x76f988da,
  0x983e5152, 0xa831c66d, 0xb00327c8, 0xbf597fc7, 0xc6e00bf3, 0xd5a79147, 0x06ca6351, 0x14292967,
  0x27b70a85, 0x2e1b2138, 0x4d2c6dfc, 0x53380d13, 0x650a7354, 0x766a0abb, 0x81c2c92e, 0x92722c85,
  0xa2bfe8a1, 0xa81a664b, 0xc24b8b70, 0xc76c51a3, 0xd192e819, 0xd6990624, 0xf40e3585, 0x106aa070,
  0x19a4c116, 0x1e376c08, 0x2748774c, 0x34b0bcb5, 0x391c0cb3, 0x4ed8aa4a, 0x5b9cca4f, 0x682e6ff3,
  0x748f82ee, 0x78a5636f, 0x84c87814, 0x8cc70208, 0x90befffa, 0xa4506ceb, 0xbef9a3f7, 0xc67178f2]
def start : List UInt32 := [0x6a09e667, 0xbb67ae85, 0x3c6ef372, 0xa54ff53a, 0x510e527f, 0x9b05688c, 0x1f83d9ab, 0x5be0cd19]
theorem kk_len : kk.length = 64 := rfl
theorem start_len : start.length = 8 := rfl

/-- The number that bytes say, the most significant one first. -/
def num (l : List UInt8) : Nat := l.foldl (fun n b => n * 256 + b.toNat) 0
theorem num_snoc (l : List UInt8) (b : UInt8) : num (l ++ [b]) = num l * 256 + b.toNat := by simp [num]
theorem num_lt_aux : ∀ (l : List UInt8) (n : Nat), l.foldl (fun n b => n * 256 + b.toNat) n < (n + 1) * 256 ^ l.length
  | [], n => by simp
  | b :: l, n => by
    have h := num_lt_aux l (n * 256 + b.toNat)
    have hb := u8_lt b
    rw [List.foldl_cons, List.length_cons, Nat.pow_succ]
    refine Nat.lt_of_lt_of_le h ?_
    rw [Nat.mul_comm (256 ^ l.length), ← Nat.mul_assoc]
    exact Nat.mul_le_mul_right _ (by omega)
theorem num_lt (l : List UInt8) : num l < 256 ^ l.length := by have := num_lt_aux l 0; simpa [num] using this
theorem num_four (a b c d : UInt8) : num [a, b, c, d] = ((a.toNat * 256 + b.toNat) * 256 + c.toNat) * 256 + d.toNat := by simp [num]
/-- A piece of a list. -/
def seg {α : Type} (l : List α) (o n : Nat) : List α := (l.drop o).take n
theorem seg_len {α : Type} {l : List α} {o n : Nat} (h : o + n ≤ l.length) : (seg l o n).length = n := by
  unfold seg
  rw [List.length_take, List.length_drop]; omega
theorem seg_get {α : Type} {l : List α} {o n j : Nat} (h : o + n ≤ l.length) (hj : j < n) : (seg l o n)[j]'(by rw [seg_len h]; exact hj) = l[o + j] := by
  unfold seg
  simp
theorem seg_take {α : Type} (l : List α) (n : Nat) : seg l 0 n = l.take n := rfl
theorem seg_all {α : Type} (l : List α) : seg l 0 l.length = l := by unfold seg; simp
theorem seg_seg {α : Type} (l : List α) (o n p m : Nat) (h : p + m ≤ n) : seg (seg l o n) p m = seg l (o + p) m := by
  unfold seg
  rw [List.drop_take, List.take_take, List.drop_drop, Nat.min_eq_left (by omega)]
theorem seg_four {l : List UInt8} {i : Nat} (h : i + 4 ≤ l.length) : seg l i 4 = [l[i], l[i + 1], l[i + 2], l[i + 3]] := by
  apply List.ext_getElem (by rw [seg_len h]; rfl)
  intro j h1 h2
  rw [seg_len h] at h1
  rw [seg_get h h1]
  have : j = 0 ∨ j = 1 ∨ j = 2 ∨ j = 3 := by omega
  rcases this with rfl | rfl | rfl | rfl <;> rfl
/-- The word at byte i. -/
def wordAt (l : List UInt8) (i : Nat) : UInt32 := UInt32.ofNat (num (seg l i 4))
theorem wordAt_toNat (l : List UInt8) (i : Nat) : (wordAt l i).toNat = num (seg l i 4) := by
  unfold wordAt
  refine u32_of _ (Nat.lt_of_lt_of_le (num_lt _) ?_)
  have : (seg l i 4).length ≤ 4 := by unfold seg; rw [List.length_take]; omega
  exact Nat.le_trans (Nat.pow_le_pow_right (by decide) this) (by decide)
theorem wordAt_seg (l : List UInt8) (o n p : Nat) (h : p + 4 ≤ n) : wordAt (seg l o n) p = wordAt l (o + p) := by
  unfold wordAt
  rw [seg_seg _ _ _ _ _ h]
/-- The word behind m, of the schedule. -/
def nextW (m : List UInt32) (t : Nat) : UInt32 := m.getD (t - 16) 0 + sg0 (m.getD (t - 15) 0) + m.getD (t - 7) 0 + sg1 (m.getD (t - 2) 0)
/-- The first t words of the schedule of a block. -/
def sched (l : List UInt8) : Nat → List UInt32
  | 0 => []
  | t + 1 => sched l t ++ [if t < 16 then wordAt l (4 * t) else nextW (sched l t) t]
theorem sched_len (l : List UInt8) : ∀ t, (sched l t).length = t
  | 0 => rfl
  | t + 1 => by simp [sched, sched_len l t]
theorem sched_take (l : List UInt8) {s t : Nat} (h : s ≤ t) : (sched l t).take s = sched l s := by
  induction t with
  | zero => have : s = 0 := by omega
            subst this; rfl
  | succ t ih =>
    by_cases hs : s ≤ t
    · rw [sched, List.take_append_of_le_length (by rw [sched_len]; exact hs), ih hs]
    · have : s = t + 1 := by omega
      subst this
      rw [List.take_of_length_le (by rw [sched_len]; omega)]
theorem sched_getD (l : List UInt8) {s t : Nat} (h : s < t) : (sched l t).getD s 0 = (sched l (s + 1)).getD s 0 := by
  have e := sched_take l (s := s + 1) (t := t) (by omega)
  rw [← e]
  simp [List.getD]

/-- The state after the first t turns. -/
def turns (w : List UInt32) (v : List UInt32) : Nat → List UInt32
  | 0 => v
  | t + 1 => turn (turns w v t) (kk.getD t 0 + w.getD t 0)
theorem turns_len (w : List UInt32) {v : List UInt32} (h : v.length = 8) : ∀ t, (turns w v t).length = 8
  | 0 => h
  | t + 1 => turn_len _ (turns_len w h t)
def comp (s : List UInt32) (l : List UInt8) : List UInt32 := List.zipWith (· + ·) (turns (sched l 64) s 64) s
theorem comp_len {s : List UInt32} (l : List UInt8) (h : s.length = 8) : (comp s l).length = 8 := by
  unfold comp
  rw [List.length_zipWith, turns_len _ h, h]; rfl

/-- The state after j blocks. -/
def stA (s : List UInt32) (p : List UInt8) : Nat → List UInt32
  | 0 => s
  | j + 1 => comp (stA s p j) (seg p (64 * j) 64)
theorem stA_len {s : List UInt32} (p : List UInt8) (h : s.length = 8) : ∀ j, (stA s p j).length = 8
  | 0 => h
  | j + 1 => comp_len _ (stA_len p h j)
/-- The states of a front of whole blocks are those of the front alone; the rest goes on from there. -/
theorem stA_front (s : List UInt32) (p q : List UInt8) : ∀ j, 64 * j ≤ p.length → stA s (p ++ q) j = stA s p j
  | 0, _ => rfl
  | j + 1, h => by
    rw [stA, stA, stA_front s p q j (by omega)]
    congr 1
    unfold seg
    rw [List.drop_append_of_le_length (by omega), List.take_append_of_le_length (by rw [List.length_drop]; omega)]
theorem stA_rest (s : List UInt32) (p q : List UInt8) (n : Nat) (hn : p.length = 64 * n) : ∀ j, stA s (p ++ q) (n + j) = stA (stA s p n) q j
  | 0 => stA_front s p q n (by omega)
  | j + 1 => by
    rw [← Nat.add_assoc, stA, stA, stA_rest s p q n hn j]
    congr 1
    unfold seg
    rw [show 64 * (n + j) = p.length + 64 * j by omega, List.drop_append, List.drop_of_length_le (by omega), List.nil_append, Nat.add_sub_cancel_left]

/-- The bytes of a number, the most significant one first. -/
def beN (k n : Nat) : List UInt8 := (List.range k).map fun i => UInt8.ofNat (n / 2 ^ (8 * (k - 1 - i)))
theorem beN_len (k n : Nat) : (beN k n).length = k := by simp [beN]
theorem beN_get (k n : Nat) {i : Nat} (h : i < k) : (beN k n)[i]'(by rw [beN_len]; exact h) = UInt8.ofNat (n / 2 ^ (8 * (k - 1 - i))) := by simp [beN]
/-- The bytes of words. -/
def bytesOf : List UInt32 → List UInt8
  | [] => []
  | x :: l => beN 4 x.toNat ++ bytesOf l
theorem bytesOf_len : ∀ l, (bytesOf l).length = 4 * l.length
  | [] => rfl
  | x :: l => by rw [bytesOf, List.length_append, beN_len, bytesOf_len l, List.length_cons]; omega
theorem bytesOf_append : ∀ l m, bytesOf (l ++ m) = bytesOf l ++ bytesOf m
  | [], m => rfl
  | x :: l, m => by rw [List.cons_append, bytesOf, bytesOf, bytesOf_append l m, List.append_assoc]
/-- The number of zeros of the padding. -/
def zlen (n : Nat) : Nat := (119 - n % 64) % 64
def padB (b : List UInt8) : List UInt8 := b ++ (128 :: (List.replicate (zlen b.length) 0 ++ beN 8 (8 * b.length)))
theorem padB_len (b : List UInt8) : (padB b).length = (b.length + 72) / 64 * 64 := by
  unfold padB zlen
  simp only [List.length_append, List.length_cons, List.length_replicate, beN_len]
  omega
def blocksN (b : List UInt8) : Nat := (b.length + 72) / 64
def dig (b : List UInt8) : List UInt8 := bytesOf (stA start (padB b) (blocksN b))
theorem dig_len (b : List UInt8) : (dig b).length = 32 := by
  unfold dig
  rw [bytesOf_len, stA_len _ start_len]
/-- m in the place of what stood at o. -/
def put {α : Type} (L : List α) (o : Nat) (m : List α) : List α := L.take o ++ (m ++ L.drop (o + m.length))
theorem put_len {α : Type} {L m : List α} {o : Nat} (h : o + m.length ≤ L.length) : (put L o m).length = L.length := by
  unfold put
  simp only [List.length_append, List.length_take, List.length_drop]; omega
theorem put_nil {α : Type} (L : List α) (o : Nat) : put L o [] = L := by unfold put; simp
theorem put_step {α : Type} {L m : List α} {o i : Nat} (h : o + m.length ≤ L.length) (hi : i < m.length) : (put L o (m.take i)).set (o + i) m[i] = put L o (m.take (i + 1)) := by
  unfold put
  have h1 : (L.take o).length = o := by rw [List.length_take]; omega
  have h2 : (m.take i).length = i := by rw [List.length_take]; omega
  have h3 : (m.take (i + 1)).length = i + 1 := by rw [List.length_take]; omega
  rw [List.set_append_right (h := by omega), List.set_append_right (h := by omega), h1, h2, h3, List.take_succ_eq_append_getElem hi, List.append_assoc]
  congr 2
  rw [show o + i - o - i = 0 by omega, List.drop_eq_getElem_cons (show o + i < L.length by omega), List.set_cons_zero, Nat.add_assoc]
  rfl
end Go.Proofs.YtikhffdbjelanaaDoor
namespace Go.Proofs.YtikhffdbjelanaaDoor
open Go.RowKit
set_option linter.unusedVariables false

theorem add_block (a : Addr) (n : Nat) : (a.add n).block = a.block := by unfold Addr.add; split <;> rfl
theorem add_plain (g o j : Nat) : (⟨g, o, none⟩ : Addr).add j = ⟨g, o + j, none⟩ := by unfold Addr.add; split <;> simp_all

/-- The slice '.slice A xs.length c' reads as the values f x of the list xs, below block B. -/
structure Rf {α : Type} (f : α → Value) (w : World) (B : Nat) (A : Option Addr) (c : Nat) (xs : List α) : Prop where
  cap : xs.length ≤ c
  capm : c ≤ maxLen
  nil : A = none → c = 0
  cell : ∀ ad, A = some ad → ∀ j (h : j < xs.length), ad.block < B ∧ w.cell? (ad.add j) = some (f xs[j])

section
variable {α : Type} {f : α → Value} {w w' : World} {B B' c : Nat} {A : Option Addr} {xs : List α}
theorem Rf.empty (w : World) (B : Nat) : Rf f w B none 0 [] := ⟨Nat.le_refl _, by simp [maxLen], fun _ => rfl, fun _ h => by cases h⟩
theorem Rf.keep (h : Rf f w B A c xs) (hk : ∀ p : Addr, p.block < B → w'.cell? p = w.cell? p) : Rf f w' B A c xs :=
  ⟨h.cap, h.capm, h.nil, fun ad e j hj => ⟨(h.cell ad e j hj).1, (hk _ (by rw [add_block]; exact (h.cell ad e j hj).1)).trans (h.cell ad e j hj).2⟩⟩
theorem Rf.more (h : Rf f w B A c xs) (hB : B ≤ B') : Rf f w B' A c xs :=
  ⟨h.cap, h.capm, h.nil, fun ad e j hj => ⟨Nat.lt_of_lt_of_le (h.cell ad e j hj).1 hB, (h.cell ad e j hj).2⟩⟩
theorem Rf.below (h : Rf f w B A c xs) (hb : Below B w w') : Rf f w' B A c xs := h.keep fun _ hp => hb.cell hp
theorem Rf.alloc (h : Rf f w B A c xs) (hB : B ≤ w.heap.size) (o : Obj) : Rf f (w.alloc o) B A c xs := h.keep fun p hp => World.cell?_alloc_lt w o p (by omega)
theorem Rf.drew (h : Rf f w B A c xs) : Rf f w.drew B A c xs := h.keep fun _ _ => rfl
theorem Rf.drewN (h : Rf f w B A c xs) (k : Nat) : Rf f (w.drewN k) B A c xs := h.keep fun _ _ => rfl
theorem Rf.at_ (h : Rf f w B A c xs) {k : Nat} (hk : k < xs.length) : ∃ b o, A = some ⟨b, o, none⟩ ∧ b < B ∧ ∀ j (hj : j < xs.length), w.cell? ⟨b, o + j, none⟩ = some (f xs[j]) := by
  have hA : A ≠ none := fun e => by have := h.nil e; have := h.cap; omega
  obtain ⟨ad, rfl⟩ := Option.ne_none_iff_exists'.1 hA
  have hc := h.cell ad rfl
  have hb := (hc 0 (by omega)).1
  obtain ⟨b, o, s⟩ := ad
  have h0 := (hc 0 (by omega)).2
  have hs : s = none := by
    have := World.cell?_spot h0
    simpa [Addr.add] using this
  subst hs
  refine ⟨b, o, rfl, hb, fun j hj => ?_⟩
  have := (hc j hj).2
  rwa [add_plain] at this
theorem Rf.news {ad : Addr} (h : Rf f w B (some ad) c xs) : ∀ j u, (xs.map f)[j]? = some u → w.cell? (ad.add j) = some u := by
  intro j u hu
  have hj : j < xs.length := by
    have := (List.getElem?_eq_some_iff.1 hu).1
    simpa using this
  have e : u = f xs[j] := by simp [hj] at hu; exact hu.symm
  rw [e]
  exact (h.cell ad rfl j hj).2
end

/-- The block of an address. -/
def blk (A : Option Addr) : Option Nat := A.map (·.block)
theorem own_block (A : Option Addr) (n c : Nat) : (Value.slice A n c).ownBlock = blk A := by cases A <;> rfl

/-- The slice holds the values f x, in a block from 'base' on that the call made itself (or it is nil). e: the number of the element's type. -/
def Ow {α : Type} (f : α → Value) (w : World) (base e : Nat) (A : Option Addr) (c : Nat) (xs : List α) : Prop :=
  w.ownsRow base e 1 (.slice A xs.length c) xs.length (xs.map f)

section
variable {α : Type} {f : α → Value} {w w' : World} {base e c : Nat} {A : Option Addr} {xs : List α}
theorem Ow.nil (w : World) (base e : Nat) : Ow f w base e none 0 [] := World.ownsRow_nil w base e 1
theorem Ow.form (h : Ow f w base e A c xs) : (A = none ∧ c = 0 ∧ xs = []) ∨ ∃ g, A = some ⟨g, 0, none⟩ ∧ base ≤ g ∧ g < w.heap.size ∧ xs.length ≤ c ∧ c ≤ maxLen := by
  rcases h.2 with ⟨hv, hn⟩ | ⟨g, cap, cur, hv, hb, hg, hnc, hcm, _⟩
  · simp only [Value.slice.injEq] at hv
    exact .inl ⟨hv.1, hv.2.2, List.eq_nil_of_length_eq_zero hn⟩
  · simp only [Value.slice.injEq] at hv
    obtain ⟨rfl, _, rfl⟩ := hv
    exact .inr ⟨g, rfl, hb, (Array.getElem?_eq_some_iff.1 hg).1, hnc, hcm⟩
theorem Ow.rd (h : Ow f w base e A c xs) : Rf f w w.heap.size A c xs := by
  rcases h.form with ⟨rfl, rfl, rfl⟩ | ⟨g, rfl, hb, hg, hc, hm⟩
  · exact Rf.empty w _
  · refine ⟨hc, hm, (fun e => by cases e), fun ad e j hj => ?_⟩
    obtain rfl := Option.some.inj e
    exact ⟨hg, World.ownsRow.cells h (g := g) rfl j _ (by simp [hj])⟩
theorem Ow.blk_ge (h : Ow f w base e A c xs) : ∀ k, blk A = some k → base ≤ k ∧ k < w.heap.size := by
  intro k hk
  exact World.ownsRow.lt h k (by rw [own_block]; exact hk)
theorem Ow.kept (h : Ow f w base e A c xs) {row : Option Nat} (hg : w.grownBy w' row) (hne : blk A = none ∨ blk A ≠ row) : Ow f w' base e A c xs :=
  World.ownsRow.kept h hg (by rw [own_block]; exact hne)
theorem Ow.alloc (h : Ow f w base e A c xs) (o : Obj) : Ow f (w.alloc o) base e A c xs := World.ownsRow.alloc h o
theorem Ow.drew (h : Ow f w base e A c xs) : Ow f w.drew base e A c xs := h
theorem Ow.drewN (h : Ow f w base e A c xs) (k : Nat) : Ow f (w.drewN k) base e A c xs := h
theorem Ow.lower (h : Ow f w base e A c xs) {b : Nat} (hb : b ≤ base) : Ow f w b e A c xs := by
  refine ⟨h.1, ?_⟩
  rcases h.2 with hn | ⟨g, cap, cur, hv, hbg, r⟩
  · exact .inl hn
  · exact .inr ⟨g, cap, cur, hv, Nat.le_trans hb hbg, r⟩
/-- What is owned stays so where all blocks below B are as they were and it lies below B. -/
theorem Ow.below (h : Ow f w base e A c xs) {B : Nat} (hB : w.heap.size ≤ B) (hb : Below B w w') : Ow f w' base e A c xs :=
  h.kept (row := none) ⟨hb.os, hb.tape, hb.output, hb.size, fun k hk _ => hb.block k (Nat.lt_of_lt_of_le hk hB)⟩ (by cases blk A <;> simp)
end

theorem grown_of_below {a w : World} {B : Nat} (h : Below B a w) (hB : a.heap.size ≤ B) (row : Option Nat) : a.grownBy w row := ⟨h.os, h.tape, h.output, h.size, fun i hi _ => h.block i (Nat.lt_of_lt_of_le hi hB)⟩
theorem below_of_grown {a w : World} {row : Option Nat} (h : a.grownBy w row) {B : Nat} (hB : B ≤ a.heap.size) (hr : ∀ k, row = some k → B ≤ k) : Below B a w := (Below.refl B a).grown h hB hr
theorem below_drewN (B : Nat) (w : World) (n : Nat) : Below B w (w.drewN n) := ⟨rfl, rfl, rfl, Nat.le_refl _, fun _ _ => rfl⟩
theorem below_new (w : World) (o : Obj) : Below w.heap.size w (w.alloc o) := (Below.refl _ w).alloc (Nat.le_refl _) o

section
variable {P : Program} (w : World)

/-- 'append(s, x...)': s is owned, x is read. -/
theorem run_append_f {α : Type} {f : α → Value} (hf : ∀ x, (f x).oneCell' = true) (base e bt : Nat) (t ty : TypeId) (i : TypeInfo) (z : Value) (ht : P.underlying t = some (.slice e)) (hi : P.info? e = some i) (hz : i.zero = some z) (hsize : i.size = 1) (hby : i.bytes = bt) (hbt : bt ≤ 24) (hzs : z.cells.size = 1)
    {A A2 : Option Addr} {c c2 B : Nat} {l m : List α} (hown : Ow f w base e A c l) (hr : Rf f w B A2 c2 m) (hle : l.length + m.length ≤ 4000000000) (hbase : base ≤ w.heap.size) :
    ∃ A' c' w', (Builtin.append_ #[t, t] ty #[.slice A l.length c, .slice A2 m.length c2]).run P w = .ok (.slice A' (l ++ m).length c') w' ∧ Ow f w' base e A' c' (l ++ m) ∧ w.grownBy w' (blk A) ∧
      (blk A' = blk A ∨ blk A' = some w.heap.size) := by
  cases A2 with
  | some ad =>
    obtain ⟨v', w', hrun, h2, h3, _, h5⟩ := run_append_own_at (P := P) w base t ty e i z 1 bt ht hi hz hsize hby hzs (by omega) _ _ _ hown ad m.length c2 (m.map f) (by simp) hr.news (by intro u hu; obtain ⟨x, _, rfl⟩ := List.mem_map.1 hu; exact hf x)
      (by simp only [maxLen]; omega) (by have := Nat.mul_le_mul hle hbt; omega) hbase
    rw [← List.map_append, ← List.length_append] at h2
    have hform : ∃ A' c', v' = .slice A' (l ++ m).length c' := by
      rcases h2.2 with ⟨rfl, hn⟩ | ⟨g, cap, cur, rfl, _⟩
      · exact ⟨none, 0, by rw [hn]⟩
      · exact ⟨_, _, rfl⟩
    obtain ⟨A', c', rfl⟩ := hform
    refine ⟨A', c', w', hrun, h2, by rw [own_block] at h3; exact h3, ?_⟩
    rw [own_block, own_block] at h5
    exact h5
  | none =>
    have hc2 := hr.nil rfl
    have hm : m = [] := List.eq_nil_of_length_eq_zero (by have := hr.cap; omega)
    subst hm
    subst hc2
    refine ⟨A, c, w, ?_, by simpa using hown, World.grownBy.refl w _, .inl rfl⟩
    have := run_append_owned_none (P := P) w base t ty e i 1 ht hi _ _ _ hown
    simpa using this

/-- The same, for the walk. -/
theorem wpList_append_f {α : Type} {f : α → Value} (hf : ∀ x, (f x).oneCell' = true) {ops : Array Oper} {rest : List Oper} {o : Oper} {a : Act} {Q : Exit → Act → World → Prop} (hgd : o.guard = none) (s x : Operand) (t : TypeId)
    (ho : o.op = .call { callee := .builtin .append, args := #[s, x], argTypes := #[t, t] })
    (base e bt : Nat) (i : TypeInfo) (z : Value) (ht : P.underlying t = some (.slice e)) (hi : P.info? e = some i) (hz : i.zero = some z) (hsize : i.size = 1) (hby : i.bytes = bt) (hbt : bt ≤ 24) (hzs : z.cells.size = 1)
    {A A2 : Option Addr} {c c2 B : Nat} (l m : List α) (hs : a.eval s = .slice A l.length c) (hx : a.eval x = .slice A2 m.length c2) (hown : Ow f w base e A c l) (hr : Rf f w B A2 c2 m)
    (hle : l.length + m.length ≤ 4000000000) (hbase : base ≤ w.heap.size)
    (h : ∀ A' c' w' r, Hid (r = l ++ m) → Ow f w' base e A' c' r → w.grownBy w' (blk A) → (blk A' = blk A ∨ blk A' = some w.heap.size) → wpList P ops Q rest (a.put o.dst (.slice A' r.length c')) w') :
    wpList P ops Q (o :: rest) a w := by
  refine wpList_plain hgd fun K hK => ?_
  obtain ⟨A', c', w', hrun, h2, h3, h4⟩ := run_append_f (P := P) w hf base e bt t o.type i z ht hi hz hsize hby hbt hzs hown hr hle hbase
  unfold Oper.wp execOp
  simp only [ho, resolve, invoke, builtin, Sem.run_bind, Sem.run_pure, Result.andThen_ok, List.map_toArray, List.map_cons, List.map_nil, hs, hx, hrun]
  exact hK _ _ (h A' c' w' _ rfl h2 h3 h4)

/-- The same, in a body that is walked inside a fence. -/
theorem wpListIn_append_f {F : Fence} {n : Nat} {α : Type} {f : α → Value} (hf : ∀ x, (f x).oneCell' = true) {ops : Array Oper} {rest : List Oper} {o : Oper} {a : Act} {Q : Exit → Act → World → Prop} (hgd : o.guard = none) (s x : Operand) (t : TypeId)
    (ho : o.op = .call { callee := .builtin .append, args := #[s, x], argTypes := #[t, t] })
    (base e bt : Nat) (i : TypeInfo) (z : Value) (ht : P.underlying t = some (.slice e)) (hi : P.info? e = some i) (hz : i.zero = some z) (hsize : i.size = 1) (hby : i.bytes = bt) (hbt : bt ≤ 24) (hzs : z.cells.size = 1)
    {A A2 : Option Addr} {c c2 B : Nat} (l m : List α) (hs : a.eval s = .slice A l.length c) (hx : a.eval x = .slice A2 m.length c2) (hown : Ow f w base e A c l) (hr : Rf f w B A2 c2 m)
    (hle : l.length + m.length ≤ 4000000000) (hbase : base ≤ w.heap.size)
    (h : ∀ A' c' w' r, Hid (r = l ++ m) → Ow f w' base e A' c' r → w.grownBy w' (blk A) → (blk A' = blk A ∨ blk A' = some w.heap.size) → wpListIn F n P ops Q rest (a.put o.dst (.slice A' r.length c')) w') :
    wpListIn F n P ops Q (o :: rest) a w := by
  refine wpListIn_plain hgd fun K hK => ?_
  obtain ⟨A', c', w', hrun, h2, h3, h4⟩ := run_append_f (P := P) w hf base e bt t o.type i z ht hi hz hsize hby hbt hzs hown hr hle hbase
  unfold Oper.wpIn
  refine ⟨?_, ?_⟩
  · simp [Oper.about, ho, resolve, Target.leads, Sem.run_pure]
  · rw [Oper.semAt_plain F _ _ (by rw [ho]; intro c hc'; cases hc')]
    simp only [execOp, ho, resolve, invoke, builtin, Sem.run_bind, Sem.run_pure, Result.andThen_ok, List.map_toArray, List.map_cons, List.map_nil, hs, hx, hrun]
    exact hK _ _ (h A' c' w' _ rfl h2 h3 h4)

/-- A one-element literal. -/
theorem rf_one {α : Type} {f : α → Value} (x : α) (e : Nat) : Rf f (w.alloc (.cells #[f x] e)) (w.heap.size + 1) (some ⟨w.heap.size, 0, none⟩) 1 [x] := by
  refine ⟨by simp, by simp [maxLen], (fun e => by cases e), fun ad he j hj => ?_⟩
  obtain rfl := Option.some.inj he
  refine ⟨by simp, ?_⟩
  have hj0 : j = 0 := by simp at hj; omega
  subst hj0
  exact cell_one_new w _ e 0 _ rfl
/-- An empty literal. -/
theorem ow_zero {α : Type} {f : α → Value} (e base : Nat) (hb : base ≤ w.heap.size) : Ow f (w.alloc (.cells #[] e)) base e (some ⟨w.heap.size, 0, none⟩) 0 [] := by
  have := World.ownsRow_lit (base := base) (e := e) (size := 1) w #[] 0 hb (by simp [maxLen]) (by simp)
  exact this
end

/-- Block g is just the cells cs of element type t. -/
def Blk (w : World) (g : Nat) (t : TypeId) (cs : Array Value) : Prop := w.heap[g]? = some (.cells cs t (0, 0))
section
variable {w w' : World} {g : Nat} {t : TypeId} {cs : Array Value}
theorem Blk.lt (h : Blk w g t cs) : g < w.heap.size := by
  rcases Nat.lt_or_ge g w.heap.size with hlt | hge
  · exact hlt
  · unfold Blk at h; rw [Array.getElem?_eq_none hge] at h; cases h
theorem Blk.cell (h : Blk w g t cs) (i : Nat) : w.cell? ⟨g, i, none⟩ = cs[i]? := cell_of_row w g i cs t (0, 0) h
theorem Blk.frozen (h : Blk w g t cs) (i : Nat) : w.frozen? ⟨g, i, none⟩ = false := by
  unfold Blk at h
  simp [World.frozen?, h]
theorem Blk.new (w : World) (t : TypeId) (cs : Array Value) : Blk (w.alloc (.cells cs t)) w.heap.size t cs := heap_alloc_new w _
theorem Blk.drewN (h : Blk w g t cs) (n : Nat) : Blk (w.drewN n) g t cs := h
theorem Blk.alloc (h : Blk w g t cs) (o : Obj) : Blk (w.alloc o) g t cs := (Below.heap_alloc w o g h.lt).trans h
theorem Blk.set_ (h : Blk w g t cs) (i : Nat) (u : Value) : Blk (w.setCell ⟨g, i, none⟩ u) g t (cs.setIfInBounds i u) := by
  unfold Blk at h ⊢
  simp [World.setCell, Array.getElem?_modify, h]
theorem Blk.far (h : Blk w g t cs) {p : Addr} (hp : g ≠ p.block) (u : Value) : Blk (w.setCell p u) g t cs := (Below.heap_setCell w p u g hp).trans h
theorem Blk.below {B : Nat} (h : Blk w g t cs) (hb : Below B w w') (hg : g < B) : Blk w' g t cs := (hb.block g hg).trans h
theorem Blk.grown {row : Option Nat} (h : Blk w g t cs) (hb : w.grownBy w' row) (hg : some g ≠ row) : Blk w' g t cs := (hb.block g h.lt hg).trans h
theorem ow_blk_ne {α : Type} {f : α → Value} {base e c : Nat} {A : Option Addr} {xs : List α} (h : Ow f w base e A c xs) (hg : Blk w g t cs) (hne : e ≠ t) : some g ≠ blk A := by
  rcases h.2 with ⟨hv, _⟩ | ⟨g', cap, cur, hv, _, hh, _⟩
  · simp only [Value.slice.injEq] at hv
    rw [hv.1]
    simp [blk]
  · simp only [Value.slice.injEq] at hv
    rw [hv.1]
    intro he
    have : g = g' := by simpa [blk] using he
    subst this
    unfold Blk at hg
    rw [hh] at hg
    injection hg with h'
    injection h' with _ ht
    exact hne ht
end
theorem grown_set (w : World) (p : Addr) (v : Value) : w.grownBy (w.setCell p v) (some p.block) :=
  ⟨rfl, rfl, rfl, (Below.refl 0 w).setCell (p := p) (Nat.zero_le _) v |>.size, fun k _ hk => Below.heap_setCell _ _ _ k (fun e => hk (by rw [e]))⟩

/-- Strings as lists of bytes. -/
def sv (l : List UInt8) : Value := .string ⟨l.toArray⟩
theorem sv_one (l : List UInt8) : (sv l).oneCell' = true := rfl
/-- Bytes. -/
def bv (b : UInt8) : Value := .int .u8 (b.toNat : Int)
theorem bv_one (b : UInt8) : (bv b).oneCell' = true := rfl
/-- Limbs. -/
def uv (x : UInt32) : Value := .int .u32 (x.toNat : Int)
theorem uv_one (x : UInt32) : (uv x).oneCell' = true := rfl

theorem mk_get (l : List UInt8) (k : Nat) (h : k < (⟨l.toArray⟩ : ByteArray).size) : (⟨l.toArray⟩ : ByteArray)[k] = l[k]'(by simpa [ByteArray.size] using h) := rfl
theorem mk_append (l m : List UInt8) : (⟨l.toArray⟩ : ByteArray) ++ ⟨m.toArray⟩ = ⟨(l ++ m).toArray⟩ := ByteArray.mk_append_mk ..
theorem mk_eta (s : ByteArray) : (⟨s.data.toList.toArray⟩ : ByteArray) = s := by cases s; rfl
theorem mk_extract (l : List UInt8) (a b : Nat) : (⟨l.toArray⟩ : ByteArray).extract a b = ⟨((l.drop a).take (b - a)).toArray⟩ := by
  apply ByteArray.ext
  rw [ByteArray.data_extract]
  apply Array.toList_inj.1
  simp

section
variable {P : Program} (w : World)
/-- 'append(b, s...)' of a string. -/
theorem wpList_append_text {ops : Array Oper} {rest : List Oper} {o : Oper} {a : Act} {Q : Exit → Act → World → Prop} (hgd : o.guard = none) (sl x : Operand) (t u : TypeId)
    (ho : o.op = .call { callee := .builtin .append, args := #[sl, x], argTypes := #[t, u] })
    (base : Nat) (e : TypeId) (i : TypeInfo) (ht : P.underlying t = some (.slice e)) (hu : P.underlying u = some .string) (hi : P.info? e = some i) (hz : i.zero = some (.int .u8 0))
    (hsize : i.size = 1) (hby : i.bytes = 1) {A : Option Addr} {c : Nat} (l m : List UInt8) (hs : a.eval sl = .slice A l.length c) (hx : a.eval x = .string ⟨m.toArray⟩) (hown : Ow bv w base e A c l)
    (hle : l.length + m.length ≤ 4000000000) (hbase : base ≤ w.heap.size)
    (h : ∀ A' c' w' r, Hid (r = l ++ m) → Ow bv w' base e A' c' r → w.grownBy w' (blk A) → wpList P ops Q rest (a.put o.dst (.slice A' r.length c')) w') : wpList P ops Q (o :: rest) a w := by
  refine Lib.wpList_append_own_string w hgd sl x t u ho base e i ht hu hi hz hsize hby _ _ _ hs hown ⟨m.toArray⟩ hx (by simp [ByteArray.size, maxLen]; omega) (by simp [ByteArray.size]; omega) hbase ?_
  intro v' w' h2 h3 _
  have e1 : l.length + (⟨m.toArray⟩ : ByteArray).size = (l ++ m).length := by simp [ByteArray.size]
  have e2 : l.map bv ++ Lib.strCells ⟨m.toArray⟩ = (l ++ m).map bv := by
    rw [List.map_append]
    congr 1
  rw [e1, e2] at h2
  have hform : ∃ A' c', v' = .slice A' (l ++ m).length c' := by
    rcases h2.2 with ⟨rfl, hn⟩ | ⟨g, cap, cur, rfl, _⟩
    · exact ⟨none, 0, by rw [hn]⟩
    · exact ⟨_, _, rfl⟩
  obtain ⟨A', c', rfl⟩ := hform
  rw [own_block] at h3
  exact h A' c' w' _ rfl h2 h3

/-- 'string(b)'. -/
theorem run_string_f (src dst e : TypeId) (hs : P.underlying src = some (.slice e)) (he : P.underlying e = some (.int .u8)) (hd : P.underlying dst = some .string) {B c : Nat} {A : Option Addr} {l : List UInt8} (h : Rf bv w B A c l) :
    (convert src dst (.slice A l.length c)).run P w = .ok (.string ⟨l.toArray⟩) w := by
  cases A with
  | none =>
    have hl : l = [] := List.eq_nil_of_length_eq_zero (by have := h.cap; have := h.nil rfl; omega)
    subst hl
    exact run_convert_bytes_nil w src e hs he _ _ dst hd
  | some ad => exact run_convert_bytes_back w src dst e ad c l hs he hd fun j hj => (h.cell ad rfl j hj).2
end
/-- Block g holds just the values f x of the list L. t: the number of the elements' type. -/
def Hb {α : Type} (f : α → Value) (w : World) (g t : Nat) (L : List α) : Prop := Blk w g t (L.map f).toArray
section
variable {α : Type} {f : α → Value} {w w' : World} {g t : Nat} {L : List α}
theorem Hb.lt (h : Hb f w g t L) : g < w.heap.size := Blk.lt h
theorem Hb.cell (h : Hb f w g t L) {i : Nat} (hi : i < L.length) : w.cell? ⟨g, i, none⟩ = some (f L[i]) := by
  have e := Blk.cell h i
  rw [e]
  simp [hi]
theorem Hb.heap (h : Hb f w g t L) : w.heap[g]? = some (.cells (L.map f).toArray t (0, 0)) := h
theorem Hb.frozen (h : Hb f w g t L) (i : Nat) : w.frozen? ⟨g, i, none⟩ = false := Blk.frozen h i
theorem Hb.set_ (h : Hb f w g t L) (i : Nat) (x : α) (v : Value) (hv : v = f x) : Hb f (w.setCell ⟨g, i, none⟩ v) g t (L.set i x) := by
  subst hv
  have e := Blk.set_ h i (f x)
  unfold Hb
  have e2 : ((L.set i x).map f).toArray = (L.map f).toArray.setIfInBounds i (f x) := by
    rw [List.map_set]; simp
  rw [e2]
  exact e
theorem Hb.drewN (h : Hb f w g t L) (n : Nat) : Hb f (w.drewN n) g t L := h
theorem Hb.drew (h : Hb f w g t L) : Hb f w.drew g t L := h
theorem Hb.alloc (h : Hb f w g t L) (o : Obj) : Hb f (w.alloc o) g t L := Blk.alloc h o
theorem Hb.below {B : Nat} (h : Hb f w g t L) (hb : Below B w w') (hg : g < B) : Hb f w' g t L := Blk.below h hb hg
theorem Hb.grown {row : Option Nat} (h : Hb f w g t L) (hb : w.grownBy w' row) (hg : some g ≠ row) : Hb f w' g t L := Blk.grown h hb hg
theorem Hb.away (h : Hb f w g t L) {p : Addr} (hp : g ≠ p.block) (u : Value) : Hb f (w.setCell p u) g t L := Blk.far h hp u
/-- A piece of it reads as a piece of the list. -/
theorem Hb.rf (h : Hb f w g t L) {o n c : Nat} (hn : o + n ≤ L.length) (hc : n ≤ c) (hm : c ≤ maxLen) : Rf f w w.heap.size (some ⟨g, o, none⟩) c (seg L o n) := by
  refine ⟨by rw [seg_len hn]; exact hc, hm, (fun e => by cases e), fun ad e j hj => ?_⟩
  obtain rfl := Option.some.inj e
  rw [seg_len hn] at hj
  rw [add_plain]
  refine ⟨h.lt, ?_⟩
  rw [h.cell (by omega), seg_get hn hj]
theorem Hb.rf_take (h : Hb f w g t L) {n c : Nat} (hn : n ≤ L.length) (hc : n ≤ c) (hm : c ≤ maxLen) : Rf f w w.heap.size (some ⟨g, 0, none⟩) c (L.take n) := by
  have := h.rf (o := 0) (n := n) (c := c) (by omega) hc hm
  rwa [seg_take] at this
theorem Hb.rf_all (h : Hb f w g t L) {c : Nat} (hc : L.length ≤ c) (hm : c ≤ maxLen) : Rf f w w.heap.size (some ⟨g, 0, none⟩) c L := by
  have := h.rf_take (n := L.length) (c := c) (Nat.le_refl _) hc hm
  rwa [List.take_of_length_le (Nat.le_refl _)] at this
end
/-- A piece of what is read. -/
theorem Rf.piece {α : Type} {f : α → Value} {w : World} {B c b o : Nat} {l : List α} (h : Rf f w B (some ⟨b, o, none⟩) c l) (q k : Nat) (hk : q + k ≤ l.length) : Rf f w B (some ⟨b, o + q, none⟩) (c - q) (seg l q k) := by
  have hcap := h.cap
  have hcm := h.capm
  refine ⟨by rw [seg_len hk]; omega, by omega, (fun e => by cases e), fun ad e j hj => ?_⟩
  obtain rfl := Option.some.inj e
  rw [seg_len hk] at hj
  obtain ⟨h1, h2⟩ := h.cell ⟨b, o, none⟩ rfl (q + j) (by omega)
  refine ⟨h1, ?_⟩
  rw [seg_get hk hj]
  rw [add_plain] at h2 ⊢
  rw [show o + q + j = o + (q + j) by omega]
  exact h2
theorem Rf.grown {α : Type} {f : α → Value} {w w' : World} {B c : Nat} {A : Option Addr} {xs : List α} {row : Option Nat} (h : Rf f w B A c xs) (hg : w.grownBy w' row) (hB : B ≤ w.heap.size) (hne : 0 < xs.length → blk A ≠ row) : Rf f w' B A c xs := by
  refine ⟨h.cap, h.capm, h.nil, fun ad e j hj => ?_⟩
  subst e
  obtain ⟨h1, h2⟩ := h.cell ad rfl j hj
  refine ⟨h1, ?_⟩
  have hb : (ad.add j).block = ad.block := add_block _ _
  rw [World.cell?_of_block (hg.block (ad.add j).block (by omega) (by
    intro e2
    exact hne (by omega) (by rw [← e2, hb]; rfl)))]
  exact h2
theorem Rf.ne {α : Type} {f : α → Value} {w : World} {B c g : Nat} {A : Option Addr} {xs : List α} (h : Rf f w B A c xs) (hB : B ≤ g) : 0 < xs.length → blk A ≠ some g := by
  intro hp e
  obtain ⟨b, o, rfl, hb, _⟩ := h.at_ (k := 0) hp
  have : b = g := by simpa [blk] using e
  omega
theorem grown_refl (w : World) (r : Option Nat) : w.grownBy w r := World.grownBy.refl w r
theorem grown_setCell {a w : World} {g : Nat} (h : a.grownBy w (some g)) (i : Nat) (u : Value) : a.grownBy (w.setCell ⟨g, i, none⟩ u) (some g) := h.trans (grown_set w ⟨g, i, none⟩ u)
theorem grown_drewN {a w : World} {r : Option Nat} (h : a.grownBy w r) (n : Nat) : a.grownBy (w.drewN n) r := ⟨h.os, h.tape, h.output, h.size, h.block⟩
theorem grown_drew {a w : World} {r : Option Nat} (h : a.grownBy w r) : a.grownBy w.drew r := ⟨h.os, h.tape, h.output, h.size, h.block⟩
end Go.Proofs.YtikhffdbjelanaaDoor
