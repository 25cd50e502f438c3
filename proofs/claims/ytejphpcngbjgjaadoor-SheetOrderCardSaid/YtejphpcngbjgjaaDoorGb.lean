/- SHA-256 over lists of words and bytes: rotations, the schedule, turns, compressing, padding, the fold over blocks. No program is named here. Rows of one-cell values in memory: what a slice reads as, what the call owns, append; strings as lists of bytes. Most of it names no program. Contests as lists of bytes: names, rules, validity, the encoding; and what the laws say of them. No program named. Words of rules, and what the laws say of them; contests with one seat, with one candidate more. No program named. Ballots as lists of integers: validity, Keep, Prefers, Same, Less; and what the laws say of them. No program named. Sheets, policies, decisions, readings: pure; what the laws say of them. No program named. A range over a function whose iterator hands out values that lie in new memory: the round is told what its element is in the world ('Mx'). No program is named here. -/
import Derived.WalkKit
import Derived.WalkSpells
import Derived.WalkLawsBesides
import Derived.Deep.AppendLies
import Derived.Deep.Draws
import Derived.Laws.BytesArg
import Derived.Laws.IdiomStrings
import Derived.Laws.OwnMore
import Derived.Lib.AppendStr
import Derived.Lib.Hide
import Derived.OpenShut
import Derived.OwnWalkIn
import Derived.Test.YtejphpcngbjgjaaDoorGa
import Derived.RangeFuncNested
import Derived.RangeFuncCalls
import Derived.RangeFuncLeaves
import Derived.RangeFuncBox
import Derived.Shelf.Abstract
import Derived.Shelf.RegionOpen
import Derived.TacticsInMore
import Derived.LoopNIn
import Derived.LoopIn
namespace Go.Proofs.YtejphpcngbjgjaaDoor
open Go.RowKit
set_option linter.unusedVariables false
set_option linter.unusedSimpArgs false

theorem u32_lt (x : UInt32) : x.toNat < 4294967296 := x.toNat_lt
theorem u32_of (n : Nat) (h : n < 4294967296) : (UInt32.ofNat n).toNat = n := by rw [UInt32.toNat_ofNat']; exact Nat.mod_eq_of_lt h
theorem u32_mod (n : Nat) : (UInt32.ofNat n).toNat = n % 4294967296 := UInt32.toNat_ofNat'
theorem u32_eq {x y : UInt32} (h : x.toNat = y.toNat) : x = y := UInt32.toNat_inj.1 h
theorem u8_lt (x : UInt8) : x.toNat < 256 := x.toNat_lt
theorem u8_mod (n : Nat) : (UInt8.ofNat n).toNat = n % 256 := UInt8.toNat_ofNat'

/-- The rotation to the right. -/
def rot (x : UInt32) (n : Nat) : UInt32 := UInt32.ofNat (x.toNat / 2 ^ n ||| x.toNat * 2 ^ (32 - n) % 4294967296)
def shr (x : UInt32) (n : Nat) : UInt32 := UInt32.ofNat (x.toNat / 2 ^ n)
def sg0 (x : UInt32) : UInt32 := rot x 7 ^^^ rot x 18 ^^^ shr x 3
def sg1 (x : UInt32) : UInt32 := rot x 17 ^^^ rot x 19 ^^^ shr x 10
def bs0 (a : UInt32) : UInt32 := rot a 2 ^^^ rot a 13 ^^^ rot a 22
def bs1 (e : UInt32) : UInt32 := rot e 6 ^^^ rot e 11 ^^^ rot e 25
def chX (e f g : UInt32) : UInt32 := (e &&& f) ^^^ (~~~e &&& g)
def chO (e f g : UInt32) : UInt32 := (e &&& f) ||| (~~~e &&& g)
def mjX (a b c : UInt32) : UInt32 := (a &&& b) ^^^ (a &&& c) ^^^ (b &&& c)
def mjO (a b c : UInt32) : UInt32 := (a &&& b) ||| (a &&& c) ||| (b &&& c)
theorem ch_eq (e f g : UInt32) : chO e f g = chX e f g := by
  unfold chO chX
  apply UInt32.eq_of_toBitVec_eq
  simp only [UInt32.toBitVec_or, UInt32.toBitVec_xor, UInt32.toBitVec_and, UInt32.toBitVec_not]
  ext i hi
  simp only [BitVec.getElem_or, BitVec.getElem_xor, BitVec.getElem_and, BitVec.getElem_not]
  cases e.toBitVec[i] <;> cases f.toBitVec[i] <;> cases g.toBitVec[i] <;> rfl
theorem mj_eq (a b c : UInt32) : mjO a b c = mjX a b c := by
  unfold mjO mjX
  apply UInt32.eq_of_toBitVec_eq
  simp only [UInt32.toBitVec_or, UInt32.toBitVec_xor, UInt32.toBitVec_and]
  ext i hi
  simp only [BitVec.getElem_or, BitVec.getElem_xor, BitVec.getElem_and]
  cases a.toBitVec[i] <;> cases b.toBitVec[i] <;> cases c.toBitVec[i] <;> rfl

/-- A turn, n the constant and the word together. -/
def turn : List UInt32 → UInt32 → List UInt32
  | [a, b, c, d, e, f, g, h], n => [h + bs1 e + chX e f g + n + (bs0 a + mjX a b c), a, b, c, d + (h + bs1 e + chX e f g + n), e, f, g]
  | l, _ => l
theorem len8 {l : List UInt32} (h : l.length = 8) : ∃ a b c d e f g i, l = [a, b, c, d, e, f, g, i] := by
  rcases l with _ | ⟨a, _ | ⟨b, _ | ⟨c, _ | ⟨d, _ | ⟨e, _ | ⟨f, _ | ⟨g, _ | ⟨i, _ | ⟨j, l⟩⟩⟩⟩⟩⟩⟩⟩⟩ <;> simp at h
  exact ⟨_, _, _, _, _, _, _, _, rfl⟩
theorem turn_len {l : List UInt32} (n : UInt32) (h : l.length = 8) : (turn l n).length = 8 := by
  obtain ⟨a, b, c, d, e, f, g, i, rfl⟩ := len8 h
  rfl

/-- The constants. -/
def kk : List UInt32 := [
  0x428a2f98, 0x71374491, 0xb5c0fbcf, 0xe9b5dba5, 0x3956c25b, 0x59f111f1, 0x923f82a4, 0xab1c5ed5,
  0xd807aa98, 0x12835b01, 0x243185be, 0x550c7dc3, 0x72be5d74, 0x80deb1fe, 0x9bdc06a7, 0xc19bf174,
  0xe49b69c1, 0xefbe4786, 0x0fc19dc6, 0x240ca1cc, 0x2de92c6f, 0x4a7484aa, 0x5cb0a9dc, 0x76f988da,
  0x983e5152, 0xa831c66d, 0xb00327c8, 0xbf597fc7, 0xc6e00bf3, 0xd5a79147, 0x06ca6351, 0x14292967,
  0x27b70a85, 0x2e1b2138, 0x4d2c6dfc, 0x53380d13, 0x650a7354, 0x766a0abb, 0x81c2c92e, 0x92722c85,
  0xa2bfe8a1, 0xa81a664b, 0xc24b8b70, 0xc76c51a3, 0xd192e819, 0xd6990624, 0xf40e3585, 0x106aa070,
  0x19a4c116, 0x1e376c08, 0x2748774c, 0x34b0bcb5, 0x391c0cb3, 0x4ed8aa4a, 0x5b9cca4f, 0x682e6ff3,
  0x748f82ee, 0x78a5636f, 0x84c87814, 0x8cc70208, 0x90befffa, 0xa4506ceb, 0xbef9a3f7, 0xc67178f2]
def start : List UInt32 := [0x6a09e667, 0xbb67ae85, 0x3c6ef372, 0xa54ff53a, 0x510e527f, 0x9b05688c, 0x1f83d9ab, 0x5be0cd19]
theorem kk_len : kk.length = 64 := rfl
theorem start_len : start.length = 8 := rfl

/-- The number that bytes say, the most significant one first. -/
def num (l : List UInt8) : Nat := l.foldl (fun n b => n * 256 + b.toNat) 0
theorem num_snoc (l : List UInt8) (b : UInt8) : num (l ++ [b]) = num l * 256 + b.toNat := by simp [num]
theorem num_lt_aux : ∀ (l : List UInt8) (n : Nat), l.foldl (fun n b => n * 256 + b.toNat) n < (n + 1) * 256 ^ l.length
  | [], n => by simp
  | b :: l, n => by
    have h := num_lt_aux l (n * 256 + b.toNat)
    have hb := u8_lt b
    rw [List.foldl_cons, List.length_cons, Nat.pow_succ]
    refine Nat.lt_of_lt_of_le h ?_
    rw [Nat.mul_comm (256 ^ l.length), ← Nat.mul_assoc]
    exact Nat.mul_le_mul_right _ (by omega)
theorem num_lt (l : List UInt8) : num l < 256 ^ l.length := by have := num_lt_aux l 0; simpa [num] using this
theorem num_four (a b c d : UInt8) : num [a, b, c, d] = ((a.toNat * 256 + b.toNat) * 256 + c.toNat) * 256 + d.toNat := by simp [num]
/-- A piece of a list. -/
def seg {α : Type} (l : List α) (o n : Nat) : List α := (l.drop o).take n
theorem seg_len {α : Type} {l : List α} {o n : Nat} (h : o + n ≤ l.length) : (seg l o n).length = n := by
  unfold seg
  rw [List.length_take, List.length_drop]; omega
theorem seg_get {α : Type} {l : List α} {o n j : Nat} (h : o + n ≤ l.length) (hj : j < n) : (seg l o n)[j]'(by rw [seg_len h]; exact hj) = l[o + j] := by
  unfold seg
  simp
theorem seg_take {α : Type} (l : List α) (n : Nat) : seg l 0 n = l.take n := rfl
theorem seg_all {α : Type} (l : List α) : seg l 0 l.length = l := by unfold seg; simp
theorem seg_seg {α : Type} (l : List α) (o n p m : Nat) (h : p + m ≤ n) : seg (seg l o n) p m = seg l (o + p) m := by
  unfold seg
  rw [List.drop_take, List.take_take, List.drop_drop, Nat.min_eq_left (by omega)]
theorem seg_four {l : List UInt8} {i : Nat} (h : i + 4 ≤ l.length) : seg l i 4 = [l[i], l[i + 1], l[i + 2], l[i + 3]] := by
  apply List.ext_getElem (by rw [seg_len h]; rfl)
  intro j h1 h2
  rw [seg_len h] at h1
  rw [seg_get h h1]
  have : j = 0 ∨ j = 1 ∨ j = 2 ∨ j = 3 := by omega
  rcases this with rfl | rfl | rfl | rfl <;> rfl
/-- The word at byte i. -/
def wordAt (l : List UInt8) (i : Nat) : UInt32 := UInt32.ofNat (num (seg l i 4))
theorem wordAt_toNat (l : List UInt8) (i : Nat) : (wordAt l i).toNat = num (seg l i 4) := by
  unfold wordAt
  refine u32_of _ (Nat.lt_of_lt_of_le (num_lt _) ?_)
  have : (seg l i 4).length ≤ 4 := by unfold seg; rw [List.length_take]; omega
  exact Nat.le_trans (Nat.pow_le_pow_right (by decide) this) (by decide)
theorem wordAt_seg (l : List UInt8) (o n p : Nat) (h : p + 4 ≤ n) : wordAt (seg l o n) p = wordAt l (o + p) := by
  unfold wordAt
  rw [seg_seg _ _ _ _ _ h]
/-- The word behind m, of the schedule. -/
def nextW (m : List UInt32) (t : Nat) : UInt32 := m.getD (t - 16) 0 + sg0 (m.getD (t - 15) 0) + m.getD (t - 7) 0 + sg1 (m.getD (t - 2) 0)
/-- The first t words of the schedule of a block. -/
def sched (l : List UInt8) : Nat → List UInt32
  | 0 => []
  | t + 1 => sched l t ++ [if t < 16 then wordAt l (4 * t) else nextW (sched l t) t]
theorem sched_len (l : List UInt8) : ∀ t, (sched l t).length = t
  | 0 => rfl
  | t + 1 => by simp [sched, sched_len l t]
theorem sched_take (l : List UInt8) {s t : Nat} (h : s ≤ t) : (sched l t).take s = sched l s := by
  induction t with
  | zero => have : s = 0 := by omega
            subst this; rfl
  | succ t ih =>
    by_cases hs : s ≤ t
    · rw [sched, List.take_append_of_le_length (by rw [sched_len]; exact hs), ih hs]
    · have : s = t + 1 := by omega
      subst this
      rw [List.take_of_length_le (by rw [sched_len]; omega)]
theorem sched_getD (l : List UInt8) {s t : Nat} (h : s < t) : (sched l t).getD s 0 = (sched l (s + 1)).getD s 0 := by
  have e := sched_take l (s := s + 1) (t := t) (by omega)
  rw [← e]
  simp [List.getD]

/-- The state after the first t turns. -/
def turns (w : List UInt32) (v : List UInt32) : Nat → List UInt32
  | 0 => v
  | t + 1 => turn (turns w v t) (kk.getD t 0 + w.getD t 0)
theorem turns_len (w : List UInt32) {v : List UInt32} (h : v.length = 8) : ∀ t, (turns w v t).length = 8
  | 0 => h
  | t + 1 => turn_len _ (turns_len w h t)
def comp (s : List UInt32) (l : List UInt8) : List UInt32 := List.zipWith (· + ·) (turns (sched l 64) s 64) s
theorem comp_len {s : List UInt32} (l : List UInt8) (h : s.length = 8) : (comp s l).length = 8 := by
  unfold comp
  rw [List.length_zipWith, turns_len _ h, h]; rfl

/-- The state after j blocks. -/
def stA (s : List UInt32) (p : List UInt8) : Nat → List UInt32
  | 0 => s
  | j + 1 => comp (stA s p j) (seg p (64 * j) 64)
theorem stA_len {s : List UInt32} (p : List UInt8) (h : s.length = 8) : ∀ j, (stA s p j).length = 8
  | 0 => h
  | j + 1 => comp_len _ (stA_len p h j)
/-- The states of a front of whole blocks are those of the front alone; the rest goes on from there. -/
theorem stA_front (s : List UInt32) (p q : List UInt8) : ∀ j, 64 * j ≤ p.length → stA s (p ++ q) j = stA s p j
  | 0, _ => rfl
  | j + 1, h => by
    rw [stA, stA, stA_front s p q j (by omega)]
    congr 1
    unfold seg
    rw [List.drop_append_of_le_length (by omega), List.take_append_of_le_length (by rw [List.length_drop]; omega)]
theorem stA_rest (s : List UInt32) (p q : List UInt8) (n : Nat) (hn : p.length = 64 * n) : ∀ j, stA s (p ++ q) (n + j) = stA (stA s p n) q j
  | 0 => stA_front s p q n (by omega)
  | j + 1 => by
    rw [← Nat.add_assoc, stA, stA, stA_rest s p q n hn j]
    congr 1
    unfold seg
    rw [show 64 * (n + j) = p.length + 64 * j by omega, List.drop_append, List.drop_of_length_le (by omega), List.nil_append, Nat.add_sub_cancel_left]

/-- The bytes of a number, the most significant one first. -/
def beN (k n : Nat) : List UInt8 := (List.range k).map fun i => UInt8.ofNat (n / 2 ^ (8 * (k - 1 - i)))
theorem beN_len (k n : Nat) : (beN k n).length = k := by simp [beN]
theorem beN_get (k n : Nat) {i : Nat} (h : i < k) : (beN k n)[i]'(by rw [beN_len]; exact h) = UInt8.ofNat (n / 2 ^ (8 * (k - 1 - i))) := by simp [beN]
/-- The bytes of words. -/
def bytesOf : List UInt32 → List UInt8
  | [] => []
  | x :: l => beN 4 x.toNat ++ bytesOf l
theorem bytesOf_len : ∀ l, (bytesOf l).length = 4 * l.length
  | [] => rfl
  | x :: l => by rw [bytesOf, List.length_append, beN_len, bytesOf_len l, List.length_cons]; omega
theorem bytesOf_append : ∀ l m, bytesOf (l ++ m) = bytesOf l ++ bytesOf m
  | [], m => rfl
  | x :: l, m => by rw [List.cons_append, bytesOf, bytesOf, bytesOf_append l m, List.append_assoc]
/-- The number of zeros of the padding. -/
def zlen (n : Nat) : Nat := (119 - n % 64) % 64
def padB (b : List UInt8) : List UInt8 := b ++ (128 :: (List.replicate (zlen b.length) 0 ++ beN 8 (8 * b.length)))
theorem padB_len (b : List UInt8) : (padB b).length = (b.length + 72) / 64 * 64 := by
  unfold padB zlen
  simp only [List.length_append, List.length_cons, List.length_replicate, beN_len]
  omega
def blocksN (b : List UInt8) : Nat := (b.length + 72) / 64
def dig (b : List UInt8) : List UInt8 := bytesOf (stA start (padB b) (blocksN b))
theorem dig_len (b : List UInt8) : (dig b).length = 32 := by
  unfold dig
  rw [bytesOf_len, stA_len _ start_len]
/-- m in the place of what stood at o. -/
def put {α : Type} (L : List α) (o : Nat) (m : List α) : List α := L.take o ++ (m ++ L.drop (o + m.length))
theorem put_len {α : Type} {L m : List α} {o : Nat} (h : o + m.length ≤ L.length) : (put L o m).length = L.length := by
  unfold put
  simp only [List.length_append, List.length_take, List.length_drop]; omega
theorem put_nil {α : Type} (L : List α) (o : Nat) : put L o [] = L := by unfold put; simp
theorem put_step {α : Type} {L m : List α} {o i : Nat} (h : o + m.length ≤ L.length) (hi : i < m.length) : (put L o (m.take i)).set (o + i) m[i] = put L o (m.take (i + 1)) := by
  unfold put
  have h1 : (L.take o).length = o := by rw [List.length_take]; omega
  have h2 : (m.take i).length = i := by rw [List.length_take]; omega
  have h3 : (m.take (i + 1)).length = i + 1 := by rw [List.length_take]; omega
  rw [List.set_append_right (h := by omega), List.set_append_right (h := by omega), h1, h2, h3, List.take_succ_eq_append_getElem hi, List.append_assoc]
  congr 2
  rw [show o + i - o - i = 0 by omega, List.drop_eq_getElem_cons (show o + i < L.length by omega), List.set_cons_zero, Nat.add_assoc]
  rfl
end Go.Proofs.YtejphpcngbjgjaaDoor
namespace Go.Proofs.YtejphpcngbjgjaaDoor
open Go.RowKit
set_option linter.unusedVariables false

theorem add_block (a : Addr) (n : Nat) : (a.add n).block = a.block := by unfold Addr.add; split <;> rfl
theorem add_plain (g o j : Nat) : (⟨g, o, none⟩ : Addr).add j = ⟨g, o + j, none⟩ := by unfold Addr.add; split <;> simp_all

/-- The slice '.slice A xs.length c' reads as the values f x of the list xs, below block B. -/
structure Rf {α : Type} (f : α → Value) (w : World) (B : Nat) (A : Option Addr) (c : Nat) (xs : List α) : Prop where
  cap : xs.length ≤ c
  capm : c ≤ maxLen
  nil : A = none → c = 0
  cell : ∀ ad, A = some ad → ∀ j (h : j < xs.length), ad.block < B ∧ w.cell? (ad.add j) = some (f xs[j])

section
variable {α : Type} {f : α → Value} {w w' : World} {B B' c : Nat} {A : Option Addr} {xs : List α}
theorem Rf.empty (w : World) (B : Nat) : Rf f w B none 0 [] := ⟨Nat.le_refl _, by simp [maxLen], fun _ => rfl, fun _ h => by cases h⟩
theorem Rf.keep (h : Rf f w B A c xs) (hk : ∀ p : Addr, p.block < B → w'.cell? p = w.cell? p) : Rf f w' B A c xs :=
  ⟨h.cap, h.capm, h.nil, fun ad e j hj => ⟨(h.cell ad e j hj).1, (hk _ (by rw [add_block]; exact (h.cell ad e j hj).1)).trans (h.cell ad e j hj).2⟩⟩
theorem Rf.more (h : Rf f w B A c xs) (hB : B ≤ B') : Rf f w B' A c xs :=
  ⟨h.cap, h.capm, h.nil, fun ad e j hj => ⟨Nat.lt_of_lt_of_le (h.cell ad e j hj).1 hB, (h.cell ad e j hj).2⟩⟩
theorem Rf.below (h : Rf f w B A c xs) (hb : Below B w w') : Rf f w' B A c xs := h.keep fun _ hp => hb.cell hp
theorem Rf.alloc (h : Rf f w B A c xs) (hB : B ≤ w.heap.size) (o : Obj) : Rf f (w.alloc o) B A c xs := h.keep fun p hp => World.cell?_alloc_lt w o p (by omega)
theorem Rf.drew (h : Rf f w B A c xs) : Rf f w.drew B A c xs := h.keep fun _ _ => rfl
theorem Rf.drewN (h : Rf f w B A c xs) (k : Nat) : Rf f (w.drewN k) B A c xs := h.keep fun _ _ => rfl
theorem Rf.at_ (h : Rf f w B A c xs) {k : Nat} (hk : k < xs.length) : ∃ b o, A = some ⟨b, o, none⟩ ∧ b < B ∧ ∀ j (hj : j < xs.length), w.cell? ⟨b, o + j, none⟩ = some (f xs[j]) := by
  have hA : A ≠ none := fun e => by have := h.nil e; have := h.cap; omega
  obtain ⟨ad, rfl⟩ := Option.ne_none_iff_exists'.1 hA
  have hc := h.cell ad rfl
  have hb := (hc 0 (by omega)).1
  obtain ⟨b, o, s⟩ := ad
  have h0 := (hc 0 (by omega)).2
  have hs : s = none := by
    have := World.cell?_spot h0
    simpa [Addr.add] using this
  subst hs
  refine ⟨b, o, rfl, hb, fun j hj => ?_⟩
  have := (hc j hj).2
  rwa [add_plain] at this
theorem Rf.news {ad : Addr} (h : Rf f w B (some ad) c xs) : ∀ j u, (xs.map f)[j]? = some u → w.cell? (ad.add j) = some u := by
  intro j u hu
  have hj : j < xs.length := by
    have := (List.getElem?_eq_some_iff.1 hu).1
    simpa using this
  have e : u = f xs[j] := by simp [hj] at hu; exact hu.symm
  rw [e]
  exact (h.cell ad rfl j hj).2
end

/-- The block of an address. -/
def blk (A : Option Addr) : Option Nat := A.map (·.block)
theorem own_block (A : Option Addr) (n c : Nat) : (Value.slice A n c).ownBlock = blk A := by cases A <;> rfl

/-- The slice holds the values f x, in a block from 'base' on that the call made itself (or it is nil). e: the number of the element's type. -/
def Ow {α : Type} (f : α → Value) (w : World) (base e : Nat) (A : Option Addr) (c : Nat) (xs : List α) : Prop :=
  w.ownsRow base e 1 (.slice A xs.length c) xs.length (xs.map f)

section
variable {α : Type} {f : α → Value} {w w' : World} {base e c : Nat} {A : Option Addr} {xs : List α}
theorem Ow.nil (w : World) (base e : Nat) : Ow f w base e none 0 [] := World.ownsRow_nil w base e 1
theorem Ow.form (h : Ow f w base e A c xs) : (A = none ∧ c = 0 ∧ xs = []) ∨ ∃ g, A = some ⟨g, 0, none⟩ ∧ base ≤ g ∧ g < w.heap.size ∧ xs.length ≤ c ∧ c ≤ maxLen := by
  rcases h.2 with ⟨hv, hn⟩ | ⟨g, cap, cur, hv, hb, hg, hnc, hcm, _⟩
  · simp only [Value.slice.injEq] at hv
    exact .inl ⟨hv.1, hv.2.2, List.eq_nil_of_length_eq_zero hn⟩
  · simp only [Value.slice.injEq] at hv
    obtain ⟨rfl, _, rfl⟩ := hv
    exact .inr ⟨g, rfl, hb, (Array.getElem?_eq_some_iff.1 hg).1, hnc, hcm⟩
theorem Ow.rd (h : Ow f w base e A c xs) : Rf f w w.heap.size A c xs := by
  rcases h.form with ⟨rfl, rfl, rfl⟩ | ⟨g, rfl, hb, hg, hc, hm⟩
  · exact Rf.empty w _
  · refine ⟨hc, hm, (fun e => by cases e), fun ad e j hj => ?_⟩
    obtain rfl := Option.some.inj e
    exact ⟨hg, World.ownsRow.cells h (g := g) rfl j _ (by simp [hj])⟩
theorem Ow.blk_ge (h : Ow f w base e A c xs) : ∀ k, blk A = some k → base ≤ k ∧ k < w.heap.size := by
  intro k hk
  exact World.ownsRow.lt h k (by rw [own_block]; exact hk)
theorem Ow.kept (h : Ow f w base e A c xs) {row : Option Nat} (hg : w.grownBy w' row) (hne : blk A = none ∨ blk A ≠ row) : Ow f w' base e A c xs :=
  World.ownsRow.kept h hg (by rw [own_block]; exact hne)
theorem Ow.alloc (h : Ow f w base e A c xs) (o : Obj) : Ow f (w.alloc o) base e A c xs := World.ownsRow.alloc h o
theorem Ow.drew (h : Ow f w base e A c xs) : Ow f w.drew base e A c xs := h
theorem Ow.drewN (h : Ow f w base e A c xs) (k : Nat) : Ow f (w.drewN k) base e A c xs := h
theorem Ow.lower (h : Ow f w base e A c xs) {b : Nat} (hb : b ≤ base) : Ow f w b e A c xs := by
  refine ⟨h.1, ?_⟩
  rcases h.2 with hn | ⟨g, cap, cur, hv, hbg, r⟩
  · exact .inl hn
  · exact .inr ⟨g, cap, cur, hv, Nat.le_trans hb hbg, r⟩
/-- What is owned stays so where all blocks below B are as they were and it lies below B. -/
theorem Ow.below (h : Ow f w base e A c xs) {B : Nat} (hB : w.heap.size ≤ B) (hb : Below B w w') : Ow f w' base e A c xs :=
  h.kept (row := none) ⟨hb.os, hb.tape, hb.output, hb.size, fun k hk _ => hb.block k (Nat.lt_of_lt_of_le hk hB)⟩ (by cases blk A <;> simp)
end

theorem grown_of_below {a w : World} {B : Nat} (h : Below B a w) (hB : a.heap.size ≤ B) (row : Option Nat) : a.grownBy w row := ⟨h.os, h.tape, h.output, h.size, fun i hi _ => h.block i (Nat.lt_of_lt_of_le hi hB)⟩
theorem below_of_grown {a w : World} {row : Option Nat} (h : a.grownBy w row) {B : Nat} (hB : B ≤ a.heap.size) (hr : ∀ k, row = some k → B ≤ k) : Below B a w := (Below.refl B a).grown h hB hr
theorem below_drewN (B : Nat) (w : World) (n : Nat) : Below B w (w.drewN n) := ⟨rfl, rfl, rfl, Nat.le_refl _, fun _ _ => rfl⟩
theorem below_new (w : World) (o : Obj) : Below w.heap.size w (w.alloc o) := (Below.refl _ w).alloc (Nat.le_refl _) o

section
variable {P : Program} (w : World)

/-- 'append(s, x...)': s is owned, x is read. -/
theorem run_append_f {α : Type} {f : α → Value} (hf : ∀ x, (f x).oneCell' = true) (base e bt : Nat) (t ty : TypeId) (i : TypeInfo) (z : Value) (ht : P.underlying t = some (.slice e)) (hi : P.info? e = some i) (hz : i.zero = some z) (hsize : i.size = 1) (hby : i.bytes = bt) (hbt : bt ≤ 24) (hzs : z.cells.size = 1)
    {A A2 : Option Addr} {c c2 B : Nat} {l m : List α} (hown : Ow f w base e A c l) (hr : Rf f w B A2 c2 m) (hle : l.length + m.length ≤ 4000000000) (hbase : base ≤ w.heap.size) :
    ∃ A' c' w', (Builtin.append_ #[t, t] ty #[.slice A l.length c, .slice A2 m.length c2]).run P w = .ok (.slice A' (l ++ m).length c') w' ∧ Ow f w' base e A' c' (l ++ m) ∧ w.grownBy w' (blk A) ∧
      (blk A' = blk A ∨ blk A' = some w.heap.size) := by
  cases A2 with
  | some ad =>
    obtain ⟨v', w', hrun, h2, h3, _, h5⟩ := run_append_own_at (P := P) w base t ty e i z 1 bt ht hi hz hsize hby hzs (by omega) _ _ _ hown ad m.length c2 (m.map f) (by simp) hr.news (by intro u hu; obtain ⟨x, _, rfl⟩ := List.mem_map.1 hu; exact hf x)
      (by simp only [maxLen]; omega) (by have := Nat.mul_le_mul hle hbt; omega) hbase
    rw [← List.map_append, ← List.length_append] at h2
    have hform : ∃ A' c', v' = .slice A' (l ++ m).length c' := by
      rcases h2.2 with ⟨rfl, hn⟩ | ⟨g, cap, cur, rfl, _⟩
      · exact ⟨none, 0, by rw [hn]⟩
      · exact ⟨_, _, rfl⟩
    obtain ⟨A', c', rfl⟩ := hform
    refine ⟨A', c', w', hrun, h2, by rw [own_block] at h3; exact h3, ?_⟩
    rw [own_block, own_block] at h5
    exact h5
  | none =>
    have hc2 := hr.nil rfl
    have hm : m = [] := List.eq_nil_of_length_eq_zero (by have := hr.cap; omega)
    subst hm
    subst hc2
    refine ⟨A, c, w, ?_, by simpa using hown, World.grownBy.refl w _, .inl rfl⟩
    have := run_append_owned_none (P := P) w base t ty e i 1 ht hi _ _ _ hown
    simpa using this

/-- The same, for the walk. -/
theorem wpList_append_f {α : Type} {f : α → Value} (hf : ∀ x, (f x).oneCell' = true) {ops : Array Oper} {rest : List Oper} {o : Oper} {a : Act} {Q : Exit → Act → World → Prop} (hgd : o.guard = none) (s x : Operand) (t : TypeId)
    (ho : o.op = .call { callee := .builtin .append, args := #[s, x], argTypes := #[t, t] })
    (base e bt : Nat) (i : TypeInfo) (z : Value) (ht : P.underlying t = some (.slice e)) (hi : P.info? e = some i) (hz : i.zero = some z) (hsize : i.size = 1) (hby : i.bytes = bt) (hbt : bt ≤ 24) (hzs : z.cells.size = 1)
    {A A2 : Option Addr} {c c2 B : Nat} (l m : List α) (hs : a.eval s = .slice A l.length c) (hx : a.eval x = .slice A2 m.length c2) (hown : Ow f w base e A c l) (hr : Rf f w B A2 c2 m)
    (hle : l.length + m.length ≤ 4000000000) (hbase : base ≤ w.heap.size)
    (h : ∀ A' c' w' r, Hid (r = l ++ m) → Ow f w' base e A' c' r → w.grownBy w' (blk A) → (blk A' = blk A ∨ blk A' = some w.heap.size) → wpList P ops Q rest (a.put o.dst (.slice A' r.length c')) w') :
    wpList P ops Q (o :: rest) a w := by
  refine wpList_plain hgd fun K hK => ?_
  obtain ⟨A', c', w', hrun, h2, h3, h4⟩ := run_append_f (P := P) w hf base e bt t o.type i z ht hi hz hsize hby hbt hzs hown hr hle hbase
  unfold Oper.wp execOp
  simp only [ho, resolve, invoke, builtin, Sem.run_bind, Sem.run_pure, Result.andThen_ok, List.map_toArray, List.map_cons, List.map_nil, hs, hx, hrun]
  exact hK _ _ (h A' c' w' _ rfl h2 h3 h4)

/-- The same, in a body that is walked inside a fence. -/
theorem wpListIn_append_f {F : Fence} {n : Nat} {α : Type} {f : α → Value} (hf : ∀ x, (f x).oneCell' = true) {ops : Array Oper} {rest : List Oper} {o : Oper} {a : Act} {Q : Exit → Act → World → Prop} (hgd : o.guard = none) (s x : Operand) (t : TypeId)
    (ho : o.op = .call { callee := .builtin .append, args := #[s, x], argTypes := #[t, t] })
    (base e bt : Nat) (i : TypeInfo) (z : Value) (ht : P.underlying t = some (.slice e)) (hi : P.info? e = some i) (hz : i.zero = some z) (hsize : i.size = 1) (hby : i.bytes = bt) (hbt : bt ≤ 24) (hzs : z.cells.size = 1)
    {A A2 : Option Addr} {c c2 B : Nat} (l m : List α) (hs : a.eval s = .slice A l.length c) (hx : a.eval x = .slice A2 m.length c2) (hown : Ow f w base e A c l) (hr : Rf f w B A2 c2 m)
    (hle : l.length + m.length ≤ 4000000000) (hbase : base ≤ w.heap.size)
    (h : ∀ A' c' w' r, Hid (r = l ++ m) → Ow f w' base e A' c' r → w.grownBy w' (blk A) → (blk A' = blk A ∨ blk A' = some w.heap.size) → wpListIn F n P ops Q rest (a.put o.dst (.slice A' r.length c')) w') :
    wpListIn F n P ops Q (o :: rest) a w := by
  refine wpListIn_plain hgd fun K hK => ?_
  obtain ⟨A', c', w', hrun, h2, h3, h4⟩ := run_append_f (P := P) w hf base e bt t o.type i z ht hi hz hsize hby hbt hzs hown hr hle hbase
  unfold Oper.wpIn
  refine ⟨?_, ?_⟩
  · simp [Oper.about, ho, resolve, Target.leads, Sem.run_pure]
  · rw [Oper.semAt_plain F _ _ (by rw [ho]; intro c hc'; cases hc')]
    simp only [execOp, ho, resolve, invoke, builtin, Sem.run_bind, Sem.run_pure, Result.andThen_ok, List.map_toArray, List.map_cons, List.map_nil, hs, hx, hrun]
    exact hK _ _ (h A' c' w' _ rfl h2 h3 h4)

/-- A one-element literal. -/
theorem rf_one {α : Type} {f : α → Value} (x : α) (e : Nat) : Rf f (w.alloc (.cells #[f x] e)) (w.heap.size + 1) (some ⟨w.heap.size, 0, none⟩) 1 [x] := by
  refine ⟨by simp, by simp [maxLen], (fun e => by cases e), fun ad he j hj => ?_⟩
  obtain rfl := Option.some.inj he
  refine ⟨by simp, ?_⟩
  have hj0 : j = 0 := by simp at hj; omega
  subst hj0
  exact cell_one_new w _ e 0 _ rfl
/-- An empty literal. -/
theorem ow_zero {α : Type} {f : α → Value} (e base : Nat) (hb : base ≤ w.heap.size) : Ow f (w.alloc (.cells #[] e)) base e (some ⟨w.heap.size, 0, none⟩) 0 [] := by
  have := World.ownsRow_lit (base := base) (e := e) (size := 1) w #[] 0 hb (by simp [maxLen]) (by simp)
  exact this
end

/-- Block g is just the cells cs of element type t. -/
def Blk (w : World) (g : Nat) (t : TypeId) (cs : Array Value) : Prop := w.heap[g]? = some (.cells cs t (0, 0))
section
variable {w w' : World} {g : Nat} {t : TypeId} {cs : Array Value}
theorem Blk.lt (h : Blk w g t cs) : g < w.heap.size := by
  rcases Nat.lt_or_ge g w.heap.size with hlt | hge
  · exact hlt
  · unfold Blk at h; rw [Array.getElem?_eq_none hge] at h; cases h
theorem Blk.cell (h : Blk w g t cs) (i : Nat) : w.cell? ⟨g, i, none⟩ = cs[i]? := cell_of_row w g i cs t (0, 0) h
theorem Blk.frozen (h : Blk w g t cs) (i : Nat) : w.frozen? ⟨g, i, none⟩ = false := by
  unfold Blk at h
  simp [World.frozen?, h]
theorem Blk.new (w : World) (t : TypeId) (cs : Array Value) : Blk (w.alloc (.cells cs t)) w.heap.size t cs := heap_alloc_new w _
theorem Blk.drewN (h : Blk w g t cs) (n : Nat) : Blk (w.drewN n) g t cs := h
theorem Blk.alloc (h : Blk w g t cs) (o : Obj) : Blk (w.alloc o) g t cs := (Below.heap_alloc w o g h.lt).trans h
theorem Blk.set_ (h : Blk w g t cs) (i : Nat) (u : Value) : Blk (w.setCell ⟨g, i, none⟩ u) g t (cs.setIfInBounds i u) := by
  unfold Blk at h ⊢
  simp [World.setCell, Array.getElem?_modify, h]
theorem Blk.far (h : Blk w g t cs) {p : Addr} (hp : g ≠ p.block) (u : Value) : Blk (w.setCell p u) g t cs := (Below.heap_setCell w p u g hp).trans h
theorem Blk.below {B : Nat} (h : Blk w g t cs) (hb : Below B w w') (hg : g < B) : Blk w' g t cs := (hb.block g hg).trans h
theorem Blk.grown {row : Option Nat} (h : Blk w g t cs) (hb : w.grownBy w' row) (hg : some g ≠ row) : Blk w' g t cs := (hb.block g h.lt hg).trans h
theorem ow_blk_ne {α : Type} {f : α → Value} {base e c : Nat} {A : Option Addr} {xs : List α} (h : Ow f w base e A c xs) (hg : Blk w g t cs) (hne : e ≠ t) : some g ≠ blk A := by
  rcases h.2 with ⟨hv, _⟩ | ⟨g', cap, cur, hv, _, hh, _⟩
  · simp only [Value.slice.injEq] at hv
    rw [hv.1]
    simp [blk]
  · simp only [Value.slice.injEq] at hv
    rw [hv.1]
    intro he
    have : g = g' := by simpa [blk] using he
    subst this
    unfold Blk at hg
    rw [hh] at hg
    injection hg with h'
    injection h' with _ ht
    exact hne ht
end
theorem grown_set (w : World) (p : Addr) (v : Value) : w.grownBy (w.setCell p v) (some p.block) :=
  ⟨rfl, rfl, rfl, (Below.refl 0 w).setCell (p := p) (Nat.zero_le _) v |>.size, fun k _ hk => Below.heap_setCell _ _ _ k (fun e => hk (by rw [e]))⟩

/-- Strings as lists of bytes. -/
def sv (l : List UInt8) : Value := .string ⟨l.toArray⟩
theorem sv_one (l : List UInt8) : (sv l).oneCell' = true := rfl
/-- Bytes. -/
def bv (b : UInt8) : Value := .int .u8 (b.toNat : Int)
theorem bv_one (b : UInt8) : (bv b).oneCell' = true := rfl
/-- Limbs. -/
def uv (x : UInt32) : Value := .int .u32 (x.toNat : Int)
theorem uv_one (x : UInt32) : (uv x).oneCell' = true := rfl

theorem mk_get (l : List UInt8) (k : Nat) (h : k < (⟨l.toArray⟩ : ByteArray).size) : (⟨l.toArray⟩ : ByteArray)[k] = l[k]'(by simpa [ByteArray.size] using h) := rfl
theorem mk_append (l m : List UInt8) : (⟨l.toArray⟩ : ByteArray) ++ ⟨m.toArray⟩ = ⟨(l ++ m).toArray⟩ := ByteArray.mk_append_mk ..
theorem mk_eta (s : ByteArray) : (⟨s.data.toList.toArray⟩ : ByteArray) = s := by cases s; rfl
theorem mk_extract (l : List UInt8) (a b : Nat) : (⟨l.toArray⟩ : ByteArray).extract a b = ⟨((l.drop a).take (b - a)).toArray⟩ := by
  apply ByteArray.ext
  rw [ByteArray.data_extract]
  apply Array.toList_inj.1
  simp

section
variable {P : Program} (w : World)
/-- 'append(b, s...)' of a string. -/
theorem wpList_append_text {ops : Array Oper} {rest : List Oper} {o : Oper} {a : Act} {Q : Exit → Act → World → Prop} (hgd : o.guard = none) (sl x : Operand) (t u : TypeId)
    (ho : o.op = .call { callee := .builtin .append, args := #[sl, x], argTypes := #[t, u] })
    (base : Nat) (e : TypeId) (i : TypeInfo) (ht : P.underlying t = some (.slice e)) (hu : P.underlying u = some .string) (hi : P.info? e = some i) (hz : i.zero = some (.int .u8 0))
    (hsize : i.size = 1) (hby : i.bytes = 1) {A : Option Addr} {c : Nat} (l m : List UInt8) (hs : a.eval sl = .slice A l.length c) (hx : a.eval x = .string ⟨m.toArray⟩) (hown : Ow bv w base e A c l)
    (hle : l.length + m.length ≤ 4000000000) (hbase : base ≤ w.heap.size)
    (h : ∀ A' c' w' r, Hid (r = l ++ m) → Ow bv w' base e A' c' r → w.grownBy w' (blk A) → wpList P ops Q rest (a.put o.dst (.slice A' r.length c')) w') : wpList P ops Q (o :: rest) a w := by
  refine Lib.wpList_append_own_string w hgd sl x t u ho base e i ht hu hi hz hsize hby _ _ _ hs hown ⟨m.toArray⟩ hx (by simp [ByteArray.size, maxLen]; omega) (by simp [ByteArray.size]; omega) hbase ?_
  intro v' w' h2 h3 _
  have e1 : l.length + (⟨m.toArray⟩ : ByteArray).size = (l ++ m).length := by simp [ByteArray.size]
  have e2 : l.map bv ++ Lib.strCells ⟨m.toArray⟩ = (l ++ m).map bv := by
    rw [List.map_append]
    congr 1
  rw [e1, e2] at h2
  have hform : ∃ A' c', v' = .slice A' (l ++ m).length c' := by
    rcases h2.2 with ⟨rfl, hn⟩ | ⟨g, cap, cur, rfl, _⟩
    · exact ⟨none, 0, by rw [hn]⟩
    · exact ⟨_, _, rfl⟩
  obtain ⟨A', c', rfl⟩ := hform
  rw [own_block] at h3
  exact h A' c' w' _ rfl h2 h3

/-- 'string(b)'. -/
theorem run_string_f (src dst e : TypeId) (hs : P.underlying src = some (.slice e)) (he : P.underlying e = some (.int .u8)) (hd : P.underlying dst = some .string) {B c : Nat} {A : Option Addr} {l : List UInt8} (h : Rf bv w B A c l) :
    (convert src dst (.slice A l.length c)).run P w = .ok (.string ⟨l.toArray⟩) w := by
  cases A with
  | none =>
    have hl : l = [] := List.eq_nil_of_length_eq_zero (by have := h.cap; have := h.nil rfl; omega)
    subst hl
    exact run_convert_bytes_nil w src e hs he _ _ dst hd
  | some ad => exact run_convert_bytes_back w src dst e ad c l hs he hd fun j hj => (h.cell ad rfl j hj).2
end
/-- Block g holds just the values f x of the list L. t: the number of the elements' type. -/
def Hb {α : Type} (f : α → Value) (w : World) (g t : Nat) (L : List α) : Prop := Blk w g t (L.map f).toArray
section
variable {α : Type} {f : α → Value} {w w' : World} {g t : Nat} {L : List α}
theorem Hb.lt (h : Hb f w g t L) : g < w.heap.size := Blk.lt h
theorem Hb.cell (h : Hb f w g t L) {i : Nat} (hi : i < L.length) : w.cell? ⟨g, i, none⟩ = some (f L[i]) := by
  have e := Blk.cell h i
  rw [e]
  simp [hi]
theorem Hb.heap (h : Hb f w g t L) : w.heap[g]? = some (.cells (L.map f).toArray t (0, 0)) := h
theorem Hb.frozen (h : Hb f w g t L) (i : Nat) : w.frozen? ⟨g, i, none⟩ = false := Blk.frozen h i
theorem Hb.set_ (h : Hb f w g t L) (i : Nat) (x : α) (v : Value) (hv : v = f x) : Hb f (w.setCell ⟨g, i, none⟩ v) g t (L.set i x) := by
  subst hv
  have e := Blk.set_ h i (f x)
  unfold Hb
  have e2 : ((L.set i x).map f).toArray = (L.map f).toArray.setIfInBounds i (f x) := by
    rw [List.map_set]; simp
  rw [e2]
  exact e
theorem Hb.drewN (h : Hb f w g t L) (n : Nat) : Hb f (w.drewN n) g t L := h
theorem Hb.drew (h : Hb f w g t L) : Hb f w.drew g t L := h
theorem Hb.alloc (h : Hb f w g t L) (o : Obj) : Hb f (w.alloc o) g t L := Blk.alloc h o
theorem Hb.below {B : Nat} (h : Hb f w g t L) (hb : Below B w w') (hg : g < B) : Hb f w' g t L := Blk.below h hb hg
theorem Hb.grown {row : Option Nat} (h : Hb f w g t L) (hb : w.grownBy w' row) (hg : some g ≠ row) : Hb f w' g t L := Blk.grown h hb hg
theorem Hb.away (h : Hb f w g t L) {p : Addr} (hp : g ≠ p.block) (u : Value) : Hb f (w.setCell p u) g t L := Blk.far h hp u
/-- A piece of it reads as a piece of the list. -/
theorem Hb.rf (h : Hb f w g t L) {o n c : Nat} (hn : o + n ≤ L.length) (hc : n ≤ c) (hm : c ≤ maxLen) : Rf f w w.heap.size (some ⟨g, o, none⟩) c (seg L o n) := by
  refine ⟨by rw [seg_len hn]; exact hc, hm, (fun e => by cases e), fun ad e j hj => ?_⟩
  obtain rfl := Option.some.inj e
  rw [seg_len hn] at hj
  rw [add_plain]
  refine ⟨h.lt, ?_⟩
  rw [h.cell (by omega), seg_get hn hj]
theorem Hb.rf_take (h : Hb f w g t L) {n c : Nat} (hn : n ≤ L.length) (hc : n ≤ c) (hm : c ≤ maxLen) : Rf f w w.heap.size (some ⟨g, 0, none⟩) c (L.take n) := by
  have := h.rf (o := 0) (n := n) (c := c) (by omega) hc hm
  rwa [seg_take] at this
theorem Hb.rf_all (h : Hb f w g t L) {c : Nat} (hc : L.length ≤ c) (hm : c ≤ maxLen) : Rf f w w.heap.size (some ⟨g, 0, none⟩) c L := by
  have := h.rf_take (n := L.length) (c := c) (Nat.le_refl _) hc hm
  rwa [List.take_of_length_le (Nat.le_refl _)] at this
end
/-- A piece of what is read. -/
theorem Rf.piece {α : Type} {f : α → Value} {w : World} {B c b o : Nat} {l : List α} (h : Rf f w B (some ⟨b, o, none⟩) c l) (q k : Nat) (hk : q + k ≤ l.length) : Rf f w B (some ⟨b, o + q, none⟩) (c - q) (seg l q k) := by
  have hcap := h.cap
  have hcm := h.capm
  refine ⟨by rw [seg_len hk]; omega, by omega, (fun e => by cases e), fun ad e j hj => ?_⟩
  obtain rfl := Option.some.inj e
  rw [seg_len hk] at hj
  obtain ⟨h1, h2⟩ := h.cell ⟨b, o, none⟩ rfl (q + j) (by omega)
  refine ⟨h1, ?_⟩
  rw [seg_get hk hj]
  rw [add_plain] at h2 ⊢
  rw [show o + q + j = o + (q + j) by omega]
  exact h2
theorem Rf.grown {α : Type} {f : α → Value} {w w' : World} {B c : Nat} {A : Option Addr} {xs : List α} {row : Option Nat} (h : Rf f w B A c xs) (hg : w.grownBy w' row) (hB : B ≤ w.heap.size) (hne : 0 < xs.length → blk A ≠ row) : Rf f w' B A c xs := by
  refine ⟨h.cap, h.capm, h.nil, fun ad e j hj => ?_⟩
  subst e
  obtain ⟨h1, h2⟩ := h.cell ad rfl j hj
  refine ⟨h1, ?_⟩
  have hb : (ad.add j).block = ad.block := add_block _ _
  rw [World.cell?_of_block (hg.block (ad.add j).block (by omega) (by
    intro e2
    exact hne (by omega) (by rw [← e2, hb]; rfl)))]
  exact h2
theorem Rf.ne {α : Type} {f : α → Value} {w : World} {B c g : Nat} {A : Option Addr} {xs : List α} (h : Rf f w B A c xs) (hB : B ≤ g) : 0 < xs.length → blk A ≠ some g := by
  intro hp e
  obtain ⟨b, o, rfl, hb, _⟩ := h.at_ (k := 0) hp
  have : b = g := by simpa [blk] using e
  omega
theorem grown_refl (w : World) (r : Option Nat) : w.grownBy w r := World.grownBy.refl w r
theorem grown_setCell {a w : World} {g : Nat} (h : a.grownBy w (some g)) (i : Nat) (u : Value) : a.grownBy (w.setCell ⟨g, i, none⟩ u) (some g) := h.trans (grown_set w ⟨g, i, none⟩ u)
theorem grown_drewN {a w : World} {r : Option Nat} (h : a.grownBy w r) (n : Nat) : a.grownBy (w.drewN n) r := ⟨h.os, h.tape, h.output, h.size, h.block⟩
theorem grown_drew {a w : World} {r : Option Nat} (h : a.grownBy w r) : a.grownBy w.drew r := ⟨h.os, h.tape, h.output, h.size, h.block⟩
end Go.Proofs.YtejphpcngbjgjaaDoor
namespace Go.Proofs.YtejphpcngbjgjaaDoor
open Go.RowKit
set_option linter.unusedVariables false

/-- A contest: its name, its candidates' names, its seats, its rule. -/
structure Ct where
  name : List UInt8
  cands : List (List UInt8)
  seats : Int
  rule : Nat
deriving DecidableEq

def nameB (l : List UInt8) : Bool := decide (1 ≤ l.length) && (decide (l.length ≤ 40) && l.all fun b => decide (33 ≤ b.toNat) && decide (b.toNat ≤ 126))
theorem nameB_iff (l : List UInt8) : nameB l = true ↔ 1 ≤ l.length ∧ l.length ≤ 40 ∧ ∀ b ∈ l, 33 ≤ b.toNat ∧ b.toNat ≤ 126 := by
  simp [nameB]
theorem nameB_bad {l : List UInt8} {b : UInt8} (hb : b ∈ l) (h : b.toNat < 33 ∨ 126 < b.toNat) : nameB l = false := by
  rw [Bool.eq_false_iff]
  intro e
  have := ((nameB_iff l).1 e).2.2 b hb
  omega
theorem nameB_size {l : List UInt8} (h : l.length < 1 ∨ 40 < l.length) : nameB l = false := by
  rw [Bool.eq_false_iff]
  intro e
  have := (nameB_iff l).1 e
  omega
def ruleB (r : Nat) : Bool := decide (1 ≤ r) && decide (r ≤ 16)
def oneB (r : Nat) : Bool := decide (5 ≤ r) && decide (r ≤ 10)
def listsB (r : Nat) : Bool := decide (14 ≤ r) && decide (r ≤ 16)
def kindM (r : Nat) : Nat := if r = 1 ∨ r = 2 ∨ r = 13 ∨ r = 14 ∨ r = 15 ∨ r = 16 then 2 else if r = 3 then 3 else 1
def marksM (r : Nat) (n : Int) : Int := if r = 1 ∨ 14 ≤ r then 1 else n
def strB (s : String) : List UInt8 := s.toUTF8.data.toList
def wordsM : List (List UInt8) := [[], [112, 108, 117, 114, 97, 108, 105, 116, 121], [97, 112, 112, 114, 111, 118, 97, 108], [115, 99, 111, 114, 101], [98, 111, 114, 100, 97], [99, 111, 112, 101, 108, 97, 110, 100], [109, 105, 110, 105, 109, 97, 120], [115, 99, 104, 117, 108, 122, 101], [112, 97, 105, 114, 115], [114, 117, 110, 111, 102, 102], [99, 111, 111, 109, 98, 115], [103, 114, 101, 103, 111, 114, 121], [109, 101, 101, 107], [112, 104, 114, 97, 103, 109, 101, 110], [100, 104, 111, 110, 100, 116], [115, 97, 105, 110, 116, 101], [104, 97, 114, 101]]
theorem wordsM_len : wordsM.length = 17 := rfl

/-- The candidates' names are distinct. -/
def distinctB : List (List UInt8) → Bool
  | [] => true
  | x :: xs => !xs.contains x && distinctB xs
theorem distinctB_iff : ∀ l : List (List UInt8), distinctB l = true ↔ l.Nodup
  | [] => by simp [distinctB]
  | x :: xs => by
    have := distinctB_iff xs
    simp [distinctB, this]

def seatsB (c : Ct) : Bool := if oneB c.rule then decide (c.seats = 1) else listsB c.rule || decide (c.seats ≤ c.cands.length)
/-- A valid contest. -/
def mayB (c : Ct) : Bool :=
  nameB c.name && (decide (1 ≤ c.cands.length) && (decide (c.cands.length ≤ 10) && (ruleB c.rule && (decide (1 ≤ c.seats) && (decide (c.seats ≤ 10) && (c.cands.all nameB && (distinctB c.cands && seatsB c)))))))
def checkM (c : Ct) : Int := if 10 < c.cands.length then 4 else if mayB c then 0 else 8
theorem mayB_iff (c : Ct) : mayB c = true ↔ nameB c.name = true ∧ 1 ≤ c.cands.length ∧ c.cands.length ≤ 10 ∧ ruleB c.rule = true ∧ 1 ≤ c.seats ∧ c.seats ≤ 10 ∧ (∀ x ∈ c.cands, nameB x = true) ∧ c.cands.Nodup ∧ seatsB c = true := by
  simp [mayB, distinctB_iff]
theorem checkM_ok {c : Ct} : checkM c = 0 ↔ mayB c = true := by
  unfold checkM
  constructor
  · intro h
    split at h
    · cases h
    · split at h
      · assumption
      · cases h
  · intro h
    have := (mayB_iff c).1 h
    rw [if_neg (by omega), if_pos h]
theorem checkM_cases (c : Ct) : checkM c = 0 ∨ checkM c = 4 ∨ checkM c = 8 := by
  unfold checkM
  split
  · exact .inr (.inl rfl)
  · split
    · exact .inl rfl
    · exact .inr (.inr rfl)
def placeM (c : Ct) (n : List UInt8) : Int × Int := if checkM c ≠ 0 then (0, checkM c) else if n ∈ c.cands then ((c.cands.idxOf n : Nat), 0) else (0, 6)

/-- The fields of a contest's encoding. -/
def partsM (c : Ct) : List (List UInt8) := c.name :: [UInt8.ofNat c.seats.toNat, UInt8.ofNat c.rule] :: c.cands
def textM (c : Ct) : List UInt8 := Oc.flat (partsM c)
def bytesM (c : Ct) : List UInt8 × Int := if checkM c ≠ 0 then ([], checkM c) else (textM c, 0)
def zeroCt : Ct := ⟨[], [], 0, 0⟩
/-- The contest that a list of fields is read as. -/
def ofParts (n : List UInt8) (s r : UInt8) (l : List (List UInt8)) : Ct := ⟨n, l, (s.toNat : Int), r.toNat⟩
def partsOf (l : List (List UInt8)) : Option Ct :=
  match l with
  | n :: [s, r] :: cs => some (ofParts n s r cs)
  | _ => none
noncomputable def readM (b : List UInt8) : Ct × Int :=
  if (Oc.splitM b).2 ≠ 0 then (zeroCt, (Oc.splitM b).2)
  else match partsOf (Oc.splitM b).1 with
    | some c => if mayB c then (c, 0) else (zeroCt, 11)
    | none => (zeroCt, 11)

theorem len_le_flat : ∀ (L : List (List UInt8)) (k : Nat), (∀ x ∈ L, x.length ≤ k) → (Oc.flat L).length ≤ L.length * (k + 2)
  | [], k, _ => by simp [Oc.flat_nil]
  | x :: L, k, h => by
    have h1 := len_le_flat L k (fun y hy => h y (List.mem_cons_of_mem _ hy))
    have h2 := h x (List.mem_cons_self ..)
    rw [Oc.flat_cons, List.length_append, Oc.fld_len, List.length_cons, Nat.succ_mul]
    omega
theorem textM_short {c : Ct} (h : mayB c = true) : (textM c).length ≤ 600 := by
  obtain ⟨h1, h2, h3, h4, h5, h6, h7, h8, h9⟩ := (mayB_iff c).1 h
  have h := len_le_flat (partsM c) 40 (fun x hx => by
    rcases List.mem_cons.1 hx with e | hx
    · subst e; exact ((nameB_iff _).1 h1).2.1
    · rcases List.mem_cons.1 hx with e | hx
      · subst e; simp
      · exact ((nameB_iff _).1 (h7 x hx)).2.1)
  have : (partsM c).length ≤ 12 := by simp [partsM]; omega
  have : (partsM c).length * 42 ≤ 12 * 42 := Nat.mul_le_mul_right _ this
  unfold textM
  omega
theorem partsOf_parts {c : Ct} (h : mayB c = true) : partsOf (partsM c) = some c := by
  obtain ⟨h1, h2, h3, h4, h5, h6, h7, h8, h9⟩ := (mayB_iff c).1 h
  have hr : c.rule ≤ 16 := by simp [ruleB] at h4; omega
  have es : ((UInt8.ofNat c.seats.toNat).toNat : Int) = c.seats := by
    rw [UInt8.toNat_ofNat']
    have : c.seats.toNat % 2 ^ 8 = c.seats.toNat := Nat.mod_eq_of_lt (by omega)
    omega
  have er : (UInt8.ofNat c.rule).toNat = c.rule := by
    rw [UInt8.toNat_ofNat']
    exact Nat.mod_eq_of_lt (by omega)
  show some (ofParts c.name _ _ c.cands) = some c
  unfold ofParts
  rw [es, er]
theorem parts_partsOf {l : List (List UInt8)} {c : Ct} (h : partsOf l = some c) : partsM c = l := by
  unfold partsOf at h
  split at h
  · obtain rfl := Option.some.inj h
    simp [partsM, ofParts]
  · cases h
/-- Read undoes Bytes. -/
theorem read_bytes {c : Ct} (h : checkM c = 0) : readM (bytesM c).1 = (c, 0) := by
  have hm := checkM_ok.1 h
  have hs := textM_short hm
  have hb : bytesM c = (textM c, 0) := by unfold bytesM; rw [if_neg (by omega)]
  rw [hb]
  have he : Oc.splitM (textM c) = (partsM c, 0) := Oc.splitM_flat (Oc.fit_of_flat (by unfold textM at hs; omega)) (by unfold textM at hs; omega)
  unfold readM
  rw [he]
  simp only [ne_eq, not_true_eq_false, if_false, partsOf_parts hm, hm, if_true]
/-- Bytes undoes Read. -/
theorem bytes_read {b : List UInt8} (h : (readM b).2 = 0) : bytesM (readM b).1 = (b, 0) ∧ checkM (readM b).1 = 0 := by
  unfold readM at h ⊢
  by_cases h1 : (Oc.splitM b).2 ≠ 0
  · rw [if_pos h1] at h; exact absurd h h1
  · rw [if_neg h1] at h ⊢
    have h0 : (Oc.splitM b).2 = 0 := by omega
    obtain ⟨hf, hb, hl⟩ := Oc.splitM_ok h0
    cases hp : partsOf (Oc.splitM b).1 with
    | none => rw [hp] at h; simp at h
    | some c =>
      rw [hp] at h
      simp only at h
      by_cases hm : mayB c = true
      · simp only [hm, if_true]
        have hc := checkM_ok.2 hm
        refine ⟨?_, hc⟩
        unfold bytesM
        rw [if_neg (by omega)]
        unfold textM
        rw [parts_partsOf hp, ← hb]
      · rw [if_neg hm] at h; simp at h
theorem readM_err {b : List UInt8} (h : (readM b).2 ≠ 0) : (readM b).1 = zeroCt := by
  unfold readM at h ⊢
  split
  · rfl
  · rename_i h1
    rw [if_neg h1] at h
    cases hp : partsOf (Oc.splitM b).1 with
    | none => rfl
    | some c =>
      rw [hp] at h
      simp only at h ⊢
      split
      · rename_i hm; rw [if_pos hm] at h; exact absurd rfl h
      · rfl
theorem bytesM_err {c : Ct} (h : checkM c ≠ 0) : bytesM c = ([], checkM c) := by unfold bytesM; rw [if_pos h]
end Go.Proofs.YtejphpcngbjgjaaDoor
namespace Go.Proofs.YtejphpcngbjgjaaDoor
open Go.RowKit
set_option linter.unusedVariables false

def wordM (r : Nat) : List UInt8 × Int := if ruleB r then (wordsM.getD r [], 0) else ([], 2)
def ruleM (x : List UInt8) : Nat × Int := if x ∈ wordsM.drop 1 then (wordsM.idxOf x, 0) else (0, 6)
def kindE (r : Nat) : Nat × Int := if ruleB r then (kindM r, 0) else (0, 2)
def mostM (r : Nat) (n : Int) : Int × Int := if ruleB r && (decide (1 ≤ n) && decide (n ≤ 10)) then (marksM r n, 0) else (0, 2)

theorem ruleB_iff (r : Nat) : ruleB r = true ↔ 1 ≤ r ∧ r ≤ 16 := by simp [ruleB]
theorem rule_lt {P : Nat → Prop} (h : ∀ r, r < 17 → (1 ≤ r → P r)) {r : Nat} (hr : ruleB r = true) : P r := by
  have := (ruleB_iff r).1 hr
  exact h r (by omega) this.1
theorem rule_word {r : Nat} (hr : ruleB r = true) : ruleM (wordM r).1 = (r, 0) := by
  refine rule_lt (P := fun r => ruleM (wordM r).1 = (r, 0)) ?_ hr
  decide +kernel
theorem word_ne {r : Nat} (hr : ruleB r = true) : (wordM r).1 ≠ [] := by
  refine rule_lt (P := fun r => (wordM r).1 ≠ []) ?_ hr
  decide +kernel
theorem word_inj {r s : Nat} (hr : ruleB r = true) (hs : ruleB s = true) (h : (wordM r).1 = (wordM s).1) : r = s := by
  have h1 := rule_word hr
  rw [h, rule_word hs] at h1
  exact (Prod.mk.inj h1).1.symm
theorem word_rule {x : List UInt8} (h : (ruleM x).2 = 0) : wordM (ruleM x).1 = (x, 0) ∧ ruleB (ruleM x).1 = true := by
  unfold ruleM at h ⊢
  by_cases hx : x ∈ wordsM.drop 1
  · rw [if_pos hx]
    have hall : ∀ y ∈ wordsM.drop 1, wordM (wordsM.idxOf y) = (y, 0) ∧ ruleB (wordsM.idxOf y) = true := by decide +kernel
    exact hall x hx
  · rw [if_neg hx] at h
    cases h
theorem ruleM_err {x : List UInt8} (h : (ruleM x).2 ≠ 0) : ruleM x = (0, 6) := by
  unfold ruleM at h ⊢
  split
  · rename_i hx; rw [if_pos hx] at h; exact absurd rfl h
  · rfl
theorem wordM_len (r : Nat) : (wordM r).1.length ≤ 9 := by
  unfold wordM
  split
  · rename_i h
    refine rule_lt (P := fun r => (wordsM.getD r []).length ≤ 9) ?_ h
    decide +kernel
  · simp
theorem kindM_range (r : Nat) : 1 ≤ kindM r ∧ kindM r ≤ 3 := by unfold kindM; split <;> (try split) <;> omega
/-- Only a rule of marks limits them to one. -/
theorem marksM_kind {r : Nat} (hr : ruleB r = true) (n : Int) (h : marksM r n ≠ n) : kindM r = 2 := by
  have hb := (ruleB_iff r).1 hr
  unfold marksM at h
  split at h
  · rename_i h1
    unfold kindM
    rw [if_pos (by omega)]
  · exact absurd rfl h

theorem one_seat {c : Ct} (h : checkM c = 0) : checkM { c with seats := 1 } = 0 := by
  rw [checkM_ok] at h ⊢
  obtain ⟨h1, h2, h3, h4, h5, h6, h7, h8, h9⟩ := (mayB_iff c).1 h
  refine (mayB_iff _).2 ⟨h1, h2, h3, h4, by simp, by simp, h7, h8, ?_⟩
  unfold seatsB
  split
  · simp
  · simp; exact .inr (by omega)
theorem more_ok {c : Ct} (x : List UInt8) (h : checkM c = 0) : checkM { c with cands := c.cands ++ [x] } = 0 ↔ nameB x = true ∧ x ∉ c.cands ∧ c.cands.length < 10 := by
  rw [checkM_ok] at h
  obtain ⟨h1, h2, h3, h4, h5, h6, h7, h8, h9⟩ := (mayB_iff c).1 h
  rw [checkM_ok, mayB_iff]
  constructor
  · rintro ⟨g1, g2, g3, g4, g5, g6, g7, g8, g9⟩
    refine ⟨g7 x (by simp), ?_, by simp at g3; omega⟩
    have := List.nodup_append.1 g8
    intro hm
    exact this.2.2 x hm x (by simp) rfl
  · rintro ⟨g1, g2, g3⟩
    refine ⟨h1, by simp, by simp; omega, h4, h5, h6, ?_, ?_, ?_⟩
    · intro y hy
      rcases List.mem_append.1 hy with hy | hy
      · exact h7 y hy
      · obtain rfl := List.mem_singleton.1 hy; exact g1
    · refine List.nodup_append.2 ⟨h8, by simp, ?_⟩
      intro a ha b hb e
      obtain rfl := List.mem_singleton.1 hb
      subst e
      exact g2 ha
    · unfold seatsB at h9 ⊢
      split
      · rename_i h; rw [if_pos h] at h9; exact h9
      · rename_i h
        rw [if_neg h] at h9
        simp at h9 ⊢
        rcases h9 with h9 | h9
        · exact .inl h9
        · exact .inr (by omega)
theorem idx_last {x : List UInt8} : ∀ {l : List (List UInt8)}, x ∉ l → (l ++ [x]).idxOf x = l.length
  | l, h => by
    rw [List.idxOf_append, if_neg h]
    simp
/-- What ContestSeats says of Place. -/
theorem more_place {c : Ct} (x : List UInt8) (h : checkM c = 0) :
    placeM { c with cands := c.cands ++ [x] } x = if nameB x = true ∧ x ∉ c.cands ∧ c.cands.length < 10 then (((c.cands.length : Nat) : Int), 0) else (0, checkM { c with cands := c.cands ++ [x] }) := by
  unfold placeM
  by_cases hm : checkM { c with cands := c.cands ++ [x] } = 0
  · have hq := (more_ok x h).1 hm
    rw [if_neg (by omega), if_pos (by simp), if_pos hq, idx_last hq.2.1]
  · rw [if_pos hm, if_neg (fun e => hm ((more_ok x h).2 e))]
theorem place_ok {c : Ct} (x : List UInt8) (h : checkM c = 0) : placeM c x = if x ∈ c.cands then (((c.cands.idxOf x : Nat) : Int), 0) else (0, 6) := by
  unfold placeM
  rw [if_neg (by omega)]
end Go.Proofs.YtejphpcngbjgjaaDoor
namespace Go.Proofs.YtejphpcngbjgjaaDoor
open Go.RowKit
set_option linter.unusedVariables false

/-- A ballot: its kind, its marks. -/
structure Bl where
  kind : Nat
  marks : List Int
deriving DecidableEq

def ascB (l : List Int) : Bool := decide (l.Pairwise (· < ·))
/-- A ballot is valid among n candidates. -/
def fineB (b : Bl) (n : Int) : Bool :=
  if b.kind = 3 then (b.marks.all fun m => decide (0 ≤ m) && decide (m ≤ 10)) && decide ((b.marks.length : Int) = n)
  else if b.kind = 1 then (b.marks.all fun m => decide (0 ≤ m) && decide (m < n)) && decide b.marks.Nodup
  else if b.kind = 2 then (b.marks.all fun m => decide (0 ≤ m) && decide (m < n)) && ascB b.marks
  else false
theorem fine_score {l : List Int} {n : Int} : fineB ⟨3, l⟩ n = true ↔ (∀ m ∈ l, 0 ≤ m ∧ m ≤ 10) ∧ (l.length : Int) = n := by simp [fineB]
theorem fine_rank {l : List Int} {n : Int} : fineB ⟨1, l⟩ n = true ↔ (∀ m ∈ l, 0 ≤ m ∧ m < n) ∧ l.Nodup := by simp [fineB]
theorem fine_mark {l : List Int} {n : Int} : fineB ⟨2, l⟩ n = true ↔ (∀ m ∈ l, 0 ≤ m ∧ m < n) ∧ l.Pairwise (· < ·) := by simp [fineB, ascB]
theorem fine_kind {b : Bl} {n : Int} (h : fineB b n = true) : b.kind = 1 ∨ b.kind = 2 ∨ b.kind = 3 := by
  unfold fineB at h
  split at h
  · rename_i e; exact .inr (.inr e)
  · split at h
    · rename_i e; exact .inl e
    · split at h
      · rename_i e; exact .inr (.inl e)
      · cases h
def checkB (b : Bl) (n : Int) : Int := if n < 1 ∨ 10 < n then 2 else if fineB b n then 0 else 8
theorem checkB_ok {b : Bl} {n : Int} : checkB b n = 0 ↔ 1 ≤ n ∧ n ≤ 10 ∧ fineB b n = true := by
  unfold checkB
  split
  · constructor
    · intro h; cases h
    · intro h; omega
  · rename_i h
    split
    · rename_i hf; exact ⟨fun _ => ⟨by omega, by omega, hf⟩, fun _ => rfl⟩
    · rename_i hf; exact ⟨fun h => (by cases h), fun h => absurd h.2.2 hf⟩

/-! ### Keep -/
def keepB (left : List Bool) (m : Int) : Bool := decide (0 ≤ m) && left.getD m.toNat false
def keepM (b : Bl) (left : List Bool) : Bl :=
  if b.kind = 1 ∨ b.kind = 2 then ⟨b.kind, b.marks.filter (keepB left)⟩
  else if b.kind = 3 then ⟨3, b.marks.mapIdx fun i m => if left.getD i false then m else 0⟩
  else b
def bothB (one two : List Bool) : List Bool := List.zipWith (· && ·) one two
theorem both_get (one two : List Bool) (i : Nat) : (bothB one two).getD i false = (one.getD i false && two.getD i false) := by
  unfold bothB
  simp only [List.getD_eq_getElem?_getD, List.getElem?_zipWith]
  cases one[i]? <;> cases two[i]? <;> simp
theorem keep_both (one two : List Bool) (m : Int) : keepB (bothB one two) m = (keepB two m && keepB one m) := by
  unfold keepB
  rw [both_get]
  cases decide (0 ≤ m) <;> simp [Bool.and_comm]
/-- Keeping twice is keeping the intersection. -/
theorem keep_twice (b : Bl) (one two : List Bool) : keepM (keepM b one) two = keepM b (bothB one two) := by
  obtain ⟨k, l⟩ := b
  by_cases h1 : k = 1 ∨ k = 2
  · simp only [keepM, h1, if_true]
    congr 1
    rw [List.filter_filter]
    congr 1
    funext m
    rw [keep_both]
  · by_cases h3 : k = 3
    · subst h3
      simp only [keepM, show ¬((3 : Nat) = 1 ∨ (3 : Nat) = 2) by decide, if_false, if_true]
      congr 1
      apply List.ext_getElem
      · simp
      · intro i h h'
        simp only [List.getElem_mapIdx, both_get]
        cases one.getD i false <;> cases two.getD i false <;> simp
    · simp only [keepM, h1, h3, if_false]
theorem keep_fine {b : Bl} {n : Int} (left : List Bool) (h : fineB b n = true) : fineB (keepM b left) n = true := by
  obtain ⟨k, l⟩ := b
  rcases fine_kind h with e | e | e
  · simp only at e; subst e
    obtain ⟨h1, h2⟩ := fine_rank.1 h
    exact fine_rank.2 ⟨fun m hm => h1 m (List.mem_filter.1 hm).1, h2.sublist List.filter_sublist⟩
  · simp only at e; subst e
    obtain ⟨h1, h2⟩ := fine_mark.1 h
    exact fine_mark.2 ⟨fun m hm => h1 m (List.mem_filter.1 hm).1, h2.sublist List.filter_sublist⟩
  · simp only at e; subst e
    obtain ⟨h1, h2⟩ := fine_score.1 h
    refine fine_score.2 ⟨fun m hm => ?_, by simpa using h2⟩
    obtain ⟨i, hi, rfl⟩ := List.getElem_of_mem hm
    simp only [List.getElem_mapIdx]
    split
    · exact h1 _ (List.getElem_mem _)
    · omega

/-! ### Prefers -/
def prefersB (b : Bl) (x y : Int) : Bool :=
  if x < 0 ∨ y < 0 then false
  else if b.kind = 1 then decide (x ∈ b.marks) && (decide (y ∉ b.marks) || decide (b.marks.idxOf x < b.marks.idxOf y))
  else if b.kind = 2 then decide (x ∈ b.marks) && decide (y ∉ b.marks)
  else if b.kind = 3 then decide (x < b.marks.length) && (decide (y < b.marks.length) && decide (b.marks.getD y.toNat 0 < b.marks.getD x.toNat 0))
  else false
theorem idxOf_filter {p : Int → Bool} {x y : Int} (hx : p x = true) (hy : p y = true) : ∀ (l : List Int), x ∈ l → y ∈ l → ((l.filter p).idxOf x < (l.filter p).idxOf y ↔ l.idxOf x < l.idxOf y)
  | [], h, _ => by cases h
  | a :: l, h1, h2 => by
    by_cases ha : p a = true
    · rw [List.filter_cons_of_pos ha, List.idxOf_cons, List.idxOf_cons, List.idxOf_cons, List.idxOf_cons]
      by_cases e1 : a = x
      · by_cases e2 : a = y
        · simp [e1, ← e2]
        · subst e1
          have : (a == y) = false := by rw [beq_eq_false_iff_ne]; exact e2
          simp [this]
      · by_cases e2 : a = y
        · subst e2
          have : (a == x) = false := by rw [beq_eq_false_iff_ne]; exact e1
          simp [this]
        · have hm1 : x ∈ l := by rcases List.mem_cons.1 h1 with h | h; exact absurd h.symm e1; exact h
          have hm2 : y ∈ l := by rcases List.mem_cons.1 h2 with h | h; exact absurd h.symm e2; exact h
          have := idxOf_filter hx hy l hm1 hm2
          have b1 : (a == x) = false := by rw [beq_eq_false_iff_ne]; exact e1
          have b2 : (a == y) = false := by rw [beq_eq_false_iff_ne]; exact e2
          simp only [b1, b2, cond_false]
          omega
    · rw [List.filter_cons_of_neg ha, List.idxOf_cons, List.idxOf_cons]
      have e1 : a ≠ x := fun e => ha (by rw [e]; exact hx)
      have e2 : a ≠ y := fun e => ha (by rw [e]; exact hy)
      have hm1 : x ∈ l := by rcases List.mem_cons.1 h1 with h | h; exact absurd h.symm e1; exact h
      have hm2 : y ∈ l := by rcases List.mem_cons.1 h2 with h | h; exact absurd h.symm e2; exact h
      have := idxOf_filter hx hy l hm1 hm2
      have b1 : (a == x) = false := by rw [beq_eq_false_iff_ne]; exact e1
      have b2 : (a == y) = false := by rw [beq_eq_false_iff_ne]; exact e2
      simp only [b1, b2, cond_false]
      omega
/-- Keep does not change which of two remaining candidates is preferred. -/
theorem keep_prefers (b : Bl) (left : List Bool) (x y : Int) (hx : keepB left x = true) (hy : keepB left y = true) : prefersB (keepM b left) x y = prefersB b x y := by
  obtain ⟨k, l⟩ := b
  have hx0 : 0 ≤ x := by unfold keepB at hx; simp at hx; exact hx.1
  have hy0 : 0 ≤ y := by unfold keepB at hy; simp at hy; exact hy.1
  have hxg : left.getD x.toNat false = true := by unfold keepB at hx; simp at hx; simpa using hx.2
  have hyg : left.getD y.toNat false = true := by unfold keepB at hy; simp at hy; simpa using hy.2
  have hn : ¬ (x < 0 ∨ y < 0) := by omega
  unfold prefersB keepM
  rw [if_neg hn, if_neg hn]
  have m1 : x ∈ l.filter (keepB left) ↔ x ∈ l := by simp [List.mem_filter, hx]
  have m2 : y ∈ l.filter (keepB left) ↔ y ∈ l := by simp [List.mem_filter, hy]
  by_cases k1 : k = 1
  · subst k1
    simp only [true_or, if_true, m1, m2]
    by_cases hm1 : x ∈ l
    · by_cases hm2 : y ∈ l
      · simp [hm1, hm2, idxOf_filter hx hy l hm1 hm2]
      · simp [hm1, hm2]
    · simp [hm1]
  · by_cases k2 : k = 2
    · subst k2
      simp only [or_true, if_true, m1, m2]
      simp
    · by_cases k3 : k = 3
      · subst k3
        simp only [k1, k2, or_self, if_false, if_true, List.length_mapIdx]
        by_cases hlx : x < (l.length : Int)
        · by_cases hly : y < (l.length : Int)
          · have g1 : (l.mapIdx fun i m => if left.getD i false then m else 0).getD x.toNat 0 = l.getD x.toNat 0 := by
              rw [List.getD_eq_getElem?_getD, List.getD_eq_getElem?_getD, List.getElem?_mapIdx, hxg]
              cases l[x.toNat]? <;> simp
            have g2 : (l.mapIdx fun i m => if left.getD i false then m else 0).getD y.toNat 0 = l.getD y.toNat 0 := by
              rw [List.getD_eq_getElem?_getD, List.getD_eq_getElem?_getD, List.getElem?_mapIdx, hyg]
              cases l[y.toNat]? <;> simp
            rw [g1, g2]
          · simp [hly]
        · simp [hlx]
      · simp only [k1, k2, k3, or_self, if_false]
theorem prefers_asymm {b : Bl} {x y : Int} (h : prefersB b x y = true) : prefersB b y x = false := by
  obtain ⟨k, l⟩ := b
  by_cases hxy : x < 0 ∨ y < 0
  · unfold prefersB at h; rw [if_pos hxy] at h; cases h
  · have hyx : ¬ (y < 0 ∨ x < 0) := by omega
    unfold prefersB at h ⊢
    rw [if_neg hxy] at h
    rw [if_neg hyx]
    by_cases k1 : k = 1
    · subst k1
      simp only [if_true, Bool.and_eq_true, Bool.or_eq_true, decide_eq_true_eq] at h ⊢
      rw [Bool.eq_false_iff]
      intro e
      simp only [Bool.and_eq_true, Bool.or_eq_true, decide_eq_true_eq] at e
      rcases h.2 with a | a
      · exact a e.1
      · rcases e.2 with c | c
        · exact c h.1
        · omega
    · by_cases k2 : k = 2
      · subst k2
        simp only [k1, if_false, if_true, Bool.and_eq_true, decide_eq_true_eq] at h ⊢
        rw [Bool.eq_false_iff]
        intro e
        simp only [Bool.and_eq_true, decide_eq_true_eq] at e
        exact h.2 e.1
      · by_cases k3 : k = 3
        · subst k3
          simp only [k1, k2, if_false, if_true, Bool.and_eq_true, decide_eq_true_eq] at h ⊢
          rw [Bool.eq_false_iff]
          intro e
          simp only [Bool.and_eq_true, decide_eq_true_eq] at e
          omega
        · simp only [k1, k2, k3, if_false] at h
          cases h
theorem prefers_irrefl (b : Bl) (x : Int) : prefersB b x x = false := by
  cases h : prefersB b x x with
  | false => rfl
  | true => have := prefers_asymm h; rw [h] at this; cases this

/-! ### Less -/
def aheadB : List Int → List Int → Bool
  | _, [] => false
  | [], _ :: _ => true
  | a :: l, b :: m => decide (a < b) || (decide (a = b) && aheadB l m)
def lessB (a b : Bl) : Bool := decide (a.kind < b.kind) || (decide (a.kind = b.kind) && aheadB a.marks b.marks)
theorem ahead_irrefl : ∀ l : List Int, aheadB l l = false
  | [] => rfl
  | a :: l => by simp [aheadB, ahead_irrefl l]
theorem ahead_asymm : ∀ {l m : List Int}, aheadB l m = true → aheadB m l = false
  | [], [], h => by cases h
  | [], _ :: _, _ => rfl
  | _ :: _, [], h => by cases h
  | a :: l, b :: m, h => by
    simp only [aheadB, Bool.or_eq_true, Bool.and_eq_true, decide_eq_true_eq, Bool.or_eq_false_iff, Bool.and_eq_false_iff, decide_eq_false_iff_not] at h ⊢
    rcases h with h | ⟨h1, h2⟩
    · exact ⟨by omega, .inl (by omega)⟩
    · exact ⟨by omega, .inr (ahead_asymm h2)⟩
theorem ahead_trans : ∀ {l m n : List Int}, aheadB l m = true → aheadB m n = true → aheadB l n = true
  | [], [], _, h, _ => by cases h
  | _ :: _, [], _, h, _ => by cases h
  | _, _ :: _, [], _, h => by cases h
  | [], _ :: _, _ :: _, _, _ => rfl
  | a :: l, b :: m, c :: n, h, k => by
    simp only [aheadB, Bool.or_eq_true, Bool.and_eq_true, decide_eq_true_eq] at h k ⊢
    rcases h with h | ⟨h1, h2⟩
    · rcases k with k | ⟨k1, k2⟩
      · exact .inl (by omega)
      · exact .inl (by omega)
    · rcases k with k | ⟨k1, k2⟩
      · exact .inl (by omega)
      · exact .inr ⟨by omega, ahead_trans h2 k2⟩
theorem ahead_total : ∀ {l m : List Int}, l ≠ m → aheadB l m = true ∨ aheadB m l = true
  | [], [], h => absurd rfl h
  | [], _ :: _, _ => .inl rfl
  | _ :: _, [], _ => .inr rfl
  | a :: l, b :: m, h => by
    simp only [aheadB, Bool.or_eq_true, Bool.and_eq_true, decide_eq_true_eq]
    by_cases e : a = b
    · subst e
      have : l ≠ m := fun e => h (by rw [e])
      rcases ahead_total this with h1 | h1
      · exact .inl (.inr ⟨rfl, h1⟩)
      · exact .inr (.inr ⟨rfl, h1⟩)
    · rcases Int.lt_or_lt_of_ne e with h1 | h1
      · exact .inl (.inl h1)
      · exact .inr (.inl h1)
theorem less_irrefl (a : Bl) : lessB a a = false := by simp [lessB, ahead_irrefl]
theorem less_asymm {a b : Bl} (h : lessB a b = true) : lessB b a = false := by
  simp only [lessB, Bool.or_eq_true, Bool.and_eq_true, decide_eq_true_eq, Bool.or_eq_false_iff, Bool.and_eq_false_iff, decide_eq_false_iff_not] at h ⊢
  rcases h with h | ⟨h1, h2⟩
  · exact ⟨by omega, .inl (by omega)⟩
  · exact ⟨by omega, .inr (ahead_asymm h2)⟩
theorem less_trans {a b c : Bl} (h : lessB a b = true) (k : lessB b c = true) : lessB a c = true := by
  simp only [lessB, Bool.or_eq_true, Bool.and_eq_true, decide_eq_true_eq] at h k ⊢
  rcases h with h | ⟨h1, h2⟩
  · rcases k with k | ⟨k1, k2⟩
    · exact .inl (by omega)
    · exact .inl (by omega)
  · rcases k with k | ⟨k1, k2⟩
    · exact .inl (by omega)
    · exact .inr ⟨by omega, ahead_trans h2 k2⟩
theorem less_total {a b : Bl} (h : a ≠ b) : lessB a b = true ∨ lessB b a = true := by
  obtain ⟨k, l⟩ := a
  obtain ⟨k2, l2⟩ := b
  simp only [lessB, Bool.or_eq_true, Bool.and_eq_true, decide_eq_true_eq]
  by_cases e : k = k2
  · subst e
    have : l ≠ l2 := fun e => h (by rw [e])
    rcases ahead_total this with h1 | h1
    · exact .inl (.inr ⟨rfl, h1⟩)
    · exact .inr (.inr ⟨rfl, h1⟩)
  · rcases Nat.lt_or_gt_of_ne e with h1 | h1
    · exact .inl (.inl h1)
    · exact .inr (.inl h1)
/-- One is less just where they differ. -/
theorem less_same (a b : Bl) : (lessB a b || lessB b a) = !decide (a = b) := by
  by_cases e : a = b
  · subst e; simp [less_irrefl]
  · rcases less_total e with h | h <;> simp [h, e]
end Go.Proofs.YtejphpcngbjgjaaDoor
namespace Go.Proofs.YtejphpcngbjgjaaDoor
open Go.RowKit
set_option linter.unusedVariables false

/-! ### Sheets of a contest -/
def wideS (c : Ct) : Nat := if kindM c.rule = 1 then c.cands.length else if kindM c.rule = 3 then 11 else 1
def manyS (c : Ct) : Nat := c.cands.length * wideS c
def boxesS (c : Ct) : Int × Int := if checkM c ≠ 0 then (0, checkM c) else ((manyS c : Nat), 0)
def darkS (s : List UInt8) : Bool := s.all fun b => decide (b.toNat ≤ 100)
def checkS (c : Ct) (s : List UInt8) : Int := if checkM c ≠ 0 then checkM c else if s.length ≠ manyS c then 8 else if darkS s then 0 else 8
theorem checkS_ok {c : Ct} {s : List UInt8} : checkS c s = 0 ↔ checkM c = 0 ∧ s.length = manyS c ∧ ∀ b ∈ s, b.toNat ≤ 100 := by
  unfold checkS darkS
  constructor
  · intro h
    split at h
    · omega
    · split at h
      · omega
      · split at h
        · rename_i h1 h2 h3
          exact ⟨by omega, by omega, by simpa using h3⟩
        · omega
  · rintro ⟨h1, h2, h3⟩
    rw [if_neg (by omega), if_neg (by omega), if_pos (by simpa using h3)]

/-! ### Policies, decisions -/
structure Po where
  low : Nat
  high : Nat
  skips : Int
deriving DecidableEq
structure De where
  box : Int
  marked : Bool
deriving DecidableEq
def mayP (p : Po) : Bool := decide (1 ≤ p.low) && (decide (p.low ≤ p.high) && (decide (p.high ≤ 100) && (decide (0 ≤ p.skips) && decide (p.skips ≤ 10))))
theorem mayP_iff (p : Po) : mayP p = true ↔ 1 ≤ p.low ∧ p.low ≤ p.high ∧ p.high ≤ 100 ∧ 0 ≤ p.skips ∧ p.skips ≤ 10 := by simp [mayP]
/-- A box of this darkness is doubtful. -/
def doubtP (p : Po) (b : UInt8) : Bool := decide (p.low ≤ b.toNat) && decide (b.toNat < p.high)
theorem doubtP_iff (p : Po) (b : UInt8) : doubtP p b = true ↔ p.low ≤ b.toNat ∧ b.toNat < p.high := by simp [doubtP]
/-- The box that a decision names is a doubtful one of the sheet. -/
def namesD (p : Po) (s : List UInt8) (d : De) : Bool := decide (0 ≤ d.box) && (decide (d.box < s.length) && doubtP p (s.getD d.box.toNat 0))
theorem namesD_iff (p : Po) (s : List UInt8) (d : De) : namesD p s d = true ↔ 0 ≤ d.box ∧ d.box < s.length ∧ doubtP p (s.getD d.box.toNat 0) = true := by simp [namesD]
def decsS (p : Po) (s : List UInt8) (l : List De) : Bool := (l.all fun d => namesD p s d) && decide ((l.map (·.box)).Nodup)
theorem decsS_iff (p : Po) (s : List UInt8) (l : List De) : decsS p s l = true ↔ (∀ d ∈ l, namesD p s d = true) ∧ (l.map (·.box)).Nodup := by simp [decsS]
/-- What has been decided of a box. -/
def decidedS : List De → Int → Option Bool
  | [], _ => none
  | d :: l, i => if d.box = i then some d.marked else decidedS l i
theorem decidedS_none : ∀ {l : List De} {i : Int}, decidedS l i = none ↔ ∀ d ∈ l, d.box ≠ i
  | [], i => by simp [decidedS]
  | d :: l, i => by
    unfold decidedS
    by_cases h : d.box = i
    · rw [if_pos h]
      constructor
      · intro e; cases e
      · intro e; exact absurd h (e d (List.mem_cons_self ..))
    · rw [if_neg h, decidedS_none]
      constructor
      · intro e x hx
        rcases List.mem_cons.1 hx with rfl | hx
        · exact h
        · exact e x hx
      · intro e x hx; exact e x (List.mem_cons_of_mem _ hx)
theorem decidedS_some : ∀ {l : List De} {i : Int} {b : Bool}, (l.map (·.box)).Nodup → (decidedS l i = some b ↔ ⟨i, b⟩ ∈ l)
  | [], i, b, _ => by simp [decidedS]
  | d :: l, i, b, hn => by
    rw [List.map_cons, List.nodup_cons] at hn
    unfold decidedS
    by_cases h : d.box = i
    · rw [if_pos h]
      obtain ⟨x, y⟩ := d
      simp only at h
      subst h
      constructor
      · intro e; have e := Option.some.inj e; simp only at e; rw [e]; exact List.mem_cons_self ..
      · intro e
        rcases List.mem_cons.1 e with e | e
        · injection e with _ e; rw [e]
        · exact absurd (List.mem_map.2 ⟨_, e, rfl⟩) hn.1
    · rw [if_neg h, decidedS_some hn.2]
      constructor
      · intro e; exact List.mem_cons_of_mem _ e
      · intro e
        rcases List.mem_cons.1 e with e | e
        · subst e; exact absurd rfl h
        · exact e
theorem decidedS_same {l m : List De} (hl : (l.map (·.box)).Nodup) (hm : (m.map (·.box)).Nodup) (h : ∀ d, d ∈ l ↔ d ∈ m) (i : Int) : decidedS l i = decidedS m i := by
  cases hx : decidedS l i with
  | none =>
    rw [decidedS_none] at hx
    exact (decidedS_none.2 fun d hd => hx d ((h d).2 hd)).symm
  | some b =>
    rw [decidedS_some hl, h] at hx
    exact ((decidedS_some hm).2 hx).symm
theorem decidedS_snoc : ∀ (l : List De) (d : De) (i : Int), decidedS (l ++ [d]) i = (decidedS l i).or (if d.box = i then some d.marked else none)
  | [], d, i => by simp [decidedS]
  | x :: l, d, i => by
    rw [List.cons_append, decidedS, decidedS]
    by_cases h : x.box = i
    · rw [if_pos h, if_pos h]; rfl
    · rw [if_neg h, if_neg h, decidedS_snoc l d i]

/-! ### Which boxes count as marked -/
def markAt (p : Po) (l : List De) (i : Nat) (b : UInt8) : Bool := if doubtP p b then (decidedS l i).getD false else decide (p.high ≤ b.toNat)
def openAt (p : Po) (l : List De) (i : Nat) (b : UInt8) : Bool := doubtP p b && (decidedS l i).isNone
def markS (p : Po) (s : List UInt8) (l : List De) : List Bool := (List.range s.length).map fun i => markAt p l i (s.getD i 0)
def doubtsN (p : Po) (s : List UInt8) (l : List De) : List Nat := (List.range s.length).filter fun i => openAt p l i (s.getD i 0)
def doubtsS (p : Po) (s : List UInt8) (l : List De) : List Int := (doubtsN p s l).map (fun i => ((i : Nat) : Int))

/-! ### The reading -/
/-- The candidates whose box in a column is marked. -/
def colS (m : List Bool) (n wide j : Nat) : List Int := ((List.range n).filter fun i => m.getD (i * wide + j) false).map (fun i => ((i : Nat) : Int))
def marksS (m : List Bool) (most : Int) : List Int × Int := if most < ((colS m m.length 1 0).length : Nat) then ([], 1) else (colS m m.length 1 0, 0)
def ranksL : List (List Int) → Int → List Int → Nat → List Int × Int
  | [], _, out, _ => (out, 0)
  | [] :: cs, skips, out, k => if 0 < skips ∧ skips ≤ ((k + 1 : Nat) : Int) then (out, 0) else ranksL cs skips out (k + 1)
  | [x] :: cs, skips, out, k => ranksL cs skips (if x ∈ out then out else out ++ [x]) 0
  | (_ :: _ :: _) :: _, _, out, _ => (out, 1)
def ranksS (m : List Bool) (n : Nat) (skips : Int) : List Int × Int := ranksL ((List.range n).map fun j => colS m n n j) skips [] 0
/-- One candidate's scores: which of the eleven boxes are marked. -/
def scoreJs (m : List Bool) (i : Nat) : List Nat := (List.range 11).filter fun j => m.getD (i * 11 + j) false
def scoreOf : List Nat → Int
  | [j] => (j : Nat)
  | _ => 0
def scoresS (m : List Bool) (n : Nat) : List Int × Int := ((List.range n).map fun i => scoreOf (scoreJs m i), (((List.range n).countP fun i => decide (1 < (scoreJs m i).length) : Nat) : Int))
/-- A reading: its ballot, the overvotes, the boxes that remain in doubt. -/
structure Rg where
  bal : Bl
  over : Int
  doubts : List Int
deriving DecidableEq
def zeroRg : Rg := ⟨⟨0, []⟩, 0, []⟩
def ballotS (c : Ct) (skips : Int) (m : List Bool) : List Int × Int :=
  if kindM c.rule = 1 then ranksS m c.cands.length skips else if kindM c.rule = 2 then marksS m (marksM c.rule c.cands.length) else scoresS m c.cands.length
def readS (c : Ct) (p : Po) (s : List UInt8) (l : List De) : Rg × Int :=
  if checkS c s ≠ 0 then (zeroRg, checkS c s)
  else if mayP p = false then (zeroRg, 2)
  else if s.length < l.length then (zeroRg, 4)
  else if decsS p s l = false then (zeroRg, 2)
  else (⟨⟨kindM c.rule, (ballotS c p.skips (markS p s l)).1⟩, (ballotS c p.skips (markS p s l)).2, doubtsS p s l⟩, 0)
theorem readS_ok {c : Ct} {p : Po} {s : List UInt8} {l : List De} : (readS c p s l).2 = 0 ↔ checkS c s = 0 ∧ mayP p = true ∧ l.length ≤ s.length ∧ decsS p s l = true := by
  unfold readS
  by_cases h1 : checkS c s ≠ 0
  · rw [if_pos h1]
    exact ⟨fun h => absurd h h1, fun h => absurd h.1 h1⟩
  rw [if_neg h1]
  by_cases h2 : mayP p = false
  · rw [if_pos h2]
    exact ⟨(fun h => by cases h), (fun h => by rw [h2] at h; cases h.2.1)⟩
  rw [if_neg h2]
  by_cases h3 : s.length < l.length
  · rw [if_pos h3]
    exact ⟨(fun h => by cases h), (fun h => by omega)⟩
  rw [if_neg h3]
  by_cases h4 : decsS p s l = false
  · rw [if_pos h4]
    exact ⟨(fun h => by cases h), (fun h => by rw [h4] at h; cases h.2.2.2)⟩
  rw [if_neg h4]
  exact ⟨fun _ => ⟨by omega, by simpa using h2, by omega, by simpa using h4⟩, fun _ => rfl⟩
theorem readS_is {c : Ct} {p : Po} {s : List UInt8} {l : List De} (h : (readS c p s l).2 = 0) : (readS c p s l).1 = ⟨⟨kindM c.rule, (ballotS c p.skips (markS p s l)).1⟩, (ballotS c p.skips (markS p s l)).2, doubtsS p s l⟩ := by
  obtain ⟨h1, h2, h3, h4⟩ := readS_ok.1 h
  unfold readS
  rw [if_neg (by omega), if_neg (by rw [h2]; simp), if_neg (by omega), if_neg (by rw [h4]; simp)]

/-! ### The order of the decisions -/
theorem nodup_rev {α : Type} (l : List α) : l.reverse.Nodup ↔ l.Nodup := by
  unfold List.Nodup
  rw [List.pairwise_reverse]
  exact ⟨fun h => h.imp fun h e => h e.symm, fun h => h.imp fun h e => h e.symm⟩
theorem decsS_reverse (p : Po) (s : List UInt8) (l : List De) : decsS p s l.reverse = decsS p s l := by
  rw [Bool.eq_iff_iff, decsS_iff, decsS_iff, List.map_reverse, nodup_rev]
  exact ⟨fun h => ⟨fun d hd => h.1 d (List.mem_reverse.2 hd), h.2⟩, fun h => ⟨fun d hd => h.1 d (List.mem_reverse.1 hd), h.2⟩⟩
theorem decidedS_reverse {l : List De} (h : (l.map (·.box)).Nodup) (i : Int) : decidedS l.reverse i = decidedS l i :=
  decidedS_same (by rw [List.map_reverse]; exact (nodup_rev _).2 h) h (fun d => List.mem_reverse) i
theorem readS_reverse (c : Ct) (p : Po) (s : List UInt8) (l : List De) : readS c p s l.reverse = readS c p s l := by
  unfold readS
  rw [List.length_reverse, decsS_reverse]
  by_cases h : decsS p s l = false
  · rw [if_pos h, if_pos h]
  · have hn := ((decsS_iff p s l).1 (by simpa using h)).2
    have e1 : markS p s l.reverse = markS p s l := by
      unfold markS markAt
      simp only [decidedS_reverse hn]
    have e2 : doubtsS p s l.reverse = doubtsS p s l := by
      unfold doubtsS doubtsN openAt
      simp only [decidedS_reverse hn]
    rw [e1, e2]
end Go.Proofs.YtejphpcngbjgjaaDoor
namespace Go.Proofs.YtejphpcngbjgjaaDoor
open Go.RowKit
set_option linter.unusedVariables false
variable {F : Fence} {n : Nat} {P : Program}

/-- What an iterator over elements of α promises to a loop that begins in the world w. -/
def SeqNew {α : Type} (F : Fence) (n : Nat) (P : Program) (gf : Nat) (lb : Array Value) (encs : α → Array Value) (Kp : World → World → Prop) (Mx : α → World → Prop) (S Sp : List α → Prop) (N : Nat) (w : World) : Prop :=
  ∀ (l : Nat) (J Jx : List α → World → Prop) (W : World), Below w.heap.size w W → (∀ s X Y, J s X → X.grownBy Y none → J s Y) → (∀ s X Y, Jx s X → X.grownBy Y none → Jx s Y) →
    (∀ pre x W1, J pre W1 → Mx x W1 → pre.length < N → YieldAt F (n - 1) P l (encs x) W1 fun e W' =>
      (e = .returned (.bool true) ∧ J (pre ++ [x]) W' ∧ Kp W1 W') ∨ (e = .returned (.bool false) ∧ Jx (pre ++ [x]) W')) →
    J [] W →
    CallsIn F n P gf (#[.func (.yield l) #[] #[]] ++ lb) W fun e W' => (∃ v, e = .returned v) ∧ ((∃ xs, S xs ∧ J xs W') ∨ (∃ pre, Sp pre ∧ Jx pre W'))

theorem grown_none_keeps {W W' : World} (hg : W.grownBy W' none) {k : Nat} {o : Obj} (hk : W.heap[k]? = some o) : W'.heap[k]? = some o :=
  (hg.block k (Array.getElem?_eq_some_iff.1 hk).1 (by simp)).trans hk

/-- The statement, over such an iterator. -/
theorem wpIn_range_new {α : Type} {g : Operand} {ps : Array Tmp} {assign body : Code} {Q : Exit → Act → World → Prop} {a : Act} {w : World}
    (hro : F.round = none) (h1 : 1 ≤ n) {gf : Nat} {lb : Array Value} (hg : a.eval g = .func (.func gf) #[] lb) (hFg : F.fn gf) (eg : ∀ args w, (callFunc gf args).run P w = .ok (.enter gf args) w)
    {encs : α → Array Value} {Kp : World → World → Prop} {Mx : α → World → Prop} {S Sp : List α → Prop} {N : Nat} (hseq : SeqNew F (n - 1) P gf lb encs Kp Mx S Sp N w)
    (hKt : ∀ {A B C : World}, Kp A B → Kp B C → Kp A C) (hKb : ∀ (W : World) (l : Nat) (o o' : Obj), w.heap.size ≤ l → W.heap[l]? = some o → o.isCells = false → Kp W (W.putObj l o'))
    (hMx : ∀ x, OwnFrom w.heap.size (fun (_ : Unit) W => Mx x W)) (hps : ∀ x, (encs x).size = ps.size)
    (I : List α → World → Prop) (Ix : Code → List α → World → Prop) (hI : OwnFrom w.heap.size I) (hIx : ∀ c, OwnFrom w.heap.size (Ix c)) (h0 : I [] w) (a₁ : α → Act)
    (hassign : ∀ (l : Nat) (x : α) (W : World) (K : Act → World → Prop), K (a₁ x) W →
      assign.wpIn (F.inRound l) (n - 1 - 1) P (Exit.then K (fun _ _ _ => False)) { tmps := (ps.zip (encs x)).foldl (fun t (p, v) => t.setIfInBounds p v) a.tmps, defers := [] } W)
    (hbody : ∀ (l : Nat) (pre : List α) (x : α) (W : World), I pre W → Mx x W → pre.length < N → body.wpIn (F.inRound l) (n - 1 - 1) P (ownPostK Kp I Ix (pre ++ [x]) W) (a₁ x) W)
    (hdone : ∀ (D : Nat) (xs : List α) (W : World), w.heap.size ≤ D → S xs → I xs W → W.heap[D]? = some (.deferred (some [])) → Q .normal { a with defers := { target := .collected D, args := #[] } :: a.defers } W)
    (hstop : ∀ (D : Nat) (c : Code) (pre : List α) (W : World), w.heap.size ≤ D → Sp pre → Ix c pre W → W.heap[D]? = some (.deferred (some [])) → c.wpIn F n P Q { a with defers := { target := .collected D, args := #[] } :: a.defers } W) :
    (Code.rangeFunc g ps assign body).wpIn F n P Q a w := by
  refine wpIn_rangeFunc ?_
  intro fn hfn
  rw [hro]
  obtain ⟨rec, hrec⟩ : ∃ rec : LoopState → Option Code → Loop, rec = fun st pe => { state := st, pending := pe, fn, tmps := a.tmps, params := ps, assign, body, defers := w.heap.size } := ⟨_, rfl⟩
  obtain ⟨d, hd⟩ : ∃ d, d = w.heap.size := ⟨_, rfl⟩
  obtain ⟨r, hr⟩ : ∃ r, r = w.heap.size + 1 := ⟨_, rfl⟩
  obtain ⟨W1, hW1⟩ : ∃ W1, (w.alloc (.deferred (some []))).alloc (.loop (rec .ready none)) = W1 := ⟨_, rfl⟩
  have hL1 : W1.heap[r]? = some (.loop (rec .ready none)) := by
    have := World.alloc_heap_new (w.alloc (.deferred (some []))) (.loop (rec .ready none))
    rw [World.size_alloc, hW1] at this
    rw [hr]; exact this
  have hK1 : W1.heap[d]? = some (.deferred (some [])) := by
    rw [← hW1, hd]; exact (Below.heap_alloc _ _ _ (by simp)).trans (World.alloc_heap_new w _)
  have hI1 : I [] W1 := by rw [← hW1]; exact hI.alloc _ (hI.alloc _ h0)
  have hb1 : Below w.heap.size w W1 := by
    rw [← hW1]; exact ((Below.refl _ w).alloc (Nat.le_refl _) _).alloc (by simp) _
  have hdr : d ≠ r := by omega
  refine ⟨r, [{ target := .collected d, args := #[] }], W1, { target := .fn (.func gf) lb, args := #[.func (.yield r) #[] #[]] }, W1, gf,
    #[.func (.yield r) #[] #[]] ++ lb, W1, ?_, ?_, ?_, ?_, fun _ => h1, ?_⟩
  · rw [← hW1, hrec, hd, hr]; exact run_enterLoop_outer _ _ _ _ _
  · simp only [resolve, hg]
    simp [go_sem]
  · intro f' hf'; simp [Target.leads] at hf'; subst hf'; exact hFg
  · simp [invoke, go_sem, eg]
  · refine (hseq r
      (fun pre W => I pre W ∧ W.heap[r]? = some (.loop (rec .ready none)) ∧ W.heap[d]? = some (.deferred (some [])))
      (fun pre W => ∃ c, Ix c pre W ∧ W.heap[r]? = some (.loop (rec .done (some c))) ∧ W.heap[d]? = some (.deferred (some [])))
      W1 hb1
      (fun s X Y hs hg' => ⟨hI s X Y none hs.1 hg' (by simp), grown_none_keeps hg' hs.2.1, grown_none_keeps hg' hs.2.2⟩)
      (fun s X Y hs hg' => by
        obtain ⟨c, hc, hl, hk⟩ := hs
        exact ⟨c, hIx c s X Y none hc hg' (by simp), grown_none_keeps hg' hl, grown_none_keeps hg' hk⟩)
      ?_ ⟨hI1, hL1, hK1⟩).mono ?_
    · rintro pre x W ⟨hi, hl, hk⟩ hm hlen
      have hlt : r < W.heap.size := (Array.getElem?_eq_some_iff.1 hl).1
      have hy := run_yield (P := P) (args := encs x) hl (by rw [hrec]; exact hps x)
      rw [hrec] at hy
      refine ⟨fn, _, assign, body, hy, roundIn_of_wpIn hfn (hassign _ x W _ ⟨_, run_beginRound hl (by rw [hrec]), ?_⟩)⟩
      obtain ⟨busy, hbusy⟩ : ∃ busy, busy = { rec .ready none with state := .busy } := ⟨_, rfl⟩
      rw [← hbusy]
      have hl2 : (W.putObj r (.loop busy)).heap[r]? = some (.loop busy) := World.putObj_heap_same hlt
      have hk2 : (W.putObj r (.loop busy)).heap[d]? = some (.deferred (some [])) := (World.putObj_heap_other hdr).trans hk
      have hw2 : Kp W (W.putObj r (.loop busy)) := hKb _ _ _ _ (by omega) hl rfl
      have hm2 : Mx x (W.putObj r (.loop busy)) := (hMx x).putObj (s := ()) _ hm (by omega) hl rfl
      refine wpIn_mono (hbody _ pre x _ (hI.putObj _ hi (by omega) hl rfl) hm2 hlen) ?_
      have fin : ∀ (jump : Option Code) (W3 : World), KeepsOthers (W.putObj r (.loop busy)) W3 →
          (Instr.endRound r jump).run P W3 = .ok (.bool jump.isNone) (W3.putObj r (.loop (rec (if jump.isNone then .ready else .done) jump))) ∧
          W3.heap[r]? = some (.loop busy) ∧
          (W3.putObj r (.loop (rec (if jump.isNone then .ready else .done) jump))).heap[r]? = some (.loop (rec (if jump.isNone then .ready else .done) jump)) ∧
          (W3.putObj r (.loop (rec (if jump.isNone then .ready else .done) jump))).heap[d]? = some (.deferred (some [])) := fun jump W3 hk3 => by
        have hl3 := hk3.same _ _ hl2 rfl
        have := run_endRound (P := P) jump hl3
        rw [hbusy, hrec] at this
        refine ⟨by rw [hrec]; exact this, hl3, World.putObj_heap_same (Array.getElem?_eq_some_iff.1 hl3).1, (World.putObj_heap_other hdr).trans (hk3.same _ _ hk2 rfl)⟩
      rintro e a3 W3 hp
      cases e with
      | normal =>
        obtain ⟨hk3, hkp3, hi3⟩ := hp
        obtain ⟨hr', hl3, hl4, hk4⟩ := fin none W3 hk3
        exact ⟨_, _, hr', .inl ⟨rfl, ⟨hI.putObj _ hi3 (by omega) hl3 rfl, hl4, hk4⟩, hKt (hKt hw2 hkp3) (hKb _ _ _ _ (by omega) hl3 rfl)⟩⟩
      | ret =>
        obtain ⟨hk3, hi3⟩ := hp
        obtain ⟨hr', hl3, hl4, hk4⟩ := fin (some .ret) W3 hk3
        exact ⟨_, _, hr', .inr ⟨rfl, .ret, (hIx _).putObj _ hi3 (by omega) hl3 rfl, hl4, hk4⟩⟩
      | exit id =>
        obtain ⟨hk3, hi3⟩ := hp
        obtain ⟨hr', hl3, hl4, hk4⟩ := fin (some (.exit id)) W3 hk3
        exact ⟨_, _, hr', .inr ⟨rfl, .exit id, (hIx _).putObj _ hi3 (by omega) hl3 rfl, hl4, hk4⟩⟩
      | goto t =>
        obtain ⟨hk3, hi3⟩ := hp
        obtain ⟨hr', hl3, hl4, hk4⟩ := fin (some (.goto t)) W3 hk3
        exact ⟨_, _, hr', .inr ⟨rfl, .goto t, (hIx _).putObj _ hi3 (by omega) hl3 rfl, hl4, hk4⟩⟩
      | panic ch => exact hp.elim
      | outgrown => exact hp.elim
    · rintro e W2 ⟨⟨v, rfl⟩, (⟨xs, hS, hi, hl, hk⟩ | ⟨pre, hSp, c, hi, hl, hk⟩)⟩
      · exact ⟨none, _, by have := run_endLoop (P := P) hl (by rw [hrec]; simp); rw [hrec] at this; exact this, hdone _ xs _ (by omega) hS (hI.putObj _ hi (by omega) hl rfl) ((World.putObj_heap_other hdr).trans hk)⟩
      · exact ⟨some c, _, by have := run_endLoop (P := P) hl (by rw [hrec]; simp); rw [hrec] at this; exact this, hstop _ c pre _ (by omega) hSp ((hIx c).putObj _ hi (by omega) hl rfl) ((World.putObj_heap_other hdr).trans hk)⟩
end Go.Proofs.YtejphpcngbjgjaaDoor
