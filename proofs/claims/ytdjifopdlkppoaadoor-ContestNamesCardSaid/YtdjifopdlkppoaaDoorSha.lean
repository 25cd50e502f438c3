/- SHA-256 over lists of words and bytes: rotations, the schedule, turns, compressing, padding, the fold over blocks. No program is named here. -/
import Derived.WalkKit
namespace Go.Proofs.YtdjifopdlkppoaaDoor
open Go.RowKit
set_option linter.unusedVariables false
set_option linter.unusedSimpArgs false

theorem u32_lt (x : UInt32) : x.toNat < 4294967296 := x.toNat_lt
theorem u32_of (n : Nat) (h : n < 4294967296) : (UInt32.ofNat n).toNat = n := by rw [UInt32.toNat_ofNat']; exact Nat.mod_eq_of_lt h
theorem u32_mod (n : Nat) : (UInt32.ofNat n).toNat = n % 4294967296 := UInt32.toNat_ofNat'
theorem u32_eq {x y : UInt32} (h : x.toNat = y.toNat) : x = y := UInt32.toNat_inj.1 h
theorem u8_lt (x : UInt8) : x.toNat < 256 := x.toNat_lt
theorem u8_mod (n : Nat) : (UInt8.ofNat n).toNat = n % 256 := UInt8.toNat_ofNat'

/-- The rotation to the right. -/
def rot (x : UInt32) (n : Nat) : UInt32 := UInt32.ofNat (x.toNat / 2 ^ n ||| x.toNat * 2 ^ (32 - n) % 4294967296)
def shr (x : UInt32) (n : Nat) : UInt32 := UInt32.ofNat (x.toNat / 2 ^ n)
def sg0 (x : UInt32) : UInt32 := rot x 7 ^^^ rot x 18 ^^^ shr x 3
def sg1 (x : UInt32) : UInt32 := rot x 17 ^^^ rot x 19 ^^^ shr x 10
def bs0 (a : UInt32) : UInt32 := rot a 2 ^^^ rot a 13 ^^^ rot a 22
def bs1 (e : UInt32) : UInt32 := rot e 6 ^^^ rot e 11 ^^^ rot e 25
def chX (e f g : UInt32) : UInt32 := (e &&& f) ^^^ (~~~e &&& g)
def chO (e f g : UInt32) : UInt32 := (e &&& f) ||| (~~~e &&& g)
def mjX (a b c : UInt32) : UInt32 := (a &&& b) ^^^ (a &&& c) ^^^ (b &&& c)
def mjO (a b c : UInt32) : UInt32 := (a &&& b) ||| (a &&& c) ||| (b &&& c)
theorem ch_eq (e f g : UInt32) : chO e f g = chX e f g := by
  unfold chO chX
  apply UInt32.eq_of_toBitVec_eq
  simp only [UInt32.toBitVec_or, UInt32.toBitVec_xor, UInt32.toBitVec_and, UInt32.toBitVec_not]
  ext i hi
  simp only [BitVec.getElem_or, BitVec.getElem_xor, BitVec.getElem_and, BitVec.getElem_not]
  cases e.toBitVec[i] <;> cases f.toBitVec[i] <;> cases g.toBitVec[i] <;> rfl
theorem mj_eq (a b c : UInt32) : mjO a b c = mjX a b c := by
  unfold mjO mjX
  apply UInt32.eq_of_toBitVec_eq
  simp only [UInt32.toBitVec_or, UInt32.toBitVec_xor, UInt32.toBitVec_and]
  ext i hi
  simp only [BitVec.getElem_or, BitVec.getElem_xor, BitVec.getElem_and]
  cases a.toBitVec[i] <;> cases b.toBitVec[i] <;> cases c.toBitVec[i] <;> rfl

/-- A turn, n the constant and the word together. -/
def turn : List UInt32 → UInt32 → List UInt32
  | [a, b, c, d, e, f, g, h], n => [h + bs1 e + chX e f g + n + (bs0 a + mjX a b c), a, b, c, d + (h + bs1 e + chX e f g + n), e, f, g]
  | l, _ => l
theorem len8 {l : List UInt32} (h : l.length = 8) : ∃ a b c d e f g i, l = [a, b, c, d, e, f, g, i] := by
  rcases l with _ | ⟨a, _ | ⟨b, _ | ⟨c, _ | ⟨d, _ | ⟨e, _ | ⟨f, _ | ⟨g, _ | ⟨i, _ | ⟨j, l⟩⟩⟩⟩⟩⟩⟩⟩⟩ <;> simp at h
  exact ⟨_, _, _, _, _, _, _, _, rfl⟩
theorem turn_len {l : List UInt32} (n : UInt32) (h : l.length = 8) : (turn l n).length = 8 := by
  obtain ⟨a, b, c, d, e, f, g, i, rfl⟩ := len8 h
  rfl

/-- The constants. -/
def kk : List UInt32 := [
  0x428a2f98, 0x71374491, 0xb5c0fbcf, 0xe9b5dba5, 0x3956c25b, 0x59f111f1, 0x923f82a4, 0xab1c5ed5,
  0xd807aa98, 0x12835b01, 0x243185be, 0x550c7dc3, 0x72be5d74, 0x80deb1fe, 0x9bdc06a7, 0xc19bf174,
  0xe49b69c1, 0xefbe4786, 0x0fc19dc6, 0x240ca1cc, 0x2de92c6f, 0x4a7484aa, 0x5cb0a9dc, 0x76f988da,
  0x983e5152, 0xa831c66d, 0xb00327c8, 0xbf597fc7, 0xc6e00bf3, 0xd5a79147, 0x06ca6351, 0x14292967,
  0x27b70a85, 0x2e1b2138, 0x4d2c6dfc, 0x53380d13, 0x650a7354, 0x766a0abb, 0x81c2c92e, 0x92722c85,
  0xa2bfe8a1, 0xa81a664b, 0xc24b8b70, 0xc76c51a3, 0xd192e819, 0xd6990624, 0xf40e3585, 0x106aa070,
  0x19a4c116, 0x1e376c08, 0x2748774c, 0x34b0bcb5, 0x391c0cb3, 0x4ed8aa4a, 0x5b9cca4f, 0x682e6ff3,
  0x748f82ee, 0x78a5636f, 0x84c87814, 0x8cc70208, 0x90befffa, 0xa4506ceb, 0xbef9a3f7, 0xc67178f2]
def start : List UInt32 := [0x6a09e667, 0xbb67ae85, 0x3c6ef372, 0xa54ff53a, 0x510e527f, 0x9b05688c, 0x1f83d9ab, 0x5be0cd19]
theorem kk_len : kk.length = 64 := rfl
theorem start_len : start.length = 8 := rfl

/-- The number that bytes say, the most significant one first. -/
def num (l : List UInt8) : Nat := l.foldl (fun n b => n * 256 + b.toNat) 0
theorem num_snoc (l : List UInt8) (b : UInt8) : num (l ++ [b]) = num l * 256 + b.toNat := by simp [num]
theorem num_lt_aux : ∀ (l : List UInt8) (n : Nat), l.foldl (fun n b => n * 256 + b.toNat) n < (n + 1) * 256 ^ l.length
  | [], n => by simp
  | b :: l, n => by
    have h := num_lt_aux l (n * 256 + b.toNat)
    have hb := u8_lt b
    rw [List.foldl_cons, List.length_cons, Nat.pow_succ]
    refine Nat.lt_of_lt_of_le h ?_
    rw [Nat.mul_comm (256 ^ l.length), ← Nat.mul_assoc]
    exact Nat.mul_le_mul_right _ (by omega)
theorem num_lt (l : List UInt8) : num l < 256 ^ l.length := by have := num_lt_aux l 0; simpa [num] using this
theorem num_four (a b c d : UInt8) : num [a, b, c, d] = ((a.toNat * 256 + b.toNat) * 256 + c.toNat) * 256 + d.toNat := by simp [num]
/-- A piece of a list. -/
def seg {α : Type} (l : List α) (o n : Nat) : List α := (l.drop o).take n
theorem seg_len {α : Type} {l : List α} {o n : Nat} (h : o + n ≤ l.length) : (seg l o n).length = n := by
  unfold seg
  rw [List.length_take, List.length_drop]; omega
theorem seg_get {α : Type} {l : List α} {o n j : Nat} (h : o + n ≤ l.length) (hj : j < n) : (seg l o n)[j]'(by rw [seg_len h]; exact hj) = l[o + j] := by
  unfold seg
  simp
theorem seg_take {α : Type} (l : List α) (n : Nat) : seg l 0 n = l.take n := rfl
theorem seg_all {α : Type} (l : List α) : seg l 0 l.length = l := by unfold seg; simp
theorem seg_seg {α : Type} (l : List α) (o n p m : Nat) (h : p + m ≤ n) : seg (seg l o n) p m = seg l (o + p) m := by
  unfold seg
  rw [List.drop_take, List.take_take, List.drop_drop, Nat.min_eq_left (by omega)]
theorem seg_four {l : List UInt8} {i : Nat} (h : i + 4 ≤ l.length) : seg l i 4 = [l[i], l[i + 1], l[i + 2], l[i + 3]] := by
  apply List.ext_getElem (by rw [seg_len h]; rfl)
  intro j h1 h2
  rw [seg_len h] at h1
  rw [seg_get h h1]
  have : j = 0 ∨ j = 1 ∨ j = 2 ∨ j = 3 := by omega
  rcases this with rfl | rfl | rfl | rfl <;> rfl
/-- The word at byte i. -/
def wordAt (l : List UInt8) (i : Nat) : UInt32 := UInt32.ofNat (num (seg l i 4))
theorem wordAt_toNat (l : List UInt8) (i : Nat) : (wordAt l i).toNat = num (seg l i 4) := by
  unfold wordAt
  refine u32_of _ (Nat.lt_of_lt_of_le (num_lt _) ?_)
  have : (seg l i 4).length ≤ 4 := by unfold seg; rw [List.length_take]; omega
  exact Nat.le_trans (Nat.pow_le_pow_right (by decide) this) (by decide)
theorem wordAt_seg (l : List UInt8) (o n p : Nat) (h : p + 4 ≤ n) : wordAt (seg l o n) p = wordAt l (o + p) := by
  unfold wordAt
  rw [seg_seg _ _ _ _ _ h]
/-- The word behind m, of the schedule. -/
def nextW (m : List UInt32) (t : Nat) : UInt32 := m.getD (t - 16) 0 + sg0 (m.getD (t - 15) 0) + m.getD (t - 7) 0 + sg1 (m.getD (t - 2) 0)
/-- The first t words of the schedule of a block. -/
def sched (l : List UInt8) : Nat → List UInt32
  | 0 => []
  | t + 1 => sched l t ++ [if t < 16 then wordAt l (4 * t) else nextW (sched l t) t]
theorem sched_len (l : List UInt8) : ∀ t, (sched l t).length = t
  | 0 => rfl
  | t + 1 => by simp [sched, sched_len l t]
theorem sched_take (l : List UInt8) {s t : Nat} (h : s ≤ t) : (sched l t).take s = sched l s := by
  induction t with
  | zero => have : s = 0 := by omega
            subst this; rfl
  | succ t ih =>
    by_cases hs : s ≤ t
    · rw [sched, List.take_append_of_le_length (by rw [sched_len]; exact hs), ih hs]
    · have : s = t + 1 := by omega
      subst this
      rw [List.take_of_length_le (by rw [sched_len]; omega)]
theorem sched_getD (l : List UInt8) {s t : Nat} (h : s < t) : (sched l t).getD s 0 = (sched l (s + 1)).getD s 0 := by
  have e := sched_take l (s := s + 1) (t := t) (by omega)
  rw [← e]
  simp [List.getD]

/-- The state after the first t turns. -/
def turns (w : List UInt32) (v : List UInt32) : Nat → List UInt32
  | 0 => v
  | t + 1 => turn (turns w v t) (kk.getD t 0 + w.getD t 0)
theorem turns_len (w : List UInt32) {v : List UInt32} (h : v.length = 8) : ∀ t, (turns w v t).length = 8
  | 0 => h
  | t + 1 => turn_len _ (turns_len w h t)
def comp (s : List UInt32) (l : List UInt8) : List UInt32 := List.zipWith (· + ·) (turns (sched l 64) s 64) s
theorem comp_len {s : List UInt32} (l : List UInt8) (h : s.length = 8) : (comp s l).length = 8 := by
  unfold comp
  rw [List.length_zipWith, turns_len _ h, h]; rfl

/-- The state after j blocks. -/
def stA (s : List UInt32) (p : List UInt8) : Nat → List UInt32
  | 0 => s
  | j + 1 => comp (stA s p j) (seg p (64 * j) 64)
theorem stA_len {s : List UInt32} (p : List UInt8) (h : s.length = 8) : ∀ j, (stA s p j).length = 8
  | 0 => h
  | j + 1 => comp_len _ (stA_len p h j)
/-- The states of a front of whole blocks are those of the front alone; the rest goes on from there. -/
theorem stA_front (s : List UInt32) (p q : List UInt8) : ∀ j, 64 * j ≤ p.length → stA s (p ++ q) j = stA s p j
  | 0, _ => rfl
  | j + 1, h => by
    rw [stA, stA, stA_front s p q j (by omega)]
    congr 1
    unfold seg
    rw [List.drop_append_of_le_length (by omega), List.take_append_of_le_length (by rw [List.length_drop]; omega)]
theorem stA_rest (s : List UInt32) (p q : List UInt8) (n : Nat) (hn : p.length = 64 * n) : ∀ j, stA s (p ++ q) (n + j) = stA (stA s p n) q j
  | 0 => stA_front s p q n (by omega)
  | j + 1 => by
    rw [← Nat.add_assoc, stA, stA, stA_rest s p q n hn j]
    congr 1
    unfold seg
    rw [show 64 * (n + j) = p.length + 64 * j by omega, List.drop_append, List.drop_of_length_le (by omega), List.nil_append, Nat.add_sub_cancel_left]

/-- The bytes of a number, the most significant one first. -/
def beN (k n : Nat) : List UInt8 := (List.range k).map fun i => UInt8.ofNat (n / 2 ^ (8 * (k - 1 - i)))
theorem beN_len (k n : Nat) : (beN k n).length = k := by simp [beN]
theorem beN_get (k n : Nat) {i : Nat} (h : i < k) : (beN k n)[i]'(by rw [beN_len]; exact h) = UInt8.ofNat (n / 2 ^ (8 * (k - 1 - i))) := by simp [beN]
/-- The bytes of words. -/
def bytesOf : List UInt32 → List UInt8
  | [] => []
  | x :: l => beN 4 x.toNat ++ bytesOf l
theorem bytesOf_len : ∀ l, (bytesOf l).length = 4 * l.length
  | [] => rfl
  | x :: l => by rw [bytesOf, List.length_append, beN_len, bytesOf_len l, List.length_cons]; omega
theorem bytesOf_append : ∀ l m, bytesOf (l ++ m) = bytesOf l ++ bytesOf m
  | [], m => rfl
  | x :: l, m => by rw [List.cons_append, bytesOf, bytesOf, bytesOf_append l m, List.append_assoc]
/-- The number of zeros of the padding. -/
def zlen (n : Nat) : Nat := (119 - n % 64) % 64
def padB (b : List UInt8) : List UInt8 := b ++ (128 :: (List.replicate (zlen b.length) 0 ++ beN 8 (8 * b.length)))
theorem padB_len (b : List UInt8) : (padB b).length = (b.length + 72) / 64 * 64 := by
  unfold padB zlen
  simp only [List.length_append, List.length_cons, List.length_replicate, beN_len]
  omega
def blocksN (b : List UInt8) : Nat := (b.length + 72) / 64
def dig (b : List UInt8) : List UInt8 := bytesOf (stA start (padB b) (blocksN b))
theorem dig_len (b : List UInt8) : (dig b).length = 32 := by
  unfold dig
  rw [bytesOf_len, stA_len _ start_len]
/-- m in the place of what stood at o. -/
def put {α : Type} (L : List α) (o : Nat) (m : List α) : List α := L.take o ++ (m ++ L.drop (o + m.length))
theorem put_len {α : Type} {L m : List α} {o : Nat} (h : o + m.length ≤ L.length) : (put L o m).length = L.length := by
  unfold put
  simp only [List.length_append, List.length_take, List.length_drop]; omega
theorem put_nil {α : Type} (L : List α) (o : Nat) : put L o [] = L := by unfold put; simp
theorem put_step {α : Type} {L m : List α} {o i : Nat} (h : o + m.length ≤ L.length) (hi : i < m.length) : (put L o (m.take i)).set (o + i) m[i] = put L o (m.take (i + 1)) := by
  unfold put
  have h1 : (L.take o).length = o := by rw [List.length_take]; omega
  have h2 : (m.take i).length = i := by rw [List.length_take]; omega
  have h3 : (m.take (i + 1)).length = i + 1 := by rw [List.length_take]; omega
  rw [List.set_append_right (h := by omega), List.set_append_right (h := by omega), h1, h2, h3, List.take_succ_eq_append_getElem hi, List.append_assoc]
  congr 2
  rw [show o + i - o - i = 0 by omega, List.drop_eq_getElem_cons (show o + i < L.length by omega), List.set_cons_zero, Nat.add_assoc]
  rfl
end Go.Proofs.YtdjifopdlkppoaaDoor
