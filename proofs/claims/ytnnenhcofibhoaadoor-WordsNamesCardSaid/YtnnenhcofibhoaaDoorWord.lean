/- words' isOf, isWord, areWords, Line. -/
import Derived.Test.YtnnenhcofibhoaaDoorLines
namespace Go.Proofs.YtnnenhcofibhoaaDoor
open Go.RowKit
set_option linter.unusedVariables false
attribute [local go_sem] mk_get

theorem take_mem_succ {α : Type} {P : α → Prop} (l : List α) (k : Nat) (h : k < l.length) (ha : ∀ b ∈ l.take k, P b) (hk : P l[k]) : ∀ b ∈ l.take (k + 1), P b := by
  rw [List.take_succ_eq_append_getElem h]
  intro b hb
  rcases List.mem_append.1 hb with h | h
  · exact ha b h
  · simp at h; rw [h]; exact hk

set_option maxRecDepth 100000 in
set_option maxHeartbeats 400000 in
theorem isOf_any (l : List UInt8) (lo hi : Nat) (w : World) (hl : l.length ≤ 4000000000) (hlo : lo ≤ 255) (hhi : hi ≤ 255) :
    Calls Tryd.prog 39 #[.string ⟨l.toArray⟩, .int .u8 lo, .int .u8 hi] w fun e w' => e = .returned (.bool (isOfB lo hi l)) ∧ w = w' := by
  go_enter Tryd.func39, Tryd.ntmps39
  go_wp2_with fail
  go_loop [10] (fun i => ∃ k : Nat, k ≤ l.length ∧ i = .int .i64 k ∧ Hid (∀ b ∈ l.take k, lo ≤ b.toNat ∧ b.toNat ≤ hi)) (fun i => l.length - (intOf i).toNat)
  case atStart => exact ⟨0, Nat.zero_le _, rfl, by simp [Hid]⟩
  case round =>
    obtain ⟨k, hk, rfl, hpre⟩ := hrel
    by_cases hlt : k < l.length
    · by_cases h1 : l[k].toNat < lo
      · have HB := Lib.hid (isOfB_bad (lo := lo) (hi := hi) (List.getElem_mem hlt) (.inl h1))
        have h1i : ((l[k].toNat : Nat) : Int) < (lo : Int) := by omega
        have h1d : decide (((l[k].toNat : Nat) : Int) < (lo : Int)) = true := by simpa using h1i
        go_wp2_with fail
        go_ret
        exact ⟨by rw [HB.out]; rfl, rfl⟩
      · have h1i : ¬ ((l[k].toNat : Nat) : Int) < (lo : Int) := by omega
        have h1d : decide (((l[k].toNat : Nat) : Int) < (lo : Int)) = false := by simpa using h1i
        by_cases h2 : hi < l[k].toNat
        · have HB := Lib.hid (isOfB_bad (lo := lo) (hi := hi) (List.getElem_mem hlt) (.inr h2))
          have h2i : (hi : Int) < ((l[k].toNat : Nat) : Int) := by omega
          have h2d : decide ((hi : Int) < ((l[k].toNat : Nat) : Int)) = true := by simpa using h2i
          go_wp2_with fail
          go_ret
          exact ⟨by rw [HB.out]; rfl, rfl⟩
        · have h2i : ¬ (hi : Int) < ((l[k].toNat : Nat) : Int) := by omega
          have h2d : decide ((hi : Int) < ((l[k].toNat : Nat) : Int)) = false := by simpa using h2i
          have HN := Lib.hid (take_mem_succ (P := fun b => lo ≤ b.toNat ∧ b.toNat ≤ hi) l k hlt hpre.out ⟨by omega, by omega⟩)
          go_wp2_with fail
          go_round
          case rel => exact ⟨k + 1, by omega, by go_num, HN⟩
          case measure => simp [intOf]; omega
    · obtain rfl : k = l.length := by omega
      by_cases hn : l = []
      · subst hn
        go_wp2_with fail
        go_ret
        exact ⟨rfl, rfl⟩
      · have hne : (l == []) = false := by simpa using hn
        have hq : isOfB lo hi l = true := (isOfB_iff lo hi l).2 ⟨hn, by have := hpre.out; rwa [List.take_of_length_le (Nat.le_refl _)] at this⟩
        have HQ := Lib.hid hq
        clear hq hn
        go_wp2_with fail
        go_ret
        exact ⟨by rw [HQ.out]; rfl, rfl⟩

set_option maxRecDepth 100000 in
set_option maxHeartbeats 400000 in
theorem isWord_any (l : List UInt8) (w : World) (hl : l.length ≤ 4000000000) :
    Calls Tryd.prog 26 #[.string ⟨l.toArray⟩] w fun e w' => e = .returned (.bool (isWordB l)) ∧ w = w' := by
  go_enter Tryd.func26, Tryd.ntmps26
  go_wp2_with fail
  refine (isOf_any l 33 126 _ hl (by decide) (by decide)).mono ?_
  rintro e w' ⟨rfl, rfl⟩
  go_wp2_with fail
  go_ret
  exact ⟨rfl, rfl⟩

def sumL (xs : List (List UInt8)) : Nat := (xs.map fun x => x.length + 1).sum
theorem sumL_get : ∀ (xs : List (List UInt8)) (k : Nat) (h : k < xs.length), xs[k].length + 1 ≤ sumL xs
  | x :: xs, 0, _ => by simp [sumL]
  | x :: xs, k + 1, h => by
    have := sumL_get xs k (by simpa using h)
    simp [sumL] at this ⊢
    omega
theorem sumL_len : ∀ (xs : List (List UInt8)), xs.length ≤ sumL xs
  | [] => Nat.le_refl _
  | x :: xs => by
    have := sumL_len xs
    simp [sumL] at this ⊢
    omega
theorem flatL_len : ∀ (xs : List (List UInt8)), (flatL xs).length = sumL xs
  | [] => rfl
  | x :: xs => by
    have := flatL_len xs
    simp [flatL, sumL] at this ⊢
    omega

set_option maxRecDepth 100000 in
set_option maxHeartbeats 400000 in
theorem areWords_any (A : Option Addr) (c B : Nat) (xs : List (List UInt8)) (w : World) (hr : Rf sv w B A c xs) (hl : sumL xs ≤ 4000000000) :
    Calls Tryd.prog 34 #[.slice A xs.length c] w fun e w' => e = .returned (.bool (areWordsB xs)) ∧ w = w' := by
  have hlen := sumL_len xs
  have HL := Lib.hid hl
  have hxl : xs.length ≤ 4000000000 := by omega
  clear hl hlen
  go_enter Tryd.func34, Tryd.ntmps34
  go_wp2_with fail
  go_loop [7] (fun i => ∃ k : Nat, k ≤ xs.length ∧ i = .int .i64 k ∧ Hid (∀ x ∈ xs.take k, isWordB x = true)) (fun i => xs.length - (intOf i).toNat)
  case atStart => exact ⟨0, Nat.zero_le _, rfl, by simp [Hid]⟩
  case round =>
    obtain ⟨k, hk, rfl, hpre⟩ := hrel
    by_cases hlt : k < xs.length
    · obtain ⟨b, o, rfl, hbb, hc⟩ := hr.at_ hlt
      have hcx := hc k hlt
      have hxl2 := sumL_get xs k hlt
      have hm := List.getElem_mem hlt
      have hs := fun h => take_mem_succ (P := fun x => isWordB x = true) xs k hlt hpre.out h
      obtain ⟨x, hx⟩ : ∃ x, x = xs[k] := ⟨_, rfl⟩
      rw [← hx] at hcx hxl2 hm hs
      have hxl3 : x.length ≤ 4000000000 := by have := HL.out; omega
      unfold sv at hcx
      have HS := Lib.hid hs
      clear hc hx hs
      cases hw : isWordB x with
      | true =>
        have HW := Lib.hid hw
        clear hw
        go_wp2_with fail
        refine (isWord_any x _ hxl3).mono ?_
        rintro e w' ⟨rfl, rfl⟩
        rw [HW.out]
        go_wp2_with fail
        go_round
        case rel => exact ⟨k + 1, by omega, by go_num, HS.out HW.out⟩
        case measure => simp [intOf]; omega
      | false =>
        have HE : Hid (areWordsB xs = false) := by
          show areWordsB xs = false
          unfold areWordsB
          rw [List.all_eq_false]
          exact ⟨x, hm, by simp [hw]⟩
        have HW := Lib.hid hw
        clear hw
        go_wp2_with fail
        refine (isWord_any x _ hxl3).mono ?_
        rintro e w' ⟨rfl, rfl⟩
        rw [HW.out]
        go_wp2_with fail
        go_ret
        exact ⟨by rw [HE.out]; rfl, rfl⟩
    · obtain rfl : k = xs.length := by omega
      have HE : Hid (areWordsB xs = true) := by
        show areWordsB xs = true
        unfold areWordsB
        rw [List.all_eq_true]
        have := hpre.out
        rwa [List.take_of_length_le (Nat.le_refl _)] at this
      go_wp2_with fail
      go_ret
      exact ⟨by rw [HE.out]; rfl, rfl⟩

theorem joinW_take (xs : List (List UInt8)) (k : Nat) (h : k < xs.length) : joinW (xs.take (k + 1)) = if k = 0 then xs[k] else joinW (xs.take k) ++ [32] ++ xs[k] := by
  rw [List.take_succ_eq_append_getElem h, joinW_snoc]
  by_cases hk : k = 0
  · rw [if_pos (by rw [hk]; rfl), if_pos hk]
  · rw [if_neg (by intro e; have h2 : (xs.take k).length = k := by { rw [List.length_take]; omega }; rw [e] at h2; simp at h2; omega), if_neg hk, List.append_assoc]; rfl

set_option maxRecDepth 100000 in
set_option maxHeartbeats 1000000 in
theorem line_any (A : Option Addr) (c : Nat) (xs : List (List UInt8)) (w : World) (hr : Rf sv w w.heap.size A c xs) (hl : sumL xs ≤ 4000000) :
    Calls Tryd.prog 17 #[.slice A xs.length c] w (TextErr w (lineM xs)) := by
  have hlen := sumL_len xs
  have HL := Lib.hid hl
  have hxl : xs.length ≤ 4000000 := by omega
  clear hlen
  cases hw : areWordsB xs with
  | false =>
    have hq : lineM xs = ([], 11) := by unfold lineM; rw [hw]; rfl
    rw [hq]
    have HW := Lib.hid hw
    clear hw hq
    go_enter Tryd.func17, Tryd.ntmps17
    go_wp2_with fail
    refine (areWords_any A c _ xs _ hr (by omega)).mono ?_
    rintro e w' ⟨rfl, rfl⟩
    rw [HW.out]
    go_wp2_with fail
    go_ret2
    exact ⟨rfl, Below.refl _ _⟩
  | true =>
    have HW := Lib.hid hw
    have hq : lineM xs = finM (joinW xs) := by unfold lineM finM; rw [hw]; rfl
    have HQ := Lib.hid hq
    clear hw hq
    go_enter Tryd.func17, Tryd.ntmps17
    go_wp2_with fail
    refine (areWords_any A c _ xs _ hr (by omega)).mono ?_
    rintro e w' ⟨rfl, rfl⟩
    rw [HW.out]
    clear hl
    go_wp2_with fail
    go_loopw [12] (fun i wr => ∃ k : Nat, k ≤ xs.length ∧ i = .int .i64 k ∧ Dr wr w.heap.size w.heap.size (joinW (xs.take k)) ∧ Below w.heap.size w wr) (fun i _ => xs.length - (intOf i).toNat)
    case atStart => exact ⟨0, Nat.zero_le _, rfl, Dr.start, below_new _ _⟩
    case round =>
      obtain ⟨k, hk, rfl, hd, hb⟩ := hrel
      by_cases hlt : k < xs.length
      · obtain ⟨b, o, rfl, hbb, hc⟩ := (hr.below hb).at_ hlt
        have hcx := hc k hlt
        have hxl2 := sumL_get xs k hlt
        have hj := joinW_take xs k hlt
        obtain ⟨x, hx⟩ : ∃ x, x = xs[k] := ⟨_, rfl⟩
        rw [← hx] at hcx hxl2 hj
        have hxl3 : x.length ≤ 4000000000 := by have := HL.out; omega
        unfold sv at hcx
        clear hc hx hxl2
        by_cases hk0 : k = 0
        · subst hk0
          simp only [Nat.add_zero] at hcx
          rw [if_pos rfl] at hj
          have HJ := Lib.hid hj
          clear hj
          go_wp2_with fail
          refine (put_any w.heap.size w.heap.size _ x _ hd hb.size hxl3).mono ?_
          rintro e w1 ⟨rfl, hd1, hk1⟩
          go_wp2_with fail
          go_roundw
          case rel => exact ⟨0 + 1, by omega, by go_num, by rw [HJ.out]; exact hd1, hb.trans hk1.1⟩
          case measure => simp [intOf]; omega
        · rw [if_neg hk0] at hj
          have HJ := Lib.hid hj
          have hkp : 0 < k := by omega
          clear hj hk0
          go_wp2_with fail
          refine (put_any w.heap.size w.heap.size _ [32] _ hd hb.size (by simp)).mono ?_
          rintro e w1 ⟨rfl, hd1, hk1⟩
          have hb1 := hb.trans hk1.1
          go_wp2_with fail
          refine (put_any w.heap.size w.heap.size _ x _ hd1 hb1.size hxl3).mono ?_
          rintro e w2 ⟨rfl, hd2, hk2⟩
          go_wp2_with fail
          go_roundw
          case rel => exact ⟨k + 1, by omega, by go_num, by rw [HJ.out]; exact hd2, hb1.trans hk2.1⟩
          case measure => simp [intOf]; omega
      · obtain rfl : k = xs.length := by omega
        rw [List.take_of_length_le (Nat.le_refl _)] at hd
        go_wp2_with fail
        refine (finish_any _ _ _ _ hd).mono ?_
        rintro e w1 ⟨rfl, rfl⟩
        go_wp2_with fail
        go_ret2
        rw [HQ.out]
        exact ⟨rfl, hb⟩
end Go.Proofs.YtnnenhcofibhoaaDoor
