/- The small functions of octet: isSize, fits. -/
import Derived.Test.YtdjifopdlkppoaaDoorOcMem
import Derived.Test.YtdjifopdlkppoaaDoorProg
import Derived.BigQuiet
import Derived.Deep.QuietTactic
import Derived.Outline
namespace Go.Proofs.YtdjifopdlkppoaaDoor.Oc
open Go.RowKit
set_option linter.unusedVariables false

set_option maxHeartbeats 400000 in
theorem isSize_yes (n : Int) (w : World) (h1 : 1 ≤ n) (h2 : n ≤ 8) : Calls Tryd.prog 80 #[.int .i64 n] w fun e w' => e = .returned (.bool true) ∧ w = w' := by
  go_enter Tryd.func80, Tryd.ntmps80
  go_wp2
  go_ret
  exact ⟨rfl, rfl⟩
set_option maxHeartbeats 400000 in
theorem isSize_low (n : Int) (w : World) (h1 : n < 1) : Calls Tryd.prog 80 #[.int .i64 n] w fun e w' => e = .returned (.bool false) ∧ w = w' := by
  go_enter Tryd.func80, Tryd.ntmps80
  go_wp2
  go_ret
  exact ⟨rfl, rfl⟩
set_option maxHeartbeats 400000 in
theorem isSize_high (n : Int) (w : World) (h1 : 8 < n) (h2 : decide (n ≤ 8) = false) : Calls Tryd.prog 80 #[.int .i64 n] w fun e w' => e = .returned (.bool false) ∧ w = w' := by
  go_enter Tryd.func80, Tryd.ntmps80
  go_wp2
  go_ret
  exact ⟨rfl, rfl⟩

/-- The bytes of n, the most significant one first. -/
def be (s n : Nat) : List UInt8 := (List.range s).map fun i => UInt8.ofNat (n / 2 ^ (8 * (s - 1 - i)))
theorem be_len (s n : Nat) : (be s n).length = s := by simp [be]
theorem be_take (s n k : Nat) (h : k < s) : (be s n).take (k + 1) = (be s n).take k ++ [UInt8.ofNat (n / 2 ^ (8 * (s - 1 - k)))] := by
  rw [List.take_succ_eq_append_getElem (by rw [be_len]; exact h)]
  simp [be]

theorem byte_of_nat (n k : Nat) (x : UInt8) (h : x = UInt8.ofNat (n / 2 ^ k)) : (n : Int) / 2 ^ k % 256 = (x.toNat : Int) := by
  subst h
  have : ((n / 2 ^ k % 256 : Nat) : Int) = (n : Int) / 2 ^ k % 256 := by simp
  rw [← this]
  simp

theorem info5 : (Tryd.prog.info? 5).map (fun i => (i.zero, i.size, i.bytes)) = some (some (.int .u8 0), 1, 1) := by kernel_rfl

set_option maxHeartbeats 400000 in
theorem appendInteger_any (A : Option Addr) (c : Nat) (l : List UInt8) (n s base : Nat) (w : World) (hs : s ≤ 8) (hn : n < 18446744073709551616) (hl : l.length ≤ 200000) (hown : Own w base 5 A c l) (hbase : base ≤ w.heap.size) :
    Calls Tryd.prog 74 #[.slice A l.length c, .int .u64 n, .int .i64 s] w fun e w' => ∃ A' c' r, e = .returned (.slice A' r.length c') ∧ r = l ++ be s n ∧ Own w' base 5 A' c' r ∧
      w.grownBy w' (blk A) ∧ (∀ g, blk A' = some g → blk A = some g ∨ w.heap.size ≤ g) := by
  obtain ⟨i0, hi, hz0, hz1, hz2⟩ := info_parts info5
  go_enter Tryd.func74, Tryd.ntmps74
  go_wp2
  go_loopw [0, 9] (fun v i wr => ∃ k : Nat, ∃ A' c' r, k ≤ s ∧ i = .int .i64 k ∧ v = .slice A' r.length c' ∧ Hid (r = l ++ (be s n).take k) ∧ r.length ≤ 200000 + k ∧ Own wr base 5 A' c' r ∧ w.grownBy wr (blk A) ∧ (∀ g, blk A' = some g → blk A = some g ∨ w.heap.size ≤ g))
    (fun _ i _ => s - (intOf i).toNat)
  case atStart => exact ⟨0, A, c, l, Nat.zero_le _, rfl, rfl, by simp [Hid], by omega, hown, World.grownBy.refl _ _, fun g h => .inl h⟩
  case round =>
    obtain ⟨k, A1, c1, r, hk, rfl, rfl, hr, hrl, hown1, hg1, hb1⟩ := hrel
    by_cases hlt : k < s
    · obtain ⟨x, hx⟩ : ∃ x : UInt8, x = UInt8.ofNat (n / 2 ^ (8 * (s - 1 - k))) := ⟨_, rfl⟩
      have hv := byte_of_nat n (8 * (s - 1 - k)) x hx
      have HT := Lib.hid (be_take s n k hlt)
      have HX := Lib.hid hx
      have HV := Lib.hid hv
      clear hx hv
      have hb0 := hg1.size
      go_wp2_with (at_builtin; refine wpList_append_bytes _ rfl _ _ 37 rfl base 5 i0 _ Tryd.underlying37 hi hz0 hz1 hz2 rfl r [x] rfl rfl (hown1.alloc _) (rd_one _ x _ HV.out _) (by simp; omega) (by simp; omega) ?_; intro A2 c2 w2 r2 hr2 hown2 hg2 hb2)
      have hgn : w.grownBy w2 (blk A) := grown_step (hg1.trans (World.grownBy_alloc _ _ _)) hg2 (fun g hg => (hb1 g hg).imp id id)
      have hr3 : r2 = l ++ (be s n).take (k + 1) := by rw [hr2.out, HT.out, hr.out, HX.out, List.append_assoc]
      have hlen : r2.length ≤ 200000 + (k + 1) := by rw [hr2.out]; simp; omega
      have hbn : ∀ g, blk A2 = some g → blk A = some g ∨ w.heap.size ≤ g := fun g hg => by
        rcases hb2 with e | e
        · exact hb1 g (e ▸ hg)
        · rw [e] at hg
          have : w.heap.size ≤ (wr.alloc (Obj.cells #[Value.int IntKind.u8 (↑n / 2 ^ (8 * (s - 1 - k)) % 256)] 5)).heap.size := by simp; omega
          right
          have := Option.some.inj hg
          omega
      go_roundw
      case rel => exact ⟨k + 1, A2, c2, r2, by omega, by go_num, rfl, hr3, hlen, hown2, hgn, hbn⟩
      case measure => simp [intOf]; omega
    · go_wp2
      go_ret
      obtain rfl : k = s := by omega
      refine ⟨A1, c1, r, rfl, ?_, hown1, hg1, hb1⟩
      rw [hr.out, List.take_of_length_le (by rw [be_len]; exact Nat.le_refl _)]

set_option maxHeartbeats 400000 in
theorem copyOf_any (A : Option Addr) (c : Nat) (l : List UInt8) (k : Nat) (w : World) (hr : Rd w w.heap.size A c l) (hl : l.length ≤ 200000) (hk : k ≤ 200000) :
    Calls Tryd.prog 79 #[.slice A l.length c, .int .i64 k] w fun e w' => ∃ A' c', e = .returned (.slice A' l.length c') ∧ Own w' w.heap.size 5 A' c' l ∧ Below w.heap.size w w' := by
  obtain ⟨i0, hi, hz0, hz1, hz2⟩ := info_parts info5
  go_enter Tryd.func79, Tryd.ntmps79
  go_wp2_with (first
    | (at_make; refine wpList_make_own _ rfl _ _ 37 rfl w.heap.size 5 i0 _ 1 Tryd.underlying37 hi hz0 hz1 _ _ _ (l.length + k) rfl rfl (by omega) (by rw [hz2]; omega) (by unfold maxLen; omega) (Nat.le_refl _) ?_; intro w1 hown1 hg1)
    | (at_builtin; refine wpList_append_bytes _ rfl _ _ 37 rfl w.heap.size 5 i0 _ Tryd.underlying37 hi hz0 hz1 hz2 rfl [] l rfl rfl hown1 (hr.below (below_of_grown hg1 (Nat.le_refl _) (by simp))) (by simp; omega) hg1.size ?_; intro A2 c2 w2 r2 hr2 hown2 hg2 hb2))
  go_ret
  obtain rfl : r2 = l := hr2.out
  refine ⟨A2, c2, rfl, hown2, (below_of_grown hg1 (Nat.le_refl _) (by simp)).trans (below_of_grown hg2 hg1.size ?_)⟩
  intro g hg
  have := World.ownsRow.lt hown1 g (by rw [own_block]; exact hg)
  omega

/-- What Put answers: the bytes and the error. -/
def putM (l : List UInt8) (n : Nat) (s : Int) : List UInt8 × Int :=
  if 1 ≤ s ∧ s ≤ 8 ∧ n < 2 ^ (8 * s.toNat) then (if l.length + s.toNat ≤ 16384 then (l ++ be s.toNat n, 0) else ([], 4)) else ([], 2)

theorem putM_len (l : List UInt8) (n : Nat) (s : Int) : (putM l n s).1.length ≤ 200000 := by
  unfold putM
  split
  · split
    · simp only [List.length_append, be_len]; omega
    · simp
  · simp

/-- What a call answers that returns new bytes and an error. -/
def BytesErr (w : World) (q : List UInt8 × Int) (e : Ending) (w' : World) : Prop :=
  ∃ A' c' r, e = .returned (.tuple #[.slice A' r.length c', .int .i64 q.2]) ∧ r = q.1 ∧ Own w' w.heap.size 5 A' c' r ∧ Below w.heap.size w w'

theorem bytesErr_bad (w : World) (er : Int) : BytesErr w ([], er) (.returned (.tuple #[.slice none 0 0, .int .i64 er])) w :=
  ⟨none, 0, [], rfl, rfl, Own.nil _ _ _, Below.refl _ _⟩

end Go.Proofs.YtdjifopdlkppoaaDoor.Oc
