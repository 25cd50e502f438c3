/- The reference of layer 1: Twin, Digits, Number, Put, Take; and the law's spoil. -/
import Derived.Test.YtdjifopdlkppoaaDoorOcTake
namespace Go.Proofs.YtdjifopdlkppoaaDoor.Oc
open Go.RowKit
set_option linter.unusedVariables false

set_option maxHeartbeats 400000 in
theorem twin_any (A : Option Addr) (c : Nat) (l : List UInt8) (w : World) (hr : Rd w w.heap.size A c l) (hl : l.length ≤ 200000) :
    Calls Tryd.prog 77 #[.slice A l.length c] w fun e w' => ∃ A' c', e = .returned (.slice A' l.length c') ∧ Own w' w.heap.size 5 A' c' l ∧ Below w.heap.size w w' := by
  obtain ⟨i0, hi, hz0, hz1, hz2⟩ := info_parts info5
  go_enter Tryd.func77, Tryd.ntmps77
  go_wp2_with (at_builtin; refine wpList_append_bytes _ rfl _ _ 37 rfl w.heap.size 5 i0 _ Tryd.underlying37 hi hz0 hz1 hz2 rfl [] l rfl rfl (Own.nil _ _ _) hr (by simp; omega) (Nat.le_refl _) ?_; intro A2 c2 w2 r2 hr2 hown2 hg2 hb2)
  go_ret
  obtain rfl : r2 = l := hr2.out
  exact ⟨A2, c2, rfl, hown2, below_of_grown hg2 (Nat.le_refl _) (by simp [blk])⟩

theorem be_front (k n : Nat) : be (k + 1) n = UInt8.ofNat (n / 2 ^ (8 * k)) :: be k n := by
  unfold be
  rw [List.range_succ_eq_map, List.map_cons, List.map_map]
  congr 1
  apply List.map_congr_left
  intro i _
  simp only [Function.comp]
  congr 4
  omega

set_option maxHeartbeats 400000 in
theorem digits_any (n s : Nat) (w : World) (hs : s ≤ 8) (hn : n < 18446744073709551616) :
    Calls Tryd.prog 75 #[.int .u64 n, .int .i64 s] w fun e w' => ∃ A' c' r, e = .returned (.slice A' r.length c') ∧ r = be s n ∧ Own w' w.heap.size 5 A' c' r ∧ Below w.heap.size w w' := by
  obtain ⟨i0, hi, hz0, hz1, hz2⟩ := info_parts info5
  go_enter Tryd.func75, Tryd.ntmps75
  go_wp2
  go_loopw [0, 5, 6] (fun m v i wr => ∃ k : Nat, ∃ x : Nat, ∃ A' c' r, k ≤ s ∧ i = .int .i64 k ∧ m = .int .u64 x ∧ Hid (x = n / 2 ^ (8 * k)) ∧ x < 18446744073709551616 ∧ v = .slice A' r.length c' ∧ Hid (r = be k n) ∧ r.length ≤ k ∧ Own wr w.heap.size 5 A' c' r ∧ Below w.heap.size w wr)
    (fun _ _ i _ => s - (intOf i).toNat)
  case atStart => exact ⟨0, n, none, 0, [], Nat.zero_le _, rfl, rfl, by simp [Hid], hn, rfl, rfl, by simp, Own.nil _ _ _, Below.refl _ _⟩
  case round =>
    obtain ⟨k, x, A1, c1, r, hk, rfl, rfl, hx, hxl, rfl, hr, hrl, hown1, hb1⟩ := hrel
    by_cases hlt : k < s
    · have hsz := hb1.size
      obtain ⟨y, hy⟩ : ∃ y : UInt8, y = UInt8.ofNat x := ⟨_, rfl⟩
      have hv : (x : Int) % 256 = (y.toNat : Int) := by subst hy; simp
      have HY := Lib.hid hy
      have HV := Lib.hid hv
      clear hy hv
      go_wp2_with (at_builtin; refine wpList_append_bytes _ rfl _ _ 37 rfl w.heap.size 5 i0 _ Tryd.underlying37 hi hz0 hz1 hz2 rfl [y] r rfl rfl (own_one _ y _ HV.out _ _ hsz) ((hown1.rd).alloc (Nat.le_refl _) _) (by simp; omega) (by simp; omega) ?_; intro A2 c2 w2 r2 hr2 hown2 hg2 hb2)
      have hlen : r2.length ≤ k + 1 := by rw [hr2.out]; simp; omega
      have hr3 : r2 = be (k + 1) n := by rw [hr2.out, be_front, HY.out, hx.out, hr.out]; rfl
      have hx3 : x / 256 = n / 2 ^ (8 * (k + 1)) := by rw [hx.out, Nat.div_div_eq_div_mul, Nat.mul_add, Nat.pow_add]
      have hbn : Below w.heap.size w w2 := (hb1.alloc hsz _).trans (below_of_grown hg2 (by simp; omega) (fun g hg => by simp [blk] at hg; omega))
      go_roundw
      case rel => exact ⟨k + 1, x / 256, A2, c2, r2, by omega, by go_num, by simp, hx3, by omega, rfl, hr3, hlen, hown2, hbn⟩
      case measure => simp [intOf]; omega
    · obtain rfl : k = s := by omega
      go_wp2
      go_ret
      exact ⟨A1, c1, r, rfl, hr.out, hown1, hb1⟩

set_option maxHeartbeats 400000 in
theorem number_any (A : Option Addr) (c : Nat) (l : List UInt8) (B : Nat) (w : World) (hr : Rd w B A c l) (hl : l.length ≤ 8) :
    Calls Tryd.prog 76 #[.slice A l.length c] w fun e w' => e = .returned (.int .u64 (num l)) ∧ w = w' := by
  go_enter Tryd.func76, Tryd.ntmps76
  go_wp2
  go_loop [3, 4] (fun v i => ∃ j : Nat, j ≤ l.length ∧ i = .int .i64 j ∧ v = .int .u64 (num (l.take j))) (fun _ i => l.length - (intOf i).toNat)
  case atStart => exact ⟨0, Nat.zero_le _, rfl, rfl⟩
  case round =>
    obtain ⟨j, hj, rfl, rfl⟩ := hrel
    by_cases hlt : j < l.length
    · obtain ⟨b, o, rfl, hb, hcell⟩ := hr.at_ hlt
      have hc := hcell j hlt
      have hn : num (l.take j) < 72057594037927936 := Nat.lt_of_lt_of_le (num_lt_of (l.take j) 7 (by simp; omega)) (by decide)
      have hbt := l[j].toNat_lt
      have hsn : num (l.take (j + 1)) = num (l.take j) * 256 + l[j].toNat := by
        rw [List.take_succ_eq_append_getElem hlt, num_snoc]
      have HS := Lib.hid hsn
      clear hsn
      go_wp2_with fail
      go_round
      case rel => exact ⟨j + 1, by omega, by go_num, by rw [HS.out]; simp⟩
      case measure => simp [intOf]; omega
    · obtain rfl : j = l.length := by omega
      go_wp2
      go_ret
      exact ⟨by simp, rfl⟩

theorem num_cons (b : UInt8) (l : List UInt8) : num (b :: l) = b.toNat * 256 ^ l.length + num l := by
  have : ∀ (l : List UInt8) (a : Nat), l.foldl (fun n b => n * 256 + b.toNat) a = a * 256 ^ l.length + num l := by
    intro l
    induction l with
    | nil => intro a; simp [num]
    | cons x l ih =>
      intro a
      have h2 : num (x :: l) = x.toNat * 256 ^ l.length + num l := by
        show List.foldl _ (0 * 256 + x.toNat) l = _
        rw [ih, Nat.zero_mul, Nat.zero_add]
      rw [List.foldl_cons, ih, h2, List.length_cons, Nat.pow_succ, Nat.add_mul, Nat.mul_assoc, Nat.mul_comm 256, Nat.add_assoc]
  have := this (b :: l) 0
  show List.foldl _ (0 * 256 + b.toNat) l = _
  rw [‹∀ (l : List UInt8) (a : Nat), l.foldl (fun n b => n * 256 + b.toNat) a = a * 256 ^ l.length + num l› l, Nat.zero_mul, Nat.zero_add]

theorem pow_256 (k : Nat) : 256 ^ k = 2 ^ (8 * k) := by rw [Nat.pow_mul]
theorem num_be (k n : Nat) : num (be k n) = n % 2 ^ (8 * k) := by
  induction k with
  | zero => simp [be, num, Nat.mod_one]
  | succ k ih =>
    rw [be_front, num_cons, ih, be_len, pow_256, Nat.mul_add, Nat.pow_add, Nat.mod_mul, Nat.add_comm, Nat.mul_comm (2 ^ (8 * k))]
    simp

end Go.Proofs.YtdjifopdlkppoaaDoor.Oc
