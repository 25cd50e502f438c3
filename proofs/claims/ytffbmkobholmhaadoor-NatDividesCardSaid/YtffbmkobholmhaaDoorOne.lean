/- The smallest functions of nat: word, limbAt, and those of the library that it calls: Add32, Sub32, Compare. -/
import Derived.Test.YtffbmkobholmhaaDoorMem
import Derived.Test.YtffbmkobholmhaaDoorModel
import Derived.Test.YtffbmkobholmhaaDoorProg
import Derived.Test.YtffbmkobholmhaaDoorShelf
import Derived.BigQuiet
import Derived.Deep.QuietTactic
import Derived.Outline
import Derived.Laws.BitsAllLaws
namespace Go.Proofs.YtffbmkobholmhaaDoor
open Go.RowKit
set_option linter.unusedVariables false

theorem quiet_add_left {P : Program} {f : FuncId} {args : Array Value} {w : World} {a n : Nat} {v : Value}
    (h : Calls P f args (w.drewN (a + n)) fun e w' => e = .returned v ∧ w.drewN (a + n) = w') :
    Calls P f args (w.drewN (a + n)) fun e w'' => e = .returned v ∧ ∃ m, w'' = w.drewN (a + m) :=
  h.mono fun _ _ ⟨he, hm⟩ => ⟨he, n, hm.symm⟩
theorem quiet_left {P : Program} {f : FuncId} {args : Array Value} {w : World} {n : Nat} {v : Value}
    (h : Calls P f args (w.drewN n) fun e w' => e = .returned v ∧ w.drewN n = w') : Calls P f args (w.drewN n) fun e w'' => e = .returned v ∧ ∃ m, w'' = w.drewN m :=
  h.mono fun _ _ ⟨he, hm⟩ => ⟨he, n, hm.symm⟩
theorem or_low (h l : Nat) (hh : h < 4294967296) (hl : l < 4294967296) : bits .or .u64 ((h : Int) * 4294967296) (l : Int) = ((4294967296 * h + l : Nat) : Int) := by
  have e : ((h : Int) * 4294967296) = ((2 ^ 32 * h : Nat) : Int) := by simp; omega
  rw [e, u64_or_nat _ _ (by omega) (by omega), ← Nat.two_pow_add_eq_or_of_lt (by omega)]

set_option maxHeartbeats 400000 in
theorem word_any (h l : Nat) (w : World) (hh : h < 4294967296) (hl : l < 4294967296) : Calls Tryd.prog 38 #[.int .u32 h, .int .u32 l] w fun e w' => e = .returned (.int .u64 ((4294967296 * h + l : Nat) : Int)) ∧ w = w' := by
  go_enter Tryd.func38, Tryd.ntmps38
  go_wp2_with fail
  go_ret
  exact ⟨congrArg (fun n => Ending.returned (.int .u64 n)) (or_low h l hh hl), rfl⟩

set_option maxHeartbeats 400000 in
theorem add32_any (x y c : Nat) (w : World) (hx : x < 4294967296) (hy : y < 4294967296) (hc : c < 4294967296) : Calls Tryd.prog 64 #[.int .u32 x, .int .u32 y, .int .u32 c] w fun e w' => e = .returned (.tuple #[.int .u32 (((x + y + c) % 4294967296 : Nat) : Int), .int .u32 (((x + y + c) / 4294967296 : Nat) : Int)]) ∧ w = w' := by
  go_enter Tryd.func64, Tryd.ntmps64
  go_wp2_with fail
  go_ret2
  refine ⟨?_, rfl⟩
  simp

/-- What Sub32 borrows. -/
def brw (x y : Nat) : Nat := if x < y then 1 else 0
theorem brw_le (x y : Nat) : brw x y ≤ 1 := by unfold brw; split <;> omega
theorem div_31 (n : Nat) (h : n < 4294967296) : n / 2147483648 = (n.testBit 31).toNat := by
  rw [Nat.testBit_eq_decide_div_mod_eq]
  have e : (2 : Nat) ^ 31 = 2147483648 := by decide
  rw [e]
  by_cases hd : n / 2147483648 % 2 = 1
  · rw [decide_eq_true hd]; simp; omega
  · rw [decide_eq_false hd]; simp; omega
theorem bit_31 (n : Nat) (h : n < 4294967296) : n.testBit 31 = decide (2147483648 ≤ n) := by
  rw [Nat.testBit_eq_decide_div_mod_eq]
  have e : (2 : Nat) ^ 31 = 2147483648 := by decide
  rw [e]
  by_cases hd : 2147483648 ≤ n
  · rw [decide_eq_true hd]; simp; omega
  · rw [decide_eq_false hd]; simp; omega
theorem borrow_nat (x y : Nat) (hx : x < 4294967296) (hy : y < 4294967296) :
    ((4294967295 ^^^ x) &&& y ||| ((4294967295 ^^^ (x ^^^ y)) &&& ((x + 4294967296 - y) % 4294967296))) / 2147483648 = brw x y := by
  have b1 : (4294967295 ^^^ x) < 2 ^ 32 := Nat.xor_lt_two_pow (by decide) hx
  have b2 : (x ^^^ y) < 2 ^ 32 := Nat.xor_lt_two_pow hx hy
  have b3 : (4294967295 ^^^ (x ^^^ y)) < 2 ^ 32 := Nat.xor_lt_two_pow (by decide) b2
  have b4 : ((4294967295 ^^^ x) &&& y) < 2 ^ 32 := Nat.and_lt_two_pow _ hy
  have b5 : ((4294967295 ^^^ (x ^^^ y)) &&& ((x + 4294967296 - y) % 4294967296)) < 2 ^ 32 := Nat.and_lt_two_pow _ (by omega)
  rw [div_31 _ (Nat.or_lt_two_pow b4 b5), Nat.testBit_or, Nat.testBit_and, Nat.testBit_and, Nat.testBit_xor, Nat.testBit_xor, Nat.testBit_xor, bit_31 x hx, bit_31 y hy, bit_31 _ (show (x + 4294967296 - y) % 4294967296 < 4294967296 by omega)]
  have e : (4294967295 : Nat).testBit 31 = true := by decide
  rw [e]
  unfold brw
  by_cases h1 : 2147483648 ≤ x <;> by_cases h2 : 2147483648 ≤ y <;> by_cases h3 : 2147483648 ≤ (x + 4294967296 - y) % 4294967296 <;> by_cases h4 : x < y <;> simp [h1, h2, h3, h4] <;> omega
theorem borrow_int (x y : Nat) (hx : x < 4294967296) (hy : y < 4294967296) :
    bits .or .u32 (bits .and .u32 (bits .xor .u32 IntKind.u32.max (x : Int)) (y : Int)) (bits .and .u32 (bits .xor .u32 IntKind.u32.max (bits .xor .u32 (x : Int) (y : Int))) (((x : Int) - (y : Int)) % 4294967296)) / 2147483648 = (brw x y : Int) := by
  have em : IntKind.u32.max = ((4294967295 : Nat) : Int) := by decide
  have ed : ((x : Int) - (y : Int)) % 4294967296 = (((x + 4294967296 - y) % 4294967296 : Nat) : Int) := by omega
  have b1 : (4294967295 ^^^ x) < 2 ^ 32 := Nat.xor_lt_two_pow (by decide) hx
  have b2 : (x ^^^ y) < 2 ^ 32 := Nat.xor_lt_two_pow hx hy
  have b3 : (4294967295 ^^^ (x ^^^ y)) < 2 ^ 32 := Nat.xor_lt_two_pow (by decide) b2
  have b4 : ((4294967295 ^^^ x) &&& y) < 2 ^ 32 := Nat.and_lt_two_pow _ hy
  have b5 : ((4294967295 ^^^ (x ^^^ y)) &&& ((x + 4294967296 - y) % 4294967296)) < 2 ^ 32 := Nat.and_lt_two_pow _ (by omega)
  rw [em, ed, u32_xor_nat _ _ (by decide) hx, u32_xor_nat _ _ hx hy, u32_xor_nat _ _ (by decide) b2, u32_and_nat _ _ b1 hy, u32_and_nat _ _ b3 (by omega), u32_or_nat _ _ b4 b5, ← borrow_nat x y hx hy]
  simp

set_option maxHeartbeats 400000 in
theorem sub32_any (x y : Nat) (w : World) (hx : x < 4294967296) (hy : y < 4294967296) : Calls Tryd.prog 66 #[.int .u32 x, .int .u32 y, .int .u32 0] w fun e w' => e = .returned (.tuple #[.int .u32 (((x + 4294967296 - y) % 4294967296 : Nat) : Int), .int .u32 (brw x y)]) ∧ w = w' := by
  have HB := Lib.hid (borrow_int x y hx hy)
  have HS := Lib.hid (show ((x : Int) - (y : Int)) % 4294967296 = (((x + 4294967296 - y) % 4294967296 : Nat) : Int) by omega)
  go_enter Tryd.func66, Tryd.ntmps66
  go_wp2_with fail
  go_ret2
  refine ⟨?_, rfl⟩
  rw [← HB.out]
  simp
  omega

/-- The shift of a division: x shifted so far stays one limb. -/
theorem bitLen_lt : ∀ (f x : Nat), x < 2 ^ f → x < 2 ^ Lib.bitLenAux f x := by
  intro f
  induction f with
  | zero => intro x h; simp at h; subst h; decide
  | succ f ih =>
    intro x h
    unfold Lib.bitLenAux
    split
    · omega
    · have := ih (x / 2) (by rw [Nat.pow_succ] at h; omega)
      rw [Nat.add_comm, Nat.pow_succ]
      omega
set_option maxHeartbeats 400000 in
theorem isNaN_u32 (x : Int) (w : World) : Calls Tryd.prog 77 #[.int .u32 x] w fun e w' => e = .returned (.bool false) ∧ w = w' := by
  go_enter Tryd.func77, Tryd.ntmps77
  go_wp2_with fail
  go_ret
  exact ⟨rfl, rfl⟩
set_option maxHeartbeats 400000 in
theorem isNaN_int (x : Int) (w : World) : Calls Tryd.prog 76 #[.int .i64 x] w fun e w' => e = .returned (.bool false) ∧ w = w' := by
  go_enter Tryd.func76, Tryd.ntmps76
  go_wp2_with fail
  go_ret
  exact ⟨rfl, rfl⟩
set_option maxHeartbeats 400000 in
theorem compare_u32 (x y : Nat) (w : World) : Calls Tryd.prog 63 #[.int .u32 x, .int .u32 y] w fun e w' => e = .returned (.int .i64 (cmpI x y)) ∧ w = w' := by
  by_cases h1 : x < y
  · have HE := Lib.hid (show cmpI x y = -1 by unfold cmpI; rw [if_pos h1])
    go_enter Tryd.func63, Tryd.ntmps63
    go_wp2_with (first | (go_at_call 77; refine (isNaN_u32 _ _).mono ?_; rintro e w' ⟨rfl, rfl⟩))
    go_ret
    exact ⟨by rw [HE.out]; rfl, rfl⟩
  · by_cases h2 : y < x
    · have HE := Lib.hid (show cmpI x y = 1 by unfold cmpI; rw [if_neg h1, if_neg (by omega)])
      go_enter Tryd.func63, Tryd.ntmps63
      go_wp2_with (first | (go_at_call 77; refine (isNaN_u32 _ _).mono ?_; rintro e w' ⟨rfl, rfl⟩))
      go_ret
      exact ⟨by rw [HE.out]; rfl, rfl⟩
    · have HE := Lib.hid (show cmpI x y = 0 by unfold cmpI; rw [if_neg h1, if_pos (by omega)])
      go_enter Tryd.func63, Tryd.ntmps63
      go_wp2_with (first | (go_at_call 77; refine (isNaN_u32 _ _).mono ?_; rintro e w' ⟨rfl, rfl⟩))
      go_ret
      exact ⟨by rw [HE.out]; rfl, rfl⟩
set_option maxHeartbeats 400000 in
theorem compare_int (x y : Nat) (w : World) : Calls Tryd.prog 62 #[.int .i64 x, .int .i64 y] w fun e w' => e = .returned (.int .i64 (cmpI x y)) ∧ w = w' := by
  refine (Tryd.cmp_Compare_int x y w).mono ?_
  rintro e w' ⟨rfl, rfl⟩
  refine ⟨?_, rfl⟩
  unfold Lib.compareInt cmpI
  congr 2
  by_cases h1 : x < y
  · rw [if_pos h1, if_pos (by omega)]
  · rw [if_neg h1]
    by_cases h2 : x = y
    · rw [if_pos h2]; subst h2; simp
    · rw [if_neg h2, if_neg (by omega)]
      first | rw [if_pos (by omega)] | rw [if_neg (by omega)]

/-- LeadingZeros32: x shifted so far is one limb. -/
theorem zeros_any (x : Nat) (w : World) (h0 : x < 4294967296) (h1 : 0 < x) : Calls Tryd.prog 68 #[.int .u32 x] w fun e w' => ∃ n : Nat, e = .returned (.int .i64 n) ∧ n ≤ 31 ∧ x * 2 ^ n < 4294967296 ∧ w = w' := by
  refine (Tryd.bits_LeadingZeros32 x w (by omega) (by omega)).mono ?_
  rintro e w' ⟨rfl, rfl⟩
  have e1 : ((x : Int)).toNat = x := by omega
  rw [e1]
  have h2 : x < 2 ^ Lib.bitLen x := bitLen_lt 64 x (Nat.lt_of_lt_of_le h0 (by decide))
  have h3 : Lib.bitLen x ≤ 32 := by have := Any.bitLen_le32 (x : Int) (by omega) (by omega); rwa [e1] at this
  have h4 : 1 ≤ Lib.bitLen x := by
    rcases Nat.eq_zero_or_pos (Lib.bitLen x) with e | e
    · rw [e] at h2; omega
    · exact e
  refine ⟨32 - Lib.bitLen x, ?_, by omega, ?_, rfl⟩
  · congr 2; omega
  · have h5 : x * 2 ^ (32 - Lib.bitLen x) < 2 ^ Lib.bitLen x * 2 ^ (32 - Lib.bitLen x) := Nat.mul_lt_mul_of_pos_right h2 (Nat.pow_pos (by decide))
    rw [← Nat.pow_add] at h5
    have h6 : Lib.bitLen x + (32 - Lib.bitLen x) = 32 := by omega
    rw [h6] at h5
    exact h5

set_option maxHeartbeats 400000 in
theorem limbAt_any (A : Option Addr) (c B : Nat) (xs : List UInt32) (i : Nat) (w : World) (hr : Rf uv w B A c xs) (hi : i ≤ 4000000000) : Calls Tryd.prog 39 #[.slice A xs.length c, .int .i64 i] w fun e w' => e = .returned (.int .u32 (lat xs i)) ∧ w = w' := by
  by_cases h : i < xs.length
  · have e := lat_in h
    obtain ⟨b, o, rfl, hb, hc⟩ := hr.at_ h
    have hci := hc i h
    unfold uv at hci
    have HE := Lib.hid e
    clear e hc
    go_enter Tryd.func39, Tryd.ntmps39
    go_wp2_with fail
    go_ret
    exact ⟨by rw [HE.out]; rfl, rfl⟩
  · have e := lat_out (m := xs) (i := i) (by omega)
    have HE := Lib.hid e
    clear e
    go_enter Tryd.func39, Tryd.ntmps39
    go_wp2_with fail
    go_ret
    exact ⟨by rw [HE.out]; rfl, rfl⟩
end Go.Proofs.YtffbmkobholmhaaDoor
