/- math/bits.Div64, Add64. -/
import Derived.Test.YtefoccjphbbmhaaDw
import Derived.BigQuiet
namespace Go.Proofs.Ytefoccjphbbmhaa
open Go.RowKit
set_option linter.unusedVariables false

set_option maxRecDepth 100000 in
set_option maxHeartbeats 4000000 in
theorem div64_near (lo y Q : Nat) (hy : 0 < y) (hyl : y < 18446744073709551616) (hlo : lo < 18446744073709551616) (hQ : Hid (Q = lo / y)) (w : World) :
    Calls Try.prog 60 #[.int .u64 0, .int .u64 lo, .int .u64 y] w fun e w' => ∃ r : Int, e = .returned (.tuple #[.int .u64 (Q : Int), .int .u64 r]) ∧ ∃ q, w' = w.drewN q := by
  have d1 : ((y : Int) == 0) = false := by rw [beq_eq_false_iff_ne]; omega
  have d2 : decide ((y : Int) ≤ 0) = false := by simp; omega
  have Z1 : ¬ (y : Int) = 0 := by omega
  have Z2 : ¬ y = 0 := by omega
  have T1 : (lo : Int).tdiv (y : Int) = (Q : Int) := by rw [hQ.out]; rfl
  have T2 : (lo : Int) / (y : Int) = (Q : Int) := by rw [hQ.out]; rfl
  have hQl : Q < 18446744073709551616 := by rw [hQ.out]; exact Nat.lt_of_le_of_lt (Nat.div_le_self _ _) hlo
  have U1 : IntKind.u64.wrap (Q : Int) = (Q : Int) := wrapU Q hQl
  go_enter Try.func60, Try.ntmps60
  go_wp2_with fail
  go_quiet (fail)
  go_wp2_with fail
  go_ret2
  exact ⟨_, rfl, _, rfl⟩
theorem div64_any (hi lo y Q : Nat) (hhi : hi < y) (hyl : y < 18446744073709551616) (hlo : lo < 18446744073709551616) (hQ : Hid (Q = (hi * 18446744073709551616 + lo) / y)) (w : World) :
    Calls Try.prog 60 #[.int .u64 hi, .int .u64 lo, .int .u64 y] w fun e w' => ∃ r : Int, e = .returned (.tuple #[.int .u64 (Q : Int), .int .u64 r]) ∧ ∃ q, w' = w.drewN q := by
  rcases Nat.eq_zero_or_pos hi with h0 | h0
  · subst h0
    exact div64_near lo y Q hhi hyl hlo (by have := hQ.out; rw [Nat.zero_mul, Nat.zero_add] at this; exact this) w
  · exact (div64_far hi lo y Q h0 hhi hyl hlo hQ w).mono fun e w' ⟨r, h1, h2⟩ => ⟨r, h1, 0, h2⟩
theorem add64_run (x y : Nat) (hx : x < 18446744073709551616) (hy : y < 18446744073709551616) (w : World) : (callFunc 59 #[.int .u64 x, .int .u64 y, .int .u64 0]).run Try.prog w =
    .ok (.value (.tuple #[.int .u64 (((x + y) % 18446744073709551616 : Nat) : Int), .int .u64 (((x + y) / 18446744073709551616 : Nat) : Int)])) w := by
  have h := run_callFunc_extern (P := Try.prog) (fn := Try.f59) (f := 59) (e := add64Entry) Try.func59 (by kernel_rfl) (by kernel_rfl) (by kernel_rfl) (by kernel_rfl) #[.int .u64 x, .int .u64 y, .int .u64 0] w
  rw [h, run_add64 x y 0 (by omega) (by omega) (by omega) (by omega)]
  rfl
end Go.Proofs.Ytefoccjphbbmhaa
