/- quota's multiply, plus, over; Share, Down, Up, Droop. -/
import Derived.Test.YtefoccjphbbmhaaQa
import Derived.Test.YtefoccjphbbmhaaDx
import Derived.Test.YtefoccjphbbmhaaQv
namespace Go.Proofs.Ytefoccjphbbmhaa
open Go.RowKit
set_option linter.unusedVariables false

theorem size_pr : (Try.prog.info? 49).map (·.size) = some 2 := by kernel_rfl
theorem pr_ret {fn : Func} {p : Tmp} (h : fn.results = #[.cell p 49]) {a : Act} {w : World} {g : Nat} {cs : Array Value} {Q : Ending → World → Prop}
    (hp : a.tmps.getD p undef = .pointer (some ⟨g, 0, none⟩)) (hB : Blk w g 49 cs) (hn : cs.size = 2) (hd : a.defers = []) (hQ : Q (.returned (.agg cs)) w) : bodyPost Try.prog fn Q .ret a w :=
  bodyPost_ret (results_cell_row h a.tmps w g _ _ _ _ hp hB Try.underlying49 rfl (by rw [hn]; exact size_pr)) hd hQ

set_option maxRecDepth 100000 in
set_option maxHeartbeats 1000000 in
theorem qmul_any (a b : Nat) (ha : a < 9223372036854775808) (hb : b < 9223372036854775808) (w : World) :
    Calls Try.prog 37 #[.int .i64 a, .int .i64 b] w fun e w' => e = .returned (.agg #[.int .u64 ((a * b / 18446744073709551616 : Nat) : Int), .int .u64 ((a * b % 18446744073709551616 : Nat) : Int)]) ∧ Below w.heap.size w w' := by
  have W1 : IntKind.u64.wrap (a : Int) = (a : Int) := wrapU a (by omega)
  have W2 : IntKind.u64.wrap (b : Int) = (b : Int) := wrapU b (by omega)
  have hbw := fun wx (o : Obj) => below_new wx o
  have HM := Lib.hid (fun wx => Try.bits_Mul64 a b (by omega) (by omega) wx)
  obtain ⟨x, hx⟩ : ∃ x, x = a * b / 18446744073709551616 := ⟨_, rfl⟩
  obtain ⟨y, hy⟩ : ∃ x, x = a * b % 18446744073709551616 := ⟨_, rfl⟩
  rw [← hx, ← hy] at HM ⊢
  clear hx hy
  go_enter Try.func37, Try.ntmps37
  go_wp2_with fail
  refine (HM.out _).mono ?_
  rintro e w1 ⟨rfl, rfl⟩
  go_wp2_with fail
  exact pr_ret rfl rfl (Blk.new w _ _) rfl rfl ⟨rfl, hbw _ _⟩
set_option maxRecDepth 100000 in
set_option maxHeartbeats 1000000 in
theorem over_any (hi lo d : Nat) (v er : Int) (hh : hi < 18446744073709551616) (hl : lo < 18446744073709551616) (hd0 : 0 < d) (hd : d < 9223372036854775808) (hF : Hid (fixQ ((hi * 18446744073709551616 + lo) / d) = (v, er))) (w : World) :
    Calls Try.prog 39 #[.agg #[.int .u64 hi, .int .u64 lo], .int .i64 d] w fun e w' => e = .returned (.tuple #[.int .i64 v, .int .i64 er]) ∧ Below w.heap.size w w' := by
  have W1 : IntKind.u64.wrap (d : Int) = (d : Int) := wrapU d (by omega)
  have HB := Lib.hid (fun (o : Obj) q => (below_new w o).trans (below_drewN _ (w.alloc o) q))
  by_cases hc : d ≤ hi
  · have K1 : decide (d ≤ hi) = true := decide_eq_true hc
    have HE := Lib.hid (show (v, er) = (0, 30) by
      rw [← hF.out, fixQ_great]
      have h1 : (1000000000000001 : Nat) ≤ (hi * 18446744073709551616 + lo) / d := by
        rw [Nat.le_div_iff_mul_le hd0]; omega
      omega)
    obtain ⟨rfl, rfl⟩ : v = 0 ∧ er = 30 := by have := HE.out; simp only [Prod.mk.injEq] at this; exact this
    go_enter Try.func39, Try.ntmps39
    go_wp2_with fail
    go_quiet (fail)
    go_wp2_with fail
    go_ret2
    exact ⟨rfl, HB.out _ _⟩
  · have K1 : decide (d ≤ hi) = false := decide_eq_false hc
    obtain ⟨Q, hQ⟩ : ∃ Q, Q = (hi * 18446744073709551616 + lo) / d := ⟨_, rfl⟩
    have HQ := Lib.hid hQ
    have HV := Lib.hid (fun wx => div64_any hi lo d Q (by omega) (by omega) hl hQ wx)
    rw [← hQ] at hF
    clear hQ
    by_cases hg : Q ≤ 1000000000000000
    · have K2 : decide (1000000000000000 < (Q : Int)) = false := decide_eq_false (by omega)
      have K3 : decide (1000000000000000 < Q) = false := decide_eq_false (by omega)
      have W2 : IntKind.i64.wrap (Q : Int) = (Q : Int) := by rw [IntKind.wrap_i64]; omega
      have HE := Lib.hid (show (v, er) = ((Q : Int), 0) by rw [← hF.out, fixQ_ok hg])
      obtain ⟨rfl, rfl⟩ : v = (Q : Int) ∧ er = 0 := by have := HE.out; simp only [Prod.mk.injEq] at this; exact this
      go_enter Try.func39, Try.ntmps39
      go_wp2_with fail
      go_quiet (fail)
      go_wp2_with fail
      refine (HV.out _).mono ?_
      rintro e w1 ⟨r, rfl, q, rfl⟩
      go_wp2_with fail
      go_ret2
      exact ⟨rfl, HB.out _ _⟩
    · have K2 : decide (1000000000000000 < (Q : Int)) = true := decide_eq_true (by omega)
      have K3 : decide (1000000000000000 < Q) = true := decide_eq_true (by omega)
      have HE := Lib.hid (show (v, er) = (0, 30) by rw [← hF.out, fixQ_great hg])
      obtain ⟨rfl, rfl⟩ : v = 0 ∧ er = 30 := by have := HE.out; simp only [Prod.mk.injEq] at this; exact this
      go_enter Try.func39, Try.ntmps39
      go_wp2_with fail
      go_quiet (fail)
      go_wp2_with fail
      refine (HV.out _).mono ?_
      rintro e w1 ⟨r, rfl, q, rfl⟩
      go_wp2_with fail
      go_ret2
      exact ⟨rfl, HB.out _ _⟩
set_option maxRecDepth 100000 in
set_option maxHeartbeats 1000000 in
theorem plus_any (hi lo n hi2 lo2 : Nat) (hh : hi < 9223372036854775808) (hl : lo < 18446744073709551616) (hn : n < 9223372036854775808) (h1 : Hid (lo2 = (lo + n) % 18446744073709551616)) (h2 : Hid (hi2 = hi + (lo + n) / 18446744073709551616)) (w : World) :
    Calls Try.prog 38 #[.agg #[.int .u64 hi, .int .u64 lo], .int .i64 n] w fun e w' => e = .returned (.agg #[.int .u64 hi2, .int .u64 lo2]) ∧ Below w.heap.size w w' := by
  have W1 : IntKind.u64.wrap (n : Int) = (n : Int) := wrapU n (by omega)
  have HA := fun wx => add64_run lo n hl (by omega) wx
  obtain ⟨c, hc⟩ : ∃ c, c = (lo + n) / 18446744073709551616 := ⟨_, rfl⟩
  have h1' := h1.out
  rw [← h1', ← hc] at HA
  have W2 : IntKind.u64.wrap ((hi : Int) + (c : Int)) = (hi2 : Int) := wrapI hi2 (by have := h2.out; omega) (by have := h2.out; omega)
  clear h1' hc
  go_enter Try.func38, Try.ntmps38
  go_wp2_with (rw [HA])
  have hB := Blk.new (w.alloc (Obj.cells #[Value.int IntKind.u64 (hi : Int), Value.int IntKind.u64 (lo : Int)] 49)) 49 #[Value.int IntKind.u64 (hi2 : Int), Value.int IntKind.u64 (lo2 : Int)]
  rw [World.size_alloc] at hB
  exact pr_ret rfl rfl hB rfl rfl ⟨rfl, (below_new w _).trans ((below_new _ _).mono (by simp))⟩
end Go.Proofs.Ytefoccjphbbmhaa
