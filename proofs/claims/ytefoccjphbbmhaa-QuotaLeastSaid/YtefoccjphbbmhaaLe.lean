/- QuotaLeast, walked. -/
import Derived.Test.YtefoccjphbbmhaaQw
namespace Go.Proofs.Ytefoccjphbbmhaa
open Go.RowKit
set_option linter.unusedVariables false

set_option maxRecDepth 100000 in
set_option maxHeartbeats 2000000 in
theorem quotaLeast_any (a b : Int) (w : World) :
    Calls Try.prog 5 #[.int .i64 a, .int .i64 b] w fun e w' => e = .returned (.bool true) ∧ Below w.heap.size w w' := by
  have HW := Lib.hid (fun wx => wakes_any wx)
  have HMY := Lib.hid (fun wx => may_any a b wx)
  cases hin : mayQ a b with
  | false =>
    rw [hin] at HMY
    have HD := Lib.hid (fun wx => droop_any a b 0 2 (droopM_no hin) wx)
    clear hin
    go_enter Try.func5, Try.ntmps5
    go_wp2_with fail
    refine (HD.out _).mono ?_
    rintro e w1 ⟨rfl, hb1⟩
    have HB1 := Lib.hid hb1
    clear hb1
    go_wp2_with fail
    refine (HMY.out _).mono ?_
    rintro e w2 ⟨rfl, rfl⟩
    go_wp2_with fail
    refine (HW.out _).mono ?_
    rintro e w3 ⟨rfl, hb3⟩
    go_wp2_with fail
    go_ret
    exact ⟨rfl, HB1.out.trans (hb3.mono HB1.out.size)⟩
  | true =>
    rw [hin] at HMY
    obtain ⟨h1, h2, h3, h4⟩ := mayQ_yes hin
    obtain ⟨x, rfl⟩ := Int.eq_ofNat_of_zero_le h1
    obtain ⟨y, rfl⟩ := Int.eq_ofNat_of_zero_le (show 0 ≤ b by omega)
    obtain ⟨q, hq⟩ : ∃ z, z = x / (y + 1) := ⟨_, rfl⟩
    have hd := Nat.div_add_mod x (y + 1)
    have hm := Nat.mod_lt x (show 0 < y + 1 by omega)
    rw [← hq] at hd
    have hql : q ≤ x := by rw [hq]; exact Nat.div_le_self _ _
    have HD := Lib.hid (fun wx => droop_any (x : Int) (y : Int) ((q : Int) + 1) 0 ((droopM_yes hin).trans (by rw [hq]; rfl)) wx)
    obtain ⟨p, hp⟩ : ∃ z, z = (y + 1) * q := ⟨_, rfl⟩
    rw [← hp] at hd
    have e1 : ((q : Int) + 1) * ((y : Int) + 1) = ((p + y + 1 : Nat) : Int) := by rw [hp]; push_cast; rw [Int.add_mul, Int.one_mul, Int.mul_comm (q : Int)]; omega
    have e2 : (q : Int) * ((y : Int) + 1) = (p : Int) := by rw [hp]; push_cast; rw [Int.mul_comm (q : Int)]
    have W1 : IntKind.i64.wrap ((y : Int) + 1) = (y : Int) + 1 := i64w (by omega) (by omega)
    have W2 : IntKind.i64.wrap (((q : Int) + 1) * ((y : Int) + 1)) = ((p + y + 1 : Nat) : Int) := by rw [e1]; exact i64w (by omega) (by omega)
    have W3 : IntKind.i64.wrap ((q : Int) + 1 - 1) = (q : Int) := by rw [Int.add_sub_cancel]; exact i64w (by omega) (by omega)
    have W3' : IntKind.i64.wrap (q : Int) = (q : Int) := i64w (by omega) (by omega)
    have W4 : IntKind.i64.wrap ((q : Int) * ((y : Int) + 1)) = (p : Int) := by rw [e2]; exact i64w (by omega) (by omega)
    obtain ⟨s, hs⟩ : ∃ s, s = p + y + 1 := ⟨_, rfl⟩
    rw [← hs] at W2
    have K1 : decide ((1 : Int) ≤ (q : Int) + 1) = true := decide_eq_true (by omega)
    have K2 : decide ((x : Int) < (s : Int)) = true := decide_eq_true (by omega)
    have K2' : decide (x < s) = true := decide_eq_true (by omega)
    have K3 : decide ((p : Int) ≤ (x : Int)) = true := decide_eq_true (by omega)
    have K3' : decide (p ≤ x) = true := decide_eq_true (by omega)
    clear hin hq hd hm hp e1 e2 hs
    go_enter Try.func5, Try.ntmps5
    go_wp2_with fail
    refine (HD.out _).mono ?_
    rintro e w1 ⟨rfl, hb1⟩
    have HB1 := Lib.hid hb1
    clear hb1
    go_wp2_with fail
    refine (HMY.out _).mono ?_
    rintro e w2 ⟨rfl, rfl⟩
    go_wp2_with fail
    refine (HW.out _).mono ?_
    rintro e w3 ⟨rfl, hb3⟩
    go_wp2_with fail
    go_ret
    exact ⟨rfl, HB1.out.trans (hb3.mono HB1.out.size)⟩
end Go.Proofs.Ytefoccjphbbmhaa
