/- quota's Share, Down, Up, Droop. -/
import Derived.Test.YtefoccjphbbmhaaQb
namespace Go.Proofs.Ytefoccjphbbmhaa
open Go.RowKit
set_option linter.unusedVariables false

theorem prod_lt {a b : Nat} (ha : a ≤ 1000000000000000) (hb : b ≤ 1000000000000000) : a * b ≤ 1000000000000000000000000000000 := Nat.le_trans (Nat.mul_le_mul ha hb) (by decide)
theorem prod_parts (p : Nat) : p / 18446744073709551616 * 18446744073709551616 + p % 18446744073709551616 = p := Nat.div_add_mod' _ _

set_option maxRecDepth 100000 in
set_option maxHeartbeats 1000000 in
theorem share_any (a b c : Int) (v er : Int) (hM : Hid (shareM a b c = (v, er))) (w : World) :
    Calls Try.prog 19 #[.int .i64 a, .int .i64 b, .int .i64 c] w fun e w' => e = .returned (.tuple #[.int .i64 v, .int .i64 er]) ∧ Below w.heap.size w w' := by
  have hbw := fun wx (o : Obj) => below_new wx o
  have HF := Lib.hid (fixed3 a b c w)
  cases hin : (inQ a && (inQ b && inQ c)) with
  | false =>
    rw [hin] at HF
    have HE := Lib.hid (show (v, er) = (0, 2) by rw [← hM.out, shareM_bad (fun h => by rw [h.1, h.2.1, h.2.2] at hin; cases hin)])
    obtain ⟨rfl, rfl⟩ : v = 0 ∧ er = 2 := by have := HE.out; simp only [Prod.mk.injEq] at this; exact this
    go_enter Try.func19, Try.ntmps19
    go_wp2_with fail
    refine HF.out.mono ?_
    rintro e w1 ⟨rfl, rfl⟩
    go_wp2_with fail
    go_ret2
    exact ⟨rfl, hbw _ _⟩
  | true =>
    rw [hin] at HF
    simp only [Bool.and_eq_true] at hin
    obtain ⟨ha, hb, hc⟩ := hin
    obtain ⟨x, rfl, hx⟩ := inQ_nat ha
    obtain ⟨y, rfl, hy⟩ := inQ_nat hb
    obtain ⟨d, rfl, hd⟩ := inQ_nat hc
    by_cases h0 : d = 0
    · subst h0
      have HE := Lib.hid (show (v, er) = (0, 40) by rw [← hM.out]; exact shareM_zero ⟨ha, hb⟩)
      obtain ⟨rfl, rfl⟩ : v = 0 ∧ er = 40 := by have := HE.out; simp only [Prod.mk.injEq] at this; exact this
      go_enter Try.func19, Try.ntmps19
      go_wp2_with fail
      refine HF.out.mono ?_
      rintro e w1 ⟨rfl, rfl⟩
      go_wp2_with fail
      go_ret2
      exact ⟨rfl, hbw _ _⟩
    · have K0 : ((d : Int) == 0) = false := by rw [beq_eq_false_iff_ne]; omega
      have hF : fixQ (x * y / d) = (v, er) := by rw [← hM.out, shareM_ok hx hy hd h0]
      have hp := prod_lt hx hy
      have HP := Lib.hid (fun wx => qmul_any x y (by omega) (by omega) wx)
      obtain ⟨p, hpe⟩ : ∃ p, p = x * y := ⟨_, rfl⟩
      rw [← hpe] at hF hp HP
      have HO := Lib.hid (fun wx => over_any (p / 18446744073709551616) (p % 18446744073709551616) d v er (by omega) (by omega) (by omega) (by omega) (by rw [prod_parts]; exact hF) wx)
      obtain ⟨hi, hhi⟩ : ∃ z, z = p / 18446744073709551616 := ⟨_, rfl⟩
      obtain ⟨lo, hlo⟩ : ∃ z, z = p % 18446744073709551616 := ⟨_, rfl⟩
      rw [← hhi, ← hlo] at HP HO
      clear hF hp hpe hhi hlo h0 ha hb hc
      go_enter Try.func19, Try.ntmps19
      go_wp2_with fail
      refine HF.out.mono ?_
      rintro e w1 ⟨rfl, rfl⟩
      go_wp2_with fail
      refine (HP.out _).mono ?_
      rintro e w2 ⟨rfl, hb2⟩
      go_wp2_with fail
      refine (HO.out _).mono ?_
      rintro e w3 ⟨rfl, hb3⟩
      go_wp2_with fail
      go_ret2
      exact ⟨rfl, ((hbw _ _).trans (hb2.mono (by simp))).trans (hb3.mono ((hbw _ _).trans (hb2.mono (by simp))).size)⟩

set_option maxRecDepth 100000 in
set_option maxHeartbeats 1000000 in
theorem down_any (a b : Int) (v er : Int) (hM : Hid (shareM a b 1000000000 = (v, er))) (w : World) :
    Calls Try.prog 15 #[.int .i64 a, .int .i64 b] w fun e w' => e = .returned (.tuple #[.int .i64 v, .int .i64 er]) ∧ Below w.heap.size w w' := by
  have HS := Lib.hid (share_any a b 1000000000 v er hM w)
  go_enter Try.func15, Try.ntmps15
  go_wp2_with fail
  refine HS.out.mono ?_
  rintro e w1 ⟨rfl, hb⟩
  go_wp2_with fail
  go_ret2
  exact ⟨rfl, hb⟩

set_option maxRecDepth 100000 in
set_option maxHeartbeats 1000000 in
theorem up_any (a b : Int) (v er : Int) (hM : Hid (upM a b = (v, er))) (w : World) :
    Calls Try.prog 17 #[.int .i64 a, .int .i64 b] w fun e w' => e = .returned (.tuple #[.int .i64 v, .int .i64 er]) ∧ Below w.heap.size w w' := by
  have hbw := fun wx (o : Obj) => below_new wx o
  have HF := Lib.hid (fixed2 a b w)
  cases hin : (inQ a && inQ b) with
  | false =>
    rw [hin] at HF
    have HE := Lib.hid (show (v, er) = (0, 2) by rw [← hM.out, upM_bad (fun h => by rw [h.1, h.2] at hin; cases hin)])
    obtain ⟨rfl, rfl⟩ : v = 0 ∧ er = 2 := by have := HE.out; simp only [Prod.mk.injEq] at this; exact this
    go_enter Try.func17, Try.ntmps17
    go_wp2_with fail
    refine HF.out.mono ?_
    rintro e w1 ⟨rfl, rfl⟩
    go_wp2_with fail
    go_ret2
    exact ⟨rfl, hbw _ _⟩
  | true =>
    rw [hin] at HF
    simp only [Bool.and_eq_true] at hin
    obtain ⟨ha, hb⟩ := hin
    obtain ⟨x, rfl, hx⟩ := inQ_nat ha
    obtain ⟨y, rfl, hy⟩ := inQ_nat hb
    have hF : fixQ ((x * y + 999999999) / 1000000000) = (v, er) := by rw [← hM.out, upM_ok hx hy]
    have hp := prod_lt hx hy
    have HP := Lib.hid (fun wx => qmul_any x y (by omega) (by omega) wx)
    obtain ⟨p, hpe⟩ : ∃ p, p = x * y := ⟨_, rfl⟩
    rw [← hpe] at hF hp HP
    obtain ⟨hi, hhi⟩ : ∃ z, z = p / 18446744073709551616 := ⟨_, rfl⟩
    obtain ⟨lo, hlo⟩ : ∃ z, z = p % 18446744073709551616 := ⟨_, rfl⟩
    obtain ⟨hi2, hhi2⟩ : ∃ z, z = hi + (lo + 999999999) / 18446744073709551616 := ⟨_, rfl⟩
    obtain ⟨lo2, hlo2⟩ : ∃ z, z = (lo + 999999999) % 18446744073709551616 := ⟨_, rfl⟩
    have hsum : hi2 * 18446744073709551616 + lo2 = p + 999999999 := by omega
    have HS := Lib.hid (fun wx => plus_any hi lo 999999999 hi2 lo2 (by omega) (by omega) (by omega) hlo2 hhi2 wx)
    have HO := Lib.hid (fun wx => over_any hi2 lo2 1000000000 v er (by omega) (by omega) (by omega) (by omega) (by rw [hsum]; exact hF) wx)
    rw [← hhi, ← hlo] at HP
    clear hF hp hpe hhi hlo ha hb hsum hhi2 hlo2
    go_enter Try.func17, Try.ntmps17
    go_wp2_with fail
    refine HF.out.mono ?_
    rintro e w1 ⟨rfl, rfl⟩
    go_wp2_with fail
    refine (HP.out _).mono ?_
    rintro e w2 ⟨rfl, hb2⟩
    have hb2' := (hbw w _).trans (hb2.mono (by simp))
    clear hb2
    go_wp2_with fail
    refine (HS.out _).mono ?_
    rintro e w3 ⟨rfl, hb3⟩
    have hb3' := hb2'.trans (hb3.mono hb2'.size)
    clear hb3
    go_wp2_with fail
    refine (HO.out _).mono ?_
    rintro e w4 ⟨rfl, hb4⟩
    go_wp2_with fail
    go_ret2
    exact ⟨rfl, hb3'.trans (hb4.mono hb3'.size)⟩

set_option maxRecDepth 100000 in
set_option maxHeartbeats 1000000 in
theorem droop_any (a b : Int) (v er : Int) (hM : Hid (droopM a b = (v, er))) (w : World) :
    Calls Try.prog 7 #[.int .i64 a, .int .i64 b] w fun e w' => e = .returned (.tuple #[.int .i64 v, .int .i64 er]) ∧ Below w.heap.size w w' := by
  have HR := Lib.hid (inRange_any a b w)
  cases hin : mayQ a b with
  | false =>
    rw [hin] at HR
    have HE := Lib.hid (show (v, er) = (0, 2) by rw [← hM.out, droopM_no hin])
    obtain ⟨rfl, rfl⟩ : v = 0 ∧ er = 2 := by have := HE.out; simp only [Prod.mk.injEq] at this; exact this
    go_enter Try.func7, Try.ntmps7
    go_wp2_with fail
    refine HR.out.mono ?_
    rintro e w1 ⟨rfl, hb⟩
    go_wp2_with fail
    go_ret2
    exact ⟨rfl, hb⟩
  | true =>
    rw [hin] at HR
    have HE := Lib.hid (show (v, er) = (a / (b + 1) + 1, 0) by rw [← hM.out, droopM_yes hin])
    obtain ⟨h1, h2, h3, h4⟩ := mayQ_yes hin
    obtain ⟨x, rfl⟩ := Int.eq_ofNat_of_zero_le h1
    obtain ⟨y, rfl⟩ := Int.eq_ofNat_of_zero_le (show 0 ≤ b by omega)
    obtain ⟨z, hz⟩ : ∃ z, z = x / (y + 1) := ⟨_, rfl⟩
    have hzl : z ≤ x := by rw [hz]; exact Nat.div_le_self _ _
    obtain ⟨hv, rfl⟩ : v = (z : Int) + 1 ∧ er = 0 := by have := HE.out; simp only [Prod.mk.injEq] at this; rw [hz]; exact this
    have W1 : IntKind.i64.wrap ((y : Int) + 1) = (y : Int) + 1 := by rw [IntKind.wrap_i64]; omega
    have T1 : (x : Int).tdiv ((y : Int) + 1) = (z : Int) := by rw [hz]; rfl
    have Z1 : ¬ (y : Int) + 1 = 0 := by omega
    have W2 : IntKind.i64.wrap (z : Int) = (z : Int) := by rw [IntKind.wrap_i64]; omega
    have W3 : IntKind.i64.wrap ((z : Int) + 1) = v := by rw [IntKind.wrap_i64, hv]; omega
    clear hz hv HE hM hin
    go_enter Try.func7, Try.ntmps7
    go_wp2_with fail
    refine HR.out.mono ?_
    rintro e w1 ⟨rfl, hb⟩
    go_wp2_with fail
    go_ret2
    exact ⟨rfl, hb⟩
end Go.Proofs.Ytefoccjphbbmhaa
