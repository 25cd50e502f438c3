/- What quota's functions answer, as plain functions. No program is named here. -/
import Derived.Test.YtefoccjphbbmhaaMd
namespace Go.Proofs.Ytefoccjphbbmhaa
open Go.RowKit
set_option linter.unusedVariables false

/-- Votes and seats in range. -/
def mayQ (v s : Int) : Bool := decide (0 ≤ v ∧ v ≤ 1000000 ∧ 1 ≤ s ∧ s ≤ 10)
theorem mayQ_yes {v s : Int} (h : mayQ v s = true) : 0 ≤ v ∧ v ≤ 1000000 ∧ 1 ≤ s ∧ s ≤ 10 := of_decide_eq_true h
theorem mayQ_no {v s : Int} (h : mayQ v s = false) : ¬ (0 ≤ v ∧ v ≤ 1000000 ∧ 1 ≤ s ∧ s ≤ 10) := of_decide_eq_false h
/-- A valid fixed-point number. -/
def inQ (a : Int) : Bool := decide (0 ≤ a ∧ a ≤ 1000000000000000)
theorem inQ_yes {a : Int} (h : inQ a = true) : 0 ≤ a ∧ a ≤ 1000000000000000 := of_decide_eq_true h
theorem inQ_nat {a : Int} (h : inQ a = true) : ∃ n : Nat, a = (n : Int) ∧ n ≤ 1000000000000000 := by
  obtain ⟨h1, h2⟩ := inQ_yes h
  exact ⟨a.toNat, by omega, by omega⟩
theorem inQ_of {n : Nat} (h : n ≤ 1000000000000000) : inQ (n : Int) = true := decide_eq_true ⟨by omega, by omega⟩

def droopM (v s : Int) : Int × Int := if mayQ v s = true then (v / (s + 1) + 1, 0) else (0, 2)
def hareM (v s : Int) : Rq × Int := if mayQ v s = true then ofR v s else (Rq.zero, 2)
def hagM (v s : Int) : Rq × Int := if mayQ v s = true then ofR v (s + 1) else (Rq.zero, 2)
/-- A quotient as a fixed-point number, or ErrGreat. -/
def fixQ (q : Nat) : Int × Int := if q ≤ 1000000000000000 then ((q : Int), 0) else (0, 30)
def shareM (a b c : Int) : Int × Int := if inQ a = true ∧ inQ b = true ∧ inQ c = true then (if c = 0 then (0, 40) else fixQ (a.toNat * b.toNat / c.toNat)) else (0, 2)
def upM (a b : Int) : Int × Int := if inQ a = true ∧ inQ b = true then fixQ ((a.toNat * b.toNat + 999999999) / 1000000000) else (0, 2)
def ratioM (n : Int) : Rq × Int := if inQ n = true then ofR n 1000000000 else (Rq.zero, 2)
def billM (x : Rq) : Int × Int := if okR x ∧ x.neg = false then (if x.num.length ≤ 90 ∧ x.den.length ≤ 90 then fixQ (val x.num * 1000000000 / val x.den) else (0, 30)) else (0, 2)

theorem droopM_yes {v s : Int} (h : mayQ v s = true) : droopM v s = (v / (s + 1) + 1, 0) := by unfold droopM; rw [if_pos h]
theorem droopM_no {v s : Int} (h : mayQ v s = false) : droopM v s = (0, 2) := by unfold droopM; rw [if_neg (by rw [h]; decide)]
theorem hareM_yes {v s : Int} (h : mayQ v s = true) : hareM v s = ofR v s := by unfold hareM; rw [if_pos h]
theorem hareM_no {v s : Int} (h : mayQ v s = false) : hareM v s = (Rq.zero, 2) := by unfold hareM; rw [if_neg (by rw [h]; decide)]
theorem hagM_yes {v s : Int} (h : mayQ v s = true) : hagM v s = ofR v (s + 1) := by unfold hagM; rw [if_pos h]
theorem hagM_no {v s : Int} (h : mayQ v s = false) : hagM v s = (Rq.zero, 2) := by unfold hagM; rw [if_neg (by rw [h]; decide)]
theorem ratioM_yes {n : Int} (h : inQ n = true) : ratioM n = ofR n 1000000000 := by unfold ratioM; rw [if_pos h]
theorem ratioM_no {n : Int} (h : inQ n = false) : ratioM n = (Rq.zero, 2) := by unfold ratioM; rw [if_neg (by rw [h]; decide)]
theorem fixQ_ok {q : Nat} (h : q ≤ 1000000000000000) : fixQ q = ((q : Int), 0) := by unfold fixQ; rw [if_pos h]
theorem fixQ_great {q : Nat} (h : ¬ q ≤ 1000000000000000) : fixQ q = (0, 30) := by unfold fixQ; rw [if_neg h]
theorem shareM_bad {a b c : Int} (h : ¬ (inQ a = true ∧ inQ b = true ∧ inQ c = true)) : shareM a b c = (0, 2) := by unfold shareM; rw [if_neg h]
theorem shareM_zero {a b : Int} (h : inQ a = true ∧ inQ b = true) : shareM a b 0 = (0, 40) := by unfold shareM; rw [if_pos ⟨h.1, h.2, by decide⟩, if_pos rfl]
theorem shareM_ok {a b c : Nat} (ha : a ≤ 1000000000000000) (hb : b ≤ 1000000000000000) (hc : c ≤ 1000000000000000) (h0 : c ≠ 0) : shareM a b c = fixQ (a * b / c) := by
  unfold shareM
  rw [if_pos ⟨inQ_of ha, inQ_of hb, inQ_of hc⟩, if_neg (by omega)]
  rfl
theorem upM_bad {a b : Int} (h : ¬ (inQ a = true ∧ inQ b = true)) : upM a b = (0, 2) := by unfold upM; rw [if_neg h]
theorem upM_ok {a b : Nat} (ha : a ≤ 1000000000000000) (hb : b ≤ 1000000000000000) : upM a b = fixQ ((a * b + 999999999) / 1000000000) := by
  unfold upM
  rw [if_pos ⟨inQ_of ha, inQ_of hb⟩]
  rfl
theorem billM_arg {x : Rq} (h : ¬ (okR x ∧ x.neg = false)) : billM x = (0, 2) := by unfold billM; rw [if_neg h]
theorem billM_long {x : Rq} (h : okR x ∧ x.neg = false) (h2 : ¬ (x.num.length ≤ 90 ∧ x.den.length ≤ 90)) : billM x = (0, 30) := by unfold billM; rw [if_pos h, if_neg h2]
theorem billM_ok {x : Rq} (h : okR x ∧ x.neg = false) (h2 : x.num.length ≤ 90 ∧ x.den.length ≤ 90) : billM x = fixQ (val x.num * 1000000000 / val x.den) := by unfold billM; rw [if_pos h, if_pos h2]
end Go.Proofs.Ytefoccjphbbmhaa
