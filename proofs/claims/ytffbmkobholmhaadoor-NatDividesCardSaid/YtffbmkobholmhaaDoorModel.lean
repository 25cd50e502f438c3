/- What nat's functions answer, as plain functions of lists of limbs. No program is named here. -/
import Derived.Test.YtffbmkobholmhaaDoorArith
import Derived.Test.YtffbmkobholmhaaDoorDec
namespace Go.Proofs.YtffbmkobholmhaaDoor
open Go.RowKit
set_option linter.unusedVariables false

/-- P3.1: Check. -/
def chk (l : List UInt32) : Int := if 96 < l.length then 4 else if limbs (val l) = l then 0 else 8
def chk2 (a b : List UInt32) : Int := if chk a = 0 then chk b else chk a
theorem chk_many {l : List UInt32} (h : 96 < l.length) : chk l = 4 := by unfold chk; rw [if_pos h]
theorem chk_ok {l : List UInt32} (h : ¬ 96 < l.length) (h2 : limbs (val l) = l) : chk l = 0 := by unfold chk; rw [if_neg h, if_pos h2]
theorem chk_bad {l : List UInt32} (h : ¬ 96 < l.length) (h2 : limbs (val l) ≠ l) : chk l = 8 := by unfold chk; rw [if_neg h, if_neg h2]
theorem chk_zero {l : List UInt32} (h : chk l = 0) : l.length ≤ 96 ∧ limbs (val l) = l := by
  unfold chk at h
  split at h
  · simp at h
  · split at h
    · exact ⟨by omega, by assumption⟩
    · simp at h
theorem chk_range (l : List UInt32) : chk l = 0 ∨ chk l = 4 ∨ chk l = 8 := by
  unfold chk
  split
  · simp
  · split <;> simp
theorem chk2_zero {a b : List UInt32} (h : chk2 a b = 0) : chk a = 0 ∧ chk b = 0 := by
  unfold chk2 at h
  split at h
  · exact ⟨by assumption, h⟩
  · exact absurd h (by assumption)
theorem chk2_ok {a b : List UInt32} (h1 : chk a = 0) (h2 : chk b = 0) : chk2 a b = 0 := by unfold chk2; rw [if_pos h1, h2]
theorem chk_limbs {n : Nat} (h : (limbs n).length ≤ 96) : chk (limbs n) = 0 := chk_ok (by omega) (by rw [val_limbs])
theorem chk_nil : chk [] = 0 := chk_ok (by simp) (by simp [val_nil, limbs_zero])

def cmpI (a b : Nat) : Int := if a < b then -1 else if a = b then 0 else 1
def numM (n : Nat) : List UInt32 × Int := if (limbs n).length ≤ 96 then (limbs n, 0) else ([], 30)
def wordM (a : List UInt32) : Nat × Int := if chk a = 0 then (if a.length ≤ 2 then (val a, 0) else (0, 30)) else (0, chk a)
def cmpM (a b : List UInt32) : Int × Int := if chk2 a b = 0 then (cmpI (val a) (val b), 0) else (0, chk2 a b)
def addM (a b : List UInt32) : List UInt32 × Int := if chk2 a b = 0 then numM (val a + val b) else ([], chk2 a b)
def subM (a b : List UInt32) : List UInt32 × Int := if chk2 a b = 0 then (if val a < val b then ([], 6) else (limbs (val a - val b), 0)) else ([], chk2 a b)
def mulM (a b : List UInt32) : List UInt32 × Int := if chk2 a b = 0 then numM (val a * val b) else ([], chk2 a b)
def divM (a b : List UInt32) : (List UInt32 × List UInt32) × Int := if chk2 a b = 0 then (if val b = 0 then (([], []), 40) else ((limbs (val a / val b), limbs (val a % val b)), 0)) else (([], []), chk2 a b)
def gcdM (a b : List UInt32) : List UInt32 × Int := if chk2 a b = 0 then (limbs (Nat.gcd (val a) (val b)), 0) else ([], chk2 a b)
def textM (a : List UInt32) : List UInt8 × Int := if chk a = 0 then (Lib.decDigits (val a), 0) else ([], chk a)
def readM (s : List UInt8) : List UInt32 × Int := if isNatB s = true then numM (valD s) else ([], 11)

theorem numM_ok {n : Nat} (h : (limbs n).length ≤ 96) : numM n = (limbs n, 0) := by unfold numM; rw [if_pos h]
theorem numM_great {n : Nat} (h : ¬ (limbs n).length ≤ 96) : numM n = ([], 30) := by unfold numM; rw [if_neg h]
theorem addM_err {a b : List UInt32} (h : chk2 a b ≠ 0) : addM a b = ([], chk2 a b) := by unfold addM; rw [if_neg h]
theorem addM_ok {a b : List UInt32} (h : chk2 a b = 0) : addM a b = numM (val a + val b) := by unfold addM; rw [if_pos h]
theorem mulM_err {a b : List UInt32} (h : chk2 a b ≠ 0) : mulM a b = ([], chk2 a b) := by unfold mulM; rw [if_neg h]
theorem mulM_ok {a b : List UInt32} (h : chk2 a b = 0) : mulM a b = numM (val a * val b) := by unfold mulM; rw [if_pos h]
theorem subM_err {a b : List UInt32} (h : chk2 a b ≠ 0) : subM a b = ([], chk2 a b) := by unfold subM; rw [if_neg h]
theorem subM_none {a b : List UInt32} (h : chk2 a b = 0) (h2 : val a < val b) : subM a b = ([], 6) := by unfold subM; rw [if_pos h, if_pos h2]
theorem subM_ok {a b : List UInt32} (h : chk2 a b = 0) (h2 : ¬ val a < val b) : subM a b = (limbs (val a - val b), 0) := by unfold subM; rw [if_pos h, if_neg h2]
theorem cmpM_err {a b : List UInt32} (h : chk2 a b ≠ 0) : cmpM a b = (0, chk2 a b) := by unfold cmpM; rw [if_neg h]
theorem cmpM_ok {a b : List UInt32} (h : chk2 a b = 0) : cmpM a b = (cmpI (val a) (val b), 0) := by unfold cmpM; rw [if_pos h]
theorem divM_err {a b : List UInt32} (h : chk2 a b ≠ 0) : divM a b = (([], []), chk2 a b) := by unfold divM; rw [if_neg h]
theorem divM_zero {a b : List UInt32} (h : chk2 a b = 0) (h2 : val b = 0) : divM a b = (([], []), 40) := by unfold divM; rw [if_pos h, if_pos h2]
theorem divM_ok {a b : List UInt32} (h : chk2 a b = 0) (h2 : val b ≠ 0) : divM a b = ((limbs (val a / val b), limbs (val a % val b)), 0) := by unfold divM; rw [if_pos h, if_neg h2]
theorem gcdM_err {a b : List UInt32} (h : chk2 a b ≠ 0) : gcdM a b = ([], chk2 a b) := by unfold gcdM; rw [if_neg h]
theorem gcdM_ok {a b : List UInt32} (h : chk2 a b = 0) : gcdM a b = (limbs (Nat.gcd (val a) (val b)), 0) := by unfold gcdM; rw [if_pos h]
theorem wordM_err {a : List UInt32} (h : chk a ≠ 0) : wordM a = (0, chk a) := by unfold wordM; rw [if_neg h]
theorem wordM_great {a : List UInt32} (h : chk a = 0) (h2 : ¬ a.length ≤ 2) : wordM a = (0, 30) := by unfold wordM; rw [if_pos h, if_neg h2]
theorem wordM_ok {a : List UInt32} (h : chk a = 0) (h2 : a.length ≤ 2) : wordM a = (val a, 0) := by unfold wordM; rw [if_pos h, if_pos h2]
theorem wordM_lt (a : List UInt32) : (wordM a).1 < 18446744073709551616 := by
  unfold wordM
  split
  · split
    · have h := val_lt a
      have h2 := bp_mono (show a.length ≤ 2 by assumption)
      have e : bp 2 = 18446744073709551616 := by decide
      show val a < _
      omega
    · show 0 < _
      decide
  · show 0 < _
    decide
theorem textM_err {a : List UInt32} (h : chk a ≠ 0) : textM a = ([], chk a) := by unfold textM; rw [if_neg h]
theorem textM_ok {a : List UInt32} (h : chk a = 0) : textM a = (Lib.decDigits (val a), 0) := by unfold textM; rw [if_pos h]
theorem readM_form {s : List UInt8} (h : isNatB s ≠ true) : readM s = ([], 11) := by unfold readM; rw [if_neg h]
theorem readM_ok {s : List UInt8} (h : isNatB s = true) : readM s = numM (valD s) := by unfold readM; rw [if_pos h]
theorem numM_len (n : Nat) : (numM n).1.length ≤ 96 := by
  unfold numM
  split
  · assumption
  · simp
end Go.Proofs.YtffbmkobholmhaaDoor
