/- []uint32 that came in, as the row's reading tells them; lists of arguments. -/
import Derived.Test.YtefoccjphbbmhaaMc
import Derived.ProofKit
import Derived.ChangeOld
import Derived.OpenShut
import Derived.SizedLaws
namespace Go.Proofs.Ytefoccjphbbmhaa
open Go.RowKit Go.ChangeShapes Go.WideShapes Go.ChangeAt
set_option linter.unusedVariables false

theorem bounds_u32' {n : Int} (h : (Lit.int .u32 n).wf = true) : 0 ≤ n ∧ n < 4294967296 := by have := bounds_u32 h; omega
theorem bounds_u64' {n : Int} (h : (Lit.int .u64 n).wf = true) : 0 ≤ n ∧ n < 18446744073709551616 := by have := bounds_u64 h; omega
theorem open_us {H : Type} {enc : TypeId × Value → H} {W : World} {n : Nat} {a : Option Addr} {len cap : Nat} {x : DataW H × List MemPlace}
    (h : DataW.trod enc Try.prog W 0 (fun _ => true) true n 25 [.slice a len cap] = some x) : ∃ xs : List UInt32, xs.length = len ∧ Sl W a cap xs := by
  rcases open_ints Try.underlying25 Try.underlying55 (by kernel_rfl) h with ⟨hcs, _⟩ | ⟨ad, l, c, zs, hcs, _, hl, hm, hz, _, hcell, hwz⟩
  · have h1 := (List.cons.inj hcs).1
    simp only [Value.slice.injEq] at h1
    obtain ⟨rfl, rfl, rfl⟩ := h1
    exact ⟨[], rfl, Rf.empty _ _⟩
  · have h1 := (List.cons.inj hcs).1
    simp only [Value.slice.injEq] at h1
    obtain ⟨rfl, rfl, rfl⟩ := h1
    have hz' : zs.length = cap := by simpa using hz
    refine ⟨(zs.take len).map fun n => UInt32.ofNat n.toNat, by simp; omega, by simp; omega, hm, (fun e => by cases e), fun ad' e j hj => ?_⟩
    obtain rfl := Option.some.inj e
    have hj' : j < zs.length := by simp at hj; omega
    have hc := hcell j hj'
    have hw := bounds_u32' (hwz zs[j] (List.getElem_mem hj'))
    refine ⟨by have := World.block_lt_of_cell? W _ hc; rwa [add_block] at this, ?_⟩
    rw [hc]
    have e1 : zs.getD j 0 = zs[j] := by simp [List.getD, hj']
    rw [e1]
    simp only [List.getElem_map, List.getElem_take, uv]
    have e2 : ((UInt32.ofNat zs[j].toNat).toNat : Int) = zs[j] := by
      rw [u32_of _ (by omega)]
      omega
    rw [e2]

theorem els1 {w : World} {x : El} (h1 : Sl w x.A x.c x.l) : Hid (∀ y ∈ [x], Sl w y.A y.c y.l) := by
  intro y hy
  simp only [List.mem_singleton] at hy
  subst hy
  exact h1
theorem els2 {w : World} {x1 x2 : El} (h1 : Sl w x1.A x1.c x1.l) (h2 : Sl w x2.A x2.c x2.l) : Hid (∀ y ∈ [x1, x2], Sl w y.A y.c y.l) := by
  intro y hy
  simp only [List.mem_cons, List.not_mem_nil, or_false] at hy
  rcases hy with rfl | rfl
  · exact h1
  · exact h2
theorem els3 {w : World} {x1 x2 x3 : El} (h1 : Sl w x1.A x1.c x1.l) (h2 : Sl w x2.A x2.c x2.l) (h3 : Sl w x3.A x3.c x3.l) : Hid (∀ y ∈ [x1, x2, x3], Sl w y.A y.c y.l) := by
  intro y hy
  simp only [List.mem_cons, List.not_mem_nil, or_false] at hy
  rcases hy with rfl | rfl | rfl
  · exact h1
  · exact h2
  · exact h3
theorem right_yes {most : Nat} {ls : List (List UInt32)} (h : rightB most ls = true) : ∀ l ∈ ls, ∃ m, l = limbs m ∧ (limbs m).length ≤ most ∧ (limbs m).length ≤ 96 := by
  intro l hl
  unfold rightB at h
  rw [List.all_eq_true] at h
  have h1 := h l hl
  simp only [Bool.and_eq_true, decide_eq_true_eq] at h1
  obtain ⟨m, rfl, hm⟩ := limbs_of_chk h1.2
  exact ⟨m, rfl, h1.1, hm⟩
theorem chk2_limbs {m n : Nat} (h1 : (limbs m).length ≤ 96) (h2 : (limbs n).length ≤ 96) : chk2 (limbs m) (limbs n) = 0 := chk2_ok (chk_limbs h1) (chk_limbs h2)
theorem addL {m n k : Nat} (h1 : (limbs m).length ≤ 96) (h2 : (limbs n).length ≤ 96) (hk : m + n = k) (h3 : (limbs k).length ≤ 96) : addM (limbs m) (limbs n) = (limbs k, 0) := by
  rw [addM_ok (chk2_limbs h1 h2), val_limbs, val_limbs, hk, numM_ok h3]
theorem mulL {m n k : Nat} (h1 : (limbs m).length ≤ 96) (h2 : (limbs n).length ≤ 96) (hk : m * n = k) (h3 : (limbs k).length ≤ 96) : mulM (limbs m) (limbs n) = (limbs k, 0) := by
  rw [mulM_ok (chk2_limbs h1 h2), val_limbs, val_limbs, hk, numM_ok h3]
theorem subL {m n k : Nat} (h1 : (limbs m).length ≤ 96) (h2 : (limbs n).length ≤ 96) (hk : m = k + n) : subM (limbs m) (limbs n) = (limbs k, 0) := by
  rw [subM_ok (chk2_limbs h1 h2) (by rw [val_limbs, val_limbs]; omega), val_limbs, val_limbs]
  congr 2; omega
theorem divL {m n q r : Nat} (h1 : (limbs m).length ≤ 96) (h2 : (limbs n).length ≤ 96) (hn : n ≠ 0) (hq : m / n = q) (hr : m % n = r) : divM (limbs m) (limbs n) = ((limbs q, limbs r), 0) := by
  rw [divM_ok (chk2_limbs h1 h2) (by rw [val_limbs]; exact hn), val_limbs, val_limbs, hq, hr]
theorem gcdL {m n k : Nat} (h1 : (limbs m).length ≤ 96) (h2 : (limbs n).length ≤ 96) (hk : Nat.gcd m n = k) : gcdM (limbs m) (limbs n) = (limbs k, 0) := by
  rw [gcdM_ok (chk2_limbs h1 h2), val_limbs, val_limbs, hk]
theorem cmpL {m n : Nat} {v : Int} (h1 : (limbs m).length ≤ 96) (h2 : (limbs n).length ≤ 96) (hv : cmpI m n = v) : cmpM (limbs m) (limbs n) = (v, 0) := by
  rw [cmpM_ok (chk2_limbs h1 h2), val_limbs, val_limbs, hv]
theorem len_le {m n : Nat} {k : Nat} (h : (limbs n).length ≤ k) (h2 : m ≤ n) : (limbs m).length ≤ k := Nat.le_trans (limbs_mono h2) h
theorem len_add {m n k : Nat} (h1 : (limbs m).length ≤ k) (h2 : (limbs n).length ≤ k) : (limbs (m + n)).length ≤ k + 1 := by
  rw [limbs_len_le] at *
  rw [bp_succ]
  have := bp_pos k
  omega
theorem len_mul {m n j k : Nat} (h1 : (limbs m).length ≤ j) (h2 : (limbs n).length ≤ k) : (limbs (m * n)).length ≤ j + k := by
  rw [limbs_len_le] at *
  rw [bp_add]
  exact Nat.mul_lt_mul_of_lt_of_lt h1 h2
end Go.Proofs.Ytefoccjphbbmhaa
