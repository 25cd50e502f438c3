/- The walk of the law OctetOrder. -/
import Derived.Test.YtncccgpjlmelmaaAlive
namespace Go.Proofs.Ytncccgpjlmelmaa
open Go.RowKit
set_option linter.unusedVariables false

theorem putM_ok {l : List UInt8} {n : Nat} {s : Int} {r : List UInt8} (h : (r, (0 : Int)) = putM l n s) : ∃ k : Nat, s = k ∧ 1 ≤ k ∧ k ≤ 8 ∧ n < 2 ^ (8 * k) ∧ l.length + k ≤ 16384 ∧ r = l ++ be k n := by
  unfold putM at h
  split at h
  · rename_i h1
    split at h
    · rename_i h2
      obtain ⟨k, rfl⟩ := Int.eq_ofNat_of_zero_le (show 0 ≤ s by omega)
      simp only [Int.toNat_natCast] at h h1 h2
      exact ⟨k, rfl, by omega, by omega, h1.2.2, h2, by simpa using congrArg Prod.fst h⟩
    · simp at h
  · simp at h
theorem putM_err {l : List UInt8} {n : Nat} {s : Int} {r : List UInt8} {e : Int} (h : (r, e) = putM l n s) (he : e ≠ 0) : r = [] := by
  unfold putM at h
  split at h
  · split at h
    · simp at h; exact absurd h.2 he
    · simp at h; exact h.1
  · simp at h; exact h.1

theorem bytesLess_num : ∀ (a b : List UInt8), a.length = b.length → Op.bytesLess a b = decide (num a < num b)
  | [], [], _ => by simp [Op.bytesLess]
  | [], _ :: _, h => by simp at h
  | _ :: _, [], h => by simp at h
  | x :: a, y :: b, h => by
    have hl : a.length = b.length := by simpa using h
    have ih := bytesLess_num a b hl
    rw [Op.bytesLess, ih, num_cons, num_cons, hl]
    have h1 := num_lt a
    have h2 := num_lt b
    rw [hl] at h1
    generalize 256 ^ b.length = K at *
    rw [Bool.eq_iff_iff]
    simp only [Bool.or_eq_true, Bool.and_eq_true, decide_eq_true_eq, beq_iff_eq, UInt8.lt_iff_toNat_lt]
    constructor
    · rintro (h | ⟨rfl, h⟩)
      · have := Nat.mul_le_mul_right K (Nat.succ_le_of_lt h)
        rw [Nat.succ_mul] at this
        omega
      · omega
    · intro h
      rcases Nat.lt_trichotomy x.toNat y.toNat with hlt | heq | hgt
      · exact .inl hlt
      · refine .inr ⟨UInt8.toNat_inj.1 heq, ?_⟩
        rw [heq] at h
        omega
      · have := Nat.mul_le_mul_right K (Nat.succ_le_of_lt hgt)
        rw [Nat.succ_mul] at this
        omega

set_option maxRecDepth 100000 in
set_option maxHeartbeats 2000000 in
theorem order_walk (n m : Nat) (s : Int) (w : World) (hn : n < 18446744073709551616) (hm : m < 18446744073709551616) (hs1 : -9223372036854775808 ≤ s) (hs2 : s ≤ 9223372036854775807) :
    Calls Try.prog 10 #[.int .u64 n, .int .u64 m, .int .i64 s] w fun e w' => e = .returned (.bool true) ∧ Below w.heap.size w w' := by
  have cPut := fun w => put_any none 0 [] n s w (Rd.empty _ _) (by simp) hn hs1 hs2
  have cPut' := fun w => put_any none 0 [] m s w (Rd.empty _ _) (by simp) hm hs1 hs2
  obtain ⟨q, hq⟩ : ∃ q, q = putM [] n s := ⟨_, rfl⟩
  obtain ⟨t, ht⟩ : ∃ t, t = putM [] m s := ⟨_, rfl⟩
  rw [← hq] at cPut
  rw [← ht] at cPut'
  obtain ⟨q1, q2⟩ := q
  obtain ⟨t1, t2⟩ := t
  have HQ := Lib.hid hq
  have HT := Lib.hid ht
  have CPut := Lib.hid cPut
  have CPut' := Lib.hid cPut'
  clear cPut cPut' hq ht
  have hcase : (q2 = 0 ∧ t2 = 0) ∨ q2 ≠ 0 ∨ t2 ≠ 0 := by omega
  rcases hcase with ⟨rfl, rfl⟩ | hbad
  · go_enter Try.func10, Try.ntmps10
    go_wp2_with fail
    refine (alive_any w).mono ?_
    rintro e w1 ⟨rfl, hb1⟩
    have s1 := hb1.size
    go_wp2_with fail
    refine (CPut.out _).mono ?_
    rintro e w2 ⟨A2, c2, r2, rfl, rfl, hown2, hb2⟩
    have s2 := hb2.size
    go_wp2_with fail
    refine (CPut'.out _).mono ?_
    rintro e w3 ⟨A3, c3, r3, rfl, rfl, hown3, hb3⟩
    obtain ⟨k, hk, hk1, hk2, hnk, _, hr2⟩ := putM_ok HQ.out
    obtain ⟨k', hk', _, _, hmk, _, hr3⟩ := putM_ok HT.out
    rw [List.nil_append] at hr2 hr3
    obtain rfl : k' = k := by omega
    have hn2 : num r2 = n := by rw [hr2, num_be, Nat.mod_eq_of_lt hnk]
    have hn3 : num r3 = m := by rw [hr3, num_be, Nat.mod_eq_of_lt hmk]
    have hl2 : r2.length = k' := by rw [hr2, be_len]
    have hl3 : r3.length = k' := by rw [hr3, be_len]
    have hbl : Op.bytesLess r2 r3 = decide (n < m) := by rw [bytesLess_num r2 r3 (by omega), hn2, hn3]
    have hbe : (r2 == r3) = ((n : Int) == (m : Int)) := by
      rw [Bool.eq_iff_iff, beq_iff_eq, beq_iff_eq]
      constructor
      · intro h; rw [← hn2, ← hn3, h]
      · intro h
        have : n = m := by omega
        rw [hr2, hr3, this]
    have hi2 : (r2.length : Int) = s := by omega
    have hi3 : (r3.length : Int) = s := by omega
    have k1 := str_bytes' (hown2.below (Nat.le_refl _) hb3).rd
    have k2 := str_bytes' hown3.rd
    clear hr2 hr3 hn2 hn3 hl2 hl3 hk hk'
    go_wp2_with fail
    go_ret
    exact ⟨rfl, hb1.trans ((hb2.mono s1).trans (hb3.mono (by omega)))⟩
  · by_cases hq0 : q2 = 0
    · have hne : (t2 != 0) = true := by rw [bne_iff_ne]; omega
      have hne' : (q2 != 0) = false := by rw [bne_eq_false_iff_eq]; exact hq0
      clear hbad hq0
      go_enter Try.func10, Try.ntmps10
      go_wp2_with fail
      refine (alive_any w).mono ?_
      rintro e w1 ⟨rfl, hb1⟩
      have s1 := hb1.size
      go_wp2_with fail
      refine (CPut.out _).mono ?_
      rintro e w2 ⟨A2, c2, r2, rfl, rfl, hown2, hb2⟩
      have s2 := hb2.size
      go_wp2_with fail
      refine (CPut'.out _).mono ?_
      rintro e w3 ⟨A3, c3, r3, rfl, rfl, hown3, hb3⟩
      go_wp2_with fail
      go_ret
      exact ⟨rfl, hb1.trans ((hb2.mono s1).trans (hb3.mono (by omega)))⟩
    · have hne : (q2 != 0) = true := by rw [bne_iff_ne]; omega
      clear hbad hq0
      go_enter Try.func10, Try.ntmps10
      go_wp2_with fail
      refine (alive_any w).mono ?_
      rintro e w1 ⟨rfl, hb1⟩
      have s1 := hb1.size
      go_wp2_with fail
      refine (CPut.out _).mono ?_
      rintro e w2 ⟨A2, c2, r2, rfl, rfl, hown2, hb2⟩
      have s2 := hb2.size
      go_wp2_with fail
      refine (CPut'.out _).mono ?_
      rintro e w3 ⟨A3, c3, r3, rfl, rfl, hown3, hb3⟩
      go_wp2_with fail
      go_ret
      exact ⟨rfl, hb1.trans ((hb2.mono s1).trans (hb3.mono (by omega)))⟩
end Go.Proofs.Ytncccgpjlmelmaa
