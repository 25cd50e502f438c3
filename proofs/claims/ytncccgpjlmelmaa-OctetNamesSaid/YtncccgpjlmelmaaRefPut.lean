/- The reference's Put and Take answer what octet's Put and Take answer. -/
import Derived.Test.YtncccgpjlmelmaaRef
namespace Go.Proofs.Ytncccgpjlmelmaa
open Go.RowKit
set_option linter.unusedVariables false

set_option maxHeartbeats 1000000 in
theorem refPut_any (A : Option Addr) (c : Nat) (l : List UInt8) (n : Nat) (s : Int) (w : World) (hr : Rd w w.heap.size A c l) (hl : l.length ≤ 200000) (hn : n < 18446744073709551616) (hs1 : -9223372036854775808 ≤ s) (hs2 : s ≤ 9223372036854775807) :
    Calls Try.prog 17 #[.slice A l.length c, .int .u64 n, .int .i64 s] w (BytesErr w (putM l n s)) := by
  by_cases h1 : s < 1
  · have hq : putM l n s = ([], 2) := by unfold putM; rw [if_neg (by omega)]
    rw [hq]
    go_enter Try.func17, Try.ntmps17
    go_wp2_with fail
    go_ret2
    exact bytesErr_bad w 2
  by_cases h2 : 8 < s
  · have hq : putM l n s = ([], 2) := by unfold putM; rw [if_neg (by omega)]
    rw [hq]
    have hd : decide (s < 1) = false := by simp; omega
    go_enter Try.func17, Try.ntmps17
    go_wp2_with fail
    go_ret2
    exact bytesErr_bad w 2
  obtain ⟨k, rfl⟩ := Int.eq_ofNat_of_zero_le (show 0 ≤ s by omega)
  have hk1 : 1 ≤ k := by omega
  have hk2 : k ≤ 8 := by omega
  have hi1 : (1 : Int) ≤ k := by omega
  have hi2 : (k : Int) ≤ 8 := by omega
  have hd1 : decide ((k : Int) < 1) = false := by simp; omega
  have hd2 : decide ((8 : Int) < k) = false := by simp; omega
  by_cases h3 : n < 2 ^ (8 * k)
  · have hnum : num (be k n) = n := by rw [num_be, Nat.mod_eq_of_lt h3]
    have HN := Lib.hid hnum
    clear hnum
    have hne : ((n : Int) != (n : Int)) = false := by simp
    by_cases h4 : l.length + k ≤ 16384
    · have hq : putM l n (k : Int) = (l ++ be k n, 0) := by unfold putM; rw [if_pos ⟨hi1, hi2, by simpa using h3⟩, if_pos (by simpa using h4)]; simp
      rw [hq]
      clear hq h3
      obtain ⟨i0, hi, hz0, hz1, hz2⟩ := info_parts info5
      go_enter Try.func17, Try.ntmps17
      go_wp2_with fail
      refine (digits_any n k _ hk2 hn).mono ?_
      rintro e w1 ⟨A1, c1, r1, rfl, hr1, hown1, hb1⟩
      have HR1 := Lib.hid hr1
      have hl1 : r1.length ≤ 8 := by rw [hr1, be_len]; exact hk2
      clear hr1
      go_wp2_with fail
      refine (number_any A1 c1 r1 _ _ hown1.rd hl1).mono ?_
      rintro e w' ⟨rfl, rfl⟩
      rw [HR1.out, HN.out]
      go_wp2_with fail
      refine (twin_any A c l _ ((hr.below hb1).more hb1.size) hl).mono ?_
      rintro e w2 ⟨A2, c2, rfl, hown2, hb2⟩
      go_wp2_with fail
      refine (digits_any n k _ hk2 hn).mono ?_
      rintro e w3 ⟨A3, c3, r3, rfl, hr3, hown3, hb3⟩
      have HR3 := Lib.hid hr3
      have hl3 : r3.length ≤ 8 := by rw [hr3, be_len]; exact hk2
      have hs1' := hb1.size
      have hs2' := hb2.size
      have hs3' := hb3.size
      have hown2' := (hown2.below (Nat.le_refl _) hb3).lower hs1'
      clear hr3
      go_wp2_with (at_builtin; refine wpList_append_bytes _ rfl _ _ 22 rfl w.heap.size 5 i0 _ Try.underlying22 hi hz0 hz1 hz2 rfl l r3 rfl rfl hown2' hown3.rd (by omega) (by omega) ?_; intro A4 c4 w4 r4 hr4 hown4 hg4 hb4)
      go_ret2
      refine ⟨A4, c4, r4, rfl, by rw [hr4.out, HR3.out], hown4, ?_⟩
      exact (hb1.trans (hb2.mono hs1')).trans ((hb3.mono (by omega)).trans (below_of_grown hg4 (by omega) (fun g hg => by have := (hown2.blk_ge g hg).1; omega)))
    · have hq : putM l n (k : Int) = ([], 4) := by unfold putM; rw [if_pos ⟨hi1, hi2, by simpa using h3⟩, if_neg (by simpa using h4)]
      rw [hq]
      clear hq h3
      go_enter Try.func17, Try.ntmps17
      go_wp2_with fail
      refine (digits_any n k _ hk2 hn).mono ?_
      rintro e w1 ⟨A1, c1, r1, rfl, hr1, hown1, hb1⟩
      have HR1 := Lib.hid hr1
      have hl1 : r1.length ≤ 8 := by rw [hr1, be_len]; exact hk2
      clear hr1
      go_wp2_with fail
      refine (number_any A1 c1 r1 _ _ hown1.rd hl1).mono ?_
      rintro e w' ⟨rfl, rfl⟩
      rw [HR1.out, HN.out]
      go_wp2_with fail
      go_ret2
      exact ⟨none, 0, [], rfl, rfl, Own.nil _ _ _, hb1⟩
  · have hq : putM l n (k : Int) = ([], 2) := by unfold putM; rw [if_neg (by rintro ⟨_, _, h⟩; exact h3 (by simpa using h))]
    rw [hq]
    have hne : ((num (be k n) : Nat) : Int) ≠ (n : Int) := by
      rw [num_be]
      have := Nat.mod_lt n (Nat.two_pow_pos (8 * k))
      omega
    have hnb : (((num (be k n) : Nat) : Int) != (n : Int)) = true := by rw [bne_iff_ne]; exact hne
    clear hq h3 hne
    go_enter Try.func17, Try.ntmps17
    go_wp2_with fail
    refine (digits_any n k _ hk2 hn).mono ?_
    rintro e w1 ⟨A1, c1, r1, rfl, hr1, hown1, hb1⟩
    have hl1 : r1.length ≤ 8 := by rw [hr1, be_len]; exact hk2
    have HR1 := Lib.hid hr1
    clear hr1
    go_wp2_with fail
    refine (number_any A1 c1 r1 _ _ hown1.rd hl1).mono ?_
    rintro e w' ⟨rfl, rfl⟩
    rw [HR1.out]
    go_wp2_with fail
    go_ret2
    exact ⟨none, 0, [], rfl, rfl, Own.nil _ _ _, hb1⟩

set_option maxHeartbeats 1000000 in
theorem refTake_any (A : Option Addr) (c : Nat) (l : List UInt8) (p s : Int) (w : World) (hr : Rd w w.heap.size A c l) (hl : l.length ≤ 200000) (hs1 : -9223372036854775808 ≤ s) (hs2 : s ≤ 9223372036854775807)
    (hp1 : -9223372036854775808 ≤ p) (hp2 : p ≤ 9223372036854775807) :
    Calls Try.prog 18 #[.slice A l.length c, .int .i64 p, .int .i64 s] w (IntsEnd w (takeM l p s)) := by
  by_cases h1 : s < 1
  · rw [takeM_bad (by omega)]
    go_enter Try.func18, Try.ntmps18
    go_wp2_with fail
    go_ret3
    exact ⟨rfl, rfl⟩
  have hd1 : decide (s < 1) = false := by simp; omega
  by_cases h2 : 8 < s
  · rw [takeM_bad (by omega)]
    go_enter Try.func18, Try.ntmps18
    go_wp2_with fail
    go_ret3
    exact ⟨rfl, rfl⟩
  have hd2 : decide (8 < s) = false := by simp; omega
  have hi1 : (1 : Int) ≤ s := by omega
  have hi2 : (s : Int) ≤ 8 := by omega
  by_cases h3 : p < 0
  · rw [takeM_bad (by omega)]
    go_enter Try.func18, Try.ntmps18
    go_wp2_with fail
    go_ret3
    exact ⟨rfl, rfl⟩
  have hd3 : decide (p < 0) = false := by simp; omega
  by_cases h4 : (l.length : Int) < p
  · rw [takeM_bad (by omega)]
    go_enter Try.func18, Try.ntmps18
    go_wp2_with fail
    go_ret3
    exact ⟨rfl, rfl⟩
  obtain ⟨k, rfl⟩ := Int.eq_ofNat_of_zero_le (show 0 ≤ s by omega)
  obtain ⟨q, rfl⟩ := Int.eq_ofNat_of_zero_le (show 0 ≤ p by omega)
  have hd4 : decide (l.length < q) = false := by simp; omega
  have hcap := hr.cap
  by_cases h5 : q + k ≤ l.length
  · rw [takeM_ok (by omega) (by omega) h5]
    obtain ⟨b, o, rfl, hb, hcell⟩ := hr.at_ (k := 0) (by omega)
    have hcut := hr.cut q k h5
    have hlc : ((l.drop q).take k).length = k := by simp; omega
    have HL := Lib.hid hlc
    clear hlc
    go_enter Try.func18, Try.ntmps18
    go_wp2_with fail
    have hN := number_any _ (c - q) ((l.drop q).take k) _ w hcut (by rw [HL.out]; omega)
    rw [HL.out] at hN
    refine hN.mono ?_
    rintro e w' ⟨rfl, rfl⟩
    clear hN
    go_wp2_with fail
    go_ret3
    exact ⟨rfl, rfl⟩
  · rw [takeM_short (by omega) (by omega) (by omega) h5]
    have hq1 : (0 : Int) ≤ q := by omega
    have hq2 : (q : Int) ≤ l.length := by omega
    go_enter Try.func18, Try.ntmps18
    go_wp2_with fail
    go_ret3
    exact ⟨rfl, rfl⟩
end Go.Proofs.Ytncccgpjlmelmaa
