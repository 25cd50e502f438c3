/- ratio's integer, Floor. -/
import Derived.Test.YtefoccjphbbmhaaRc
namespace Go.Proofs.Ytefoccjphbbmhaa
open Go.RowKit
set_option linter.unusedVariables false

/-- A signed size as an int, or ErrGreat. -/
def intM (b : Bool) (m : Nat) : Int × Int := if -9223372036854775808 ≤ sgn b m ∧ sgn b m ≤ 9223372036854775807 then (sgn b m, 0) else (0, 30)
theorem intM_t (m : Nat) : intM true m = if m ≤ 9223372036854775808 then (-(m : Int), 0) else (0, 30) := by
  unfold intM sgn
  rw [if_pos rfl]
  by_cases h : m ≤ 9223372036854775808
  · rw [if_pos h, if_pos ⟨by omega, by omega⟩]
  · rw [if_neg h, if_neg (by omega)]
theorem intM_f (m : Nat) : intM false m = if m ≤ 9223372036854775807 then ((m : Int), 0) else (0, 30) := by
  show (if -9223372036854775808 ≤ (m : Int) ∧ (m : Int) ≤ 9223372036854775807 then ((m : Int), (0 : Int)) else (0, 30)) = _
  by_cases h : m ≤ 9223372036854775807
  · rw [if_pos h, if_pos ⟨by omega, by omega⟩]
  · rw [if_neg h, if_neg (by omega)]
theorem floorR_int {x : Rq} (h : okR x) : floorR x = intM x.neg (flr x.neg (val x.num) (val x.den)) := by
  unfold floorR intM
  rw [if_pos h, floor_sgn h]

set_option maxRecDepth 100000 in
set_option maxHeartbeats 2000000 in
theorem integer_any (ng : Bool) (A : Option Addr) (c k m : Nat) (v er : Int) (w : World) (hs : Sl w A c (limbs m)) (hk : (limbs m).length = k) (hk2 : k ≤ 96) (hM : Hid (intM ng m = (v, er))) :
    Calls Try.prog 69 #[.bool ng, .slice A k c] w fun e w' => e = .returned (.tuple #[.int .i64 v, .int .i64 er]) ∧ w = w' := by
  have hck : chk (limbs m) = 0 := chk_limbs (by omega)
  have hlen : k ≤ 2 ↔ m < 18446744073709551616 := by rw [← hk, limbs_len_le, bp_two]
  by_cases h2 : m < 18446744073709551616
  · have HW := Lib.hid (word_c A c k (limbs m) w m 0 hs hk (by show _ = _; rw [wordM_ok hck (by rw [hk]; exact hlen.2 h2), val_limbs]))
    cases ng with
    | true =>
      by_cases h3 : m ≤ 9223372036854775808
      · obtain ⟨rfl, rfl⟩ : -(m : Int) = v ∧ 0 = er := by
          have := hM.out; rw [intM_t, if_pos h3] at this; simpa using this
        have K1 : decide ((m : Int) ≤ 9223372036854775808) = true := decide_eq_true (by omega)
        have W : IntKind.i64.wrap (IntKind.u64.wrap (-(m : Int))) = -(m : Int) := by rw [IntKind.wrap_u64, IntKind.wrap_i64]; omega
        clear hM hlen hck hk hs
        go_enter Try.func69, Try.ntmps69
        go_wp2_with fail
        refine HW.out.mono ?_
        rintro e w1 ⟨rfl, rfl⟩
        go_wp2_with fail
        go_ret2
        exact ⟨rfl, rfl⟩
      · obtain ⟨rfl, rfl⟩ : 0 = v ∧ 30 = er := by
          have := hM.out; rw [intM_t, if_neg h3] at this; simpa using this
        have K1 : decide ((m : Int) ≤ 9223372036854775808) = false := decide_eq_false (by omega)
        have K2 : decide (9223372036854775807 < (m : Int)) = true := decide_eq_true (by omega)
        clear hM hlen hck hk hs
        go_enter Try.func69, Try.ntmps69
        go_wp2_with fail
        refine HW.out.mono ?_
        rintro e w1 ⟨rfl, rfl⟩
        go_wp2_with fail
        go_ret2
        exact ⟨rfl, rfl⟩
    | false =>
      by_cases h3 : m ≤ 9223372036854775807
      · obtain ⟨rfl, rfl⟩ : (m : Int) = v ∧ 0 = er := by
          have := hM.out; rw [intM_f, if_pos h3] at this; simpa using this
        have K2 : decide (9223372036854775807 < (m : Int)) = false := decide_eq_false (by omega)
        have W : IntKind.i64.wrap (m : Int) = (m : Int) := by rw [IntKind.wrap_i64]; omega
        clear hM hlen hck hk hs
        go_enter Try.func69, Try.ntmps69
        go_wp2_with fail
        refine HW.out.mono ?_
        rintro e w1 ⟨rfl, rfl⟩
        go_wp2_with fail
        go_ret2
        exact ⟨rfl, rfl⟩
      · obtain ⟨rfl, rfl⟩ : 0 = v ∧ 30 = er := by
          have := hM.out; rw [intM_f, if_neg h3] at this; simpa using this
        have K2 : decide (9223372036854775807 < (m : Int)) = true := decide_eq_true (by omega)
        clear hM hlen hck hk hs
        go_enter Try.func69, Try.ntmps69
        go_wp2_with fail
        refine HW.out.mono ?_
        rintro e w1 ⟨rfl, rfl⟩
        go_wp2_with fail
        go_ret2
        exact ⟨rfl, rfl⟩
  · have HW := Lib.hid (word_c A c k (limbs m) w 0 30 hs hk (by show _ = _; rw [wordM_great hck (by rw [hk]; exact fun h => h2 (hlen.1 h))]))
    obtain ⟨rfl, rfl⟩ : 0 = v ∧ 30 = er := by
      have := hM.out; unfold intM at this; rw [if_neg (by cases ng <;> simp [sgn] <;> omega)] at this; simpa using this
    clear hM hlen hck hk hs
    go_enter Try.func69, Try.ntmps69
    go_wp2_with fail
    refine HW.out.mono ?_
    rintro e w1 ⟨rfl, rfl⟩
    go_wp2_with fail
    go_ret2
    exact ⟨rfl, rfl⟩

set_option maxRecDepth 100000 in
set_option maxHeartbeats 2000000 in
theorem qFloor_any (x : Rq) (A B : Option Addr) (c d k1 k2 : Nat) (v er : Int) (w : World) (hr : RqS w A c B d x) (h1 : x.num.length = k1) (h2 : x.den.length = k2) (hM : Hid (floorR x = (v, er))) :
    Calls Try.prog 43 #[.agg #[.bool x.neg, .slice A k1 c, .slice B k2 d]] w fun e w' => e = .returned (.tuple #[.int .i64 v, .int .i64 er]) ∧ Below w.heap.size w w' := by
  have HC := Lib.hid (fun wx bs (hk : Kp w bs wx) u (hu : chkR x = u) => qCheck_any x A B c d k1 k2 u wx (hr.to hk.1) h1 h2 hu)
  have hK := (Kp.refl w).alloc #[.bool x.neg, .slice A k1 c, .slice B k2 d] 27 _ rfl
  have HK := Lib.hid hK
  by_cases ho : okR x
  · have HV := Lib.hid (show intM x.neg (flr x.neg (val x.num) (val x.den)) = (v, er) by rw [← floorR_int ho]; exact hM.out)
    have HCK := Lib.hid (chkR_ok ho)
    have hfit := flr_fits ho
    unfold fits at hfit
    obtain ⟨m, hm, hml⟩ := limbs_of_chk (chk2_zero ho.1).1
    obtain ⟨n, hn, hnl⟩ := limbs_of_chk (chk2_zero ho.1).2
    have hn0 : n ≠ 0 := by have := ho.2.1; rw [hn, val_limbs] at this; exact this
    obtain ⟨hr1, hr2⟩ := hr
    obtain ⟨ng, a, b⟩ := x
    simp only at hm hn hr1 hr2 h1 h2 HV hfit HC HCK HK ⊢
    subst hm hn
    rw [val_limbs, val_limbs] at HV hfit
    obtain ⟨q, hq⟩ : ∃ q, q = m / n := ⟨_, rfl⟩
    obtain ⟨r, hrr⟩ : ∃ q, q = m % n := ⟨_, rfl⟩
    have hql : (limbs q).length ≤ 96 := len_le hml (by rw [hq]; exact Nat.div_le_self _ _)
    have D := divL (m := m) (n := n) hml hnl hn0 hq.symm hrr.symm
    obtain ⟨lr, hlr⟩ : ∃ l, l = limbs r := ⟨_, rfl⟩
    have HD := Lib.hid (fun wx bs (hk : Kp w bs wx) => div_c A B c d k1 k2 (limbs m) (limbs n) wx (limbs q) lr 0 (hk.sl hr1) (hk.sl hr2) h1 h2 (by rw [hlr]; exact D))
    obtain ⟨kq, hkq⟩ : ∃ k, (limbs q).length = k := ⟨_, rfl⟩
    unfold Res2P at HD
    rw [hkq] at HD hql
    by_cases hup : ng = true ∧ r ≠ 0
    · obtain ⟨rfl, hr0⟩ := hup
      have hf : flr true m n = q + 1 := by unfold flr; rw [if_pos ⟨rfl, by rw [← hrr]; exact hr0⟩, hq]
      rw [hf] at HV hfit
      have hlr0 : 0 < lr.length := by rw [hlr]; exact List.length_pos_iff.2 (fun e => hr0 (limbs_len_eq_zero.1 (by rw [e]; rfl)))
      have K : decide (0 < lr.length) = true := decide_eq_true (by omega)
      obtain ⟨zr, hzr⟩ : ∃ z, lr.length = z := ⟨_, rfl⟩
      rw [hzr] at HD K
      have hQ : (limbs (q + 1)).length ≤ 96 := hfit
      have HO := Lib.hid (fun wx => of_c 1 wx (limbs 1) (by omega) rfl)
      have h1l : (limbs 1).length ≤ 96 := by rw [limbs_one]; decide
      have HA := Lib.hid (fun wx A1 c1 A2 c2 (hs1 : Sl wx A1 c1 (limbs q)) (hs2 : Sl wx A2 c2 (limbs 1)) => add_c A1 A2 c1 c2 kq (limbs 1).length (limbs q) (limbs 1) wx (limbs (q + 1)) 0 hs1 hs2 hkq rfl (addL (by omega) h1l rfl hQ))
      obtain ⟨k3, hk3⟩ : ∃ k, (limbs (q + 1)).length = k := ⟨_, rfl⟩
      unfold ResP at HA
      rw [hk3] at HA hQ
      have HI := Lib.hid (fun wx A1 c1 (hs1 : Sl wx A1 c1 (limbs (q + 1))) => integer_any true A1 c1 k3 (q + 1) v er wx hs1 hk3 hQ HV.out)
      obtain ⟨k4, hk4⟩ : ∃ k, (limbs 1).length = k := ⟨_, rfl⟩
      rw [hk4] at HA HO
      clear hM hK ho h1 h2 hr1 hr2 hml hnl hn0 hq hrr hql D hlr hkq hr0 hf hfit hlr0 hzr hk3 hk4 h1l hQ
      go_enter Try.func43, Try.ntmps43
      go_wp2_with fail
      refine (HC.out _ _ HK.out 0 HCK.out).mono ?_
      rintro e w1 ⟨rfl, hb1⟩
      have HK1 := Lib.hid (HK.out.next hb1)
      have x1 := HK1.out.blk0.at_ 1 rfl
      have x2 := HK1.out.blk0.at_ 2 rfl
      clear hb1
      go_wp2_with fail
      refine (HD.out _ _ HK1.out).mono ?_
      rintro e w2 ⟨A1, A2, c1, c2, rfl, hs1, hs2, hb2⟩
      have HK2 := Lib.hid (HK1.out.next hb2)
      have HS1 := Lib.hid hs1
      clear x1 x2 hb2 hs1 hs2
      have x0 := HK2.out.blk0.at_ 0 rfl
      go_wp2_with fail
      refine (HO.out _).mono ?_
      rintro e w3 ⟨A3, c3, rfl, hs3, hb3⟩
      have HK3 := Lib.hid (HK2.out.next hb3)
      have HS1' := Lib.hid (HS1.out.to hb3)
      have HS3 := Lib.hid hs3
      clear hb3 hs3 x0
      go_wp2_with fail
      refine (HA.out _ _ _ _ _ HS1'.out HS3.out).mono ?_
      rintro e w4 ⟨A4, c4, rfl, hs4, hb4⟩
      have HK4 := Lib.hid (HK3.out.next hb4)
      have HS4 := Lib.hid hs4
      have x0 := HK4.out.blk0.at_ 0 rfl
      clear hb4 hs4
      go_wp2_with fail
      refine (HI.out _ _ _ HS4.out).mono ?_
      rintro e w5 ⟨rfl, rfl⟩
      go_wp2_with fail
      go_ret2
      exact ⟨rfl, HK4.out.1⟩
    · have hf : flr ng m n = q := by unfold flr; rw [if_neg (by rw [← hrr]; exact hup), hq]
      rw [hf] at HV
      have K : ng = true → decide (0 < lr.length) = false := fun e => by
        have hr0 : r = 0 := by
          rcases Nat.eq_zero_or_pos r with h | h
          · exact h
          · exact absurd ⟨e, by omega⟩ hup
        rw [hlr, hr0, limbs_zero]; rfl
      obtain ⟨zr, hzr⟩ : ∃ z, lr.length = z := ⟨_, rfl⟩
      rw [hzr] at HD K
      have HI := Lib.hid (fun wx A1 c1 (hs1 : Sl wx A1 c1 (limbs q)) => integer_any ng A1 c1 kq q v er wx hs1 hkq hql HV.out)
      clear hM hK ho h1 h2 hr1 hr2 hml hnl hn0 hq hrr hql D hlr hkq hf hfit hzr hup
      cases ng with
      | true =>
        have K' := K rfl
        clear K
        go_enter Try.func43, Try.ntmps43
        go_wp2_with fail
        refine (HC.out _ _ HK.out 0 HCK.out).mono ?_
        rintro e w1 ⟨rfl, hb1⟩
        have HK1 := Lib.hid (HK.out.next hb1)
        have x1 := HK1.out.blk0.at_ 1 rfl
        have x2 := HK1.out.blk0.at_ 2 rfl
        clear hb1
        go_wp2_with fail
        refine (HD.out _ _ HK1.out).mono ?_
        rintro e w2 ⟨A1, A2, c1, c2, rfl, hs1, hs2, hb2⟩
        have HK2 := Lib.hid (HK1.out.next hb2)
        have HS1 := Lib.hid hs1
        clear x1 x2 hb2 hs1 hs2
        have x0 := HK2.out.blk0.at_ 0 rfl
        go_wp2_with fail
        refine (HI.out _ _ _ HS1.out).mono ?_
        rintro e w5 ⟨rfl, rfl⟩
        go_wp2_with fail
        go_ret2
        exact ⟨rfl, HK2.out.1⟩
      | false =>
        clear K
        go_enter Try.func43, Try.ntmps43
        go_wp2_with fail
        refine (HC.out _ _ HK.out 0 HCK.out).mono ?_
        rintro e w1 ⟨rfl, hb1⟩
        have HK1 := Lib.hid (HK.out.next hb1)
        have x1 := HK1.out.blk0.at_ 1 rfl
        have x2 := HK1.out.blk0.at_ 2 rfl
        clear hb1
        go_wp2_with fail
        refine (HD.out _ _ HK1.out).mono ?_
        rintro e w2 ⟨A1, A2, c1, c2, rfl, hs1, hs2, hb2⟩
        have HK2 := Lib.hid (HK1.out.next hb2)
        have HS1 := Lib.hid hs1
        clear x1 x2 hb2 hs1 hs2
        have x0 := HK2.out.blk0.at_ 0 rfl
        go_wp2_with fail
        refine (HI.out _ _ _ HS1.out).mono ?_
        rintro e w5 ⟨rfl, rfl⟩
        go_wp2_with fail
        go_ret2
        exact ⟨rfl, HK2.out.1⟩
  · obtain ⟨rfl, rfl⟩ : 0 = v ∧ 8 = er := by have := hM.out; rw [floorR_bad ho] at this; simpa using this
    have HCK := Lib.hid (chkR_no ho)
    obtain ⟨ng, a, b⟩ := x
    clear hM ho hr h1 h2 hK
    go_enter Try.func43, Try.ntmps43
    go_wp2_with fail
    refine (HC.out _ _ HK.out 8 HCK.out).mono ?_
    rintro e w1 ⟨rfl, hb1⟩
    have HK1 := Lib.hid (HK.out.next hb1)
    go_wp2_with fail
    go_ret2
    exact ⟨rfl, HK1.out.1⟩
end Go.Proofs.Ytefoccjphbbmhaa
