/- math/bits.Div64, walked. -/
import Derived.Test.YtefoccjphbbmhaaDv
namespace Go.Proofs.Ytefoccjphbbmhaa
open Go.RowKit
set_option linter.unusedVariables false

set_option maxRecDepth 100000 in
set_option maxHeartbeats 4000000 in
theorem div64_far (hi lo y Q : Nat) (h0 : 0 < hi) (hhi : hi < y) (hyl : y < 18446744073709551616) (hlo : lo < 18446744073709551616) (hQ : Hid (Q = (hi * 18446744073709551616 + lo) / y)) (w : World) :
    Calls Try.prog 60 #[.int .u64 hi, .int .u64 lo, .int .u64 y] w fun e w' => ∃ r : Int, e = .returned (.tuple #[.int .u64 (Q : Int), .int .u64 r]) ∧ w' = w := by
  have d1 : ((y : Int) == 0) = false := by rw [beq_eq_false_iff_ne]; omega
  have d2 : decide ((y : Int) ≤ (hi : Int)) = false := by simp; omega
  have d3 : ((hi : Int) == 0) = false := by rw [beq_eq_false_iff_ne]; omega
  obtain ⟨s, t, y', a, b, u, v, v1, v0, h1, l1, e1, e2, e3, e4, e5, e6, e6l, e7, e8, e9, e10, D⟩ := dn_of hhi hyl hlo
  have HS := Lib.hid (show (64 : Int) - (Lib.bitLen y : Int) = (s : Int) by omega)
  have W1 : IntKind.u64.wrap (s : Int) = (s : Int) := wrapU s (by have := D.s63; omega)
  have M1 : min s 64 = s := by have := D.s63; omega
  have W2 : IntKind.u64.wrap (64 - (s : Int)) = (t : Int) := wrapI t (by have := D.s64; omega) (by have := D.s64; omega)
  have M2 : min t 64 = t := by have := D.s64; omega
  have W3 : IntKind.u64.wrap ((y : Int) * 2 ^ s) = (y' : Int) := wrapI y' (by rw [← e2]; push_cast; rfl) D.small
  have A3 : (y' : Int) / 4294967296 = (a : Int) := by omega
  have B3 : bits .and .u64 (y' : Int) 4294967295 = (b : Int) := by rw [← e4]; exact Mul64.maskN y' D.small
  have ha := D.ha; have ha2 := D.ha2; have hb := D.hb; have hu := D.hu; have hbig := D.big; have hsmall := D.small; have hv1 := D.hv1; have hv0 := D.hv0; have hsp := D.split
  have W4 : IntKind.u64.wrap ((hi : Int) * 2 ^ s) = (h1 : Int) := wrapI h1 (by rw [← e5]; push_cast; rfl) (by omega)
  have W5 : (lo : Int) / 2 ^ t = (l1 : Int) := by rw [← e6]; push_cast; rfl
  have W6 : bits .or .u64 (h1 : Int) (l1 : Int) = (u : Int) := by
    rw [bits_or_u64_nat h1 l1 (by omega) (by omega), ← e5, or_add e6l, e5, e7]
  have W7 : IntKind.u64.wrap ((lo : Int) * 2 ^ s) = (v : Int) := by
    rw [← e8, ← wrapM]; congr 1
  have A7 : (v : Int) / 4294967296 = (v1 : Int) := by omega
  have B7 : bits .and .u64 (v : Int) 4294967295 = (v0 : Int) := by rw [← e10]; exact Mul64.maskN v (by have := D.hv; omega)
  have Z1 : ¬ (a : Int) = 0 := by omega
  obtain ⟨q, hq⟩ : ∃ q, q = u / a := ⟨_, rfl⟩
  obtain ⟨r, hr⟩ : ∃ r, r = u % a := ⟨_, rfl⟩
  have T1 : (u : Int).tdiv (a : Int) = (q : Int) := by rw [hq]; rfl
  have hD0 : Dq u v1 a b q r := by rw [hq, hr]; exact dq_start ha hb (by omega) hv1
  have hr0 : r < a := by rw [hr]; exact Nat.mod_lt _ (by omega)
  have U1 : IntKind.u64.wrap (q : Int) = (q : Int) := wrapU q (by have := hD0.le; omega)
  obtain ⟨qa, hqa⟩ : ∃ z, z = q * a := ⟨_, rfl⟩
  have U2 : IntKind.u64.wrap ((q : Int) * (a : Int)) = (qa : Int) := wrapI qa (by rw [hqa]; push_cast; rfl) (by have := hD0.sum; omega)
  have U3 : IntKind.u64.wrap ((u : Int) - (qa : Int)) = (r : Int) := wrapI r (by have := hD0.sum; omega) (by omega)
  have hub : u < a * 4294967296 + b := by omega
  have HD := Lib.hid D
  have HD0 := Lib.hid hD0
  clear D e2 e3 e4 e5 e6 e7 e8 e9 e10 hq hr hqa hD0 hsp
  go_enter Try.func60, Try.ntmps60
  go_wp2_with fail
  refine (Try.bits_LeadingZeros64 y w (by omega) (by omega)).mono ?_
  rintro e w1 ⟨rfl, rfl⟩
  rw [Int.toNat_natCast, HS.out]
  clear e1
  go_wp2_with fail
  go_loop [15, 16] (fun s1 s2 => ∃ q r : Nat, s1 = .int .u64 q ∧ s2 = .int .u64 r ∧ r < 4294967296 ∧ Hid (Dq u v1 a b q r)) (fun s1 _ => (intOf s1).toNat)
  case atStart => exact ⟨q, r, rfl, rfl, by omega, HD0⟩
  case round =>
    obtain ⟨q, r, rfl, rfl, hrl, hd⟩ := hrel
    have hql := hd.out.le
    by_cases hc : 4294967296 ≤ q
    · have K1 : decide (4294967296 ≤ (q : Int)) = true := decide_eq_true (by omega)
      have hq1 := (dq_next hd.out ha (by omega) hv1 (.inl hc)).1
      have HD2 := Lib.hid (dq_next hd.out ha (by omega) hv1 (.inl hc)).2
      obtain ⟨k, hk⟩ : ∃ k, q = k + 1 := ⟨q - 1, by omega⟩
      obtain ⟨ra, hra⟩ : ∃ z, z = r + a := ⟨_, rfl⟩
      have X1 : IntKind.u64.wrap ((q : Int) - 1) = (k : Int) := wrapI k (by omega) (by have := hd.out.le; omega)
      have X2 : IntKind.u64.wrap ((r : Int) + (a : Int)) = (ra : Int) := wrapI ra (by omega) (by omega)
      rw [← hra, show q - 1 = k by omega] at HD2
      have HK := Lib.hid hk
      have hkq : k < q := by omega
      by_cases hb3 : 4294967296 ≤ ra
      · have K3 : decide (4294967296 ≤ (ra : Int)) = true := decide_eq_true (by omega)
        have HQ := Lib.hid (dq_end HD2.out ha hb (.inl hb3))
        have hkl := HD2.out.le
        clear hk hra HD2 hd
        have HQ1 := HQ
        clear HQ
        obtain ⟨r1, hr1⟩ : ∃ z, z = (u * 4294967296 + v1) % y' := ⟨_, rfl⟩
        have HR1 := Lib.hid hr1.symm
        have hr1l : r1 < y' := by rw [hr1]; exact Nat.mod_lt _ (by omega)
        obtain ⟨n1, hn1⟩ : ∃ z, z = u * 4294967296 % 18446744073709551616 := ⟨_, rfl⟩
        obtain ⟨n2, hn2⟩ : ∃ z, z = (n1 + v1) % 18446744073709551616 := ⟨_, rfl⟩
        obtain ⟨n3, hn3⟩ : ∃ z, z = k * y' % 18446744073709551616 := ⟨_, rfl⟩
        have R1 : IntKind.u64.wrap ((u : Int) * 4294967296) = (n1 : Int) := by rw [hn1, ← wrapM]; congr 1
        have R2 : IntKind.u64.wrap ((n1 : Int) + (v1 : Int)) = (n2 : Int) := by rw [hn2, ← wrapM]; congr 1
        have R3 : IntKind.u64.wrap ((k : Int) * (y' : Int)) = (n3 : Int) := by rw [hn3, ← wrapM]; congr 1
        have R4 : IntKind.u64.wrap ((n2 : Int) - (n3 : Int)) = (r1 : Int) := dv_rest hsmall (by rw [HD.out.split]; exact HQ1.out) HR1.out (by omega) n1 n2 n3 hn1 hn2 hn3
        obtain ⟨p, hp⟩ : ∃ p, p = r1 / a := ⟨_, rfl⟩
        obtain ⟨x, hx⟩ : ∃ x, x = r1 % a := ⟨_, rfl⟩
        have T2 : (r1 : Int).tdiv (a : Int) = (p : Int) := by rw [hp]; rfl
        have hsp2 := HD.out.split
        have hE0 : Dq r1 v0 a b p x := by rw [hp, hx]; exact dq_start ha hb (by omega) hv0
        have hx0 : x < a := by rw [hx]; exact Nat.mod_lt _ (by omega)
        have S1 : IntKind.u64.wrap (p : Int) = (p : Int) := wrapU p (by have := hE0.le; omega)
        obtain ⟨pa, hpa⟩ : ∃ z, z = p * a := ⟨_, rfl⟩
        have S2 : IntKind.u64.wrap ((p : Int) * (a : Int)) = (pa : Int) := wrapI pa (by rw [hpa]; push_cast; rfl) (by have := hE0.sum; omega)
        have S3 : IntKind.u64.wrap ((r1 : Int) - (pa : Int)) = (x : Int) := wrapI x (by have := hE0.sum; omega) (by omega)
        have HE0 := Lib.hid hE0
        have hr1b : r1 < a * 4294967296 + b := by omega
        clear hr1 hn1 hn2 hn3 hp hx hsp2 hE0 hpa
        go_wp2_with fail
        go_loop [18, 16] (fun s1 s2 => ∃ q r : Nat, s1 = .int .u64 q ∧ s2 = .int .u64 r ∧ r < 4294967296 ∧ Hid (Dq r1 v0 a b q r)) (fun s1 _ => (intOf s1).toNat)
        case atStart => exact ⟨p, x, rfl, rfl, by omega, HE0⟩
        case round =>
          obtain ⟨q', r', rfl, rfl, hrl', hd'⟩ := hrel
          have hql' := hd'.out.le
          by_cases hc' : 4294967296 ≤ q'
          · have K1' : decide (4294967296 ≤ (q' : Int)) = true := decide_eq_true (by omega)
            have hq1' := (dq_next hd'.out ha (by omega) hv0 (.inl hc')).1
            have HD2' := Lib.hid (dq_next hd'.out ha (by omega) hv0 (.inl hc')).2
            obtain ⟨k', hk'⟩ : ∃ k', q' = k' + 1 := ⟨q' - 1, by omega⟩
            obtain ⟨ra', hra'⟩ : ∃ z, z = r' + a := ⟨_, rfl⟩
            have X1' : IntKind.u64.wrap ((q' : Int) - 1) = (k' : Int) := wrapI k' (by omega) (by have := hd'.out.le; omega)
            have X2' : IntKind.u64.wrap ((r' : Int) + (a : Int)) = (ra' : Int) := wrapI ra' (by omega) (by omega)
            rw [← hra', show q' - 1 = k' by omega] at HD2'
            have HK' := Lib.hid hk'
            have hkq' : k' < q' := by omega
            by_cases hb3' : 4294967296 ≤ ra'
            · have K3' : decide (4294967296 ≤ (ra' : Int)) = true := decide_eq_true (by omega)
              have HQ' := Lib.hid (dq_end HD2'.out ha hb (.inl hb3'))
              have hkl' := HD2'.out.le
              clear hk' hra' HD2' hd'
              obtain ⟨kB, hkB⟩ : ∃ z, z = k * 4294967296 := ⟨_, rfl⟩
              have hQ2 : k * 4294967296 + k' = Q := by
                have h := dv_two (u := u) (v1 := v1) (v0 := v0) (q1 := k) (q0 := k') (r1 := r1) (y := y') (by omega) (by rw [HD.out.split]; exact HQ1.out) HR1.out (by rw [HD.out.split]; exact HQ'.out)
                rw [← h, hQ.out, ← HD.out.quo, ← HD.out.hv]
              have hQl : Q < 18446744073709551616 := by
                rw [hQ.out, Nat.div_lt_iff_lt_mul (by omega), Nat.mul_comm]
                have : (hi + 1) * 18446744073709551616 ≤ y * 18446744073709551616 := Nat.mul_le_mul_right _ hhi
                omega
              have V1 : IntKind.u64.wrap ((k : Int) * 4294967296) = (kB : Int) := wrapI kB (by omega) (by omega)
              have V2 : IntKind.u64.wrap ((kB : Int) + (k' : Int)) = (Q : Int) := wrapI Q (by omega) (by omega)
              clear hQ2 hkB HQ' HQ1 HR1
              go_wp2_with fail
              go_ret2
              exact ⟨⟨_, rfl⟩, rfl⟩
            · have K3' : decide (4294967296 ≤ (ra' : Int)) = false := decide_eq_false (by omega)
              have hra2' : ra' < 4294967296 := by omega
              clear hk' hra' hb3'
              go_wp2_with fail
              go_round
              case rel => exact ⟨k', ra', rfl, rfl, hra2', HD2'⟩
              case measure => simp [intOf]; omega
          · have K1' : decide (4294967296 ≤ (q' : Int)) = false := decide_eq_false (by omega)
            obtain ⟨qb', hqb'⟩ : ∃ z, z = q' * b := ⟨_, rfl⟩
            have hqb2' : qb' < 18446744073709551616 := by rw [hqb']; exact Nat.lt_of_le_of_lt (Nat.mul_le_mul (show q' ≤ 4294967296 by omega) (show b ≤ 4294967295 by omega)) (by decide)
            have Y1' : IntKind.u64.wrap ((q' : Int) * (b : Int)) = (qb' : Int) := wrapI qb' (by rw [hqb']; push_cast; rfl) hqb2'
            obtain ⟨br', hbr'⟩ : ∃ z, z = 4294967296 * r' := ⟨_, rfl⟩
            have Y2' : IntKind.u64.wrap (4294967296 * (r' : Int)) = (br' : Int) := wrapI br' (by omega) (by omega)
            obtain ⟨bv', hbv'⟩ : ∃ z, z = br' + v0 := ⟨_, rfl⟩
            have Y3' : IntKind.u64.wrap ((br' : Int) + (v0 : Int)) = (bv' : Int) := wrapI bv' (by omega) (by omega)
            by_cases hg' : bv' < qb'
            · have K2' : decide ((bv' : Int) < (qb' : Int)) = true := decide_eq_true (by omega)
              have hcc' : 4294967296 * r' + v0 < q' * b := by rw [← hqb', ← hbr']; omega
              clear hqb' hbr' hbv'
              have hq1' := (dq_next hd'.out ha (by omega) hv0 (.inr hcc')).1
              have HD2' := Lib.hid (dq_next hd'.out ha (by omega) hv0 (.inr hcc')).2
              obtain ⟨k', hk'⟩ : ∃ k', q' = k' + 1 := ⟨q' - 1, by omega⟩
              obtain ⟨ra', hra'⟩ : ∃ z, z = r' + a := ⟨_, rfl⟩
              have X1' : IntKind.u64.wrap ((q' : Int) - 1) = (k' : Int) := wrapI k' (by omega) (by have := hd'.out.le; omega)
              have X2' : IntKind.u64.wrap ((r' : Int) + (a : Int)) = (ra' : Int) := wrapI ra' (by omega) (by omega)
              rw [← hra', show q' - 1 = k' by omega] at HD2'
              have HK' := Lib.hid hk'
              have hkq' : k' < q' := by omega
              by_cases hb3' : 4294967296 ≤ ra'
              · have K3' : decide (4294967296 ≤ (ra' : Int)) = true := decide_eq_true (by omega)
                have HQ' := Lib.hid (dq_end HD2'.out ha hb (.inl hb3'))
                have hkl' := HD2'.out.le
                clear hk' hra' HD2' hd'
                obtain ⟨kB, hkB⟩ : ∃ z, z = k * 4294967296 := ⟨_, rfl⟩
                have hQ2 : k * 4294967296 + k' = Q := by
                  have h := dv_two (u := u) (v1 := v1) (v0 := v0) (q1 := k) (q0 := k') (r1 := r1) (y := y') (by omega) (by rw [HD.out.split]; exact HQ1.out) HR1.out (by rw [HD.out.split]; exact HQ'.out)
                  rw [← h, hQ.out, ← HD.out.quo, ← HD.out.hv]
                have hQl : Q < 18446744073709551616 := by
                  rw [hQ.out, Nat.div_lt_iff_lt_mul (by omega), Nat.mul_comm]
                  have : (hi + 1) * 18446744073709551616 ≤ y * 18446744073709551616 := Nat.mul_le_mul_right _ hhi
                  omega
                have V1 : IntKind.u64.wrap ((k : Int) * 4294967296) = (kB : Int) := wrapI kB (by omega) (by omega)
                have V2 : IntKind.u64.wrap ((kB : Int) + (k' : Int)) = (Q : Int) := wrapI Q (by omega) (by omega)
                clear hQ2 hkB HQ' HQ1 HR1
                go_wp2_with fail
                go_ret2
                exact ⟨⟨_, rfl⟩, rfl⟩
              · have K3' : decide (4294967296 ≤ (ra' : Int)) = false := decide_eq_false (by omega)
                have hra2' : ra' < 4294967296 := by omega
                clear hk' hra' hb3'
                go_wp2_with fail
                go_round
                case rel => exact ⟨k', ra', rfl, rfl, hra2', HD2'⟩
                case measure => simp [intOf]; omega
            · have K2' : decide ((bv' : Int) < (qb' : Int)) = false := decide_eq_false (by omega)
              have HQ' := Lib.hid (dq_end hd'.out ha hb (.inr (by rw [← hqb', ← hbr']; omega)))
              clear hqb' hbr' hbv' hd'
              obtain ⟨kB, hkB⟩ : ∃ z, z = k * 4294967296 := ⟨_, rfl⟩
              have hQ2 : k * 4294967296 + q' = Q := by
                have h := dv_two (u := u) (v1 := v1) (v0 := v0) (q1 := k) (q0 := q') (r1 := r1) (y := y') (by omega) (by rw [HD.out.split]; exact HQ1.out) HR1.out (by rw [HD.out.split]; exact HQ'.out)
                rw [← h, hQ.out, ← HD.out.quo, ← HD.out.hv]
              have hQl : Q < 18446744073709551616 := by
                rw [hQ.out, Nat.div_lt_iff_lt_mul (by omega), Nat.mul_comm]
                have : (hi + 1) * 18446744073709551616 ≤ y * 18446744073709551616 := Nat.mul_le_mul_right _ hhi
                omega
              have V1 : IntKind.u64.wrap ((k : Int) * 4294967296) = (kB : Int) := wrapI kB (by omega) (by omega)
              have V2 : IntKind.u64.wrap ((kB : Int) + (q' : Int)) = (Q : Int) := wrapI Q (by omega) (by omega)
              clear hQ2 hkB HQ' HQ1 HR1
              go_wp2_with fail
              go_ret2
              exact ⟨⟨_, rfl⟩, rfl⟩
      · have K3 : decide (4294967296 ≤ (ra : Int)) = false := decide_eq_false (by omega)
        have hra2 : ra < 4294967296 := by omega
        clear hk hra hb3
        go_wp2_with fail
        go_round
        case rel => exact ⟨k, ra, rfl, rfl, hra2, HD2⟩
        case measure => simp [intOf]; omega
    · have K1 : decide (4294967296 ≤ (q : Int)) = false := decide_eq_false (by omega)
      obtain ⟨qb, hqb⟩ : ∃ z, z = q * b := ⟨_, rfl⟩
      have hqb2 : qb < 18446744073709551616 := by rw [hqb]; exact Nat.lt_of_le_of_lt (Nat.mul_le_mul (show q ≤ 4294967296 by omega) (show b ≤ 4294967295 by omega)) (by decide)
      have Y1 : IntKind.u64.wrap ((q : Int) * (b : Int)) = (qb : Int) := wrapI qb (by rw [hqb]; push_cast; rfl) hqb2
      obtain ⟨br, hbr⟩ : ∃ z, z = 4294967296 * r := ⟨_, rfl⟩
      have Y2 : IntKind.u64.wrap (4294967296 * (r : Int)) = (br : Int) := wrapI br (by omega) (by omega)
      obtain ⟨bv, hbv⟩ : ∃ z, z = br + v1 := ⟨_, rfl⟩
      have Y3 : IntKind.u64.wrap ((br : Int) + (v1 : Int)) = (bv : Int) := wrapI bv (by omega) (by omega)
      by_cases hg : bv < qb
      · have K2 : decide ((bv : Int) < (qb : Int)) = true := decide_eq_true (by omega)
        have hcc : 4294967296 * r + v1 < q * b := by rw [← hqb, ← hbr]; omega
        clear hqb hbr hbv
        have hq1 := (dq_next hd.out ha (by omega) hv1 (.inr hcc)).1
        have HD2 := Lib.hid (dq_next hd.out ha (by omega) hv1 (.inr hcc)).2
        obtain ⟨k, hk⟩ : ∃ k, q = k + 1 := ⟨q - 1, by omega⟩
        obtain ⟨ra, hra⟩ : ∃ z, z = r + a := ⟨_, rfl⟩
        have X1 : IntKind.u64.wrap ((q : Int) - 1) = (k : Int) := wrapI k (by omega) (by have := hd.out.le; omega)
        have X2 : IntKind.u64.wrap ((r : Int) + (a : Int)) = (ra : Int) := wrapI ra (by omega) (by omega)
        rw [← hra, show q - 1 = k by omega] at HD2
        have HK := Lib.hid hk
        have hkq : k < q := by omega
        by_cases hb3 : 4294967296 ≤ ra
        · have K3 : decide (4294967296 ≤ (ra : Int)) = true := decide_eq_true (by omega)
          have HQ := Lib.hid (dq_end HD2.out ha hb (.inl hb3))
          have hkl := HD2.out.le
          clear hk hra HD2 hd
          have HQ1 := HQ
          clear HQ
          obtain ⟨r1, hr1⟩ : ∃ z, z = (u * 4294967296 + v1) % y' := ⟨_, rfl⟩
          have HR1 := Lib.hid hr1.symm
          have hr1l : r1 < y' := by rw [hr1]; exact Nat.mod_lt _ (by omega)
          obtain ⟨n1, hn1⟩ : ∃ z, z = u * 4294967296 % 18446744073709551616 := ⟨_, rfl⟩
          obtain ⟨n2, hn2⟩ : ∃ z, z = (n1 + v1) % 18446744073709551616 := ⟨_, rfl⟩
          obtain ⟨n3, hn3⟩ : ∃ z, z = k * y' % 18446744073709551616 := ⟨_, rfl⟩
          have R1 : IntKind.u64.wrap ((u : Int) * 4294967296) = (n1 : Int) := by rw [hn1, ← wrapM]; congr 1
          have R2 : IntKind.u64.wrap ((n1 : Int) + (v1 : Int)) = (n2 : Int) := by rw [hn2, ← wrapM]; congr 1
          have R3 : IntKind.u64.wrap ((k : Int) * (y' : Int)) = (n3 : Int) := by rw [hn3, ← wrapM]; congr 1
          have R4 : IntKind.u64.wrap ((n2 : Int) - (n3 : Int)) = (r1 : Int) := dv_rest hsmall (by rw [HD.out.split]; exact HQ1.out) HR1.out (by omega) n1 n2 n3 hn1 hn2 hn3
          obtain ⟨p, hp⟩ : ∃ p, p = r1 / a := ⟨_, rfl⟩
          obtain ⟨x, hx⟩ : ∃ x, x = r1 % a := ⟨_, rfl⟩
          have T2 : (r1 : Int).tdiv (a : Int) = (p : Int) := by rw [hp]; rfl
          have hsp2 := HD.out.split
          have hE0 : Dq r1 v0 a b p x := by rw [hp, hx]; exact dq_start ha hb (by omega) hv0
          have hx0 : x < a := by rw [hx]; exact Nat.mod_lt _ (by omega)
          have S1 : IntKind.u64.wrap (p : Int) = (p : Int) := wrapU p (by have := hE0.le; omega)
          obtain ⟨pa, hpa⟩ : ∃ z, z = p * a := ⟨_, rfl⟩
          have S2 : IntKind.u64.wrap ((p : Int) * (a : Int)) = (pa : Int) := wrapI pa (by rw [hpa]; push_cast; rfl) (by have := hE0.sum; omega)
          have S3 : IntKind.u64.wrap ((r1 : Int) - (pa : Int)) = (x : Int) := wrapI x (by have := hE0.sum; omega) (by omega)
          have HE0 := Lib.hid hE0
          have hr1b : r1 < a * 4294967296 + b := by omega
          clear hr1 hn1 hn2 hn3 hp hx hsp2 hE0 hpa
          go_wp2_with fail
          go_loop [18, 16] (fun s1 s2 => ∃ q r : Nat, s1 = .int .u64 q ∧ s2 = .int .u64 r ∧ r < 4294967296 ∧ Hid (Dq r1 v0 a b q r)) (fun s1 _ => (intOf s1).toNat)
          case atStart => exact ⟨p, x, rfl, rfl, by omega, HE0⟩
          case round =>
            obtain ⟨q', r', rfl, rfl, hrl', hd'⟩ := hrel
            have hql' := hd'.out.le
            by_cases hc' : 4294967296 ≤ q'
            · have K1' : decide (4294967296 ≤ (q' : Int)) = true := decide_eq_true (by omega)
              have hq1' := (dq_next hd'.out ha (by omega) hv0 (.inl hc')).1
              have HD2' := Lib.hid (dq_next hd'.out ha (by omega) hv0 (.inl hc')).2
              obtain ⟨k', hk'⟩ : ∃ k', q' = k' + 1 := ⟨q' - 1, by omega⟩
              obtain ⟨ra', hra'⟩ : ∃ z, z = r' + a := ⟨_, rfl⟩
              have X1' : IntKind.u64.wrap ((q' : Int) - 1) = (k' : Int) := wrapI k' (by omega) (by have := hd'.out.le; omega)
              have X2' : IntKind.u64.wrap ((r' : Int) + (a : Int)) = (ra' : Int) := wrapI ra' (by omega) (by omega)
              rw [← hra', show q' - 1 = k' by omega] at HD2'
              have HK' := Lib.hid hk'
              have hkq' : k' < q' := by omega
              by_cases hb3' : 4294967296 ≤ ra'
              · have K3' : decide (4294967296 ≤ (ra' : Int)) = true := decide_eq_true (by omega)
                have HQ' := Lib.hid (dq_end HD2'.out ha hb (.inl hb3'))
                have hkl' := HD2'.out.le
                clear hk' hra' HD2' hd'
                obtain ⟨kB, hkB⟩ : ∃ z, z = k * 4294967296 := ⟨_, rfl⟩
                have hQ2 : k * 4294967296 + k' = Q := by
                  have h := dv_two (u := u) (v1 := v1) (v0 := v0) (q1 := k) (q0 := k') (r1 := r1) (y := y') (by omega) (by rw [HD.out.split]; exact HQ1.out) HR1.out (by rw [HD.out.split]; exact HQ'.out)
                  rw [← h, hQ.out, ← HD.out.quo, ← HD.out.hv]
                have hQl : Q < 18446744073709551616 := by
                  rw [hQ.out, Nat.div_lt_iff_lt_mul (by omega), Nat.mul_comm]
                  have : (hi + 1) * 18446744073709551616 ≤ y * 18446744073709551616 := Nat.mul_le_mul_right _ hhi
                  omega
                have V1 : IntKind.u64.wrap ((k : Int) * 4294967296) = (kB : Int) := wrapI kB (by omega) (by omega)
                have V2 : IntKind.u64.wrap ((kB : Int) + (k' : Int)) = (Q : Int) := wrapI Q (by omega) (by omega)
                clear hQ2 hkB HQ' HQ1 HR1
                go_wp2_with fail
                go_ret2
                exact ⟨⟨_, rfl⟩, rfl⟩
              · have K3' : decide (4294967296 ≤ (ra' : Int)) = false := decide_eq_false (by omega)
                have hra2' : ra' < 4294967296 := by omega
                clear hk' hra' hb3'
                go_wp2_with fail
                go_round
                case rel => exact ⟨k', ra', rfl, rfl, hra2', HD2'⟩
                case measure => simp [intOf]; omega
            · have K1' : decide (4294967296 ≤ (q' : Int)) = false := decide_eq_false (by omega)
              obtain ⟨qb', hqb'⟩ : ∃ z, z = q' * b := ⟨_, rfl⟩
              have hqb2' : qb' < 18446744073709551616 := by rw [hqb']; exact Nat.lt_of_le_of_lt (Nat.mul_le_mul (show q' ≤ 4294967296 by omega) (show b ≤ 4294967295 by omega)) (by decide)
              have Y1' : IntKind.u64.wrap ((q' : Int) * (b : Int)) = (qb' : Int) := wrapI qb' (by rw [hqb']; push_cast; rfl) hqb2'
              obtain ⟨br', hbr'⟩ : ∃ z, z = 4294967296 * r' := ⟨_, rfl⟩
              have Y2' : IntKind.u64.wrap (4294967296 * (r' : Int)) = (br' : Int) := wrapI br' (by omega) (by omega)
              obtain ⟨bv', hbv'⟩ : ∃ z, z = br' + v0 := ⟨_, rfl⟩
              have Y3' : IntKind.u64.wrap ((br' : Int) + (v0 : Int)) = (bv' : Int) := wrapI bv' (by omega) (by omega)
              by_cases hg' : bv' < qb'
              · have K2' : decide ((bv' : Int) < (qb' : Int)) = true := decide_eq_true (by omega)
                have hcc' : 4294967296 * r' + v0 < q' * b := by rw [← hqb', ← hbr']; omega
                clear hqb' hbr' hbv'
                have hq1' := (dq_next hd'.out ha (by omega) hv0 (.inr hcc')).1
                have HD2' := Lib.hid (dq_next hd'.out ha (by omega) hv0 (.inr hcc')).2
                obtain ⟨k', hk'⟩ : ∃ k', q' = k' + 1 := ⟨q' - 1, by omega⟩
                obtain ⟨ra', hra'⟩ : ∃ z, z = r' + a := ⟨_, rfl⟩
                have X1' : IntKind.u64.wrap ((q' : Int) - 1) = (k' : Int) := wrapI k' (by omega) (by have := hd'.out.le; omega)
                have X2' : IntKind.u64.wrap ((r' : Int) + (a : Int)) = (ra' : Int) := wrapI ra' (by omega) (by omega)
                rw [← hra', show q' - 1 = k' by omega] at HD2'
                have HK' := Lib.hid hk'
                have hkq' : k' < q' := by omega
                by_cases hb3' : 4294967296 ≤ ra'
                · have K3' : decide (4294967296 ≤ (ra' : Int)) = true := decide_eq_true (by omega)
                  have HQ' := Lib.hid (dq_end HD2'.out ha hb (.inl hb3'))
                  have hkl' := HD2'.out.le
                  clear hk' hra' HD2' hd'
                  obtain ⟨kB, hkB⟩ : ∃ z, z = k * 4294967296 := ⟨_, rfl⟩
                  have hQ2 : k * 4294967296 + k' = Q := by
                    have h := dv_two (u := u) (v1 := v1) (v0 := v0) (q1 := k) (q0 := k') (r1 := r1) (y := y') (by omega) (by rw [HD.out.split]; exact HQ1.out) HR1.out (by rw [HD.out.split]; exact HQ'.out)
                    rw [← h, hQ.out, ← HD.out.quo, ← HD.out.hv]
                  have hQl : Q < 18446744073709551616 := by
                    rw [hQ.out, Nat.div_lt_iff_lt_mul (by omega), Nat.mul_comm]
                    have : (hi + 1) * 18446744073709551616 ≤ y * 18446744073709551616 := Nat.mul_le_mul_right _ hhi
                    omega
                  have V1 : IntKind.u64.wrap ((k : Int) * 4294967296) = (kB : Int) := wrapI kB (by omega) (by omega)
                  have V2 : IntKind.u64.wrap ((kB : Int) + (k' : Int)) = (Q : Int) := wrapI Q (by omega) (by omega)
                  clear hQ2 hkB HQ' HQ1 HR1
                  go_wp2_with fail
                  go_ret2
                  exact ⟨⟨_, rfl⟩, rfl⟩
                · have K3' : decide (4294967296 ≤ (ra' : Int)) = false := decide_eq_false (by omega)
                  have hra2' : ra' < 4294967296 := by omega
                  clear hk' hra' hb3'
                  go_wp2_with fail
                  go_round
                  case rel => exact ⟨k', ra', rfl, rfl, hra2', HD2'⟩
                  case measure => simp [intOf]; omega
              · have K2' : decide ((bv' : Int) < (qb' : Int)) = false := decide_eq_false (by omega)
                have HQ' := Lib.hid (dq_end hd'.out ha hb (.inr (by rw [← hqb', ← hbr']; omega)))
                clear hqb' hbr' hbv' hd'
                obtain ⟨kB, hkB⟩ : ∃ z, z = k * 4294967296 := ⟨_, rfl⟩
                have hQ2 : k * 4294967296 + q' = Q := by
                  have h := dv_two (u := u) (v1 := v1) (v0 := v0) (q1 := k) (q0 := q') (r1 := r1) (y := y') (by omega) (by rw [HD.out.split]; exact HQ1.out) HR1.out (by rw [HD.out.split]; exact HQ'.out)
                  rw [← h, hQ.out, ← HD.out.quo, ← HD.out.hv]
                have hQl : Q < 18446744073709551616 := by
                  rw [hQ.out, Nat.div_lt_iff_lt_mul (by omega), Nat.mul_comm]
                  have : (hi + 1) * 18446744073709551616 ≤ y * 18446744073709551616 := Nat.mul_le_mul_right _ hhi
                  omega
                have V1 : IntKind.u64.wrap ((k : Int) * 4294967296) = (kB : Int) := wrapI kB (by omega) (by omega)
                have V2 : IntKind.u64.wrap ((kB : Int) + (q' : Int)) = (Q : Int) := wrapI Q (by omega) (by omega)
                clear hQ2 hkB HQ' HQ1 HR1
                go_wp2_with fail
                go_ret2
                exact ⟨⟨_, rfl⟩, rfl⟩
        · have K3 : decide (4294967296 ≤ (ra : Int)) = false := decide_eq_false (by omega)
          have hra2 : ra < 4294967296 := by omega
          clear hk hra hb3
          go_wp2_with fail
          go_round
          case rel => exact ⟨k, ra, rfl, rfl, hra2, HD2⟩
          case measure => simp [intOf]; omega
      · have K2 : decide ((bv : Int) < (qb : Int)) = false := decide_eq_false (by omega)
        have HQ := Lib.hid (dq_end hd.out ha hb (.inr (by rw [← hqb, ← hbr]; omega)))
        clear hqb hbr hbv hd
        have HQ1 := HQ
        clear HQ
        obtain ⟨r1, hr1⟩ : ∃ z, z = (u * 4294967296 + v1) % y' := ⟨_, rfl⟩
        have HR1 := Lib.hid hr1.symm
        have hr1l : r1 < y' := by rw [hr1]; exact Nat.mod_lt _ (by omega)
        obtain ⟨n1, hn1⟩ : ∃ z, z = u * 4294967296 % 18446744073709551616 := ⟨_, rfl⟩
        obtain ⟨n2, hn2⟩ : ∃ z, z = (n1 + v1) % 18446744073709551616 := ⟨_, rfl⟩
        obtain ⟨n3, hn3⟩ : ∃ z, z = q * y' % 18446744073709551616 := ⟨_, rfl⟩
        have R1 : IntKind.u64.wrap ((u : Int) * 4294967296) = (n1 : Int) := by rw [hn1, ← wrapM]; congr 1
        have R2 : IntKind.u64.wrap ((n1 : Int) + (v1 : Int)) = (n2 : Int) := by rw [hn2, ← wrapM]; congr 1
        have R3 : IntKind.u64.wrap ((q : Int) * (y' : Int)) = (n3 : Int) := by rw [hn3, ← wrapM]; congr 1
        have R4 : IntKind.u64.wrap ((n2 : Int) - (n3 : Int)) = (r1 : Int) := dv_rest hsmall (by rw [HD.out.split]; exact HQ1.out) HR1.out (by omega) n1 n2 n3 hn1 hn2 hn3
        obtain ⟨p, hp⟩ : ∃ p, p = r1 / a := ⟨_, rfl⟩
        obtain ⟨x, hx⟩ : ∃ x, x = r1 % a := ⟨_, rfl⟩
        have T2 : (r1 : Int).tdiv (a : Int) = (p : Int) := by rw [hp]; rfl
        have hsp2 := HD.out.split
        have hE0 : Dq r1 v0 a b p x := by rw [hp, hx]; exact dq_start ha hb (by omega) hv0
        have hx0 : x < a := by rw [hx]; exact Nat.mod_lt _ (by omega)
        have S1 : IntKind.u64.wrap (p : Int) = (p : Int) := wrapU p (by have := hE0.le; omega)
        obtain ⟨pa, hpa⟩ : ∃ z, z = p * a := ⟨_, rfl⟩
        have S2 : IntKind.u64.wrap ((p : Int) * (a : Int)) = (pa : Int) := wrapI pa (by rw [hpa]; push_cast; rfl) (by have := hE0.sum; omega)
        have S3 : IntKind.u64.wrap ((r1 : Int) - (pa : Int)) = (x : Int) := wrapI x (by have := hE0.sum; omega) (by omega)
        have HE0 := Lib.hid hE0
        have hr1b : r1 < a * 4294967296 + b := by omega
        clear hr1 hn1 hn2 hn3 hp hx hsp2 hE0 hpa
        go_wp2_with fail
        go_loop [18, 16] (fun s1 s2 => ∃ q r : Nat, s1 = .int .u64 q ∧ s2 = .int .u64 r ∧ r < 4294967296 ∧ Hid (Dq r1 v0 a b q r)) (fun s1 _ => (intOf s1).toNat)
        case atStart => exact ⟨p, x, rfl, rfl, by omega, HE0⟩
        case round =>
          obtain ⟨q', r', rfl, rfl, hrl', hd'⟩ := hrel
          have hql' := hd'.out.le
          by_cases hc' : 4294967296 ≤ q'
          · have K1' : decide (4294967296 ≤ (q' : Int)) = true := decide_eq_true (by omega)
            have hq1' := (dq_next hd'.out ha (by omega) hv0 (.inl hc')).1
            have HD2' := Lib.hid (dq_next hd'.out ha (by omega) hv0 (.inl hc')).2
            obtain ⟨k', hk'⟩ : ∃ k', q' = k' + 1 := ⟨q' - 1, by omega⟩
            obtain ⟨ra', hra'⟩ : ∃ z, z = r' + a := ⟨_, rfl⟩
            have X1' : IntKind.u64.wrap ((q' : Int) - 1) = (k' : Int) := wrapI k' (by omega) (by have := hd'.out.le; omega)
            have X2' : IntKind.u64.wrap ((r' : Int) + (a : Int)) = (ra' : Int) := wrapI ra' (by omega) (by omega)
            rw [← hra', show q' - 1 = k' by omega] at HD2'
            have HK' := Lib.hid hk'
            have hkq' : k' < q' := by omega
            by_cases hb3' : 4294967296 ≤ ra'
            · have K3' : decide (4294967296 ≤ (ra' : Int)) = true := decide_eq_true (by omega)
              have HQ' := Lib.hid (dq_end HD2'.out ha hb (.inl hb3'))
              have hkl' := HD2'.out.le
              clear hk' hra' HD2' hd'
              obtain ⟨kB, hkB⟩ : ∃ z, z = q * 4294967296 := ⟨_, rfl⟩
              have hQ2 : q * 4294967296 + k' = Q := by
                have h := dv_two (u := u) (v1 := v1) (v0 := v0) (q1 := q) (q0 := k') (r1 := r1) (y := y') (by omega) (by rw [HD.out.split]; exact HQ1.out) HR1.out (by rw [HD.out.split]; exact HQ'.out)
                rw [← h, hQ.out, ← HD.out.quo, ← HD.out.hv]
              have hQl : Q < 18446744073709551616 := by
                rw [hQ.out, Nat.div_lt_iff_lt_mul (by omega), Nat.mul_comm]
                have : (hi + 1) * 18446744073709551616 ≤ y * 18446744073709551616 := Nat.mul_le_mul_right _ hhi
                omega
              have V1 : IntKind.u64.wrap ((q : Int) * 4294967296) = (kB : Int) := wrapI kB (by omega) (by omega)
              have V2 : IntKind.u64.wrap ((kB : Int) + (k' : Int)) = (Q : Int) := wrapI Q (by omega) (by omega)
              clear hQ2 hkB HQ' HQ1 HR1
              go_wp2_with fail
              go_ret2
              exact ⟨⟨_, rfl⟩, rfl⟩
            · have K3' : decide (4294967296 ≤ (ra' : Int)) = false := decide_eq_false (by omega)
              have hra2' : ra' < 4294967296 := by omega
              clear hk' hra' hb3'
              go_wp2_with fail
              go_round
              case rel => exact ⟨k', ra', rfl, rfl, hra2', HD2'⟩
              case measure => simp [intOf]; omega
          · have K1' : decide (4294967296 ≤ (q' : Int)) = false := decide_eq_false (by omega)
            obtain ⟨qb', hqb'⟩ : ∃ z, z = q' * b := ⟨_, rfl⟩
            have hqb2' : qb' < 18446744073709551616 := by rw [hqb']; exact Nat.lt_of_le_of_lt (Nat.mul_le_mul (show q' ≤ 4294967296 by omega) (show b ≤ 4294967295 by omega)) (by decide)
            have Y1' : IntKind.u64.wrap ((q' : Int) * (b : Int)) = (qb' : Int) := wrapI qb' (by rw [hqb']; push_cast; rfl) hqb2'
            obtain ⟨br', hbr'⟩ : ∃ z, z = 4294967296 * r' := ⟨_, rfl⟩
            have Y2' : IntKind.u64.wrap (4294967296 * (r' : Int)) = (br' : Int) := wrapI br' (by omega) (by omega)
            obtain ⟨bv', hbv'⟩ : ∃ z, z = br' + v0 := ⟨_, rfl⟩
            have Y3' : IntKind.u64.wrap ((br' : Int) + (v0 : Int)) = (bv' : Int) := wrapI bv' (by omega) (by omega)
            by_cases hg' : bv' < qb'
            · have K2' : decide ((bv' : Int) < (qb' : Int)) = true := decide_eq_true (by omega)
              have hcc' : 4294967296 * r' + v0 < q' * b := by rw [← hqb', ← hbr']; omega
              clear hqb' hbr' hbv'
              have hq1' := (dq_next hd'.out ha (by omega) hv0 (.inr hcc')).1
              have HD2' := Lib.hid (dq_next hd'.out ha (by omega) hv0 (.inr hcc')).2
              obtain ⟨k', hk'⟩ : ∃ k', q' = k' + 1 := ⟨q' - 1, by omega⟩
              obtain ⟨ra', hra'⟩ : ∃ z, z = r' + a := ⟨_, rfl⟩
              have X1' : IntKind.u64.wrap ((q' : Int) - 1) = (k' : Int) := wrapI k' (by omega) (by have := hd'.out.le; omega)
              have X2' : IntKind.u64.wrap ((r' : Int) + (a : Int)) = (ra' : Int) := wrapI ra' (by omega) (by omega)
              rw [← hra', show q' - 1 = k' by omega] at HD2'
              have HK' := Lib.hid hk'
              have hkq' : k' < q' := by omega
              by_cases hb3' : 4294967296 ≤ ra'
              · have K3' : decide (4294967296 ≤ (ra' : Int)) = true := decide_eq_true (by omega)
                have HQ' := Lib.hid (dq_end HD2'.out ha hb (.inl hb3'))
                have hkl' := HD2'.out.le
                clear hk' hra' HD2' hd'
                obtain ⟨kB, hkB⟩ : ∃ z, z = q * 4294967296 := ⟨_, rfl⟩
                have hQ2 : q * 4294967296 + k' = Q := by
                  have h := dv_two (u := u) (v1 := v1) (v0 := v0) (q1 := q) (q0 := k') (r1 := r1) (y := y') (by omega) (by rw [HD.out.split]; exact HQ1.out) HR1.out (by rw [HD.out.split]; exact HQ'.out)
                  rw [← h, hQ.out, ← HD.out.quo, ← HD.out.hv]
                have hQl : Q < 18446744073709551616 := by
                  rw [hQ.out, Nat.div_lt_iff_lt_mul (by omega), Nat.mul_comm]
                  have : (hi + 1) * 18446744073709551616 ≤ y * 18446744073709551616 := Nat.mul_le_mul_right _ hhi
                  omega
                have V1 : IntKind.u64.wrap ((q : Int) * 4294967296) = (kB : Int) := wrapI kB (by omega) (by omega)
                have V2 : IntKind.u64.wrap ((kB : Int) + (k' : Int)) = (Q : Int) := wrapI Q (by omega) (by omega)
                clear hQ2 hkB HQ' HQ1 HR1
                go_wp2_with fail
                go_ret2
                exact ⟨⟨_, rfl⟩, rfl⟩
              · have K3' : decide (4294967296 ≤ (ra' : Int)) = false := decide_eq_false (by omega)
                have hra2' : ra' < 4294967296 := by omega
                clear hk' hra' hb3'
                go_wp2_with fail
                go_round
                case rel => exact ⟨k', ra', rfl, rfl, hra2', HD2'⟩
                case measure => simp [intOf]; omega
            · have K2' : decide ((bv' : Int) < (qb' : Int)) = false := decide_eq_false (by omega)
              have HQ' := Lib.hid (dq_end hd'.out ha hb (.inr (by rw [← hqb', ← hbr']; omega)))
              clear hqb' hbr' hbv' hd'
              obtain ⟨kB, hkB⟩ : ∃ z, z = q * 4294967296 := ⟨_, rfl⟩
              have hQ2 : q * 4294967296 + q' = Q := by
                have h := dv_two (u := u) (v1 := v1) (v0 := v0) (q1 := q) (q0 := q') (r1 := r1) (y := y') (by omega) (by rw [HD.out.split]; exact HQ1.out) HR1.out (by rw [HD.out.split]; exact HQ'.out)
                rw [← h, hQ.out, ← HD.out.quo, ← HD.out.hv]
              have hQl : Q < 18446744073709551616 := by
                rw [hQ.out, Nat.div_lt_iff_lt_mul (by omega), Nat.mul_comm]
                have : (hi + 1) * 18446744073709551616 ≤ y * 18446744073709551616 := Nat.mul_le_mul_right _ hhi
                omega
              have V1 : IntKind.u64.wrap ((q : Int) * 4294967296) = (kB : Int) := wrapI kB (by omega) (by omega)
              have V2 : IntKind.u64.wrap ((kB : Int) + (q' : Int)) = (Q : Int) := wrapI Q (by omega) (by omega)
              clear hQ2 hkB HQ' HQ1 HR1
              go_wp2_with fail
              go_ret2
              exact ⟨⟨_, rfl⟩, rfl⟩
end Go.Proofs.Ytefoccjphbbmhaa
