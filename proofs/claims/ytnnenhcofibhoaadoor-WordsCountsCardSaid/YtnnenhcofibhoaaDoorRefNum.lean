/- The reference's Natural, Show, Number. -/
import Derived.Test.YtnnenhcofibhoaaDoorNum
namespace Go.Proofs.YtnnenhcofibhoaaDoor
open Go.RowKit
set_option linter.unusedVariables false
attribute [local go_sem] mk_get mk_append mk_extract

theorem str_one (w : World) (b : UInt8) (v : Int) (hv : v = (b.toNat : Int)) : (convert 55 9 (.slice (some ⟨w.heap.size, 0, none⟩) 1 1)).run Tryd.prog (w.alloc (.cells #[.int .u8 v] 5)) = .ok (.string ⟨#[b]⟩) (w.alloc (.cells #[.int .u8 v] 5)) := by
  subst hv
  exact str_bytes (l := [b]) (rf_one (f := bv) w b 5)

theorem dig_int (m : Nat) (h : m < 10) : (48 + (m : Int)) = (((UInt8.ofNat (48 + m)).toNat : Nat) : Int) := by rw [dig_toNat h]; omega
/-- What stands ahead of the digits that are laid. -/
def aheadD (m : Nat) : List UInt8 := if m < 10 then [] else Lib.decDigits (m / 10)
theorem ahead_big {m : Nat} (h : ¬ m < 10) : aheadD m = aheadD (m / 10) ++ [UInt8.ofNat (48 + m / 10 % 10)] := by
  unfold aheadD
  rw [if_neg h]
  by_cases h2 : m / 10 < 10
  · rw [if_pos h2, decDigits_small h2, Nat.mod_eq_of_lt h2]; rfl
  · rw [if_neg h2, decDigits_big h2]
theorem ahead_all (m : Nat) : Lib.decDigits m = aheadD m ++ [UInt8.ofNat (48 + m % 10)] := by
  unfold aheadD
  by_cases h : m < 10
  · rw [if_pos h, decDigits_small h, Nat.mod_eq_of_lt h]; rfl
  · rw [if_neg h, decDigits_big h]

theorem decDigits_len : ∀ (k u : Nat), u < 10 ^ (k + 1) → (Lib.decDigits u).length ≤ k + 1
  | 0, u, h => by rw [decDigits_small (by simpa using h)]; simp
  | k + 1, u, h => by
    by_cases h10 : u < 10
    · rw [decDigits_small h10]; simp
    · rw [Nat.pow_succ] at h
      have := decDigits_len k (u / 10) (by omega)
      rw [decDigits_big h10, List.length_append]
      simp
      omega

set_option maxRecDepth 100000 in
set_option maxHeartbeats 1000000 in
theorem natural_any (n : Nat) (w : World) (hn : n < 18446744073709551616) :
    Calls Tryd.prog 37 #[.int .u64 n] w fun e w' => e = .returned (.string ⟨(Lib.decDigits n).toArray⟩) ∧ Below w.heap.size w w' := by
  obtain ⟨b, hb⟩ : ∃ b, b = UInt8.ofNat (48 + n % 10) := ⟨_, rfl⟩
  have kc := str_one w b (48 + (n : Int) % 10) (by rw [hb, ← dig_int _ (by omega)]; omega)
  have HA := Lib.hid (ahead_all n)
  have HB := Lib.hid hb
  have HN := Lib.hid hn
  have HL := Lib.hid (decDigits_len 19 n (by omega))
  clear hn hb
  go_enter Tryd.func37, Tryd.ntmps37
  go_wp2_with fail
  go_loopw [0, 3] (fun v o wr => ∃ (m : Nat) (out : List UInt8), v = .int .u64 m ∧ o = .string ⟨out.toArray⟩ ∧ Hid (Lib.decDigits n = aheadD m ++ out) ∧ out.length + m ≤ n + 1 ∧ Below w.heap.size w wr) (fun v _ _ => (intOf v).toNat)
  case atStart => exact ⟨n, [b], rfl, rfl, by show _ = _; rw [HA.out, HB.out], by simp; omega, below_new w _⟩
  case round =>
    obtain ⟨m, out, rfl, rfl, hd, hlen, hbl⟩ := hrel
    clear kc
    by_cases hm : m < 10
    · have hi : ¬ (10 : Int) ≤ m := by omega
      have HF : Hid (Lib.decDigits n = out) := by
        show _ = _
        rw [hd.out]
        unfold aheadD
        rw [if_pos hm]
        rfl
      clear hm
      go_wp2_with fail
      go_ret
      exact ⟨by rw [HF.out]; rfl, hbl⟩
    · have hi : (10 : Int) ≤ m := by omega
      obtain ⟨d, hdd⟩ : ∃ d, d = UInt8.ofNat (48 + m / 10 % 10) := ⟨_, rfl⟩
      have kc := str_one wr d (48 + (m : Int) / 10 % 10) (by rw [hdd, ← dig_int _ (by omega)]; omega)
      have HM := Lib.hid (ahead_big hm)
      have HD := Lib.hid hdd
      have hol : out.length ≤ 20 := by
        have h1 := congrArg List.length hd.out
        have h2 := HL.out
        rw [List.length_append] at h1
        omega
      have HML : Hid (m / 10 < m) := by show _ < _; omega
      have hmq : (m : Int) / 10 ≤ 1844674407370955161 := by have := HN.out; omega
      have hmq0 : 0 ≤ (m : Int) / 10 := by omega
      have HLN := Lib.hid hlen
      clear hdd hm hlen
      go_wp2_with fail
      go_roundw
      case rel => exact ⟨m / 10, d :: out, by go_num, rfl, by show _ = _; rw [hd.out, HM.out, HD.out, List.append_assoc]; rfl, by have := HML.out; have := HLN.out; simp; omega, hbl.alloc hbl.size _⟩
      case measure => have := HML.out; simp [intOf]; omega

set_option maxRecDepth 100000 in
set_option maxHeartbeats 1000000 in
theorem refShow_any (n : Int) (w : World) (h0 : -9223372036854775808 ≤ n) (h1 : n ≤ 9223372036854775807) :
    Calls Tryd.prog 21 #[.int .i64 n] w fun e w' => e = .returned (.string ⟨(Lib.itoa n).toArray⟩) ∧ Below w.heap.size w w' := by
  by_cases hn : n < 0
  · obtain ⟨m, hm⟩ : ∃ m : Nat, m = n.natAbs := ⟨_, rfl⟩
    have hml := decDigits_len 19 m (by omega)
    have e : Lib.itoa n = 45 :: Lib.decDigits m := by unfold Lib.itoa; rw [if_pos hn, hm]
    have HE := Lib.hid e
    have hni : n = -(m : Int) := by omega
    subst hni
    have hmp : m ≤ 9223372036854775808 := by omega
    have HM := Lib.hid hmp
    clear h0 h1 e hm hmp
    go_enter Tryd.func21, Tryd.ntmps21
    go_wp2_with fail
    have hwr : IntKind.u64.wrap (-IntKind.u64.wrap (-(m : Int))) = m := by
      show (-((-(m : Int)) % 18446744073709551616)) % 18446744073709551616 = m
      have := HM.out
      omega
    rw [hwr]
    clear hwr
    refine (natural_any m _ (by have := HM.out; omega)).mono ?_
    rintro e w' ⟨rfl, hb⟩
    go_wp2_with fail
    go_ret
    rw [HE.out]
    exact ⟨rfl, hb⟩
  · obtain ⟨m, rfl⟩ := Int.eq_ofNat_of_zero_le (show 0 ≤ n by omega)
    have e : Lib.itoa (m : Int) = Lib.decDigits m := by unfold Lib.itoa; rw [if_neg hn, Int.toNat_natCast]
    have HE := Lib.hid e
    have HM := Lib.hid (show m < 18446744073709551616 by omega)
    clear h0 e
    go_enter Tryd.func21, Tryd.ntmps21
    go_wp2_with fail
    refine (natural_any m _ HM.out).mono ?_
    rintro e w' ⟨rfl, hb⟩
    go_wp2_with fail
    go_ret
    rw [HE.out]
    exact ⟨rfl, hb⟩
end Go.Proofs.YtnnenhcofibhoaaDoor
