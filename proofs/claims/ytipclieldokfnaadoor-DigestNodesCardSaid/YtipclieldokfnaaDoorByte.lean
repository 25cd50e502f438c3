/- Bytes to words and back: digest's takeWord and putInteger, the reference's word. -/
import Derived.Test.YtipclieldokfnaaDoorArr
namespace Go.Proofs.YtipclieldokfnaaDoor
open Go.RowKit
set_option linter.unusedVariables false

theorem or_byte (x : Nat) (b : UInt8) (hx : x < 16777216) : bits .or .u32 ((x : Int) * 256 % 4294967296) (b.toNat : Int) = ((x * 256 + b.toNat : Nat) : Int) := by
  have hb := u8_lt b
  have e : ((x : Int) * 256 % 4294967296) = ((x * 256 : Nat) : Int) := by omega
  rw [e, u32_or_nat _ _ (by omega) (by omega), nat_join 8 _ _ (by omega) (by omega)]
theorem word_or (a b c d : UInt8) : bits .or .u32 (bits .or .u32 (bits .or .u32 ((a.toNat : Int) * 16777216) ((b.toNat : Int) * 65536)) ((c.toNat : Int) * 256)) (d.toNat : Int) = ((num [a, b, c, d] : Nat) : Int) := by
  have ha := u8_lt a
  have hb := u8_lt b
  have hc := u8_lt c
  have hd := u8_lt d
  have e1 : ((a.toNat : Int) * 16777216) = ((a.toNat * 16777216 : Nat) : Int) := by omega
  have e2 : ((b.toNat : Int) * 65536) = ((b.toNat * 65536 : Nat) : Int) := by omega
  have e3 : ((c.toNat : Int) * 256) = ((c.toNat * 256 : Nat) : Int) := by omega
  rw [e1, e2, e3, u32_or_nat _ _ (by omega) (by omega), nat_join 24 _ _ (by rw [show (2 : Nat) ^ 24 = 16777216 from rfl]; omega) (by rw [show (2 : Nat) ^ 24 = 16777216 from rfl]; omega), u32_or_nat _ _ (by omega) (by omega), nat_join 16 _ _ (by rw [show (2 : Nat) ^ 16 = 65536 from rfl]; omega) (by rw [show (2 : Nat) ^ 16 = 65536 from rfl]; omega), u32_or_nat _ _ (by omega) (by omega), nat_join 8 _ _ (by omega) (by omega), num_four]
  omega

set_option maxHeartbeats 400000 in
theorem takeWord_any (A : Option Addr) (c B : Nat) (l : List UInt8) (w : World) (hr : Rf bv w B A c l) (hl : 4 ≤ l.length) (hm : l.length ≤ 1000000) :
    Calls Tryd.prog 76 #[.slice A l.length c] w fun e w' => e = .returned (.int .u32 ((wordAt l 0).toNat : Int)) ∧ w = w' := by
  obtain ⟨b, o, rfl, hb, hc⟩ := hr.at_ (k := 0) (by omega)
  have hW := Lib.hid (wordAt_toNat l 0)
  have hcap := hr.cap
  have hcm := hr.capm
  unfold maxLen at hcm
  go_enter Tryd.func76, Tryd.ntmps76
  go_wp2_with fail
  go_loop [3, 5] (fun x i => ∃ k : Nat, k ≤ 4 ∧ i = .int .i64 k ∧ x = .int .u32 (num (l.take k) : Nat)) (fun _ i => 4 - (intOf i).toNat)
  case atStart => exact ⟨0, by omega, rfl, rfl⟩
  case round =>
    obtain ⟨k, hk, rfl, rfl⟩ := hrel
    by_cases h4 : k = 4
    · subst h4
      have HZ := Lib.hid (show num (l.take 4) = (wordAt l 0).toNat by rw [hW.out]; rfl)
      go_wp2_with fail
      go_ret
      rw [HZ.out]
      exact ⟨rfl, rfl⟩
    · have hj : k < l.length := by omega
      have hcj := hc k hj
      unfold bv at hcj
      have hb8 := u8_lt l[k]
      have HB := Lib.hid (show num (l.take k) < 16777216 by
        refine Nat.lt_of_lt_of_le (num_lt _) ?_
        have : (l.take k).length ≤ 3 := by rw [List.length_take]; omega
        exact Nat.le_trans (Nat.pow_le_pow_right (by decide) this) (by decide))
      have HN := Lib.hid (show num (l.take (k + 1)) = num (l.take k) * 256 + (l[k]).toNat by rw [List.take_succ_eq_append_getElem hj, num_snoc])
      clear hc
      go_wp2_with fail
      go_round
      case rel => exact ⟨k + 1, by omega, by go_num, by rw [or_byte _ _ HB.out, HN.out]⟩
      case measure => simp [intOf]; omega

set_option maxHeartbeats 400000 in
theorem word_any (A : Option Addr) (c B at_ : Nat) (l : List UInt8) (w : World) (hr : Rf bv w B A c l) (hl : at_ + 4 ≤ l.length) (hm : l.length ≤ 1000000) :
    Calls Tryd.prog 69 #[.slice A l.length c, .int .i64 at_] w fun e w' => e = .returned (.int .u32 ((wordAt l at_).toNat : Int)) ∧ ∃ q, w' = w.drewN q := by
  obtain ⟨b, o, rfl, hb, hc⟩ := hr.at_ (k := 0) (by omega)
  have hW := Lib.hid (wordAt_toNat l at_)
  have hS := Lib.hid (seg_four hl)
  have hcap := hr.cap
  have hcm := hr.capm
  unfold maxLen at hcm
  have c0 := hc at_ (by omega)
  have c1 := hc (at_ + 1) (by omega)
  have c2 := hc (at_ + 2) (by omega)
  have c3 := hc (at_ + 3) (by omega)
  unfold bv at c0 c1 c2 c3
  have b0 := u8_lt l[at_]
  have b1 := u8_lt l[at_ + 1]
  have b2 := u8_lt l[at_ + 2]
  have b3 := u8_lt l[at_ + 3]
  clear hc
  go_enter Tryd.func69, Tryd.ntmps69
  go_wp2_with fail
  go_quiet (fail)
  go_wp2_with fail
  go_ret
  refine ⟨congrArg (fun n => Ending.returned (.int .u32 n)) ?_, _, rfl⟩
  rw [hW.out, hS.out]
  exact word_or _ _ _ _

set_option maxHeartbeats 400000 in
theorem putInteger_any (g t o k c n : Nat) (L : List UInt8) (w : World) (hL : Hb bv w g t L) (hk : o + k ≤ L.length) (hk8 : k ≤ 8) (hc : k ≤ c) (hcm : c ≤ 1000000000) (hn : n < 18446744073709551616) (hl : L.length ≤ 1000000) :
    Calls Tryd.prog 63 #[.slice (some ⟨g, o, none⟩) k c, .int .u64 n] w fun e w' => (∃ v, e = .returned v) ∧ Hb bv w' g t (put L o (beN k n)) ∧ w.grownBy w' (some g) := by
  go_enter Tryd.func63, Tryd.ntmps63
  go_wp2_with fail
  go_loopw [7] (fun i wr => ∃ j : Nat, j ≤ k ∧ i = .int .i64 j ∧ Hid (Hb bv wr g t (put L o ((beN k n).take j))) ∧ Hid (w.grownBy wr (some g))) (fun i _ => k - (intOf i).toNat)
  case atStart => exact ⟨0, by omega, rfl, by rw [List.take_zero, put_nil]; exact hL, grown_refl _ _⟩
  case round =>
    obtain ⟨j, hj, rfl, hH, hG⟩ := hrel
    by_cases hjk : j = k
    · subst hjk
      have HZ := Lib.hid (show put L o ((beN j n).take j) = put L o (beN j n) by rw [List.take_of_length_le (by rw [beN_len]; omega)])
      go_wp2_with fail
      exact ⟨rfl, _, results_none rfl _ _ _, ⟨_, rfl⟩, by rw [← HZ.out]; exact hH.out, hG.out⟩
    · have hcell := hH.out.cell (i := o + j) (by rw [put_len (by rw [List.length_take, beN_len]; omega)]; omega)
      have hfr := hH.out.frozen (o + j)
      have HV := Lib.hid (show Value.int .u8 ((n : Int) / 2 ^ (8 * (k - 1 - j)) % 256) = bv ((beN k n)[j]'(by rw [beN_len]; omega)) by
        unfold bv
        rw [beN_get k n (by omega), u8_mod]
        simp)
      go_wp2_with fail
      go_roundw
      case rel =>
        refine ⟨j + 1, by omega, by go_num, ?_, grown_setCell hG.out _ _⟩
        have h := hH.out.set_ (o + j) _ _ HV.out
        rw [put_step (by rw [beN_len]; exact hk) (by rw [beN_len]; omega)] at h
        exact h
      case measure => simp [intOf]; omega
end Go.Proofs.YtipclieldokfnaaDoor
