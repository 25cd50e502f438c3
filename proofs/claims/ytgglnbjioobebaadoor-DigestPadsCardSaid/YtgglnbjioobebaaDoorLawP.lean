/- DigestPads. -/
import Derived.Test.YtgglnbjioobebaaDoorLawF
namespace Go.Proofs.YtgglnbjioobebaaDoor
open Go.RowKit
set_option linter.unusedVariables false

theorem padB_mid (l : List UInt8) : (padB l)[l.length]? = some 128 := by
  unfold padB
  rw [List.getElem?_append_right (Nat.le_refl _), Nat.sub_self]; rfl
theorem padB_lenZ (l : List UInt8) : (padB l).length = l.length + 1 + zlen l.length + 8 := by
  unfold padB
  simp only [List.length_append, List.length_cons, List.length_replicate, beN_len]
  omega
theorem padB_zero (l : List UInt8) {j : Nat} (h1 : l.length < j) (h2 : j + 8 < (padB l).length) : (padB l)[j]? = some 0 := by
  rw [padB_lenZ] at h2
  unfold padB
  rw [List.getElem?_append_right (by omega), show j - l.length = (j - l.length - 1) + 1 by omega, List.getElem?_cons_succ, List.getElem?_append_left (by rw [List.length_replicate]; omega), List.getElem?_replicate]
  rw [if_pos (by omega)]
theorem padB_bits (l : List UInt8) {k : Nat} (h : k < 8) : (padB l)[(padB l).length - 8 + k]? = some (UInt8.ofNat (8 * l.length / 2 ^ (8 * (7 - k)))) := by
  rw [padB_lenZ]
  unfold padB
  rw [List.getElem?_append_right (by omega), show l.length + 1 + zlen l.length + 8 - 8 + k - l.length = (zlen l.length + k) + 1 by omega, List.getElem?_cons_succ, List.getElem?_append_right (by rw [List.length_replicate]; omega), List.length_replicate, Nat.add_sub_cancel_left]
  rw [List.getElem?_eq_getElem (by rw [beN_len]; exact h), beN_get 8 _ h]
theorem padB_front (l : List UInt8) : seg (padB l) 0 l.length = l := by
  unfold seg padB
  simp
theorem bits_step (n k : Nat) (h : k < 8) : n / 2 ^ (8 * (8 - (k + 1))) = n / 2 ^ (8 * (8 - k)) * 256 + n / 2 ^ (8 * (7 - k)) % 256 := by
  have e : 8 - k = (7 - k) + 1 := by omega
  have e1 : 8 - (k + 1) = 7 - k := by omega
  rw [e1, e, Nat.mul_add, Nat.pow_add, ← Nat.div_div_eq_div_mul]
  generalize n / 2 ^ (8 * (7 - k)) = m
  omega

set_option maxHeartbeats 1000000 in
theorem digestPads_any (A : Option Addr) (c : Nat) (l : List UInt8) (w : World) (hr : Rf bv w w.heap.size A c l) (hT : Tab w) :
    Calls Tryd.prog 9 #[.slice A l.length c] w fun e w' => e = .returned (.bool true) ∧ Below w.heap.size w w' := by
  have HT := Lib.hid hT
  clear hT
  by_cases hbig : 8192 < l.length
  · have hbd : (8192 : Int) < (l.length : Int) := by omega
    go_enter Tryd.func9, Tryd.ntmps9
    go_wp2_with fail
    refine (alive_any w HT.out).mono ?_
    rintro e w1 ⟨rfl, hb1⟩
    go_wp2_with fail
    go_ret
    exact ⟨rfl, hb1⟩
  · have HMP := Lib.hid (show padM l = (padB l, 0) by unfold padM; rw [if_neg hbig])
    have hbd : decide ((8192 : Int) < (l.length : Int)) = false := by simp; omega
    go_enter Tryd.func9, Tryd.ntmps9
    go_wp2_with fail
    refine (alive_any w HT.out).mono ?_
    rintro e w1 ⟨rfl, hb1⟩
    go_wp2_with fail
    refine (padX_any A c w.heap.size l w1 (hr.below hb1) hb1.size (by omega)).mono ?_
    rintro e w2 ⟨A2, c2, rfl, hp2, hb2⟩
    rw [HMP.out] at hp2 ⊢
    have hbw2 := hb1.trans (hb2.mono hb1.size)
    have hr2 := hr.below hbw2
    clear hb1 hb2
    have hpl : (padB l).length = l.length + 1 + zlen l.length + 8 := padB_lenZ l
    have hp64 := padB_len l
    have HM := Lib.hid (padB_mid l)
    have HZ := Lib.hid (fun j => @padB_zero l j)
    have HBI := Lib.hid (fun k => @padB_bits l k)
    have HFR := Lib.hid (padB_front l)
    obtain ⟨p, hpe⟩ : ∃ p, p = padB l := ⟨_, rfl⟩
    simp only [← hpe] at hp2 hpl hp64 HM HZ HBI HFR ⊢
    clear hpe
    obtain ⟨N, hN⟩ : ∃ N, N = p.length := ⟨_, rfl⟩
    have hNb : l.length + 9 ≤ N := by omega
    have hNm : ((N : Int)).tmod 64 = 0 := by rw [Int.tmod_eq_emod_of_nonneg (by omega)]; omega
    have hNm2 : ((N : Int)) % 64 = 0 := by omega
    have hNt : N ≤ l.length + 72 := by omega
    have hNs : N ≤ 8264 := by omega
    obtain ⟨b, o, rfl, hbb, hc⟩ := hp2.at_ (k := 0) (by omega)
    have hcap := hp2.cap
    have hcm := hp2.capm
    unfold maxLen at hcm
    have hfr := hp2.piece 0 l.length (by omega)
    rw [HFR.out, Nat.add_zero, Nat.sub_zero] at hfr
    have hk1 : ∀ n, (convert 26 9 (.slice (some ⟨b, o, none⟩) l.length c2)).run Tryd.prog (w2.drewN n) = .ok (.string ⟨l.toArray⟩) (w2.drewN n) := fun n => run_string_f (P := Tryd.prog) (w2.drewN n) 26 9 5 Tryd.underlying26 Tryd.underlying5 Tryd.underlying9 (hfr.drewN n)
    have hk2 : ∀ n, (convert 26 9 (.slice A l.length c)).run Tryd.prog (w2.drewN n) = .ok (.string ⟨l.toArray⟩) (w2.drewN n) := fun n => run_string_f (P := Tryd.prog) (w2.drewN n) 26 9 5 Tryd.underlying26 Tryd.underlying5 Tryd.underlying9 (hr2.drewN n)
    have HC := Lib.hid (show ∀ (j : Nat) (x : UInt8), p[j]? = some x → w2.cell? ⟨b, o + j, none⟩ = some (bv x) from fun j x hx => by
      obtain ⟨hj, rfl⟩ := List.getElem?_eq_some_iff.1 hx
      exact hc j hj)
    have hmid := HC.out _ _ HM.out
    rw [show bv 128 = .int .u8 128 from rfl] at hmid
    have HB := Lib.hid hbw2
    have HBI2 := Lib.hid (show ∀ k i : Nat, k < 8 → i + 8 = N + k → p[i]? = some (UInt8.ofNat (8 * l.length / 2 ^ (8 * (7 - k)))) from fun k i h1 h2 => by have := HBI.out k h1; rwa [show p.length - 8 + k = i by omega] at this)
    have HZ2 := Lib.hid (show ∀ j : Nat, l.length < j → j + 8 < N → p[j]? = some 0 from fun j h1 h2 => HZ.out j h1 (by omega))
    clear HBI HZ
    rw [← hN] at *
    have hw72 : IntKind.i64.wrap ((l.length : Int) + 72) = (l.length : Int) + 72 := by rw [IntKind.wrap_i64]; omega
    have hd72 : decide ((l.length : Int) + 72 < (N : Int)) = false := by simp; omega
    have hlc : (l.length : Int) ≤ (c2 : Int) := by omega
    have hlN : (l.length : Int) < (N : Int) := by omega
    have hlN2 : l.length < N := by omega
    have hl0 : (0 : Int) ≤ (l.length : Int) := by omega
    clear hc hp2 hr2 hfr hbw2 hp64 hpl
    go_wp2_with fail
    go_quiet (fail)
    go_wp2_with fail
    go_loop [7] (fun i => ∃ j : Nat, l.length + 1 ≤ j ∧ j + 8 ≤ N ∧ i = .int .i64 j) (fun i => N - (intOf i).toNat)
    case atStart => exact ⟨l.length + 1, by omega, by omega, by go_num⟩
    case round =>
      obtain ⟨j, hj1, hj2, rfl⟩ := hrel
      by_cases hj8 : j + 8 = N
      · go_wp2_with fail
        go_loop [8, 9] (fun x i => ∃ k bt i' : Nat, k ≤ 8 ∧ i' + 8 = N + k ∧ Hid (bt = 8 * l.length / 2 ^ (8 * (8 - k))) ∧ bt ≤ 65536 ∧ x = .int .i64 bt ∧ i = .int .i64 i') (fun _ i => N - (intOf i).toNat)
        case atStart => exact ⟨0, 0, N - 8, by omega, by omega, (show _ = _ by rw [show 2 ^ (8 * (8 - 0)) = 18446744073709551616 by decide]; omega), by omega, rfl, by go_num⟩
        case round =>
          obtain ⟨k, bt, i', hk, hik, hbt, hbl, rfl, rfl⟩ := hrel
          by_cases hk8 : k = 8
          · subst hk8
            have hiN : i' = N := by omega
            have hbe : bt = 8 * l.length := by have := hbt.out; simpa using this
            subst hbe
            go_wp2_with fail
            go_ret
            exact ⟨by simp, HB.out.trans (below_drewN _ _ _)⟩
          · have hk7 : k < 8 := by omega
            have hcx := HC.out i' _ (HBI2.out k i' hk7 hik)
            have hbs := bits_step (8 * l.length) k hk7
            rw [← hbt.out] at hbs
            have hbe2 : 8 * l.length / 2 ^ (8 * (8 - (k + 1))) ≤ 65536 := Nat.le_trans (Nat.div_le_self _ _) (by omega)
            obtain ⟨x, hx⟩ : ∃ x, x = UInt8.ofNat (8 * l.length / 2 ^ (8 * (7 - k))) := ⟨_, rfl⟩
            have hxn : x.toNat = 8 * l.length / 2 ^ (8 * (7 - k)) % 256 := by rw [hx, u8_mod]
            rw [← hx] at hcx
            rw [← hxn] at hbs
            have hx8 := u8_lt x
            simp only [bv] at hcx
            have HBS := Lib.hid hbs
            have hb3 : bt * 256 + x.toNat ≤ 65536 := by omega
            clear hx hxn hbs hbe2
            go_wp2_with fail
            go_round
            case rel => exact ⟨k + 1, bt * 256 + x.toNat, i' + 1, by omega, by omega, HBS.out.symm, hb3, by go_num, by go_num⟩
            case measure => simp [intOf]; omega
      · have hcx := HC.out _ _ (HZ2.out j (by omega) (by omega))
        rw [show bv 0 = .int .u8 0 from rfl] at hcx
        go_wp2_with fail
        go_round
        case rel => exact ⟨j + 1, by omega, by omega, by go_num⟩
        case measure => simp [intOf]; omega
end Go.Proofs.YtgglnbjioobebaaDoor
