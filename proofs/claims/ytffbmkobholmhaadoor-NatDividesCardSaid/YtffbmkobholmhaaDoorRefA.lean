/- The reference's Both, less, Cmp, Word, at, Trim. -/
import Derived.Test.YtffbmkobholmhaaDoorCall
namespace Go.Proofs.YtffbmkobholmhaaDoor
open Go.RowKit
set_option linter.unusedVariables false

set_option maxHeartbeats 400000 in
theorem rboth_any (A1 A2 : Option Addr) (c1 c2 B1 B2 : Nat) (a b : List UInt32) (w : World) (hr1 : Rf uv w B1 A1 c1 a) (hr2 : Rf uv w B2 A2 c2 b) :
    Calls Tryd.prog 42 #[.slice A1 a.length c1, .slice A2 b.length c2] w fun e w' => e = .returned (.int .i64 (chk2 a b)) ∧ w = w' := by
  by_cases h : chk a = 0
  · have HC := Lib.hid (show chk2 a b = chk b by unfold chk2; rw [if_pos h])
    have HA := Lib.hid h
    clear h
    go_enter Tryd.func42, Tryd.ntmps42
    go_wp2_with fail
    refine (rcheck_any A1 c1 B1 a w hr1).mono ?_
    rintro e w' ⟨rfl, rfl⟩
    rw [HA.out]
    go_wp2_with fail
    refine (rcheck_any A2 c2 B2 b w hr2).mono ?_
    rintro e w' ⟨rfl, rfl⟩
    go_wp2_with fail
    go_ret
    exact ⟨by rw [HC.out]; rfl, rfl⟩
  · have HC := Lib.hid (show chk2 a b = chk a by unfold chk2; rw [if_neg h])
    have hb : (chk a != 0) = true := by simpa using h
    clear h
    go_enter Tryd.func42, Tryd.ntmps42
    go_wp2_with fail
    refine (rcheck_any A1 c1 B1 a w hr1).mono ?_
    rintro e w' ⟨rfl, rfl⟩
    go_wp2_with fail
    go_ret
    exact ⟨by rw [HC.out]; rfl, rfl⟩

set_option maxHeartbeats 1000000 in
theorem rless_any (A1 A2 : Option Addr) (c1 c2 B1 B2 : Nat) (m n : Nat) (w : World) (hr1 : Rf uv w B1 A1 c1 (limbs m)) (hr2 : Rf uv w B2 A2 c2 (limbs n)) (h1 : (limbs m).length ≤ 1000000) (h2 : (limbs n).length ≤ 1000000) :
    Calls Tryd.prog 43 #[.slice A1 (limbs m).length c1, .slice A2 (limbs n).length c2] w fun e w' => e = .returned (.bool (decide (m < n))) ∧ ∃ q, w' = w.drewN q := by
  by_cases hlen : (limbs m).length = (limbs n).length
  · obtain ⟨L, hL⟩ : ∃ L, L = limbs m := ⟨_, rfl⟩
    obtain ⟨M, hM⟩ : ∃ M, M = limbs n := ⟨_, rfl⟩
    rw [← hL] at hr1 h1 hlen ⊢
    rw [← hM] at hr2 h2 hlen ⊢
    have hvm : val L = m := by rw [hL, val_limbs]
    have hvn : val M = n := by rw [hM, val_limbs]
    rw [← hvm, ← hvn]
    have HLen := Lib.hid hlen
    have hle1 : L.length ≤ M.length := Nat.le_of_eq hlen
    have hle2 : M.length ≤ L.length := Nat.le_of_eq hlen.symm
    rw [← hlen]
    have hcap := hr1.cap
    have hcap2 := hr2.cap
    have hcm := hr1.capm
    unfold maxLen at hcm
    clear hL hM hvm hvn hlen
    go_enter Tryd.func43, Tryd.ntmps43
    go_wp2_with fail
    go_loopw [5] (fun i wr => ∃ k q : Nat, k ≤ L.length ∧ i = .int .i64 ((k : Int) - 1) ∧ Hid (L.drop k = M.drop k) ∧ Hid (wr = w.drewN q)) (fun i _ => (intOf i + 1).toNat)
    case atStart => exact ⟨L.length, 0, Nat.le_refl _, rfl, (show L.drop L.length = M.drop L.length by rw [List.drop_of_length_le (Nat.le_refl _), List.drop_of_length_le (by omega)]), rfl⟩
    case round =>
      obtain ⟨k, q, hk, rfl, hd, hw⟩ := hrel
      by_cases h0 : k = 0
      · subst h0
        have HZ := Lib.hid (show decide (val L < val M) = false by have e := hd.out; simp at e; rw [e]; simp)
        go_wp2_with fail
        go_ret
        exact ⟨by rw [HZ.out]; rfl, q, hw.out⟩
      · obtain ⟨j, rfl⟩ : ∃ j, k = j + 1 := ⟨k - 1, by omega⟩
        have hj : j < L.length := by omega
        have hj2 : j < M.length := by omega
        obtain ⟨b1, o1, rfl, hb1, hc1⟩ := hr1.at_ hj
        obtain ⟨b2, o2, rfl, hb2, hc2⟩ := hr2.at_ hj2
        have hcj1 := hc1 j hj
        have hcj2 := hc2 j hj2
        unfold uv at hcj1 hcj2
        obtain rfl := hw.out
        have hi0 : (0 : Int) ≤ (j : Int) := by omega
        have hi1 : (j : Int) < (L.length : Int) := by omega
        have hi2 : (j : Int) < (M.length : Int) := by omega
        clear hc1 hc2
        by_cases hx : L[j] = M[j]
        · have HN : Hid (L.drop j = M.drop j) := by
            show L.drop j = M.drop j
            rw [List.drop_eq_getElem_cons hj, List.drop_eq_getElem_cons hj2, hd.out, hx]
          have HX : ((((L[j]).toNat : Int)) != ((M[j]).toNat : Int)) = false := by rw [hx]; simp
          clear hx
          go_wp2_with fail
          go_quiet (fail)
          go_wp2_with fail
          go_roundw
          case rel => exact ⟨j, q + nq, by omega, by go_num, HN, by simp [Hid]⟩
          case measure => simp [intOf]
        · have hx2 : (L[j]).toNat ≠ (M[j]).toNat := fun e => hx (u32_eq e)
          have HC := Lib.hid (show decide (val L < val M) = decide ((L[j]).toNat < (M[j]).toNat) by
            by_cases hlt : (L[j]).toNat < (M[j]).toNat
            · rw [decide_eq_true hlt, decide_eq_true (val_drop_lt hj HLen.out hd.out hlt)]
            · have := val_drop_lt hj2 HLen.out.symm hd.out.symm (show (M[j]).toNat < (L[j]).toNat by omega)
              rw [decide_eq_false hlt, decide_eq_false (by omega)])
          have HX : ((((L[j]).toNat : Int)) != ((M[j]).toNat : Int)) = true := by simp; omega
          clear hx hx2
          go_wp2_with fail
          go_quiet (fail)
          go_wp2_with fail
          go_quiet (fail)
          go_wp2_with fail
          go_ret
          rw [HC.out]
          refine ⟨?_, _, by rw [World.drewN_drewN, World.drewN_drewN]⟩
          simp
  · have h3 : (((limbs m).length : Int) != ((limbs n).length : Int)) = true := by simp; omega
    have HC := Lib.hid (show decide (m < n) = decide ((limbs m).length < (limbs n).length) by
      by_cases hlt : (limbs m).length < (limbs n).length
      · rw [decide_eq_true hlt, decide_eq_true (val_lt_of_len hlt)]
      · have := val_lt_of_len (show (limbs n).length < (limbs m).length by omega)
        rw [decide_eq_false hlt, decide_eq_false (by omega)])
    clear hlen
    go_enter Tryd.func43, Tryd.ntmps43
    go_wp2_with fail
    go_ret
    refine ⟨?_, 0, rfl⟩
    rw [HC.out]
    simp
set_option maxHeartbeats 400000 in
theorem rat_any (A : Option Addr) (c B : Nat) (xs : List UInt32) (i : Nat) (w : World) (hr : Rf uv w B A c xs) (hi : i ≤ 4000000000) : Calls Tryd.prog 65 #[.slice A xs.length c, .int .i64 i] w fun e w' => e = .returned (.int .u64 (lat xs i)) ∧ w = w' := by
  by_cases h : i < xs.length
  · have e := lat_in h
    obtain ⟨b, o, rfl, hb, hc⟩ := hr.at_ h
    have hci := hc i h
    unfold uv at hci
    have hxl := u32_lt xs[i]
    obtain ⟨x, hx⟩ : ∃ x, x = (xs[i]).toNat := ⟨_, rfl⟩
    rw [← hx] at hci hxl e
    have hd : decide (xs.length ≤ i) = false := by simp; omega
    have HE := Lib.hid e
    clear e hc hx
    go_enter Tryd.func65, Tryd.ntmps65
    go_wp2_with fail
    go_ret
    exact ⟨by rw [HE.out]; rfl, rfl⟩
  · have e := lat_out (m := xs) (i := i) (by omega)
    have HE := Lib.hid e
    clear e
    go_enter Tryd.func65, Tryd.ntmps65
    go_wp2_with fail
    go_ret
    exact ⟨by rw [HE.out]; rfl, rfl⟩
end Go.Proofs.YtffbmkobholmhaaDoor
