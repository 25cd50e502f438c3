/- The reference's SameInts, SameNumbers, Perm. -/
import Derived.Test.YtipclieldokfnaaDoorLot
namespace Go.Proofs.YtipclieldokfnaaDoor
open Go.RowKit
set_option linter.unusedVariables false

set_option maxHeartbeats 1000000 in
theorem sameInts_any (A A2 : Option Addr) (c c2 B B2 : Nat) (xs ys : List Nat) (w : World) (hx : Rf iv w B A c xs) (hy : Rf iv w B2 A2 c2 ys) (hl : xs.length ≤ 1000000) (hl2 : ys.length ≤ 1000000) :
    Calls Tryd.prog 21 #[.slice A xs.length c, .slice A2 ys.length c2] w fun e w' => e = .returned (.bool (decide (xs = ys))) ∧ ∃ n, w' = w.drewN n := by
  by_cases hlen : xs.length = ys.length
  · have hne : ((xs.length : Int) != (ys.length : Int)) = false := by rw [bne_eq_false_iff_eq]; omega
    have HL := Lib.hid hlen
    clear hlen
    go_enter Tryd.func21, Tryd.ntmps21
    go_wp2_with fail
    go_loopw [5] (fun i wr => ∃ k : Nat, k ≤ xs.length ∧ i = .int .i64 k ∧ Hid (xs.take k = ys.take k) ∧ ∃ n, wr = w.drewN n) (fun i _ => xs.length - (intOf i).toNat)
    case atStart => exact ⟨0, Nat.zero_le _, rfl, by simp [Hid], 0, rfl⟩
    case round =>
      obtain ⟨k, hk, rfl, hpre, n, rfl⟩ := hrel
      by_cases hlt : k < xs.length
      · have hlt2 : k < ys.length := by rw [← HL.out]; exact hlt
        obtain ⟨b, o, rfl, hb, hc⟩ := hx.at_ hlt
        obtain ⟨b2, o2, rfl, hb2, hc2⟩ := hy.at_ hlt2
        have hcx := hc k hlt
        have hcy := hc2 k hlt2
        have tx : xs.take (k + 1) = xs.take k ++ [xs[k]] := List.take_succ_eq_append_getElem hlt
        have ty : ys.take (k + 1) = ys.take k ++ [ys[k]] := List.take_succ_eq_append_getElem hlt2
        obtain ⟨x, hxk⟩ : ∃ x, x = xs[k] := ⟨_, rfl⟩
        obtain ⟨y, hyk⟩ : ∃ y, y = ys[k] := ⟨_, rfl⟩
        rw [← hxk] at hcx tx
        rw [← hyk] at hcy ty
        have TX := Lib.hid tx
        have TY := Lib.hid ty
        unfold iv at hcx hcy
        clear hc hc2 hxk hyk tx ty
        by_cases he : x = y
        · have hbe : ((x : Int) != (y : Int)) = false := by rw [bne_eq_false_iff_eq]; omega
          have HE := Lib.hid he
          clear he
          go_wp2_with fail
          go_quiet (fail)
          go_wp2_with fail
          go_roundw
          case rel => exact ⟨k + 1, by omega, by go_num, by show _ = _; rw [TX.out, TY.out, hpre.out, HE.out], n + nq, by first | rfl | rw [World.drewN_drewN]⟩
          case measure => simp [intOf]; omega
        · have hbe : ((x : Int) != (y : Int)) = true := by rw [bne_iff_ne]; omega
          have hd : decide (xs = ys) = false := by
            simp only [decide_eq_false_iff_not]
            intro e
            have h1 := TX.out
            rw [e, TY.out] at h1
            have := (List.append_inj' h1 rfl).2
            simp at this
            exact he this.symm
          have HD := Lib.hid hd
          clear he hd
          go_wp2_with fail
          go_quiet (fail)
          go_wp2_with fail
          go_ret
          exact ⟨by rw [HD.out]; rfl, n + nq, by first | rfl | rw [World.drewN_drewN]⟩
      · have hd : decide (xs = ys) = true := by
          simp only [decide_eq_true_eq]
          have h1 := hpre.out
          have hl := HL.out
          obtain rfl : k = xs.length := by omega
          rw [List.take_of_length_le (Nat.le_refl _), List.take_of_length_le (by omega)] at h1
          exact h1
        have HD := Lib.hid hd
        clear hd
        go_wp2_with fail
        go_ret
        exact ⟨by rw [HD.out]; rfl, n, rfl⟩
  · have hne : ((xs.length : Int) != (ys.length : Int)) = true := by rw [bne_iff_ne]; omega
    have hd : decide (xs = ys) = false := by
      simp only [decide_eq_false_iff_not]
      intro e
      exact hlen (by rw [e])
    rw [hd]
    clear hlen hd
    go_enter Tryd.func21, Tryd.ntmps21
    go_wp2_with fail
    go_ret
    exact ⟨rfl, 0, rfl⟩
set_option maxHeartbeats 1000000 in
theorem sameNumbers_any (A A2 : Option Addr) (c c2 B B2 : Nat) (xs ys : List Nat) (w : World) (hx : Rf qv w B A c xs) (hy : Rf qv w B2 A2 c2 ys) (hl : xs.length ≤ 1000000) (hl2 : ys.length ≤ 1000000) :
    Calls Tryd.prog 19 #[.slice A xs.length c, .slice A2 ys.length c2] w fun e w' => e = .returned (.bool (decide (xs = ys))) ∧ ∃ n, w' = w.drewN n := by
  by_cases hlen : xs.length = ys.length
  · have hne : ((xs.length : Int) != (ys.length : Int)) = false := by rw [bne_eq_false_iff_eq]; omega
    have HL := Lib.hid hlen
    clear hlen
    go_enter Tryd.func19, Tryd.ntmps19
    go_wp2_with fail
    go_loopw [5] (fun i wr => ∃ k : Nat, k ≤ xs.length ∧ i = .int .i64 k ∧ Hid (xs.take k = ys.take k) ∧ ∃ n, wr = w.drewN n) (fun i _ => xs.length - (intOf i).toNat)
    case atStart => exact ⟨0, Nat.zero_le _, rfl, by simp [Hid], 0, rfl⟩
    case round =>
      obtain ⟨k, hk, rfl, hpre, n, rfl⟩ := hrel
      by_cases hlt : k < xs.length
      · have hlt2 : k < ys.length := by rw [← HL.out]; exact hlt
        obtain ⟨b, o, rfl, hb, hc⟩ := hx.at_ hlt
        obtain ⟨b2, o2, rfl, hb2, hc2⟩ := hy.at_ hlt2
        have hcx := hc k hlt
        have hcy := hc2 k hlt2
        have tx : xs.take (k + 1) = xs.take k ++ [xs[k]] := List.take_succ_eq_append_getElem hlt
        have ty : ys.take (k + 1) = ys.take k ++ [ys[k]] := List.take_succ_eq_append_getElem hlt2
        obtain ⟨x, hxk⟩ : ∃ x, x = xs[k] := ⟨_, rfl⟩
        obtain ⟨y, hyk⟩ : ∃ y, y = ys[k] := ⟨_, rfl⟩
        rw [← hxk] at hcx tx
        rw [← hyk] at hcy ty
        have TX := Lib.hid tx
        have TY := Lib.hid ty
        unfold qv at hcx hcy
        clear hc hc2 hxk hyk tx ty
        by_cases he : x = y
        · have hbe : ((x : Int) != (y : Int)) = false := by rw [bne_eq_false_iff_eq]; omega
          have HE := Lib.hid he
          clear he
          go_wp2_with fail
          go_quiet (fail)
          go_wp2_with fail
          go_roundw
          case rel => exact ⟨k + 1, by omega, by go_num, by show _ = _; rw [TX.out, TY.out, hpre.out, HE.out], n + nq, by first | rfl | rw [World.drewN_drewN]⟩
          case measure => simp [intOf]; omega
        · have hbe : ((x : Int) != (y : Int)) = true := by rw [bne_iff_ne]; omega
          have hd : decide (xs = ys) = false := by
            simp only [decide_eq_false_iff_not]
            intro e
            have h1 := TX.out
            rw [e, TY.out] at h1
            have := (List.append_inj' h1 rfl).2
            simp at this
            exact he this.symm
          have HD := Lib.hid hd
          clear he hd
          go_wp2_with fail
          go_quiet (fail)
          go_wp2_with fail
          go_ret
          exact ⟨by rw [HD.out]; rfl, n + nq, by first | rfl | rw [World.drewN_drewN]⟩
      · have hd : decide (xs = ys) = true := by
          simp only [decide_eq_true_eq]
          have h1 := hpre.out
          have hl := HL.out
          obtain rfl : k = xs.length := by omega
          rw [List.take_of_length_le (Nat.le_refl _), List.take_of_length_le (by omega)] at h1
          exact h1
        have HD := Lib.hid hd
        clear hd
        go_wp2_with fail
        go_ret
        exact ⟨by rw [HD.out]; rfl, n, rfl⟩
  · have hne : ((xs.length : Int) != (ys.length : Int)) = true := by rw [bne_iff_ne]; omega
    have hd : decide (xs = ys) = false := by
      simp only [decide_eq_false_iff_not]
      intro e
      exact hlen (by rw [e])
    rw [hd]
    clear hlen hd
    go_enter Tryd.func19, Tryd.ntmps19
    go_wp2_with fail
    go_ret
    exact ⟨rfl, 0, rfl⟩

/-- A list that is a permutation. -/
theorem perm_lt {L : List Nat} {n i : Nat} (h : PermL L n) (hi : i < n) : ∃ v, L[i]? = some v ∧ v < n := by
  have hl := h.len
  refine ⟨L[i]'(by omega), List.getElem?_eq_getElem (by omega), ?_⟩
  have := h.lt i hi
  rwa [getD_lt (by omega)] at this
set_option maxHeartbeats 1000000 in
theorem perm_any (A : Option Addr) (c B : Nat) (xs : List Nat) (n : Nat) (w : World) (hx : Rf iv w B A c xs) (hp : PermL xs n) (hl : xs.length ≤ 1000000) :
    Calls Tryd.prog 25 #[.slice A xs.length c] w fun e w' => e = .returned (.bool true) ∧ ∃ n, w' = w.drewN n := by
  have HP := Lib.hid hp
  have HLN := Lib.hid hp.len
  have hle : xs.length ≤ n := by have := hp.len; omega
  have hge : n ≤ xs.length := by have := hp.len; omega
  clear hp
  go_enter Tryd.func25, Tryd.ntmps25
  go_wp2_with fail
  go_loopw [3] (fun i wr => ∃ k : Nat, k ≤ xs.length ∧ i = .int .i64 k ∧ ∃ n, wr = w.drewN n) (fun i _ => xs.length - (intOf i).toNat)
  case atStart => exact ⟨0, Nat.zero_le _, rfl, 0, rfl⟩
  case round =>
    obtain ⟨k, hk, rfl, m, rfl⟩ := hrel
    by_cases hlt : k < xs.length
    · obtain ⟨b, o, rfl, hb, hc⟩ := hx.at_ hlt
      have hcx := hc k hlt
      have hv : xs[k] < n := by
        have := HP.out.lt k (by omega)
        rwa [getD_lt hlt] at this
      obtain ⟨v, hvk⟩ : ∃ v, v = xs[k] := ⟨_, rfl⟩
      rw [← hvk] at hcx hv
      have HV := Lib.hid hvk
      have hvd : decide (xs.length ≤ v) = false := by simp; omega
      have hvd2 : decide ((v : Int) < 0) = false := by simp
      unfold iv at hcx
      have HC := Lib.hid hc
      clear hc hvk
      go_wp2_with fail
      go_loopw [4] (fun i wr => ∃ j : Nat, j ≤ k ∧ i = .int .i64 j ∧ ∃ n, wr = w.drewN n) (fun i _ => k - (intOf i).toNat)
      case atStart => exact ⟨0, Nat.zero_le _, rfl, _, rfl⟩
      case round =>
        obtain ⟨j, hj, rfl, m2, rfl⟩ := hrel
        by_cases hjk : j < k
        · have hjl : j < xs.length := by omega
          have hcj := HC.out j hjl
          obtain ⟨u, huk⟩ : ∃ u, u = xs[j] := ⟨_, rfl⟩
          rw [← huk] at hcj
          unfold iv at hcj
          have hne : ((u : Int) == (v : Int)) = false := by
            rw [beq_eq_false_iff_ne]
            intro e
            have e2 : xs[j] = xs[k] := by have := HV.out; omega
            have := HP.out.inj j k (by omega) (by omega) (by rw [getD_lt hjl, getD_lt hlt, e2])
            omega
          clear huk
          go_wp2_with fail
          go_quiet (fail)
          go_wp2_with fail
          go_roundw
          case rel => exact ⟨j + 1, by omega, by go_num, m2 + nq, by first | rfl | rw [World.drewN_drewN]⟩
          case measure => simp [intOf]; omega
        · go_wp2_with fail
          go_roundw
          case rel => exact ⟨k + 1, by omega, by go_num, m2, rfl⟩
          case measure => simp [intOf]; omega
    · go_wp2_with fail
      go_ret
      exact ⟨rfl, m, rfl⟩
end Go.Proofs.YtipclieldokfnaaDoor
