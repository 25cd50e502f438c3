/- The reference's Same, Long, Word, Lines, Words. -/
import Derived.Test.YtnnenhcofibhoaaDoorWord
namespace Go.Proofs.YtnnenhcofibhoaaDoor
open Go.RowKit
set_option linter.unusedVariables false
attribute [local go_sem] mk_get mk_append mk_extract

set_option maxRecDepth 100000 in
set_option maxHeartbeats 1000000 in
theorem same_any (A A2 : Option Addr) (c c2 B B2 : Nat) (xs ys : List (List UInt8)) (w : World) (hx : Rf sv w B A c xs) (hy : Rf sv w B2 A2 c2 ys) (hl : xs.length ≤ 4000000000) (hl2 : ys.length ≤ 4000000000) :
    Calls Tryd.prog 23 #[.slice A xs.length c, .slice A2 ys.length c2] w fun e w' => e = .returned (.bool (decide (xs = ys))) ∧ ∃ n, w' = w.drewN n := by
  by_cases hlen : xs.length = ys.length
  · have hne : ((xs.length : Int) != (ys.length : Int)) = false := by rw [bne_eq_false_iff_eq]; omega
    have HL := Lib.hid hlen
    clear hlen
    go_enter Tryd.func23, Tryd.ntmps23
    go_wp2_with fail
    go_loopw [5] (fun i wr => ∃ k : Nat, k ≤ xs.length ∧ i = .int .i64 k ∧ Hid (xs.take k = ys.take k) ∧ ∃ n, wr = w.drewN n) (fun i _ => xs.length - (intOf i).toNat)
    case atStart => exact ⟨0, Nat.zero_le _, rfl, by simp [Hid], 0, rfl⟩
    case round =>
      obtain ⟨k, hk, rfl, hpre, n, rfl⟩ := hrel
      by_cases hlt : k < xs.length
      · have hlt2 : k < ys.length := by rw [← HL.out]; exact hlt
        obtain ⟨b, o, rfl, hb, hc⟩ := hx.at_ hlt
        obtain ⟨b2, o2, rfl, hb2, hc2⟩ := hy.at_ hlt2
        have hcx := hc k hlt
        have hcy := hc2 k hlt2
        have tx := List.take_succ_eq_append_getElem hlt
        have ty := List.take_succ_eq_append_getElem hlt2
        obtain ⟨x, hxk⟩ : ∃ x, x = xs[k] := ⟨_, rfl⟩
        obtain ⟨y, hyk⟩ : ∃ y, y = ys[k] := ⟨_, rfl⟩
        rw [← hxk] at hcx tx
        rw [← hyk] at hcy ty
        unfold sv at hcx hcy
        have TX := Lib.hid tx
        have TY := Lib.hid ty
        clear hc hc2 hxk hyk tx ty
        by_cases he : x = y
        · have hbe : (x == y) = true := by rw [beq_iff_eq]; exact he
          have HE := Lib.hid he
          clear he
          go_wp2_with fail
          go_quiet (fail)
          go_wp2_with fail
          go_roundw
          case rel => exact ⟨k + 1, by omega, by go_num, by show _ = _; rw [TX.out, TY.out, hpre.out, HE.out], n + nq, by first | rfl | rw [World.drewN_drewN]⟩
          case measure => simp [intOf]; omega
        · have hbe : (x == y) = false := by rw [beq_eq_false_iff_ne]; exact he
          have hd : decide (xs = ys) = false := by
            simp only [decide_eq_false_iff_not]
            intro e
            have h1 := TX.out
            rw [e, TY.out] at h1
            have := (List.append_inj' h1 rfl).2
            simp at this
            exact he this.symm
          have HD := Lib.hid hd
          clear he hd
          go_wp2_with fail
          go_quiet (fail)
          go_wp2_with fail
          go_ret
          exact ⟨by rw [HD.out]; rfl, n + nq, by first | rfl | rw [World.drewN_drewN]⟩
      · have hd : decide (xs = ys) = true := by
          simp only [decide_eq_true_eq]
          have h1 := hpre.out
          have hl := HL.out
          obtain rfl : k = xs.length := by omega
          rw [List.take_of_length_le (Nat.le_refl _), List.take_of_length_le (by omega)] at h1
          exact h1
        have HD := Lib.hid hd
        clear hd
        go_wp2_with fail
        go_ret
        exact ⟨by rw [HD.out]; rfl, n, rfl⟩
  · have hne : ((xs.length : Int) != (ys.length : Int)) = true := by rw [bne_iff_ne]; omega
    have hd : decide (xs = ys) = false := by
      simp only [decide_eq_false_iff_not]
      intro e
      exact hlen (congrArg List.length e)
    rw [hd]
    clear hlen hd
    go_enter Tryd.func23, Tryd.ntmps23
    go_wp2_with fail
    go_ret
    exact ⟨rfl, 0, rfl⟩

theorem sumL_app (xs ys : List (List UInt8)) : sumL (xs ++ ys) = sumL xs + sumL ys := by simp only [sumL, List.map_append, List.sum_append]
theorem sumL_one (x : List UInt8) : sumL [x] = x.length + 1 := by simp [sumL]
theorem sumL_take (xs : List (List UInt8)) (k : Nat) (h : k < xs.length) : sumL (xs.take (k + 1)) = sumL (xs.take k) + 1 + xs[k].length := by
  rw [List.take_succ_eq_append_getElem h, sumL_app, sumL_one]
  omega
theorem sumL_take_le (xs : List (List UInt8)) (k : Nat) : sumL (xs.take k) ≤ sumL xs := by
  have h : sumL xs = sumL (xs.take k) + sumL (xs.drop k) := by rw [← sumL_app, List.take_append_drop]
  omega

def LongE (xs : List (List UInt8)) (w : World) (e : Ending) (w' : World) : Prop := ∃ n : Nat, e = .returned (.int .i64 n) ∧ w = w' ∧ (n < 1000000 → n = sumL xs) ∧ n ≤ 200000000000000
set_option maxRecDepth 100000 in
set_option maxHeartbeats 400000 in
theorem long_any (A : Option Addr) (c B : Nat) (xs : List (List UInt8)) (w : World) (hr : Rf sv w B A c xs) (hs : ∀ x ∈ xs, x.length ≤ 140737488355328) :
    Calls Tryd.prog 22 #[.slice A xs.length c] w (LongE xs w) := by
  have hcap := hr.cap
  have hcm := hr.capm
  simp only [maxLen] at hcm
  have HS := Lib.hid hs
  clear hs
  go_enter Tryd.func22, Tryd.ntmps22
  go_wp2_with fail
  go_loop [3, 4] (fun v i => ∃ k n : Nat, k ≤ xs.length ∧ i = .int .i64 k ∧ v = .int .i64 n ∧ Hid (n = sumL (xs.take k)) ∧ n ≤ 200000000000000) (fun _ i => xs.length - (intOf i).toNat)
  case atStart => exact ⟨0, 0, Nat.zero_le _, rfl, rfl, rfl, by omega⟩
  case round =>
    obtain ⟨k, n, hk, rfl, rfl, hn, hn2⟩ := hrel
    by_cases hlt : k < xs.length
    · by_cases hbig : n < 1000000
      · obtain ⟨b, o, rfl, hbb, hc⟩ := hr.at_ hlt
        have hcx := hc k hlt
        have hxl := HS.out _ (List.getElem_mem hlt)
        have ht := sumL_take xs k hlt
        obtain ⟨x, hx⟩ : ∃ x, x = xs[k] := ⟨_, rfl⟩
        rw [← hx] at hcx hxl ht
        unfold sv at hcx
        have HT := Lib.hid ht
        have HXL := Lib.hid hxl
        have HN2 := Lib.hid hn2
        have hxi : ((x.length : Nat) : Int) ≤ 140737488355328 := by omega
        have hni : (n : Int) < 1000000 := by omega
        clear hc hx ht hxl hn2
        go_wp2_with fail
        go_round
        case rel => exact ⟨k + 1, n + 1 + x.length, by omega, by go_num, by go_num, by show _ = _; rw [HT.out, hn.out], by omega⟩
        case measure => simp [intOf]; omega
      · have hi : ¬ (n : Int) < 1000000 := by omega
        go_wp2_with fail
        go_ret
        exact ⟨n, rfl, rfl, by omega, hn2⟩
    · obtain rfl : k = xs.length := by omega
      go_wp2_with fail
      go_ret
      exact ⟨n, rfl, rfl, fun _ => by have := hn.out; rwa [List.take_of_length_le (Nat.le_refl _)] at this, hn2⟩

end Go.Proofs.YtnnenhcofibhoaaDoor
