/- The reference's SameFields, Split and Join. -/
import Derived.Test.YtipclieldokfnaaDoorOcList
namespace Go.Proofs.YtipclieldokfnaaDoor.Oc
open Go.RowKit
set_option linter.unusedVariables false

theorem str_bytes' {B c : Nat} {A : Option Addr} {l : List UInt8} {w : World} (h : Rd w B A c l) : (convert 36 9 (.slice A l.length c)).run Tryd.prog w = .ok (.string ⟨l.toArray⟩) w :=
  run_string_bytes (P := Tryd.prog) w 36 9 5 Tryd.underlying36 Tryd.underlying5 Tryd.underlying9 h

set_option maxHeartbeats 1000000 in
theorem same_any (A A2 : Option Addr) (c c2 B B2 : Nat) (xs ys : List El) (w : World) (hx : RdL w B A c xs) (hy : RdL w B2 A2 c2 ys) (hl : xs.length ≤ 1000000) (hl2 : ys.length ≤ 1000000) :
    Calls Tryd.prog 24 #[.slice A xs.length c, .slice A2 ys.length c2] w fun e w' => e = .returned (.bool (decide (byts xs = byts ys))) ∧ ∃ n, w' = w.drewN n := by
  by_cases hlen : xs.length = ys.length
  · have hne : ((xs.length : Int) != (ys.length : Int)) = false := by rw [bne_eq_false_iff_eq]; omega
    have HL := Lib.hid hlen
    clear hlen
    go_enter Tryd.func24, Tryd.ntmps24
    go_wp2_with fail
    go_loopw [5] (fun i wr => ∃ k : Nat, k ≤ xs.length ∧ i = .int .i64 k ∧ Hid ((byts xs).take k = (byts ys).take k) ∧ ∃ n, wr = w.drewN n) (fun i _ => xs.length - (intOf i).toNat)
    case atStart => exact ⟨0, Nat.zero_le _, rfl, by simp [Hid], 0, rfl⟩
    case round =>
      obtain ⟨k, hk, rfl, hpre, n, rfl⟩ := hrel
      by_cases hlt : k < xs.length
      · have hlt2 : k < ys.length := by rw [← HL.out]; exact hlt
        obtain ⟨b, o, rfl, hb, hc⟩ := hx.at_ hlt
        obtain ⟨b2, o2, rfl, hb2, hc2⟩ := hy.at_ hlt2
        have hcx := hc k hlt
        have hcy := hc2 k hlt2
        have rx := hx.el xs[k] (List.getElem_mem _)
        have ry := hy.el ys[k] (List.getElem_mem _)
        obtain ⟨x, hxk⟩ : ∃ x, x = xs[k] := ⟨_, rfl⟩
        obtain ⟨y, hyk⟩ : ∃ y, y = ys[k] := ⟨_, rfl⟩
        rw [← hxk] at hcx rx
        rw [← hyk] at hcy ry
        have HX := Lib.hid hxk
        have HY := Lib.hid hyk
        unfold El.v at hcx hcy
        clear hc hc2 hxk hyk
        have kx := fun nq => str_bytes' (rx.drewN nq)
        have ky := fun nq => str_bytes' (ry.drewN nq)
        have tx : (byts xs).take (k + 1) = (byts xs).take k ++ [x.l] := by
          rw [List.take_succ_eq_append_getElem (by rw [byts_len]; exact hlt)]
          simp [byts, HX.out]
        have ty : (byts ys).take (k + 1) = (byts ys).take k ++ [y.l] := by
          rw [List.take_succ_eq_append_getElem (by rw [byts_len]; exact hlt2)]
          simp [byts, HY.out]
        have TX := Lib.hid tx
        have TY := Lib.hid ty
        clear tx ty
        by_cases he : x.l = y.l
        · have hbe : (x.l == y.l) = true := by rw [beq_iff_eq]; exact he
          have HE := Lib.hid he
          clear he
          go_wp2_with fail
          go_quiet (fail)
          go_wp2_with fail
          go_roundw
          case rel => exact ⟨k + 1, by omega, by go_num, by show _ = _; rw [TX.out, TY.out, hpre.out, HE.out], n + nq, by first | rfl | rw [World.drewN_drewN]⟩
          case measure => simp [intOf]; omega
        · have hbe : (x.l == y.l) = false := by rw [beq_eq_false_iff_ne]; exact he
          have hd : decide (byts xs = byts ys) = false := by
            simp only [decide_eq_false_iff_not]
            intro e
            have h1 := TX.out
            rw [e, TY.out] at h1
            have := (List.append_inj' h1 rfl).2
            simp at this
            exact he this.symm
          have HD := Lib.hid hd
          clear he hd
          go_wp2_with fail
          go_quiet (fail)
          go_wp2_with fail
          go_ret
          exact ⟨by rw [HD.out]; rfl, n + nq, by first | rfl | rw [World.drewN_drewN]⟩
      · have hd : decide (byts xs = byts ys) = true := by
          simp only [decide_eq_true_eq]
          have h1 := hpre.out
          have hl := HL.out
          obtain rfl : k = xs.length := by omega
          rw [List.take_of_length_le (by rw [byts_len]; exact Nat.le_refl _), List.take_of_length_le (by rw [byts_len]; omega)] at h1
          exact h1
        have HD := Lib.hid hd
        clear hd
        go_wp2_with fail
        go_ret
        exact ⟨by rw [HD.out]; rfl, n, rfl⟩
  · have hne : ((xs.length : Int) != (ys.length : Int)) = true := by rw [bne_iff_ne]; omega
    have hd : decide (byts xs = byts ys) = false := by
      simp only [decide_eq_false_iff_not]
      intro e
      have := congrArg List.length e
      rw [byts_len, byts_len] at this
      exact hlen this
    rw [hd]
    clear hlen hd
    go_enter Tryd.func24, Tryd.ntmps24
    go_wp2_with fail
    go_ret
    exact ⟨rfl, 0, rfl⟩
end Go.Proofs.YtipclieldokfnaaDoor.Oc
