/- The reference's Padded, First, Great. -/
import Derived.Test.YtipclieldokfnaaDoorEx
namespace Go.Proofs.YtipclieldokfnaaDoor
open Go.RowKit
set_option linter.unusedVariables false

theorem great_any (A : Option Addr) (c : Nat) (l : List UInt8) (w : World) (hl : l.length ≤ 140737488355328) :
    Calls Tryd.prog 27 #[.slice A l.length c] w fun e w' => e = .returned (.bool (decide (8292 < l.length))) ∧ w = w' := by
  go_enter Tryd.func27, Tryd.ntmps27
  go_wp2_with fail
  go_ret
  refine ⟨congrArg (fun b => Ending.returned (.bool b)) ?_, rfl⟩
  simp
  omega

set_option maxRecDepth 100000 in
set_option maxHeartbeats 400000 in
theorem first_any (w : World) : Calls Tryd.prog 52 #[] w fun e w' => e = .returned (aw start) ∧ Below w.heap.size w w' := by
  go_enter Tryd.func52, Tryd.ntmps52
  go_wp2_with fail
  refine bodyPost_cell (f := uv) (g := w.heap.size) (t := 88) (L := start) rfl rfl ?_ Tryd.underlying88 size8 rfl ⟨rfl, ?_⟩
  · exact Hb.new uv w _ start _ (by kernel_rfl)
  · exact (Below.refl _ w).alloc (Nat.le_refl _) _

theorem rf_one_v {α : Type} {f : α → Value} (w : World) (x : α) (v : Value) (hv : v = f x) (e : Nat) : Rf f (w.alloc (.cells #[v] e)) (w.heap.size + 1) (some ⟨w.heap.size, 0, none⟩) 1 [x] := by
  subst hv
  exact rf_one w x e
theorem zlen_stop (n : Nat) {j : Nat} (hj : j ≤ zlen n) : ((n + 1 + j + 8) % 64 = 0 ↔ j = zlen n) := by unfold zlen at *; omega
theorem take_beN (k n : Nat) {i : Nat} (h : i < k) : (beN k n).take (i + 1) = (beN k n).take i ++ [UInt8.ofNat (n / 2 ^ (8 * (k - 1 - i)))] := by
  rw [List.take_succ_eq_append_getElem (by rw [beN_len]; exact h), beN_get k n h]

set_option maxRecDepth 100000 in
set_option maxHeartbeats 1000000 in
theorem padded_any (A : Option Addr) (c B : Nat) (l : List UInt8) (w : World) (hr : Rf bv w B A c l) (hB : B ≤ w.heap.size) (hl : l.length ≤ 100000) :
    Calls Tryd.prog 53 #[.slice A l.length c] w fun e w' => ∃ A' c', e = .returned (.slice A' (padB l).length c') ∧ Ow bv w' w.heap.size 5 A' c' (padB l) ∧ Below w.heap.size w w' := by
  obtain ⟨bi, hbi, hz0, hz1, hz2⟩ := info_parts bInfo
  have HBI := Lib.hid hbi
  have HZ0 := Lib.hid hz0
  have HZ1 := Lib.hid hz1
  have HZ2 := Lib.hid hz2
  clear hbi hz0 hz1 hz2
  have hzl : zlen l.length ≤ 63 := by unfold zlen; omega
  go_enter Tryd.func53, Tryd.ntmps53
  go_wp2_with (at_builtin; first
    | (refine wpList_append_f _ bv_one rfl (.tmp 6) (.tmp 7) 36 rfl w.heap.size 5 1 bi _ Tryd.underlying36 HBI.out HZ0.out HZ1.out HZ2.out (by omega) rfl [] l rfl rfl (ow_zero w _ _ (Nat.le_refl _)) (hr.alloc hB _) (by simp; omega) (by simp) ?_; intro A1 c1 w1 r1 hr1 hown1 hg1 hb1; have hrl1 : r1.length ≤ 100000 := (by rw [hr1.out]; simpa using hl); have hbw1 : Below w.heap.size w w1 := ((Below.refl _ w).alloc (Nat.le_refl _) _).grown hg1 (by simp) (fun k e => by cases e; exact Nat.le_refl _))
    | (refine wpList_append_f _ bv_one rfl (.tmp 9) (.tmp 10) 36 rfl w.heap.size 5 1 bi _ Tryd.underlying36 HBI.out HZ0.out HZ1.out HZ2.out (by omega) rfl r1 [128] rfl rfl (hown1.alloc _) (rf_one_v w1 128 _ rfl _) (by simp; omega) (by have := hbw1.size; simp; omega) ?_; intro A2 c2 w2 r2 hr2 hown2 hg2 hb2; have hrl2 : r2.length ≤ 100001 := (by rw [hr2.out, List.length_append]; simp; omega)))
  have hbw2 : Below w.heap.size w w2 := (hbw1.alloc hbw1.size _).grown hg2 (hbw1.alloc hbw1.size _).size (fun k e => (hown1.blk_ge k e).1)
  have hre2 : r2 = l ++ [128] := by rw [hr2.out, hr1.out]; simp
  have HRE2 := Lib.hid hre2
  clear hre2 hr1 hr2 hown1 hg1 hb1 hbw1 hg2 hb2
  go_loopw [3] (fun v wr => ∃ (j : Nat) (A3 : Option Addr) (c3 : Nat) (r : List UInt8), j ≤ zlen l.length ∧ v = .slice A3 r.length c3 ∧ r.length ≤ 100070 ∧ Hid (r = l ++ 128 :: List.replicate j 0) ∧ Hid (Ow bv wr w.heap.size 5 A3 c3 r) ∧ Hid (Below w.heap.size w wr)) (fun v _ => match v with | .slice _ n _ => 100070 - n | _ => 0)
  case atStart => exact ⟨0, A2, c2, r2, by omega, rfl, by omega, by rw [HRE2.out]; rfl, hown2, hbw2⟩
  case round =>
    clear hown2 hbw2
    obtain ⟨j, A3, c3, r, hj, rfl, hrl, hre, hown, hbw⟩ := hrel
    have hlen : r.length = l.length + 1 + j := by rw [hre.out, List.length_append, List.length_cons, List.length_replicate]; omega
    by_cases hjz : j = zlen l.length
    · have hne : ((((r.length : Int) + 8) % 64) != 0) = false := by
        have := (zlen_stop l.length hj).2 hjz
        rw [hlen]
        simp
        omega
      have HRZ := Lib.hid (show r = l ++ 128 :: List.replicate (zlen l.length) 0 by rw [hre.out, hjz])
      clear hlen
      have HW := Lib.hid hbw.out
      go_wp2_with fail
      clear hne
      go_loopw [3, 5] (fun v i wr => ∃ (j : Nat) (A3 : Option Addr) (c3 : Nat) (r3 : List UInt8), j ≤ 8 ∧ i = .int .i64 j ∧ v = .slice A3 r3.length c3 ∧ r3.length ≤ 100078 ∧ Hid (r3 = r ++ (beN 8 (8 * l.length)).take j) ∧ Hid (Ow bv wr w.heap.size 5 A3 c3 r3) ∧ Hid (Below w.heap.size w wr)) (fun _ i _ => 8 - (intOf i).toNat)
      case atStart => exact ⟨0, A3, c3, r, by omega, rfl, rfl, by omega, by rw [List.take_zero, List.append_nil]; rfl, hown, hbw⟩
      case round =>
        clear hown hbw hre HW
        obtain ⟨j, A5, c5, r5, hj8, rfl, rfl, hrl5, hre5, hown5, hbw5⟩ := hrel
        by_cases h8 : j = 8
        · have HF := Lib.hid (show r5 = padB l by rw [hre5.out, h8, HRZ.out, List.take_of_length_le (by rw [beN_len]; exact Nat.le_refl _)]; unfold padB; simp)
          have e8 : (j : Int) = 8 := by omega
          rw [e8]
          clear e8 h8 hj8
          go_wp2_with fail
          go_ret
          rw [← HF.out]
          exact ⟨_, _, rfl, hown5.out, hbw5.out⟩
        · have hlt : j < 8 := by omega
          have hlen5 : r5.length ≤ 100077 := by
            have h1 : r5.length = r.length + j := by rw [hre5.out, List.length_append, List.length_take, beN_len]; omega
            omega
          have HN := Lib.hid (take_beN 8 (8 * l.length) hlt)
          have HV := Lib.hid (show Value.int .u8 ((l.length : Int) * 8 / 2 ^ (56 - 8 * j) % 256) = bv (UInt8.ofNat (8 * l.length / 2 ^ (8 * (8 - 1 - j)))) by
            unfold bv
            rw [u8_mod, show 8 * (8 - 1 - j) = 56 - 8 * j by omega, Nat.mul_comm 8 l.length]
            simp)
          go_wp2_with (at_builtin; refine wpList_append_f _ bv_one rfl (.tmp 28) (.tmp 35) 36 rfl w.heap.size 5 1 bi _ Tryd.underlying36 HBI.out HZ0.out HZ1.out HZ2.out (by omega) rfl r5 [UInt8.ofNat (8 * l.length / 2 ^ (8 * (8 - 1 - j)))] rfl rfl (hown5.out.alloc _) (rf_one_v wr _ _ HV.out _) (by simp; omega) (by have := hbw5.out.size; simp; omega) ?_; intro A6 c6 w6 r6 hr6 hown6 hg6 hb6)
          go_roundw
          case rel =>
            refine ⟨j + 1, A6, c6, r6, by omega, by go_num, rfl, by rw [hr6.out, List.length_append]; simp; omega, ?_, hown6, ?_⟩
            · show r6 = _
              rw [hr6.out, hre5.out, HN.out, List.append_assoc]
            · exact (hbw5.out.alloc hbw5.out.size _).grown hg6 (hbw5.out.alloc hbw5.out.size _).size (fun k e => (hown5.out.blk_ge k e).1)
          case measure => simp [intOf]; omega
    · have hne : ((((r.length : Int) + 8) % 64) != 0) = true := by
        have := mt (zlen_stop l.length hj).1 hjz
        rw [hlen]
        simp
        omega
      have hj1 : j + 1 ≤ zlen l.length := by omega
      have hrl2 : r.length + 1 ≤ 100070 := by omega
      clear hlen
      go_wp2_with (at_builtin; refine wpList_append_f _ bv_one rfl (.tmp 17) (.tmp 18) 36 rfl w.heap.size 5 1 bi _ Tryd.underlying36 HBI.out HZ0.out HZ1.out HZ2.out (by omega) rfl r [0] rfl rfl (hown.out.alloc _) (rf_one_v wr 0 _ rfl _) (by simp; omega) (by have := hbw.out.size; simp; omega) ?_; intro A4 c4 w4 r4 hr4 hown4 hg4 hb4)
      go_roundw
      case rel =>
        refine ⟨j + 1, A4, c4, r4, hj1, rfl, by rw [hr4.out, List.length_append]; simpa using hrl2, ?_, hown4, ?_⟩
        · show r4 = _
          rw [hr4.out, hre.out, List.replicate_succ', List.append_assoc]
          rfl
        · exact (hbw.out.alloc hbw.out.size _).grown hg4 (hbw.out.alloc hbw.out.size _).size (fun k e => (hown.out.blk_ge k e).1)
      case measure =>
        show 100070 - r4.length < 100070 - r.length
        rw [hr4.out, List.length_append]
        simp
        omega
end Go.Proofs.YtipclieldokfnaaDoor
