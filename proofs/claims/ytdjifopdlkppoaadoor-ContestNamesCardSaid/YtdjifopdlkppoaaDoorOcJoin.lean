/- octet's Join and the reference's Join. -/
import Derived.Test.YtdjifopdlkppoaaDoorOcSame
namespace Go.Proofs.YtdjifopdlkppoaaDoor.Oc
open Go.RowKit
set_option linter.unusedVariables false

theorem byts_take (xs : List El) (k : Nat) (h : k < xs.length) : (byts xs).take (k + 1) = (byts xs).take k ++ [xs[k].l] := by
  rw [List.take_succ_eq_append_getElem (by rw [byts_len]; exact h)]
  simp [byts]
theorem flat_take (xs : List El) (k : Nat) (h : k < xs.length) : flat ((byts xs).take (k + 1)) = flat ((byts xs).take k) ++ fld xs[k].l := by rw [byts_take xs k h, flat_snoc]
theorem flat_take_len (xs : List El) (k : Nat) (h : k < xs.length) : (flat ((byts xs).take (k + 1))).length = (flat ((byts xs).take k)).length + (2 + xs[k].l.length) := by
  rw [flat_take xs k h, List.length_append, fld_len]
theorem flat_take_le (L : List (List UInt8)) (k : Nat) : (flat (L.take k)).length ≤ (flat L).length := by
  have := congrArg List.length (flat_append (L.take k) (L.drop k))
  rw [List.take_append_drop, List.length_append] at this
  omega
theorem joinM_bad {L : List (List UInt8)} (k : Nat) (h : 16384 < (flat (L.take k)).length) : joinM L = ([], 4) := by
  unfold joinM
  rw [if_neg]
  have := flat_take_le L k
  omega
theorem joinM_good {L : List (List UInt8)} (h : (flat L).length ≤ 16384) : joinM L = (flat L, 0) := by unfold joinM; rw [if_pos h]

set_option maxHeartbeats 2000000 in
theorem join_any (A : Option Addr) (c : Nat) (xs : List El) (w : World) (hr : RdL w w.heap.size A c xs) (hl : xs.length ≤ 1000000) (hel : ∀ x ∈ xs, x.l.length ≤ 100000) :
    Calls Tryd.prog 55 #[.slice A xs.length c] w (BytesErr w (joinM (byts xs))) := by
  obtain ⟨i0, hi, hz0, hz1, hz2⟩ := info_parts info5
  have HEL := Lib.hid hel
  clear hel
  go_enter Tryd.func55, Tryd.ntmps55
  go_wp2_with fail
  go_loop [4, 12] (fun s i => ∃ k m : Nat, k ≤ xs.length ∧ i = .int .i64 k ∧ s = .int .i64 m ∧ Hid (m = (flat ((byts xs).take k)).length) ∧ m ≤ 16384) (fun _ i => xs.length - (intOf i).toNat)
  case atStart => exact ⟨0, 0, Nat.zero_le _, rfl, rfl, rfl, by omega⟩
  case round =>
    obtain ⟨k, m, hk, rfl, rfl, hm, hml⟩ := hrel
    by_cases hlt : k < xs.length
    · obtain ⟨b, o, rfl, hb, hc⟩ := hr.at_ hlt
      have hck := hc k hlt
      have hxl := HEL.out _ (List.getElem_mem hlt)
      have rx := hr.el xs[k] (List.getElem_mem _)
      have hfl := flat_take_len xs k hlt
      obtain ⟨x, hxk⟩ : ∃ x, x = xs[k] := ⟨_, rfl⟩
      rw [← hxk] at hck rx hxl hfl
      unfold El.v at hck
      have HFL := Lib.hid hfl
      clear hc hxk hfl
      by_cases hroom : x.l.length ≤ 65535 ∧ m + 2 + x.l.length ≤ 16384
      · obtain ⟨hr1, hr2⟩ := hroom
        go_wp2_with fail
        refine (hasRoom_yes x.A x.c x.l m _ hr1 hr2).mono ?_
        rintro e w' ⟨rfl, rfl⟩
        go_wp2_with fail
        go_round
        case rel => exact ⟨k + 1, m + (2 + x.l.length), by omega, by go_num, by go_num, by show _ = _; rw [HFL.out, hm.out], by omega⟩
        case measure => simp [intOf]; omega
      · have hq : joinM (byts xs) = ([], 4) := joinM_bad (k + 1) (by rw [HFL.out, ← hm.out]; omega)
        rw [hq]
        go_wp2_with fail
        refine (hasRoom_no x.A x.c x.l m _ (by omega) hroom).mono ?_
        rintro e w' ⟨rfl, rfl⟩
        go_wp2_with fail
        go_ret2
        exact bytesErr_bad w 4
    · have hke : k = xs.length := by omega
      have hmt : m = (flat (byts xs)).length := by rw [hm.out, List.take_of_length_le (by rw [byts_len]; omega)]
      have hq : joinM (byts xs) = (flat (byts xs), 0) := joinM_good (by omega)
      have HQ := Lib.hid hq
      have HMT := Lib.hid hmt
      clear hmt hke hq
      go_wp2_with (at_make; refine wpList_make_own _ rfl _ _ 37 rfl w.heap.size 5 i0 _ 1 Tryd.underlying37 hi hz0 hz1 _ _ _ m rfl rfl (by omega) (by rw [hz2]; omega) (by unfold maxLen; omega) (Nat.le_refl _) ?_; intro w1 hown1 hg1)
      have hb1 : Below w.heap.size w w1 := below_of_grown hg1 (Nat.le_refl _) (by simp)
      have hown1' : Own w1 w.heap.size 5 (some ⟨w.heap.size, 0, none⟩) m [] := hown1
      go_loopw [7, 30] (fun v i wr => ∃ j : Nat, ∃ A' c' r, j ≤ xs.length ∧ i = .int .i64 j ∧ v = .slice A' r.length c' ∧ Hid (r = flat ((byts xs).take j)) ∧ r.length ≤ 16384 ∧ Own wr w.heap.size 5 A' c' r ∧ Below w.heap.size w wr) (fun _ i _ => xs.length - (intOf i).toNat)
      case atStart => exact ⟨0, _, _, [], Nat.zero_le _, rfl, rfl, rfl, by simp, hown1', hb1⟩
      case round =>
        obtain ⟨j, A2, c2, r, hj, rfl, rfl, hr2, hrl, hown2, hb2⟩ := hrel
        by_cases hlt2 : j < xs.length
        · obtain ⟨b, o, rfl, hb, hc⟩ := hr.at_ hlt2
          have hs2 := hb2.size
          have hck := (hb2.cell (p := ⟨b, o + j, none⟩) hb).trans (hc j hlt2)
          have hxl := HEL.out _ (List.getElem_mem hlt2)
          have rx := (hr.el xs[j] (List.getElem_mem _)).below hb2
          have hft := flat_take xs j hlt2
          have hle := flat_take_le (byts xs) (j + 1)
          obtain ⟨x, hxk⟩ : ∃ x, x = xs[j] := ⟨_, rfl⟩
          rw [← hxk] at hck rx hxl hft
          unfold El.v at hck
          have HFT := Lib.hid hft
          have HLE := Lib.hid hle
          clear hc hxk hft hle
          go_wp2_with fail
          refine (appendField_any A2 x.A c2 x.c r x.l w.heap.size _ (by omega) (by omega) hown2 hs2 rx).mono ?_
          rintro e w3 ⟨A3, c3, r3, rfl, hr3, hown3, hg3, hb3⟩
          have HR3 : Hid (r3 = flat ((byts xs).take (j + 1))) := by show _ = _; rw [hr3, hr2.out, HFT.out]
          have hl3 : r3.length ≤ 16384 := by
            have := HLE.out
            rw [← HMT.out] at this
            rw [HR3.out]
            omega
          clear hr3
          have hbn : Below w.heap.size w w3 := hb2.trans (below_of_grown hg3 hs2 (fun g hg => (hown2.blk_ge g hg).1))
          go_wp2_with fail
          go_roundw
          case rel => exact ⟨j + 1, A3, c3, r3, by omega, by go_num, rfl, HR3, hl3, hown3, hbn⟩
          case measure => simp [intOf]; omega
        · have hje : j = xs.length := by omega
          have hrt : r = flat (byts xs) := by rw [hr2.out, List.take_of_length_le (by rw [byts_len]; omega)]
          have HRT := Lib.hid hrt
          clear hje hrt
          go_wp2_with fail
          go_ret2
          refine ⟨A2, c2, r, ?_, by rw [HQ.out]; exact HRT.out, hown2, hb2⟩
          rw [HQ.out]
          rfl

end Go.Proofs.YtdjifopdlkppoaaDoor.Oc
