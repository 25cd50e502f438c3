/- The reference's PutField and TakeField answer what octet's do. -/
import Derived.Test.YtdjifopdlkppoaaDoorOcField
namespace Go.Proofs.YtdjifopdlkppoaaDoor.Oc
open Go.RowKit
set_option linter.unusedVariables false

set_option maxHeartbeats 400000 in
theorem refField_any (A : Option Addr) (c : Nat) (f : List UInt8) (w : World) (hr : Rd w w.heap.size A c f) (hf : f.length ≤ 100000) :
    Calls Tryd.prog 68 #[.slice A f.length c] w fun e w' => ∃ A' c' r, e = .returned (.slice A' r.length c') ∧ r = fld f ∧ Own w' w.heap.size 5 A' c' r ∧ Below w.heap.size w w' := by
  obtain ⟨i0, hi, hz0, hz1, hz2⟩ := info_parts info5
  go_enter Tryd.func68, Tryd.ntmps68
  go_wp2_with fail
  refine (digits_any f.length 2 _ (by omega) (by omega)).mono ?_
  rintro e w1 ⟨A1, c1, r1, rfl, hr1, hown1, hb1⟩
  have hl1 : r1.length ≤ 2 := by rw [hr1, be_len]; omega
  have HR1 := Lib.hid hr1
  have hs1 := hb1.size
  have hrd := hr.below hb1
  clear hr1
  go_wp2_with (at_builtin; refine wpList_append_bytes _ rfl _ _ 37 rfl w.heap.size 5 i0 _ Tryd.underlying37 hi hz0 hz1 hz2 rfl r1 f rfl rfl hown1 hrd (by omega) (by omega) ?_; intro A3 c3 w3 r3 hr3 hown3 hg3 hb3)
  go_ret
  exact ⟨A3, c3, r3, rfl, by rw [hr3.out, HR1.out, fld], hown3, hb1.trans (below_of_grown hg3 hs1 (fun k hk => (hown1.blk_ge k hk).1))⟩

set_option maxHeartbeats 1000000 in
theorem refTakeField_any (A : Option Addr) (c : Nat) (l : List UInt8) (p : Int) (w : World) (hr : Rd w w.heap.size A c l) (hl : l.length ≤ 200000) (hp1 : -9223372036854775808 ≤ p) (hp2 : p ≤ 9223372036854775807) :
    Calls Tryd.prog 69 #[.slice A l.length c, .int .i64 p] w (BytesIntErr w (takeFieldM l p)) := by
  have hcap := hr.cap
  by_cases h0 : p < 0
  · have hq : takeFieldM l p = ([], 0, 2) := by unfold takeFieldM; rw [if_neg (by omega)]
    rw [hq]
    go_enter Tryd.func69, Tryd.ntmps69
    go_wp2_with fail
    go_ret3
    exact bytesIntErr_bad w 2
  obtain ⟨k, rfl⟩ := Int.eq_ofNat_of_zero_le (show 0 ≤ p by omega)
  have hd0 : decide ((k : Int) < 0) = false := by simp
  by_cases h1 : l.length < k
  · have hq : takeFieldM l k = ([], 0, 2) := by unfold takeFieldM; rw [if_neg (by omega)]
    rw [hq]
    have hi1 : (l.length : Int) < k := by omega
    go_enter Tryd.func69, Tryd.ntmps69
    go_wp2_with fail
    go_ret3
    exact bytesIntErr_bad w 2
  have hd1 : decide (l.length < k) = false := by simp; omega
  by_cases h2 : k + 2 ≤ l.length
  · have hnum : num ((l.drop k).take 2) < 65536 := Nat.lt_of_lt_of_le (num_lt_of _ 2 (by simp; omega)) (by decide)
    obtain ⟨b, o, rfl, hb, hcell⟩ := hr.at_ (k := 0) (by omega)
    have hcut2 := hr.cut k 2 h2
    have hl2 : ((l.drop k).take 2).length = 2 := by simp; omega
    have hN := number_any _ (c - k) ((l.drop k).take 2) _ w hcut2 (by omega)
    rw [hl2] at hN
    by_cases h3 : k + 2 + num ((l.drop k).take 2) ≤ l.length
    · have hq : takeFieldM l k = ((l.drop (k + 2)).take (num ((l.drop k).take 2)), (k : Int) + 2 + num ((l.drop k).take 2), 0) := by
        unfold takeFieldM
        rw [if_pos (by omega), if_pos (by simp only [Int.toNat_natCast]; omega)]
        simp
      rw [hq]
      clear hq hl2 hcut2 hcell
      generalize hm : num ((l.drop k).take 2) = m at *
      clear hm
      have HN := Lib.hid hN
      clear hN
      have hlen : ((l.drop (k + 2)).take m).length = m := by simp; omega
      have hcut : ∃ X Y, Rd w w.heap.size X Y ((l.drop (k + 2)).take m) ∧ (c = k + 2 → X = some ⟨b, o, none⟩ ∧ Y = 0) ∧ (¬ c = k + 2 → X = some ⟨b, o + (k + 2), none⟩ ∧ Y = c - (k + 2)) := by
        by_cases hck : c = k + 2
        · have hl0 : (l.drop (k + 2)).take m = [] := List.eq_nil_of_length_eq_zero (by omega)
          refine ⟨some ⟨b, o, none⟩, 0, ?_, fun _ => ⟨rfl, rfl⟩, fun h => absurd hck h⟩
          rw [hl0]
          exact ⟨by simp, by simp [maxLen], (fun e => by cases e), fun ad e j hj => by simp at hj⟩
        · exact ⟨_, _, hr.cut (k + 2) m h3, fun h => absurd h hck, fun _ => ⟨rfl, rfl⟩⟩
      obtain ⟨X, Y, hcut, hX1, hX2⟩ := hcut
      have hC := twin_any X Y ((l.drop (k + 2)).take m) w hcut (by omega)
      generalize hs : (l.drop (k + 2)).take m = r at *
      clear hs hcut
      subst hlen
      have HC := Lib.hid hC
      clear hC
      by_cases hck : c = k + 2
      · obtain ⟨rfl, rfl⟩ := hX1 hck
        clear hX1 hX2
        subst hck
        go_enter Tryd.func69, Tryd.ntmps69
        go_wp2_with fail
        have hN := HN.out
        simp only [Nat.add_sub_cancel_left] at hN
        refine hN.mono ?_
        rintro e w' ⟨rfl, rfl⟩
        clear hN
        go_wp2_with fail
        refine HC.out.mono ?_
        rintro e w1 ⟨A1, c1, rfl, hown1, hb1⟩
        go_wp2_with fail
        go_ret3
        exact ⟨A1, c1, r, rfl, rfl, hown1, hb1⟩
      · obtain ⟨rfl, rfl⟩ := hX2 hck
        clear hX1 hX2
        go_enter Tryd.func69, Tryd.ntmps69
        go_wp2_with fail
        refine HN.out.mono ?_
        rintro e w' ⟨rfl, rfl⟩
        go_wp2_with fail
        refine HC.out.mono ?_
        rintro e w1 ⟨A1, c1, rfl, hown1, hb1⟩
        go_wp2_with fail
        go_ret3
        exact ⟨A1, c1, r, rfl, rfl, hown1, hb1⟩
    · have hq : takeFieldM l k = ([], 0, 10) := by
        unfold takeFieldM
        rw [if_pos (by omega), if_neg (by simp only [Int.toNat_natCast]; omega)]
      rw [hq]
      clear hq hl2 hcut2 hcell
      generalize hm : num ((l.drop k).take 2) = m at *
      clear hm
      have hi3 : (l.length : Int) < k + 2 + m := by omega
      have HN := Lib.hid hN
      clear hN
      go_enter Tryd.func69, Tryd.ntmps69
      go_wp2_with fail
      refine HN.out.mono ?_
      rintro e w' ⟨rfl, rfl⟩
      go_wp2_with fail
      go_ret3
      exact bytesIntErr_bad w 10
  · have hq : takeFieldM l k = ([], 0, 10) := by
      unfold takeFieldM
      rw [if_pos (by omega), if_neg (by omega)]
    rw [hq]
    have hi2 : (l.length : Int) < k + 2 := by omega
    go_enter Tryd.func69, Tryd.ntmps69
    go_wp2_with fail
    go_ret3
    exact bytesIntErr_bad w 10
end Go.Proofs.YtdjifopdlkppoaaDoor.Oc
