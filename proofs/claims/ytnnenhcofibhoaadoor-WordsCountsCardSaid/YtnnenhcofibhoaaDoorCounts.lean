/- The walk of the law WordsCounts. -/
import Derived.Test.YtnnenhcofibhoaaDoorAlive
import Derived.Test.YtnnenhcofibhoaaDoorRefNum
namespace Go.Proofs.YtnnenhcofibhoaaDoor
open Go.RowKit
set_option linter.unusedVariables false

theorem itoa_len (n : Int) (h0 : -9223372036854775808 ≤ n) (h1 : n ≤ 9223372036854775807) : (Lib.itoa n).length ≤ 30 := by
  unfold Lib.itoa
  split
  · have := decDigits_len 19 n.natAbs (by omega)
    simp
    omega
  · have := decDigits_len 19 n.toNat (by omega)
    omega

theorem number_two (s : List UInt8) : (∃ er, numberM s = (0, er) ∧ er ≠ 0) ∨ ∃ v, numberM s = (v, 0) ∧ -9223372036854775808 ≤ v ∧ v ≤ 9223372036854775807 := by
  rcases numberM_cases s with e | e | ⟨_, _, hb, e⟩
  · exact .inl ⟨11, e, by decide⟩
  · exact .inl ⟨30, e, by decide⟩
  · refine .inr ⟨_, e, ?_, ?_⟩ <;> split <;> omega

set_option maxRecDepth 100000 in
set_option maxHeartbeats 4000000 in
theorem counts_walk (a0 : Int) (x1 : List UInt8) (w : World) (w0 : (Lit.int .i64 a0).wf = true) (w1 : x1.length ≤ 140737488351232) (hT : Tab w) :
    Calls Tryd.prog 7 #[.int .i64 a0, .string ⟨x1.toArray⟩] w fun e w' => e = .returned (.bool true) ∧ Below w.heap.size w w' := by
  have hb := bounds_i64 w0
  have HB := Lib.hid hb
  by_cases h1 : 20000 < x1.length
  · have hi1 : (20000 : Int) < x1.length := by omega
    clear w0 hb
    go_enter Tryd.func7, Tryd.ntmps7
    go_wp2_with fail
    refine (alive_any _ hT).mono ?_
    rintro e w2 ⟨rfl, hb2⟩
    go_wp2_with fail
    go_ret
    exact ⟨rfl, hb2⟩
  have hi1 : ¬ (20000 : Int) < x1.length := by omega
  have hl1 : x1.length ≤ 20000 := by omega
  have hns := number_show a0
  have hlen := itoa_len a0 (by omega) (by omega)
  have hcase : (a0 < -4611686018427387904 ∧ decide (-4611686018427387904 ≤ a0) = false ∧ numberM (Lib.itoa a0) = (0, 30)) ∨ (¬ a0 < -4611686018427387904 ∧ -4611686018427387904 ≤ a0 ∧ 4611686018427387904 < a0 ∧ decide (a0 ≤ 4611686018427387904) = false ∧ numberM (Lib.itoa a0) = (0, 30)) ∨ (-4611686018427387904 ≤ a0 ∧ a0 ≤ 4611686018427387904 ∧ numberM (Lib.itoa a0) = (a0, 0)) := by
    by_cases h1 : a0 < -4611686018427387904
    · exact .inl ⟨h1, by simp; omega, by rw [hns, if_pos (.inl h1)]⟩
    · by_cases h2 : 4611686018427387904 < a0
      · exact .inr (.inl ⟨h1, by omega, h2, by simp; omega, by rw [hns, if_pos (.inr h2)]⟩)
      · exact .inr (.inr ⟨by omega, by omega, by rw [hns, if_neg (by omega)]⟩)
  have HL := Lib.hid hlen
  clear w0 hb w1 h1 hns hlen
  rcases hcase with ⟨h1, h1d, hq⟩ | ⟨h1, h1', h2, h2d, hq⟩ | ⟨h1, h2, hq⟩
  all_goals
    have HQ := Lib.hid hq
    clear hq
    go_enter Tryd.func7, Tryd.ntmps7
    go_wp2_with fail
    refine (alive_any _ hT).mono ?_
    rintro e w2 ⟨rfl, hb2⟩
    go_wp2_with fail
    refine (show_any a0 w2 (by have := HB.out; omega) (by have := HB.out; omega) (hT.below hb2)).mono ?_
    rintro e w3 ⟨rfl, hb3⟩
    have b3 := hb2.trans (hb3.mono hb2.size)
    go_wp2_with fail
    refine (number_any (Lib.itoa a0) w3 (by have := HL.out; omega)).mono ?_
    rintro e w' ⟨rfl, rfl⟩
    rw [HQ.out]
    go_wp2_with fail
    refine (number_any x1 w3 (by omega)).mono ?_
    rintro e w' ⟨rfl, rfl⟩
    rcases number_two x1 with ⟨er, hn, her⟩ | ⟨v, hn, hv1, hv2⟩
    · rw [hn]
      have he1 : (er != 0) = true := by rw [bne_iff_ne]; exact her
      clear hn her
      go_wp2_with fail
      go_ret
      exact ⟨rfl, b3⟩
    · rw [hn]
      have HS := Lib.hid (show_number hn)
      have HV1 := Lib.hid hv1
      have HV2 := Lib.hid hv2
      clear hn hv1 hv2
      go_wp2_with fail
      refine (show_any v w3 HV1.out HV2.out (hT.below b3)).mono ?_
      rintro e w4 ⟨rfl, hb4⟩
      rw [HS.out]
      go_wp2_with fail
      go_ret
      exact ⟨rfl, b3.trans (hb4.mono b3.size)⟩
end Go.Proofs.YtnnenhcofibhoaaDoor
