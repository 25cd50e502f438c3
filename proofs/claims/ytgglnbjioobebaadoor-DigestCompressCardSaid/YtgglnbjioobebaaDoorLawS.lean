/- The reference's Sum; DigestSum. -/
import Derived.Test.YtgglnbjioobebaaDoorRefO
import Derived.Test.YtgglnbjioobebaaDoorEq
namespace Go.Proofs.YtgglnbjioobebaaDoor
open Go.RowKit
set_option linter.unusedVariables false

theorem greatX_any (A : Option Addr) (c : Nat) (l : List UInt8) (w : World) :
    Calls Tryd.prog 17 #[.slice A l.length c] w fun e w' => e = .returned (.bool (decide ((8292 : Int) < (l.length : Int)))) ∧ w = w' := by
  go_enter Tryd.func17, Tryd.ntmps17
  go_wp2_with fail
  go_ret
  exact ⟨rfl, rfl⟩
set_option maxHeartbeats 1000000 in
theorem refSum_any (A : Option Addr) (c B : Nat) (l : List UInt8) (w : World) (hr : Rf bv w B A c l) (hB : B ≤ w.heap.size) (hl : l.length ≤ 100000) :
    Calls Tryd.prog 18 #[.slice A l.length c] w fun e w' => e = .returned (.tuple #[ab (sumM l).1, .int .i64 (sumM l).2]) ∧ Below w.heap.size w w' := by
  by_cases hbig : 8192 < l.length
  · have HM := Lib.hid (show sumM l = (zero32, 4) by unfold sumM; rw [if_pos hbig])
    go_enter Tryd.func18, Tryd.ntmps18
    go_wp2_with ((with_reducible refine wpList_store_cs bv_one rfl _ (.tmp 2) (.tmp 7) rfl _ (List.replicate 32 0) _ z32 rfl rfl (Hb.new bv w _ (List.replicate 32 0) _ z32) size32 (List.length_replicate ..) (List.length_replicate ..) ?_); intro w3 h3 hg3)
    refine bodyPost_cell_tmp (f := bv) (g := w.heap.size) (t := 22) (L := List.replicate 32 0) rfl rfl h3 Tryd.underlying22 size32 rfl ⟨by rw [HM.out]; rfl, (below_new w _).grown hg3 (below_new w _).size (fun k e => by cases e; omega)⟩
  · have HM := Lib.hid (show sumM l = (dig l, 0) by unfold sumM; rw [if_neg hbig])
    go_enter Tryd.func18, Tryd.ntmps18
    go_wp2_with fail
    refine (of_any A c B l _ (hr.below ((below_new w _).mono hB)) (by rw [World.size_alloc]; omega) (by omega)).mono ?_
    rintro e w1 ⟨rfl, hb1⟩
    unfold ab
    have hz := Hb.below (Hb.new bv w _ (List.replicate 32 0) _ rfl) hb1 (by simp)
    have hb := (below_new w _).trans (hb1.mono (by simp))
    clear hb1
    go_wp2_with ((with_reducible refine wpList_store_hb bv_one rfl _ (.tmp 2) (.tmp 9) rfl _ (dig l) rfl rfl hz size32 (List.length_replicate ..) (dig_len l) ?_); intro w3 h3 hg3)
    refine bodyPost_cell_tmp (f := bv) (g := w.heap.size) (t := 22) (L := dig l) rfl rfl h3 Tryd.underlying22 (by rw [dig_len]; exact size32) rfl ⟨by rw [HM.out]; rfl, ?_⟩
    exact hb.grown hg3 hb.size (fun k e => by cases e; omega)
set_option maxHeartbeats 1000000 in
theorem digestSum_any (A : Option Addr) (c : Nat) (l : List UInt8) (w : World) (hr : Rf bv w w.heap.size A c l) (hT : Tab w) :
    Calls Tryd.prog 4 #[.slice A l.length c] w fun e w' => e = .returned (.bool true) ∧ Below w.heap.size w w' := by
  have HT := Lib.hid hT
  clear hT
  by_cases hbig : 8292 < l.length
  · have hbd : (8292 : Int) < (l.length : Int) := by omega
    go_enter Tryd.func4, Tryd.ntmps4
    go_wp2_with fail
    refine (greatX_any A c l w).mono ?_
    rintro e w1 ⟨rfl, rfl⟩
    go_wp2_with fail
    go_ret
    exact ⟨rfl, Below.refl _ _⟩
  · have hbd : decide ((8292 : Int) < (l.length : Int)) = false := by simp; omega
    obtain ⟨s, e0, hs⟩ : ∃ s e, sumM l = (s, e) := ⟨_, _, rfl⟩
    have hsl : s.length = 32 := by have := sumM_len l; rw [hs] at this; exact this
    have HS := Lib.hid hs
    have HSL := Lib.hid hsl
    obtain ⟨cs, hcs⟩ : ∃ cs, (s.map bv).toArray = cs := ⟨_, rfl⟩
    have HCS := Lib.hid hcs
    have hE := eqi_ab s hsl cs hcs
    have hGD := gd_ab
    clear hs hsl hcs
    have hk1 := run_string_f (P := Tryd.prog) w 26 9 5 Tryd.underlying26 Tryd.underlying5 Tryd.underlying9 hr
    go_enter Tryd.func4, Tryd.ntmps4
    go_wp2_with fail
    refine (greatX_any A c l w).mono ?_
    rintro e w1 ⟨rfl, rfl⟩
    go_wp2_with fail
    refine (sum_any A c w.heap.size l w hr (Nat.le_refl _) (by omega) HT.out).mono ?_
    rintro e w1 ⟨rfl, hb1⟩
    rw [HS.out]
    unfold ab
    rw [HCS.out]
    go_wp2_with ((with_reducible refine wpList_store_cs bv_one rfl _ (.tmp 4) (.tmp 15) rfl _ s _ HCS.out rfl rfl (Hb.new bv w1 _ (List.replicate 32 0) _ z32) size32 (List.length_replicate ..) HSL.out ?_); intro w2 h2 hg2; have hbw2 : Below w.heap.size w w2 := (hb1.alloc hb1.size _).grown hg2 (hb1.alloc hb1.size _).size (fun k e => by cases e; exact hb1.size))
    refine (refSum_any A c w.heap.size l w2 (hr.below hbw2) hbw2.size (by omega)).mono ?_
    rintro e w3 ⟨rfl, hb3⟩
    rw [HS.out]
    unfold ab
    rw [HCS.out]
    have h3 := h2.below hb3 h2.lt
    have hbw3 := hbw2.trans (hb3.mono hbw2.size)
    clear hb1 hg2 hb3 h2 hbw2
    go_wp2_with (first
      | ((with_reducible refine wpList_store_cs bv_one rfl _ (.tmp 6) (.tmp 20) rfl _ s _ HCS.out rfl rfl (Hb.new bv w3 _ (List.replicate 32 0) _ z32) size32 (List.length_replicate ..) HSL.out ?_); intro w4 h4 hg4; have hbw4 : Below w.heap.size w w4 := (hbw3.alloc hbw3.size _).grown hg4 (hbw3.alloc hbw3.size _).size (fun k e => by cases e; exact hbw3.size); have h34 := (h3.alloc _).grown hg4 (by have := h3.lt; simp; omega); have hk2 := run_string_f (P := Tryd.prog) w4 26 9 5 Tryd.underlying26 Tryd.underlying5 Tryd.underlying9 (hr.below hbw4))
      | ((with_reducible refine wpList_load_g (by kernel_rfl) _ (.tmp 4) rfl _ rfl h34 Tryd.underlying22 (by rw [HSL.out]; exact size32) ?_); rw [HCS.out])
      | ((with_reducible refine wpList_load_g (by kernel_rfl) _ (.tmp 6) rfl _ rfl h4 Tryd.underlying22 (by rw [HSL.out]; exact size32) ?_); rw [HCS.out]))
    go_ret
    exact ⟨rfl, hbw4⟩
end Go.Proofs.YtgglnbjioobebaaDoor
