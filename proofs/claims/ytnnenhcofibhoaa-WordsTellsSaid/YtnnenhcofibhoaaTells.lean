/- The walk of the law WordsTells. -/
import Derived.Test.YtnnenhcofibhoaaRefB
import Derived.Test.YtnnenhcofibhoaaWords2
namespace Go.Proofs.Ytnnenhcofibhoaa
open Go.RowKit
set_option linter.unusedVariables false

set_option maxRecDepth 100000 in
set_option maxHeartbeats 2000000 in
theorem tells_walk (a1 : Option Addr) (c1 : Nat) (x0 : List UInt8) (x1 : List (List UInt8)) (w : World) (w0 : x0.length ≤ 140737488351232) (w1 : Rf sv w w.heap.size a1 c1 x1) (u1 : ∀ x ∈ x1, x.length ≤ 140737488351232) :
    Calls Try.prog 4 #[.string ⟨x0.toArray⟩, .slice a1 x1.length c1] w fun e w' => e = .returned (.bool true) ∧ Below w.heap.size w w' := by
  obtain ⟨i0, hi, hz0, hz1, hz2⟩ := info_parts infoS
  by_cases h1 : 20000 < x0.length
  · have hi1 : (20000 : Int) < x0.length := by omega
    go_enter Try.func4, Try.ntmps4
    go_wp2_with fail
    go_ret
    exact ⟨rfl, Below.refl _ _⟩
  have hi1 : ¬ (20000 : Int) < x0.length := by omega
  have hu : ∀ x ∈ x1, x.length ≤ 140737488355328 := fun x hx => Nat.le_trans (u1 x hx) (by decide)
  have HU := Lib.hid hu
  have hl0 : x0.length ≤ 20000 := by omega
  clear hu u1 w0 h1
  go_enter Try.func4, Try.ntmps4
  go_wp2_with fail
  refine (long_any a1 c1 _ x1 _ w1 HU.out).mono ?_
  rintro e w' ⟨n, rfl, rfl, hn, hn2⟩
  have HN := Lib.hid hn
  by_cases h3 : 60000 < n
  · have hi3 : (60000 : Int) < n := by omega
    clear hn hn2
    go_wp2_with fail
    go_ret
    exact ⟨rfl, Below.refl _ _⟩
  have hi3 : ¬ (60000 : Int) < n := by omega
  have hsum : sumL x1 ≤ 60000 := by have := hn (by omega); omega
  have hl1 : x1.length ≤ 60000 := Nat.le_trans (sumL_len x1) hsum
  have HS := Lib.hid hsum
  clear hn hn2 h3 hsum
  go_wp2_with (at_builtin; refine wpList_append_f _ sv_one rfl _ _ 22 rfl w.heap.size 9 16 i0 _ Try.underlying22 hi hz0 hz1 hz2 (by omega) rfl [] x1 rfl rfl (ow_zero w _ _ (Nat.le_refl _)) (w1.alloc (Nat.le_refl _) _) (by simp; omega) (by simp) ?_; intro A2 c2 w2 r2 hr2 hown2 hg2 _)
  have hb2 : Below w.heap.size w w2 := (below_new w _).trans (below_of_grown hg2 (by simp) (fun k e => by cases e; exact Nat.le_refl _))
  have hs2 := hb2.size
  obtain rfl : r2 = x1 := hr2.out
  clear hg2 hr2
  refine (words_any x0 w2 (by omega)).mono ?_
  rintro e w3 ⟨A3, c3, ls, rfl, hls, hown3, hb3⟩
  have HL := Lib.hid hls
  clear hls
  go_wp2_with fail
  refine (refWords_any x0 w3 (by omega)).mono ?_
  rintro e w4 ⟨A4, c4, ls2, rfl, hls2, hown4, hb4⟩
  have HL2 := Lib.hid hls2
  clear hls2
  have hs3 := hb3.size
  have hs4 := hb4.size
  have hown2' := (hown2.below (Nat.le_refl _) hb3).below (Nat.le_refl _) hb4
  go_wp2_with fail
  refine (line_any A2 c2 r2 w4 (hown2'.rd) (by have := HS.out; omega)).mono ?_
  rintro e w5 ⟨rfl, hb5⟩
  have hs5 := hb5.size
  have b5 : Below w.heap.size w w5 := ((hb2.trans (hb3.mono hs2)).trans (hb4.mono (Nat.le_trans hs2 hs3))).trans (hb5.mono (Nat.le_trans hs2 (Nat.le_trans hs3 hs4)))
  go_wp2_with fail
  refine (refLine_any a1 c1 _ r2 w5 (w1.below b5) (by have := HS.out; omega)).mono ?_
  rintro e w6 ⟨rfl, hb6⟩
  have hs6 := hb6.size
  have b6 := b5.trans (hb6.mono b5.size)
  have o3 := ((hown3.below (Nat.le_refl _) hb4).below (Nat.le_refl _) hb5).below (Nat.le_refl _) hb6
  have o4 := (hown4.below (Nat.le_refl _) hb5).below (Nat.le_refl _) hb6
  have o2 := (hown2'.below (Nat.le_refl _) hb5).below (Nat.le_refl _) hb6
  have hq := wordsM_len x0
  have hll : ls.length ≤ 4000000000 := by rw [HL.out]; omega
  have hll2 : ls2.length ≤ 4000000000 := by rw [HL2.out]; omega
  have hsame : decide (ls = ls2) = true := by rw [decide_eq_true_eq, HL.out, HL2.out]
  have HSM := Lib.hid hsame
  clear hsame hq
  go_wp2_with fail
  refine (same_any A3 A4 c3 c4 _ _ ls ls2 w6 o3.rd o4.rd hll hll2).mono ?_
  rintro e w7 ⟨rfl, n7, rfl⟩
  rw [HSM.out]
  go_wp2_with fail
  refine (same_any A2 a1 c2 c1 _ _ r2 r2 (w6.drewN n7) (o2.drewN n7).rd ((w1.below b6).drewN n7) (by omega) (by omega)).mono ?_
  rintro e w8 ⟨rfl, n8, rfl⟩
  rw [decide_eq_true rfl]
  go_wp2_with fail
  go_ret
  exact ⟨rfl, b6.trans (below_drewN _ _ _)⟩
end Go.Proofs.Ytnnenhcofibhoaa
