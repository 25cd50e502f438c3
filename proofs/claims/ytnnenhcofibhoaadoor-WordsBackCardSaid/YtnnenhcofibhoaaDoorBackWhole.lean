/- The walks of the laws WordsWhole and WordsBack. -/
import Derived.Test.YtnnenhcofibhoaaDoorAlive
namespace Go.Proofs.YtnnenhcofibhoaaDoor
open Go.RowKit
set_option linter.unusedVariables false

theorem lines_two (s : List UInt8) : (∃ er, linesM s = ([], er) ∧ er ≠ 0) ∨ ∃ ls, linesM s = (ls, 0) ∧ s = flatL ls := by
  rcases linesM_cases s with e | e | ⟨ls, e, hs, _⟩
  · exact .inl ⟨4, e, by decide⟩
  · exact .inl ⟨11, e, by decide⟩
  · exact .inr ⟨ls, e, hs⟩
theorem text_two (xs : List (List UInt8)) : (∃ er, textM xs = ([], er) ∧ er ≠ 0) ∨ textM xs = (flatL xs, 0) := by
  rcases textM_cases xs with ⟨_, e⟩ | ⟨_, _, e⟩ | ⟨_, _, e⟩
  · exact .inl ⟨4, e, by decide⟩
  · exact .inl ⟨11, e, by decide⟩
  · exact .inr e
theorem words_two (s : List UInt8) : (∃ er, wordsM s = ([], er) ∧ er ≠ 0) ∨ ∃ ls, wordsM s = (ls, 0) ∧ s = joinW ls ∧ (∀ x ∈ ls, isWordB x = true) ∧ s.length ≤ 16384 := by
  rcases wordsM_cases s with e | e | ⟨ls, e, hs, hw, hb⟩
  · exact .inl ⟨4, e, by decide⟩
  · exact .inl ⟨11, e, by decide⟩
  · exact .inr ⟨ls, e, hs, hw, by omega⟩
theorem line_two (xs : List (List UInt8)) : (∃ er, lineM xs = ([], er) ∧ er ≠ 0) ∨ (lineM xs = (joinW xs, 0) ∧ (joinW xs).length ≤ 16384) := by
  rcases lineM_cases xs with e | e | ⟨e, _, hb⟩
  · exact .inl ⟨4, e, by decide⟩
  · exact .inl ⟨11, e, by decide⟩
  · exact .inr ⟨e, by omega⟩
theorem joinW_mem : ∀ {xs : List (List UInt8)} {y : List UInt8}, y ∈ xs → y.length ≤ (joinW xs).length
  | [x], y, h => by simp at h; rw [h]; simp [joinW]
  | x :: z :: r, y, h => by
    rw [joinW, List.length_append, List.length_cons]
    rcases List.mem_cons.1 h with e | h
    · rw [e]; omega
    · have := joinW_mem h
      omega

theorem joinW_sum : ∀ (xs : List (List UInt8)), sumL xs ≤ (joinW xs).length + 1
  | [] => by simp [sumL]
  | [x] => by simp [sumL, joinW]
  | x :: z :: r => by
    have := joinW_sum (z :: r)
    rw [joinW, List.length_append, List.length_cons]
    simp only [sumL, List.map_cons, List.sum_cons] at this ⊢
    omega

set_option maxRecDepth 100000 in
set_option maxHeartbeats 4000000 in
theorem back_walk (a1 : Option Addr) (c1 : Nat) (x0 : List UInt8) (x1 : List (List UInt8)) (w : World) (w0 : x0.length ≤ 140737488351232) (w1 : Rf sv w w.heap.size a1 c1 x1) (u1 : ∀ x ∈ x1, x.length ≤ 140737488351232) (hT : Tab w) :
    Calls Tryd.prog 5 #[.string ⟨x0.toArray⟩, .slice a1 x1.length c1] w fun e w' => e = .returned (.bool true) ∧ Below w.heap.size w w' := by
  have hx1 : x1.length ≤ 9223372036854775807 := by have := w1.cap; have := w1.capm; simp only [maxLen] at this; omega
  have hu : ∀ x ∈ x1, x.length ≤ 140737488355328 := fun x hx => Nat.le_trans (u1 x hx) (by decide)
  have HU := Lib.hid hu
  clear hu u1
  by_cases h1 : 20000 < x0.length
  · have hi1 : (20000 : Int) < x0.length := by omega
    go_enter Tryd.func5, Tryd.ntmps5
    go_wp2_with fail
    refine (alive_any _ hT).mono ?_
    rintro e w2 ⟨rfl, hb2⟩
    go_wp2_with fail
    go_ret
    exact ⟨rfl, hb2⟩
  have hi1 : ¬ (20000 : Int) < x0.length := by omega
  by_cases h2 : 600 < x1.length
  · have hi2 : (600 : Int) < x1.length := by omega
    go_enter Tryd.func5, Tryd.ntmps5
    go_wp2_with fail
    refine (alive_any _ hT).mono ?_
    rintro e w2 ⟨rfl, hb2⟩
    go_wp2_with fail
    go_ret
    exact ⟨rfl, hb2⟩
  have hi2 : ¬ (600 : Int) < x1.length := by omega
  have hl0 : x0.length ≤ 20000 := by omega
  have hl1 : x1.length ≤ 600 := by omega
  clear w0 h1 h2 hx1
  go_enter Tryd.func5, Tryd.ntmps5
  go_wp2_with fail
  refine (alive_any _ hT).mono ?_
  rintro e w2 ⟨rfl, hb2⟩
  have hs2 := hb2.size
  go_wp2_with fail
  refine (long_any a1 c1 _ x1 _ (w1.below hb2) HU.out).mono ?_
  rintro e w' ⟨n, rfl, rfl, hn, hn2⟩
  by_cases h3 : 60000 < n
  · have hi3 : (60000 : Int) < n := by omega
    clear hn hn2
    go_wp2_with fail
    go_ret
    exact ⟨rfl, hb2⟩
  have hi3 : ¬ (60000 : Int) < n := by omega
  have hsum : sumL x1 ≤ 60000 := by have := hn (by omega); omega
  have hfl : (flatL x1).length ≤ 60000 := by rw [flatL_len]; exact hsum
  have HS := Lib.hid hsum
  have HF := Lib.hid hfl
  clear hn hn2 h3 hsum hfl
  go_wp2_with fail
  refine (lines_any x0 w2 (by omega)).mono ?_
  rintro e w3 ⟨A3, c3, ls, rfl, hls, hown3, hb3⟩
  have hs3 := hb3.size
  have b3 := hb2.trans (hb3.mono hs2)
  rcases lines_two x0 with ⟨er, hq, her⟩ | ⟨ls', hq, hfl⟩
  · rw [hq] at hls ⊢
    obtain rfl : ls = [] := hls
    have he1 : (er != 0) = true := by rw [bne_iff_ne]; exact her
    have he2 : (er == 0) = false := by rw [beq_eq_false_iff_ne]; exact her
    clear hq her
    go_wp2_with fail
    refine (text_any A3 c3 [] w3 hown3.rd (by simp) (by simp [flatL])).mono ?_
    rintro e w4 ⟨rfl, hb4⟩
    have b4 := b3.trans (hb4.mono b3.size)
    rw [show textM [] = ([], 0) from rfl]
    go_wp2_with fail
    refine (text_any a1 c1 x1 w4 ((w1.below b4).more b4.size) (by omega) (by have := HF.out; omega)).mono ?_
    rintro e w5 ⟨rfl, hb5⟩
    have b5 := b4.trans (hb5.mono b4.size)
    rcases text_two x1 with ⟨er2, hq2, her2⟩ | hq2
    · rw [hq2]
      have hf1 : (er2 != 0) = true := by rw [bne_iff_ne]; exact her2
      clear hq2 her2
      go_wp2_with fail
      refine (lines_any [] w5 (by decide)).mono ?_
      rintro e w6 ⟨A6, c6, ls6, rfl, hls6, hown6, hb6⟩
      rw [show linesM [] = ([], 0) from rfl]
      have HL6 := Lib.hid hls6
      clear hls6
      go_wp2_with fail
      go_ret
      exact ⟨rfl, b5.trans (hb6.mono b5.size)⟩
    · have HQ2 := Lib.hid (linesM_textM hq2)
      rw [hq2]
      clear hq2
      go_wp2_with fail
      refine (lines_any (flatL x1) w5 (by have := HF.out; omega)).mono ?_
      rintro e w6 ⟨A6, c6, ls6, rfl, hls6, hown6, hb6⟩
      rw [HQ2.out] at hls6 ⊢
      obtain rfl : ls6 = x1 := hls6
      have b6 := b5.trans (hb6.mono b5.size)
      go_wp2_with fail
      refine (same_any A6 a1 c6 c1 _ _ ls6 ls6 w6 hown6.rd (w1.below b6) (by omega) (by omega)).mono ?_
      rintro e w7 ⟨rfl, n7, rfl⟩
      rw [decide_eq_true rfl]
      go_wp2_with fail
      go_ret
      exact ⟨rfl, b6.trans (below_drewN _ _ _)⟩
  · have HQ := Lib.hid (textM_linesM hq)
    have hll := linesM_len x0
    rw [hq] at hls hll ⊢
    obtain rfl : ls = ls' := hls
    have hfl2 : (flatL ls).length ≤ 20000 := by rw [← hfl]; exact hl0
    have hll2 : ls.length ≤ 20001 := by dsimp only at hll; omega
    clear hq hll hfl
    go_wp2_with fail
    refine (text_any A3 c3 ls w3 hown3.rd (by omega) (by omega)).mono ?_
    rintro e w4 ⟨rfl, hb4⟩
    have b4 := b3.trans (hb4.mono b3.size)
    rw [HQ.out]
    go_wp2_with fail
    refine (text_any a1 c1 x1 w4 ((w1.below b4).more b4.size) (by omega) (by have := HF.out; omega)).mono ?_
    rintro e w5 ⟨rfl, hb5⟩
    have b5 := b4.trans (hb5.mono b4.size)
    rcases text_two x1 with ⟨er2, hq2, her2⟩ | hq2
    · rw [hq2]
      have hf1 : (er2 != 0) = true := by rw [bne_iff_ne]; exact her2
      clear hq2 her2
      go_wp2_with fail
      refine (lines_any [] w5 (by decide)).mono ?_
      rintro e w6 ⟨A6, c6, ls6, rfl, hls6, hown6, hb6⟩
      rw [show linesM [] = ([], 0) from rfl]
      have HL6 := Lib.hid hls6
      clear hls6
      go_wp2_with fail
      go_ret
      exact ⟨rfl, b5.trans (hb6.mono b5.size)⟩
    · have HQ2 := Lib.hid (linesM_textM hq2)
      rw [hq2]
      clear hq2
      go_wp2_with fail
      refine (lines_any (flatL x1) w5 (by have := HF.out; omega)).mono ?_
      rintro e w6 ⟨A6, c6, ls6, rfl, hls6, hown6, hb6⟩
      rw [HQ2.out] at hls6 ⊢
      obtain rfl : ls6 = x1 := hls6
      have b6 := b5.trans (hb6.mono b5.size)
      go_wp2_with fail
      refine (same_any A6 a1 c6 c1 _ _ ls6 ls6 w6 hown6.rd (w1.below b6) (by omega) (by omega)).mono ?_
      rintro e w7 ⟨rfl, n7, rfl⟩
      rw [decide_eq_true rfl]
      go_wp2_with fail
      go_ret
      exact ⟨rfl, b6.trans (below_drewN _ _ _)⟩

set_option maxRecDepth 100000 in
set_option maxHeartbeats 4000000 in
theorem whole_walk (a1 : Option Addr) (c1 : Nat) (x0 : List UInt8) (x1 : List (List UInt8)) (w : World) (w0 : x0.length ≤ 140737488351232) (w1 : Rf sv w w.heap.size a1 c1 x1) (u1 : ∀ x ∈ x1, x.length ≤ 140737488351232) (hT : Tab w) :
    Calls Tryd.prog 6 #[.string ⟨x0.toArray⟩, .slice a1 x1.length c1] w fun e w' => e = .returned (.bool true) ∧ Below w.heap.size w w' := by
  have hu : ∀ x ∈ x1, x.length ≤ 140737488355328 := fun x hx => Nat.le_trans (u1 x hx) (by decide)
  have HU := Lib.hid hu
  clear hu u1
  by_cases h1 : 20000 < x0.length
  · have hi1 : (20000 : Int) < x0.length := by omega
    go_enter Tryd.func6, Tryd.ntmps6
    go_wp2_with fail
    refine (alive_any _ hT).mono ?_
    rintro e w2 ⟨rfl, hb2⟩
    go_wp2_with fail
    go_ret
    exact ⟨rfl, hb2⟩
  have hi1 : ¬ (20000 : Int) < x0.length := by omega
  have hl0 : x0.length ≤ 20000 := by omega
  clear w0 h1
  go_enter Tryd.func6, Tryd.ntmps6
  go_wp2_with fail
  refine (alive_any _ hT).mono ?_
  rintro e w2 ⟨rfl, hb2⟩
  have hs2 := hb2.size
  go_wp2_with fail
  refine (long_any a1 c1 _ x1 _ (w1.below hb2) HU.out).mono ?_
  rintro e w' ⟨n, rfl, rfl, hn, hn2⟩
  by_cases h3 : 60000 < n
  · have hi3 : (60000 : Int) < n := by omega
    clear hn hn2
    go_wp2_with fail
    go_ret
    exact ⟨rfl, hb2⟩
  have hi3 : ¬ (60000 : Int) < n := by omega
  have hsum : sumL x1 ≤ 60000 := by have := hn (by omega); omega
  have hl1 : x1.length ≤ 60000 := Nat.le_trans (sumL_len x1) hsum
  have HS := Lib.hid hsum
  clear hn hn2 h3 hsum
  go_wp2_with fail
  refine (words_any x0 w2 (by omega)).mono ?_
  rintro e w3 ⟨A3, c3, ls, rfl, hls, hown3, hb3⟩
  have hs3 := hb3.size
  have b3 := hb2.trans (hb3.mono hs2)
  rcases words_two x0 with ⟨er, hq, her⟩ | ⟨ls', hq, hjw, hwd, hbl⟩
  · rw [hq] at hls ⊢
    obtain rfl : ls = [] := hls
    have he1 : (er != 0) = true := by rw [bne_iff_ne]; exact her
    have he2 : (er == 0) = false := by rw [beq_eq_false_iff_ne]; exact her
    clear hq her
    go_wp2_with fail
    refine (line_any A3 c3 [] w3 hown3.rd (by simp [sumL])).mono ?_
    rintro e w4 ⟨rfl, hb4⟩
    have b4 := b3.trans (hb4.mono b3.size)
    rw [show lineM [] = ([], 0) from rfl]
    go_wp2_with fail
    refine wp_loop_rounds 1 ?_
    rw [rounds_succ]
    go_wp2_with fail
    refine (line_any a1 c1 x1 w4 ((w1.below b4).more b4.size) (by have := HS.out; omega)).mono ?_
    rintro e w5 ⟨rfl, hb5⟩
    have b5 := b4.trans (hb5.mono b4.size)
    rcases line_two x1 with ⟨er2, hq2, her2⟩ | ⟨hq2, hjl⟩
    · rw [hq2]
      have hf1 : (er2 != 0) = true := by rw [bne_iff_ne]; exact her2
      clear hq2 her2
      go_wp2_with fail
      refine (words_any [] w5 (by decide)).mono ?_
      rintro e w6 ⟨A6, c6, ls6, rfl, hls6, hown6, hb6⟩
      rw [show wordsM [] = ([], 0) from rfl]
      have HL6 := Lib.hid hls6
      clear hls6
      go_wp2_with fail
      go_ret
      exact ⟨rfl, b5.trans (hb6.mono b5.size)⟩
    · have HQ2 := Lib.hid (wordsM_lineM hq2)
      rw [hq2]
      clear hq2
      go_wp2_with fail
      refine (words_any (joinW x1) w5 (by omega)).mono ?_
      rintro e w6 ⟨A6, c6, ls6, rfl, hls6, hown6, hb6⟩
      rw [HQ2.out] at hls6 ⊢
      obtain rfl : ls6 = x1 := hls6
      have b6 := b5.trans (hb6.mono b5.size)
      go_wp2_with fail
      refine (same_any A6 a1 c6 c1 _ _ ls6 ls6 w6 hown6.rd (w1.below b6) (by omega) (by omega)).mono ?_
      rintro e w7 ⟨rfl, n7, rfl⟩
      rw [decide_eq_true rfl]
      go_wp2_with fail
      go_ret
      exact ⟨rfl, b6.trans (below_drewN _ _ _)⟩
  · have HQ := Lib.hid (lineM_wordsM hq)
    have hll := wordsM_len x0
    rw [hq] at hls hll ⊢
    obtain rfl : ls = ls' := hls
    have hll2 : ls.length ≤ 20001 := by dsimp only at hll; omega
    have hmem : ∀ y ∈ ls, y.length ≤ 16384 := fun y hy => by have := joinW_mem hy; rw [← hjw] at this; omega
    have hsl : sumL ls ≤ 4000000 := by
      have := joinW_sum ls
      rw [← hjw] at this
      omega
    have HW := Lib.hid hwd
    have HM := Lib.hid hmem
    have HJ := Lib.hid hjw
    clear hq hll hjw hwd hmem
    go_wp2_with fail
    refine (line_any A3 c3 ls w3 hown3.rd hsl).mono ?_
    rintro e w4 ⟨rfl, hb4⟩
    have b4 := b3.trans (hb4.mono b3.size)
    rw [HQ.out]
    go_wp2_with fail
    go_loopw [10] (fun i wr => ∃ k : Nat, k ≤ ls.length ∧ i = .int .i64 k ∧ Below w4.heap.size w4 wr) (fun i _ => ls.length - (intOf i).toNat)
    case atStart => exact ⟨0, Nat.zero_le _, rfl, Below.refl _ _⟩
    case round =>
      obtain ⟨k, hk, rfl, hbr⟩ := hrel
      have br := b4.trans (hbr.mono b4.size)
      have o3 := (hown3.below (Nat.le_refl _) hb4).below (Nat.le_refl _) hbr
      by_cases hlt : k < ls.length
      · obtain ⟨b, o, rfl, hbb, hc⟩ := o3.rd.at_ hlt
        have hcx := hc k hlt
        have hy1 := HM.out _ (List.getElem_mem hlt)
        have hy2 := HW.out _ (List.getElem_mem hlt)
        obtain ⟨y, hy⟩ : ∃ y, y = ls[k] := ⟨_, rfl⟩
        rw [← hy] at hcx hy1 hy2
        unfold sv at hcx
        have HY := Lib.hid (wordsM_word hy2 (by omega))
        clear hc hy hy2
        go_wp2_with fail
        refine (words_any y wr (by omega)).mono ?_
        rintro e w5 ⟨A5, c5, ls5, rfl, hls5, hown5, hb5⟩
        rw [HY.out] at hls5 ⊢
        obtain rfl : ls5 = [y] := hls5
        have hc5 := (hb5.cell (p := ⟨b, o + k, none⟩) hbb).trans hcx
        obtain ⟨b5, o5, rfl, hbb5, hcc⟩ := hown5.rd.at_ (k := 0) (by simp)
        have hcz := hcc 0 (by simp)
        simp only [Nat.add_zero, List.getElem_cons_zero, sv] at hcz
        clear hcc hcx
        go_wp2_with fail
        go_quiet (fail)
        go_wp2_with fail
        go_roundw
        case rel => exact ⟨k + 1, by omega, by go_num, (hbr.trans (hb5.mono hbr.size)).trans (below_drewN _ _ _)⟩
        case measure => simp [intOf]; omega
      · obtain rfl : k = ls.length := by omega
        go_wp2_with fail
        refine (line_any a1 c1 x1 wr ((w1.below br).more br.size) (by have := HS.out; omega)).mono ?_
        rintro e w5 ⟨rfl, hb5⟩
        have b5 := br.trans (hb5.mono br.size)
        rcases line_two x1 with ⟨er2, hq2, her2⟩ | ⟨hq2, hjl⟩
        · rw [hq2]
          have hf1 : (er2 != 0) = true := by rw [bne_iff_ne]; exact her2
          clear hq2 her2
          go_wp2_with fail
          refine (words_any [] w5 (by decide)).mono ?_
          rintro e w6 ⟨A6, c6, ls6, rfl, hls6, hown6, hb6⟩
          rw [show wordsM [] = ([], 0) from rfl]
          have HL6 := Lib.hid hls6
          clear hls6
          go_wp2_with fail
          go_ret
          exact ⟨rfl, b5.trans (hb6.mono b5.size)⟩
        · have HQ2 := Lib.hid (wordsM_lineM hq2)
          rw [hq2]
          clear hq2
          go_wp2_with fail
          refine (words_any (joinW x1) w5 (by omega)).mono ?_
          rintro e w6 ⟨A6, c6, ls6, rfl, hls6, hown6, hb6⟩
          rw [HQ2.out] at hls6 ⊢
          obtain rfl : ls6 = x1 := hls6
          have b6 := b5.trans (hb6.mono b5.size)
          go_wp2_with fail
          refine (same_any A6 a1 c6 c1 _ _ ls6 ls6 w6 hown6.rd (w1.below b6) (by omega) (by omega)).mono ?_
          rintro e w7 ⟨rfl, n7, rfl⟩
          rw [decide_eq_true rfl]
          go_wp2_with fail
          go_ret
          exact ⟨rfl, b6.trans (below_drewN _ _ _)⟩
end Go.Proofs.YtnnenhcofibhoaaDoor
