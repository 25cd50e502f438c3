/- The walk of the law WordsNames. -/
import Derived.Test.YtnnenhcofibhoaaDoorNames
namespace Go.Proofs.YtnnenhcofibhoaaDoor
open Go.RowKit
set_option linter.unusedVariables false

set_option maxRecDepth 100000 in
set_option maxHeartbeats 8000000 in
theorem names_walk (w : World) (hT : Tab w) : Calls Tryd.prog 3 #[] w fun e w' => e = .returned (.bool true) ∧ Below w.heap.size w w' := by
  obtain ⟨o0, z0⟩ : ∃ o, Nils 513 o := ⟨_, rfl⟩
  have m0 : ∀ w : World, (Instr.makeSlice 23 (.int .i64 513) (.int .i64 513)).run Tryd.prog w = .ok (.slice (some ⟨w.heap.size, 0, none⟩) 513 513) (w.alloc o0) := fun w => make_nils 513 (by decide) z0 w
  have b0 := Below.refl w.heap.size w
  go_enter Tryd.func3, Tryd.ntmps3
  go_wp2_with fail
  refine (line_true [] 0 _ (by decide) (by decide)).mono ?_
  rintro e w1 ⟨rfl, h1⟩
  have b1 := b0.trans (h1.mono b0.size)
  clear h1
  go_wp2_with fail
  refine (line_true [32] 11 _ (by decide) (by decide)).mono ?_
  rintro e w2 ⟨rfl, h2⟩
  have b2 := b1.trans (h2.mono b1.size)
  clear h2
  go_wp2_with fail
  refine (line_true [97, 32] 11 _ (by decide) (by decide)).mono ?_
  rintro e w3 ⟨rfl, h3⟩
  have b3 := b2.trans (h3.mono b2.size)
  clear h3
  go_wp2_with fail
  refine (line_true [32, 97] 11 _ (by decide) (by decide)).mono ?_
  rintro e w4 ⟨rfl, h4⟩
  have b4 := b3.trans (h4.mono b3.size)
  clear h4
  go_wp2_with fail
  refine (line_true [97, 9, 98] 11 _ (by decide) (by decide)).mono ?_
  rintro e w5 ⟨rfl, h5⟩
  have b5 := b4.trans (h5.mono b4.size)
  clear h5
  go_wp2_with fail
  refine (line_true [126, 32, 33] 0 _ (by decide) (by decide)).mono ?_
  rintro e w6 ⟨rfl, h6⟩
  have b6 := b5.trans (h6.mono b5.size)
  clear h6
  go_wp2_with fail
  refine (rep1 _).mono ?_
  rintro e w' ⟨⟨t1, ht1, hl1, rfl⟩, rfl⟩
  have HL1 := Lib.hid hl1
  clear hl1
  go_wp2_with fail
  refine (line_true t1 4 _ (by have := HL1.out; omega) (words_a1 HL1.out)).mono ?_
  rintro e w7 ⟨rfl, h7⟩
  have b7 := b6.trans (h7.mono b6.size)
  clear h7
  go_wp2_with fail
  refine (rep2 _).mono ?_
  rintro e w' ⟨⟨t2, ht2, hl2, rfl⟩, rfl⟩
  have HL2 := Lib.hid hl2
  clear hl2
  go_wp2_with fail
  refine (line_true t2 0 _ (by have := HL2.out; omega) (words_a2 ht2.out)).mono ?_
  rintro e w8 ⟨rfl, h8⟩
  have b8 := b7.trans (h8.mono b7.size)
  clear h8
  go_wp2_with fail
  refine (num_true [] 11 _ (by decide) (by decide)).mono ?_
  rintro e w' ⟨rfl, rfl⟩
  go_wp2_with fail
  refine (num_true [45] 11 _ (by decide) (by decide)).mono ?_
  rintro e w' ⟨rfl, rfl⟩
  go_wp2_with fail
  refine (num_true [45, 48] 11 _ (by decide) (by decide)).mono ?_
  rintro e w' ⟨rfl, rfl⟩
  go_wp2_with fail
  refine (num_true [43, 49] 11 _ (by decide) (by decide)).mono ?_
  rintro e w' ⟨rfl, rfl⟩
  go_wp2_with fail
  refine (num_true [48] 0 _ (by decide) (by decide)).mono ?_
  rintro e w' ⟨rfl, rfl⟩
  go_wp2_with fail
  refine (num_true [52, 54, 49, 49, 54, 56, 54, 48, 49, 56, 52, 50, 55, 51, 56, 55, 57, 48, 52] 0 _ (by decide) (by decide)).mono ?_
  rintro e w' ⟨rfl, rfl⟩
  go_wp2_with fail
  refine (num_true [52, 54, 49, 49, 54, 56, 54, 48, 49, 56, 52, 50, 55, 51, 56, 55, 57, 48, 53] 30 _ (by decide) (by decide)).mono ?_
  rintro e w' ⟨rfl, rfl⟩
  go_wp2_with fail
  refine (num_true [45, 52, 54, 49, 49, 54, 56, 54, 48, 49, 56, 52, 50, 55, 51, 56, 55, 57, 48, 52] 0 _ (by decide) (by decide)).mono ?_
  rintro e w' ⟨rfl, rfl⟩
  go_wp2_with fail
  refine (num_true [57, 57, 57, 57, 57, 57, 57, 57, 57, 57, 57, 57, 57, 57, 57, 57, 57, 57, 57, 57] 30 _ (by decide) (by decide)).mono ?_
  rintro e w' ⟨rfl, rfl⟩
  go_wp2_with fail
  refine (num_true [49, 32] 11 _ (by decide) (by decide)).mono ?_
  rintro e w' ⟨rfl, rfl⟩
  go_wp2_with fail
  refine (lines_a1 _).mono ?_
  rintro e w9 ⟨A1, c1, rfl, h9⟩
  have b9 := b8.trans (h9.mono b8.size)
  clear h9
  go_wp2_with fail
  refine (rep3 _).mono ?_
  rintro e w' ⟨⟨t3, ht3, hl3, rfl⟩, rfl⟩
  clear hl3
  go_wp2_with fail
  refine (lines_a2 ht3.out _).mono ?_
  rintro e w10 ⟨A2, c2, rfl, h10⟩
  have b10 := b9.trans (h10.mono b9.size)
  clear h10
  go_wp2_with fail
  refine (rep4 _).mono ?_
  rintro e w' ⟨⟨t4, ht4, hl4, rfl⟩, rfl⟩
  clear hl4
  go_wp2_with fail
  refine (lines_a3 ht4.out _).mono ?_
  rintro e w11 ⟨A3, c3, rfl, h11⟩
  have b11 := b10.trans (h11.mono b10.size)
  clear h11
  go_wp2_with fail
  refine (text_a1 _).mono ?_
  rintro e w12 ⟨rfl, h12⟩
  have b12 := b11.trans (h12.mono b11.size)
  clear h12
  go_wp2_with fail
  refine (text_a2 _ z0).mono ?_
  rintro e w13 ⟨rfl, h13⟩
  have b13 := b12.trans (h13.mono b12.size)
  clear h13
  go_wp2_with fail
  refine (table_a1 _).mono ?_
  rintro e w14 ⟨rfl, h14⟩
  have b14 := b13.trans (h14.mono b13.size)
  clear h14
  go_wp2_with fail
  refine (table_a2 _).mono ?_
  rintro e w15 ⟨rfl, h15⟩
  have b15 := b14.trans (h15.mono b14.size)
  clear h15
  go_wp2_with fail
  refine (line_a1 _).mono ?_
  rintro e w16 ⟨rfl, h16⟩
  have b16 := b15.trans (h16.mono b15.size)
  clear h16
  go_wp2_with fail
  refine (alive_any _ (hT.below b16)).mono ?_
  rintro e w17 ⟨rfl, h17⟩
  have b17 := b16.trans (h17.mono b16.size)
  clear h17
  go_wp2_with fail
  refine (show_least _ (hT.below b17)).mono ?_
  rintro e w18 ⟨rfl, h18⟩
  have b18 := b17.trans (h18.mono b17.size)
  clear h18
  go_wp2_with fail
  go_ret
  exact ⟨rfl, b18⟩
end Go.Proofs.YtnnenhcofibhoaaDoor
