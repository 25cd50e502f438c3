/- The law's alive: the chapter's examples hold. -/
import Derived.Test.YtnnenhcofibhoaaDoorWords2
import Derived.Test.YtnnenhcofibhoaaDoorTab2
import Derived.Test.YtnnenhcofibhoaaDoorNum
import Derived.Test.YtnnenhcofibhoaaDoorRef
namespace Go.Proofs.YtnnenhcofibhoaaDoor
open Go.RowKit
set_option linter.unusedVariables false

/-- A block that is known whole reads as what it holds. -/
theorem rf_block {α : Type} {f : α → Value} {w : World} {g t : Nat} {cs : Array Value} (h : Blk w g t cs) (xs : List α) (hc : cs.toList = xs.map f) (hl : xs.length ≤ 1000000) : Rf f w w.heap.size (some ⟨g, 0, none⟩) xs.length xs := by
  refine ⟨Nat.le_refl _, by simp only [maxLen]; omega, (fun e => by cases e), fun ad e j hj => ?_⟩
  obtain rfl := Option.some.inj e
  refine ⟨h.lt, ?_⟩
  rw [add_plain, Nat.zero_add, h.cell]
  have h2 : cs.toList[j]? = some (f xs[j]) := by rw [hc]; simp [hj]
  simpa using h2

def aLine : List (List UInt8) := [[97, 32, 98], []]
theorem alive1 : linesM [97, 32, 98, 10, 10] = (aLine, 0) := by decide
theorem alive2 : wordsM [97, 32, 32, 98] = ([], 11) := by decide
theorem alive3 : numberM [45, 49, 50] = (-12, 0) := by decide
theorem alive4 : numberM [48, 55] = (0, 11) := by decide
theorem alive5 : Lib.itoa (-3) = [45, 51] := by
  unfold Lib.itoa
  rw [if_pos (by decide)]
  show 45 :: Lib.decDigits 3 = _
  rw [decDigits_small (by decide)]
  rfl
theorem alive6 : tableM [[[97], [98, 98, 98], [99]], [[100, 100], [101]]] = ([97, 32, 32, 32, 98, 98, 98, 32, 32, 99, 10, 100, 100, 32, 32, 101, 10], 0) := by decide

theorem table_alive (w : World) : Calls Tryd.prog 16 #[.slice (some ⟨w.heap.size + 1 + 1, 0, none⟩) 2 2]
    (((w.alloc (.cells #[.string ⟨#[97]⟩, .string ⟨#[98, 98, 98]⟩, .string ⟨#[99]⟩] 9)).alloc (.cells #[.string ⟨#[100, 100]⟩, .string ⟨#[101]⟩] 9)).alloc (.cells #[.slice (some ⟨w.heap.size, 0, none⟩) 3 3, .slice (some ⟨w.heap.size + 1, 0, none⟩) 2 2] 23))
    fun e w' => e = .returned (.tuple #[.string ⟨#[97, 32, 32, 32, 98, 98, 98, 32, 32, 99, 10, 100, 100, 32, 32, 101, 10]⟩, .int .i64 0]) ∧ Below w.heap.size w w' := by
  obtain ⟨W, hW⟩ : ∃ W, W = (((w.alloc (.cells #[.string ⟨#[97]⟩, .string ⟨#[98, 98, 98]⟩, .string ⟨#[99]⟩] 9)).alloc (.cells #[.string ⟨#[100, 100]⟩, .string ⟨#[101]⟩] 9)).alloc (.cells #[.slice (some ⟨w.heap.size, 0, none⟩) 3 3, .slice (some ⟨w.heap.size + 1, 0, none⟩) 2 2] 23)) := ⟨_, rfl⟩
  have hb : Below w.heap.size w W := by rw [hW]; exact (((Below.refl _ w).alloc (Nat.le_refl _) _).alloc (by simp) _).alloc (by simp; omega) _
  have b0 : Blk W w.heap.size 9 #[.string ⟨#[97]⟩, .string ⟨#[98, 98, 98]⟩, .string ⟨#[99]⟩] := by
    rw [hW]; exact ((Blk.new w _ _).alloc _).alloc _
  have b1 : Blk W (w.heap.size + 1) 9 #[.string ⟨#[100, 100]⟩, .string ⟨#[101]⟩] := by
    have h := (Blk.new (w.alloc (.cells #[.string ⟨#[97]⟩, .string ⟨#[98, 98, 98]⟩, .string ⟨#[99]⟩] 9)) 9 #[.string ⟨#[100, 100]⟩, .string ⟨#[101]⟩])
    rw [World.size_alloc] at h
    rw [hW]; exact h.alloc _
  have b2 : Blk W (w.heap.size + 1 + 1) 23 #[.slice (some ⟨w.heap.size, 0, none⟩) 3 3, .slice (some ⟨w.heap.size + 1, 0, none⟩) 2 2] := by
    have h := (Blk.new ((w.alloc (.cells #[.string ⟨#[97]⟩, .string ⟨#[98, 98, 98]⟩, .string ⟨#[99]⟩] 9)).alloc (.cells #[.string ⟨#[100, 100]⟩, .string ⟨#[101]⟩] 9)) 23 #[.slice (some ⟨w.heap.size, 0, none⟩) 3 3, .slice (some ⟨w.heap.size + 1, 0, none⟩) 2 2])
    rw [World.size_alloc, World.size_alloc] at h
    rw [hW]; exact h
  have r0 : Rf sv W W.heap.size (some ⟨w.heap.size, 0, none⟩) 3 [[97], [98, 98, 98], [99]] := rf_block b0 [[97], [98, 98, 98], [99]] rfl (by decide)
  have r1 : Rf sv W W.heap.size (some ⟨w.heap.size + 1, 0, none⟩) 2 [[100, 100], [101]] := rf_block b1 [[100, 100], [101]] rfl (by decide)
  have r2 : RfR W W.heap.size (some ⟨w.heap.size + 1 + 1, 0, none⟩) 2 [⟨some ⟨w.heap.size, 0, none⟩, 3, [[97], [98, 98, 98], [99]]⟩, ⟨some ⟨w.heap.size + 1, 0, none⟩, 2, [[100, 100], [101]]⟩] := by
    refine ⟨rf_block (f := Rw.v) b2 [⟨some ⟨w.heap.size, 0, none⟩, 3, [[97], [98, 98, 98], [99]]⟩, ⟨some ⟨w.heap.size + 1, 0, none⟩, 2, [[100, 100], [101]]⟩] rfl (by simp), fun x hx => ?_⟩
    simp at hx
    rcases hx with rfl | rfl
    · exact r0
    · exact r1
  rw [← hW]
  refine (table_any _ 2 [⟨some ⟨w.heap.size, 0, none⟩, 3, [[97], [98, 98, 98], [99]]⟩, ⟨some ⟨w.heap.size + 1, 0, none⟩, 2, [[100, 100], [101]]⟩] W r2 (by show sumR [[[97], [98, 98, 98], [99]], [[100, 100], [101]]] ≤ _; decide)).mono ?_
  rintro e w' ⟨rfl, hb2⟩
  refine ⟨?_, hb.trans (hb2.mono hb.size)⟩
  show Ending.returned (.tuple #[.string ⟨(tableM [[[97], [98, 98, 98], [99]], [[100, 100], [101]]]).1.toArray⟩, .int .i64 (tableM [[[97], [98, 98, 98], [99]], [[100, 100], [101]]]).2]) = _
  rw [alive6]

theorem same_alive (A : Option Addr) (c : Nat) (ls : List (List UInt8)) (w : World) (base : Nat) (hown : Ow sv w base 9 A c ls) (hl : ls = aLine) :
    Calls Tryd.prog 23 #[.slice A ls.length c, .slice (some ⟨w.heap.size, 0, none⟩) 2 2] (w.alloc (.cells #[.string ⟨#[97, 32, 98]⟩, .string ⟨#[]⟩] 9)) fun e w' => e = .returned (.bool true) ∧ Below w.heap.size w w' := by
  have b0 := Blk.new w 9 #[.string ⟨#[97, 32, 98]⟩, .string ⟨#[]⟩]
  have r0 : Rf sv (w.alloc (.cells #[.string ⟨#[97, 32, 98]⟩, .string ⟨#[]⟩] 9)) _ (some ⟨w.heap.size, 0, none⟩) 2 aLine := rf_block b0 aLine rfl (by decide)
  refine (same_any A (some ⟨w.heap.size, 0, none⟩) c 2 _ _ ls aLine _ (hown.alloc _).rd r0 (by rw [hl]; decide) (by decide)).mono ?_
  rintro e w' ⟨rfl, n, rfl⟩
  exact ⟨by rw [hl]; rfl, (below_new w _).trans (below_drewN _ _ _)⟩

set_option maxRecDepth 100000 in
set_option maxHeartbeats 2000000 in
theorem alive_any (w : World) (hT : Tab w) : Calls Tryd.prog 18 #[] w fun e w' => e = .returned (.bool true) ∧ Below w.heap.size w w' := by
  go_enter Tryd.func18, Tryd.ntmps18
  go_wp2_with fail
  refine (lines_any [97, 32, 98, 10, 10] w (by decide)).mono ?_
  rintro e w1 ⟨A1, c1, ls, rfl, hls, hown1, hb1⟩
  rw [alive1] at hls ⊢
  have HL := Lib.hid hls
  have hs1 := hb1.size
  clear hls
  go_wp2_with fail
  refine (words_any [97, 32, 32, 98] w1 (by decide)).mono ?_
  rintro e w2 ⟨A2, c2, ls2, rfl, hls2, hown2, hb2⟩
  rw [alive2] at hls2 ⊢
  have b2 := hb1.trans (hb2.mono hs1)
  have hown1' := hown1.below (Nat.le_refl _) hb2
  have HL2 := Lib.hid hls2
  clear hls2
  go_wp2_with fail
  refine (number_any [45, 49, 50] w2 (by decide)).mono ?_
  rintro e w' ⟨rfl, rfl⟩
  rw [alive3]
  go_wp2_with fail
  refine (number_any [48, 55] w2 (by decide)).mono ?_
  rintro e w' ⟨rfl, rfl⟩
  rw [alive4]
  go_wp2_with fail
  refine (table_alive w2).mono ?_
  rintro e w3 ⟨rfl, hb3⟩
  have b3 := b2.trans (hb3.mono b2.size)
  have hown3 := hown1'.below (Nat.le_refl _) hb3
  go_wp2_with fail
  refine (same_alive A1 c1 ls w3 _ hown3 HL.out).mono ?_
  rintro e w4 ⟨rfl, hb4⟩
  have b4 := b3.trans (hb4.mono b3.size)
  go_wp2_with fail
  refine (show_any (-3) w4 (by decide) (by decide) (hT.below b4)).mono ?_
  rintro e w5 ⟨rfl, hb5⟩
  rw [alive5]
  go_wp2_with fail
  go_ret
  exact ⟨rfl, b4.trans (hb5.mono b4.size)⟩
end Go.Proofs.YtnnenhcofibhoaaDoor
