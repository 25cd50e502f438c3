/- The reference's Leaf and Node; DigestNodes. Written by tools/nodes6.py. -/
import Derived.Test.YtipclieldokfnaaDoorLawS
import Derived.Test.YtipclieldokfnaaDoorNode
namespace Go.Proofs.YtipclieldokfnaaDoor
open Go.RowKit
set_option linter.unusedVariables false
set_option linter.unusedSimpArgs false

set_option maxRecDepth 100000 in
set_option maxHeartbeats 1000000 in
theorem refLeafOf_any (A : Option Addr) (c B : Nat) (l : List UInt8) (w : World) (hr : Rf bv w B A c l) (hB : B ≤ w.heap.size) (hl : l.length ≤ 90000) :
    Calls Tryd.prog 44 #[.slice A l.length c] w fun e w' => e = .returned (ab (dig (0 :: l))) ∧ Below w.heap.size w w' := by
  obtain ⟨bi, hbi, hz0, hz1, hz2⟩ := info_parts bInfo
  have HBI := Lib.hid hbi
  have HZ0 := Lib.hid hz0
  have HZ1 := Lib.hid hz1
  have HZ2 := Lib.hid hz2
  clear hbi hz0 hz1 hz2
  have HOW := Lib.hid (show Ow bv ((w.alloc (.cells #[.int .u8 0, .int .u8 0, .int .u8 0, .int .u8 0, .int .u8 0, .int .u8 0, .int .u8 0, .int .u8 0, .int .u8 0, .int .u8 0, .int .u8 0, .int .u8 0, .int .u8 0, .int .u8 0, .int .u8 0, .int .u8 0, .int .u8 0, .int .u8 0, .int .u8 0, .int .u8 0, .int .u8 0, .int .u8 0, .int .u8 0, .int .u8 0, .int .u8 0, .int .u8 0, .int .u8 0, .int .u8 0, .int .u8 0, .int .u8 0, .int .u8 0, .int .u8 0] 22)).alloc (.cells #[.int .u8 0] 5)) (w.heap.size + 1) 5 (some ⟨w.heap.size + 1, 0, none⟩) 1 [0] by
    have h := ow_one_v (f := bv) (w.alloc (.cells #[.int .u8 0, .int .u8 0, .int .u8 0, .int .u8 0, .int .u8 0, .int .u8 0, .int .u8 0, .int .u8 0, .int .u8 0, .int .u8 0, .int .u8 0, .int .u8 0, .int .u8 0, .int .u8 0, .int .u8 0, .int .u8 0, .int .u8 0, .int .u8 0, .int .u8 0, .int .u8 0, .int .u8 0, .int .u8 0, .int .u8 0, .int .u8 0, .int .u8 0, .int .u8 0, .int .u8 0, .int .u8 0, .int .u8 0, .int .u8 0, .int .u8 0, .int .u8 0] 22)) 0 _ rfl 5 (w.heap.size + 1) (by rw [World.size_alloc]; omega)
    rwa [World.size_alloc] at h)
  have HRL := Lib.hid (show Rf bv ((w.alloc (.cells #[.int .u8 0, .int .u8 0, .int .u8 0, .int .u8 0, .int .u8 0, .int .u8 0, .int .u8 0, .int .u8 0, .int .u8 0, .int .u8 0, .int .u8 0, .int .u8 0, .int .u8 0, .int .u8 0, .int .u8 0, .int .u8 0, .int .u8 0, .int .u8 0, .int .u8 0, .int .u8 0, .int .u8 0, .int .u8 0, .int .u8 0, .int .u8 0, .int .u8 0, .int .u8 0, .int .u8 0, .int .u8 0, .int .u8 0, .int .u8 0, .int .u8 0, .int .u8 0] 22)).alloc (.cells #[.int .u8 0] 5)) B A c l from (hr.below ((below_new w _).mono hB)).alloc (by rw [World.size_alloc]; omega) _)
  go_enter Tryd.func44, Tryd.ntmps44
  go_wp2_with (at_builtin; (refine wpList_append_f _ bv_one rfl (.tmp 3) (.tmp 4) 36 rfl (w.heap.size + 1) 5 1 bi _ Tryd.underlying36 HBI.out HZ0.out HZ1.out HZ2.out (by omega) rfl [0] l rfl rfl HOW.out HRL.out (by simp only [List.length_cons, List.length_nil]; omega) (by rw [World.size_alloc, World.size_alloc]; omega) ?_); intro A4 c4 w4 r4 hr4 hown4 hg4 hb4)
  have hre4 : r4 = 0 :: l := by rw [hr4.out]; rfl
  have hrl4 : r4.length ≤ 100000 := by rw [hre4]; simp; omega
  have HR4 := Lib.hid hre4
  have hz4 := ((Hb.new bv w 22 (List.replicate 32 0) _ z32).alloc (.cells #[.int .u8 0] 5)).grown hg4 (by simp [blk])
  have hb4w : Below w.heap.size w w4 := (((below_new w _).alloc (by simp) _).grown hg4 (by simp; omega) (fun k e => by simp [blk] at e; omega))
  clear hre4 hr4 hg4 hb4
  refine (of_any A4 c4 w4.heap.size r4 w4 hown4.rd (Nat.le_refl _) hrl4).mono ?_
  rintro e w5 ⟨rfl, hb5⟩
  rw [HR4.out]
  unfold ab
  obtain ⟨d, hd⟩ : ∃ d, d = dig (0 :: l) := ⟨_, rfl⟩
  have HDL := Lib.hid (show d.length = 32 by rw [hd]; exact dig_len _)
  rw [← hd]
  have HDE := Lib.hid hd
  clear hd
  have hz5 := hz4.below hb5 hz4.lt
  have hb5w := hb4w.trans (hb5.mono hb4w.size)
  clear hb5 hz4 hb4w hown4
  go_wp2_with ((with_reducible refine wpList_store_hb bv_one rfl _ (.tmp 2) (.tmp 6) rfl _ d rfl rfl hz5 size32 (List.length_replicate ..) HDL.out ?_); intro w6 h6 hg6)
  refine bodyPost_cell (f := bv) (g := w.heap.size) (t := 22) (L := d) rfl rfl h6 Tryd.underlying22 (by rw [HDL.out]; exact size32) rfl ⟨by rw [← HDE.out]; rfl, ?_⟩
  exact hb5w.grown hg6 hb5w.size (fun k e => by cases e; omega)

set_option maxRecDepth 100000 in
set_option maxHeartbeats 1000000 in
theorem refLeaf_any (A : Option Addr) (c B : Nat) (l : List UInt8) (w : World) (hr : Rf bv w B A c l) (hB : B ≤ w.heap.size) (hl : l.length ≤ 100000) :
    Calls Tryd.prog 29 #[.slice A l.length c] w fun e w' => e = .returned (.tuple #[ab (leafM l).1, .int .i64 (leafM l).2]) ∧ Below w.heap.size w w' := by
  by_cases hbig : 8191 < l.length
  · have HM := Lib.hid (show leafM l = (zero32, 4) by unfold leafM; rw [if_pos hbig])
    go_enter Tryd.func29, Tryd.ntmps29
    go_wp2_with ((with_reducible refine wpList_store_cs bv_one rfl _ (.tmp 2) (.tmp 7) rfl _ (List.replicate 32 0) _ z32 rfl rfl (Hb.new bv w _ (List.replicate 32 0) _ z32) size32 (List.length_replicate ..) (List.length_replicate ..) ?_); intro w3 h3 hg3)
    refine bodyPost_cell_tmp (f := bv) (g := w.heap.size) (t := 22) (L := List.replicate 32 0) rfl rfl h3 Tryd.underlying22 size32 rfl ⟨by rw [HM.out]; rfl, (below_new w _).grown hg3 (below_new w _).size (fun k e => by cases e; omega)⟩
  · have HM := Lib.hid (show leafM l = (dig (0 :: l), 0) by unfold leafM; rw [if_neg hbig])
    go_enter Tryd.func29, Tryd.ntmps29
    go_wp2_with fail
    refine (refLeafOf_any A c B l _ (hr.below ((below_new w _).mono hB)) (by rw [World.size_alloc]; omega) (by omega)).mono ?_
    rintro e w1 ⟨rfl, hb1⟩
    unfold ab
    have hz := Hb.below (Hb.new bv w _ (List.replicate 32 0) _ rfl) hb1 (by simp)
    have hb := (below_new w _).trans (hb1.mono (by simp))
    clear hb1
    go_wp2_with ((with_reducible refine wpList_store_hb bv_one rfl _ (.tmp 2) (.tmp 9) rfl _ (dig (0 :: l)) rfl rfl hz size32 (List.length_replicate ..) (dig_len _) ?_); intro w3 h3 hg3)
    refine bodyPost_cell_tmp (f := bv) (g := w.heap.size) (t := 22) (L := dig (0 :: l)) rfl rfl h3 Tryd.underlying22 (by rw [dig_len]; exact size32) rfl ⟨by rw [HM.out]; rfl, ?_⟩
    exact hb.grown hg3 hb.size (fun k e => by cases e; omega)

set_option maxRecDepth 100000 in
set_option maxHeartbeats 1000000 in
theorem refNode_any (x y : List UInt8) (w : World) (hx : x.length = 32) (hy : y.length = 32) :
    Calls Tryd.prog 31 #[ab x, ab y] w fun e w' => e = .returned (ab (nodeM x y)) ∧ Below w.heap.size w w' := by
  obtain ⟨bi, hbi, hz0, hz1, hz2⟩ := info_parts bInfo
  have HBI := Lib.hid hbi
  have HZ0 := Lib.hid hz0
  have HZ1 := Lib.hid hz1
  have HZ2 := Lib.hid hz2
  have HX := Lib.hid hx
  have HY := Lib.hid hy
  clear hbi hz0 hz1 hz2 hx hy
  obtain ⟨cx, hcx⟩ : ∃ cx, (x.map bv).toArray = cx := ⟨_, rfl⟩
  obtain ⟨cy, hcy⟩ : ∃ cy, (y.map bv).toArray = cy := ⟨_, rfl⟩
  obtain ⟨z, hz⟩ : ∃ z, z = nodeM x y := ⟨_, rfl⟩
  have HZL := Lib.hid (show z.length = 32 by rw [hz]; exact dig_len _)
  have HZE := Lib.hid hz
  rw [← hz]
  clear hz
  unfold ab
  rw [hcx, hcy]
  have HOW := Lib.hid (show Ow bv ((((w.alloc (.cells cx 22)).alloc (.cells cy 22)).alloc (.cells #[.int .u8 0, .int .u8 0, .int .u8 0, .int .u8 0, .int .u8 0, .int .u8 0, .int .u8 0, .int .u8 0, .int .u8 0, .int .u8 0, .int .u8 0, .int .u8 0, .int .u8 0, .int .u8 0, .int .u8 0, .int .u8 0, .int .u8 0, .int .u8 0, .int .u8 0, .int .u8 0, .int .u8 0, .int .u8 0, .int .u8 0, .int .u8 0, .int .u8 0, .int .u8 0, .int .u8 0, .int .u8 0, .int .u8 0, .int .u8 0, .int .u8 0, .int .u8 0] 22)).alloc (.cells #[.int .u8 1] 5)) (w.heap.size + 1 + 1 + 1) 5 (some ⟨w.heap.size + 1 + 1 + 1, 0, none⟩) 1 [1] by
    have h := ow_one_v (f := bv) (((w.alloc (.cells cx 22)).alloc (.cells cy 22)).alloc (.cells #[.int .u8 0, .int .u8 0, .int .u8 0, .int .u8 0, .int .u8 0, .int .u8 0, .int .u8 0, .int .u8 0, .int .u8 0, .int .u8 0, .int .u8 0, .int .u8 0, .int .u8 0, .int .u8 0, .int .u8 0, .int .u8 0, .int .u8 0, .int .u8 0, .int .u8 0, .int .u8 0, .int .u8 0, .int .u8 0, .int .u8 0, .int .u8 0, .int .u8 0, .int .u8 0, .int .u8 0, .int .u8 0, .int .u8 0, .int .u8 0, .int .u8 0, .int .u8 0] 22)) 1 _ rfl 5 (w.heap.size + 1 + 1 + 1) (by simp only [World.size_alloc]; omega)
    simp only [World.size_alloc] at h
    exact h)
  have HB4 := Lib.hid (show Below w.heap.size w ((((w.alloc (.cells cx 22)).alloc (.cells cy 22)).alloc (.cells #[.int .u8 0, .int .u8 0, .int .u8 0, .int .u8 0, .int .u8 0, .int .u8 0, .int .u8 0, .int .u8 0, .int .u8 0, .int .u8 0, .int .u8 0, .int .u8 0, .int .u8 0, .int .u8 0, .int .u8 0, .int .u8 0, .int .u8 0, .int .u8 0, .int .u8 0, .int .u8 0, .int .u8 0, .int .u8 0, .int .u8 0, .int .u8 0, .int .u8 0, .int .u8 0, .int .u8 0, .int .u8 0, .int .u8 0, .int .u8 0, .int .u8 0, .int .u8 0] 22)).alloc (.cells #[.int .u8 1] 5)) from (((((Below.refl _ w).alloc (Nat.le_refl _) _).alloc (by simp only [World.size_alloc]; omega) _).alloc (by simp only [World.size_alloc]; omega) _).alloc (by simp only [World.size_alloc]; omega) _))
  have HX4 := Lib.hid (show Hb bv ((((w.alloc (.cells cx 22)).alloc (.cells cy 22)).alloc (.cells #[.int .u8 0, .int .u8 0, .int .u8 0, .int .u8 0, .int .u8 0, .int .u8 0, .int .u8 0, .int .u8 0, .int .u8 0, .int .u8 0, .int .u8 0, .int .u8 0, .int .u8 0, .int .u8 0, .int .u8 0, .int .u8 0, .int .u8 0, .int .u8 0, .int .u8 0, .int .u8 0, .int .u8 0, .int .u8 0, .int .u8 0, .int .u8 0, .int .u8 0, .int .u8 0, .int .u8 0, .int .u8 0, .int .u8 0, .int .u8 0, .int .u8 0, .int .u8 0] 22)).alloc (.cells #[.int .u8 1] 5)) w.heap.size 22 x from (((Hb.new bv w _ x _ hcx).alloc _).alloc _).alloc _)
  have HY4 := Lib.hid (show Hb bv ((((w.alloc (.cells cx 22)).alloc (.cells cy 22)).alloc (.cells #[.int .u8 0, .int .u8 0, .int .u8 0, .int .u8 0, .int .u8 0, .int .u8 0, .int .u8 0, .int .u8 0, .int .u8 0, .int .u8 0, .int .u8 0, .int .u8 0, .int .u8 0, .int .u8 0, .int .u8 0, .int .u8 0, .int .u8 0, .int .u8 0, .int .u8 0, .int .u8 0, .int .u8 0, .int .u8 0, .int .u8 0, .int .u8 0, .int .u8 0, .int .u8 0, .int .u8 0, .int .u8 0, .int .u8 0, .int .u8 0, .int .u8 0, .int .u8 0] 22)).alloc (.cells #[.int .u8 1] 5)) (w.heap.size + 1) 22 y from ((Hb.new1 bv w _ _ y _ hcy).alloc _).alloc _)
  have HZ4 := Lib.hid (show Hb bv ((((w.alloc (.cells cx 22)).alloc (.cells cy 22)).alloc (.cells #[.int .u8 0, .int .u8 0, .int .u8 0, .int .u8 0, .int .u8 0, .int .u8 0, .int .u8 0, .int .u8 0, .int .u8 0, .int .u8 0, .int .u8 0, .int .u8 0, .int .u8 0, .int .u8 0, .int .u8 0, .int .u8 0, .int .u8 0, .int .u8 0, .int .u8 0, .int .u8 0, .int .u8 0, .int .u8 0, .int .u8 0, .int .u8 0, .int .u8 0, .int .u8 0, .int .u8 0, .int .u8 0, .int .u8 0, .int .u8 0, .int .u8 0, .int .u8 0] 22)).alloc (.cells #[.int .u8 1] 5)) (w.heap.size + 1 + 1) 22 (List.replicate 32 0) by
    have h := (Hb.new1 bv (w.alloc (.cells cx 22)) (.cells cy 22) 22 (List.replicate 32 0) _ z32).alloc (.cells #[.int .u8 1] 5)
    rwa [World.size_alloc] at h)
  have HS4 := Lib.hid (show ((((w.alloc (.cells cx 22)).alloc (.cells cy 22)).alloc (.cells #[.int .u8 0, .int .u8 0, .int .u8 0, .int .u8 0, .int .u8 0, .int .u8 0, .int .u8 0, .int .u8 0, .int .u8 0, .int .u8 0, .int .u8 0, .int .u8 0, .int .u8 0, .int .u8 0, .int .u8 0, .int .u8 0, .int .u8 0, .int .u8 0, .int .u8 0, .int .u8 0, .int .u8 0, .int .u8 0, .int .u8 0, .int .u8 0, .int .u8 0, .int .u8 0, .int .u8 0, .int .u8 0, .int .u8 0, .int .u8 0, .int .u8 0, .int .u8 0] 22)).alloc (.cells #[.int .u8 1] 5)).heap.size = w.heap.size + 1 + 1 + 1 + 1 by simp only [World.size_alloc])
  clear hcx hcy
  have hsl : ∀ (b : Nat) (wx : World), (Instr.sliceAt 22 (.pointer (some ⟨b, 0, none⟩)) none none none).run Tryd.prog wx = .ok (.slice (some ⟨b, 0, none⟩) 32 32) wx := fun b wx => slice_all (P := Tryd.prog) Tryd.underlying22 bSize (by omega) b wx
  go_enter Tryd.func31, Tryd.ntmps31
  go_wp2_with (first
    | (at_builtin; refine wpList_append_f _ bv_one rfl (.tmp 6) (.tmp 7) 36 rfl (w.heap.size + 1 + 1 + 1) 5 1 bi _ Tryd.underlying36 HBI.out HZ0.out HZ1.out HZ2.out (by omega) rfl [1] x rfl (by rw [HX.out]; rfl) HOW.out (HX4.out.rf_all (c := 32) (by rw [HX.out]; exact Nat.le_refl _) (by unfold maxLen; omega)) (by rw [HX.out]; simp) (by rw [HS4.out]; omega) ?_; intro A7 c7 w7 r7 hr7 hown7 hg7 hb7; have hs7 := hg7.size; rw [HS4.out] at hs7 hb7; have hY7 := Lib.hid (HY4.out.grown hg7 (by simp [blk] <;> omega)))
    | (at_builtin; refine wpList_append_f _ bv_one rfl (.tmp 9) (.tmp 10) 36 rfl (w.heap.size + 1 + 1 + 1) 5 1 bi _ Tryd.underlying36 HBI.out HZ0.out HZ1.out HZ2.out (by omega) rfl r7 y rfl (by rw [HY.out]; rfl) hown7 (hY7.out.rf_all (c := 32) (by rw [HY.out]; exact Nat.le_refl _) (by unfold maxLen; omega)) (by rw [HY.out, hr7.out, List.length_append, HX.out]; simp) (by omega) ?_; intro A8 c8 w8 r8 hr8 hown8 hg8 hb8))
  have hre8 : r8 = 1 :: (x ++ y) := by rw [hr8.out, hr7.out]; rfl
  have hrl8 : r8.length ≤ 100000 := by rw [hre8]; simp [HX.out, HY.out]
  have HN8 := Lib.hid (show dig r8 = z by rw [hre8, HZE.out]; rfl)
  have hn7 : ∀ g, g < w.heap.size + 1 + 1 + 1 → some g ≠ blk A7 := fun g hg => by rcases hb7 with e | e <;> (rw [e]; simp [blk] <;> omega)
  have hz8 := (HZ4.out.grown hg7 (by simp [blk] <;> omega)).grown hg8 (hn7 _ (by omega))
  have hbw8 : Below w.heap.size w w8 := (HB4.out.grown hg7 (by rw [HS4.out]; omega) (fun k e => by simp [blk] at e; omega)).grown hg8 (by omega) (fun k e => by have := (hown7.blk_ge k e).1; omega)
  clear hn7 hg7 hg8 hown7 hb7 hb8 hr7 hr8 hre8
  go_wp2_with fail
  refine (of_any A8 c8 w8.heap.size r8 w8 hown8.rd (Nat.le_refl _) hrl8).mono ?_
  rintro e w9 ⟨rfl, hb9⟩
  rw [HN8.out]
  unfold ab
  have hz9 := hz8.below hb9 hz8.lt
  have hbw9 := hbw8.trans (hb9.mono hbw8.size)
  clear hb9 hz8 hbw8 hown8
  go_wp2_with ((with_reducible refine wpList_store_hb bv_one rfl _ (.tmp 4) (.tmp 12) rfl _ z rfl rfl hz9 size32 (List.length_replicate ..) HZL.out ?_); intro w6 h6 hg6)
  refine bodyPost_cell (f := bv) (g := w.heap.size + 1 + 1) (t := 22) (L := z) rfl rfl h6 Tryd.underlying22 (by rw [HZL.out]; exact size32) rfl ⟨rfl, ?_⟩
  exact hbw9.grown hg6 hbw9.size (fun k e => by cases e; omega)

set_option maxRecDepth 100000 in
set_option maxHeartbeats 2000000 in
theorem digestNodes_any (A : Option Addr) (c : Nat) (l x y : List UInt8) (w : World) (hr : Rf bv w w.heap.size A c l) (hx : x.length = 32) (hy : y.length = 32) (hT : Tab w) :
    Calls Tryd.prog 11 #[.slice A l.length c, ab x, ab y] w fun e w' => e = .returned (.bool true) ∧ Below w.heap.size w w' := by
  have HT := Lib.hid hT
  obtain ⟨cx, hcx⟩ : ∃ cx, (x.map bv).toArray = cx := ⟨_, rfl⟩
  obtain ⟨cy, hcy⟩ : ∃ cy, (y.map bv).toArray = cy := ⟨_, rfl⟩
  unfold ab
  rw [hcx, hcy]
  have HB0 := Lib.hid (show Below w.heap.size w ((w.alloc (.cells cx 22)).alloc (.cells cy 22)) from ((Below.refl _ w).alloc (Nat.le_refl _) _).alloc (by simp) _)
  have HX0 := Lib.hid (show Hb bv ((w.alloc (.cells cx 22)).alloc (.cells cy 22)) w.heap.size 22 x from (Hb.new bv w _ x _ hcx).alloc _)
  have HY0 := Lib.hid (show Hb bv ((w.alloc (.cells cx 22)).alloc (.cells cy 22)) (w.heap.size + 1) 22 y from Hb.new1 bv w _ _ y _ hcy)
  have HX := Lib.hid hx
  have HY := Lib.hid hy
  have HCX := Lib.hid hcx
  have HCY := Lib.hid hcy
  clear hT hx hy hcx hcy
  by_cases hbig : 8292 < l.length
  · have hbd : (8292 : Int) < (l.length : Int) := by omega
    go_enter Tryd.func11, Tryd.ntmps11
    go_wp2_with fail
    refine (greatX_any A c l _).mono ?_
    rintro e w1 ⟨rfl, rfl⟩
    go_wp2_with fail
    go_ret
    exact ⟨rfl, HB0.out⟩
  · have hbd : decide ((8292 : Int) < (l.length : Int)) = false := by simp; omega
    obtain ⟨s, e0, hs⟩ : ∃ s e, leafM l = (s, e) := ⟨_, _, rfl⟩
    have hsl : s.length = 32 := by
      have : (leafM l).1.length = 32 := by unfold leafM; split; exact List.length_replicate; exact dig_len _
      rw [hs] at this; exact this
    have HS := Lib.hid hs
    have HSL := Lib.hid hsl
    obtain ⟨cs, hcs⟩ : ∃ cs, (s.map bv).toArray = cs := ⟨_, rfl⟩
    have HCS := Lib.hid hcs
    clear hs hsl hcs
    go_enter Tryd.func11, Tryd.ntmps11
    go_wp2_with fail
    refine (greatX_any A c l _).mono ?_
    rintro e w1 ⟨rfl, rfl⟩
    go_wp2_with fail
    refine (leafX_any A c w.heap.size l _ (hr.below HB0.out) HB0.out.size (by omega) (HT.out.below HB0.out)).mono ?_
    rintro e w1 ⟨rfl, hb1⟩
    rw [HS.out]
    unfold ab
    rw [HCS.out]
    have hbw1 := HB0.out.trans (hb1.mono HB0.out.size)
    have hs1 := hb1.size
    simp only [World.size_alloc] at hs1
    have hX1 := HX0.out.below hb1 HX0.out.lt
    have hY1 := HY0.out.below hb1 HY0.out.lt
    clear hb1 HX0 HY0
    go_wp2_with ((with_reducible refine wpList_store_cs bv_one rfl _ (.tmp 7) (.tmp 16) rfl _ s _ HCS.out rfl rfl (Hb.new bv w1 _ (List.replicate 32 0) _ z32) size32 (List.length_replicate ..) HSL.out ?_); intro w2 h2 hg2; have hbw2 : Below w.heap.size w w2 := (hbw1.alloc hbw1.size _).grown hg2 (hbw1.alloc hbw1.size _).size (fun k e => by cases e; exact hbw1.size); have hX2 := (hX1.alloc _).grown hg2 (by simp; omega); have hY2 := (hY1.alloc _).grown hg2 (by simp; omega))
    refine (refLeaf_any A c w.heap.size l w2 (hr.below hbw2) hbw2.size (by omega)).mono ?_
    rintro e w3 ⟨rfl, hb3⟩
    rw [HS.out]
    unfold ab
    rw [HCS.out]
    have hbw3 := hbw2.trans (hb3.mono hbw2.size)
    have h3 := h2.below hb3 h2.lt
    have hX3 := hX2.below hb3 hX2.lt
    have hY3 := hY2.below hb3 hY2.lt
    clear hb3 h2 hX2 hY2 hX1 hY1 hbw1 hbw2 hg2
    go_wp2_with ((with_reducible refine wpList_store_cs bv_one rfl _ (.tmp 9) (.tmp 21) rfl _ s _ HCS.out rfl rfl (Hb.new bv w3 _ (List.replicate 32 0) _ z32) size32 (List.length_replicate ..) HSL.out ?_); intro w4 h4 hg4; have hbw4 : Below w.heap.size w w4 := (hbw3.alloc hbw3.size _).grown hg4 (hbw3.alloc hbw3.size _).size (fun k e => by cases e; exact hbw3.size); have hX4 := (hX3.alloc _).grown hg4 (by have := hX3.lt; simp; omega); have hY4 := (hY3.alloc _).grown hg4 (by have := hY3.lt; simp; omega); have h34 := (h3.alloc _).grown hg4 (by have := h3.lt; simp; omega))
    obtain ⟨z, hz⟩ : ∃ z, z = nodeM x y := ⟨_, rfl⟩
    have HZL := Lib.hid (show z.length = 32 by rw [hz]; exact dig_len _)
    have HZE := Lib.hid hz
    clear hz
    obtain ⟨lx, hlx⟩ : ∃ lx, x.map bv = lx := ⟨_, rfl⟩
    obtain ⟨ly, hly⟩ : ∃ ly, y.map bv = ly := ⟨_, rfl⟩
    obtain ⟨ls, hls⟩ : ∃ ls, s.map bv = ls := ⟨_, rfl⟩
    obtain ⟨lz, hlz⟩ : ∃ lz, z.map bv = lz := ⟨_, rfl⟩
    have hU := Tryd.underlying22
    have hIx : (Tryd.prog.info? 22).map (·.size) = some lx.length := by rw [← hlx, List.length_map, HX.out]; exact size32
    have hIy : (Tryd.prog.info? 22).map (·.size) = some ly.length := by rw [← hly, List.length_map, HY.out]; exact size32
    have hIs : (Tryd.prog.info? 22).map (·.size) = some ls.length := by rw [← hls, List.length_map, HSL.out]; exact size32
    obtain ⟨Inv, hInv⟩ : ∃ Inv : World → Prop, Inv = fun w' => Hb bv w' w.heap.size 22 x ∧ Hb bv w' (w.heap.size + 1) 22 y ∧ Hb bv w' w1.heap.size 22 s ∧ Hb bv w' w3.heap.size 22 s ∧ Below w.heap.size w w' := ⟨_, rfl⟩
    have HRG := Lib.hid (show ∀ w', Inv w' → w'.rangeAt w.heap.size 0 lx ∧ w'.rangeAt (w.heap.size + 1) 0 ly ∧ w'.rangeAt w1.heap.size 0 ls ∧ w'.rangeAt w3.heap.size 0 ls ∧ Inv w' from fun w' h => by
      have hi := h
      rw [hInv] at h
      exact ⟨h.1.range hlx, h.2.1.range hly, h.2.2.1.range hls, h.2.2.2.1.range hls, hi⟩)
    have hE1 := eqi_ab s HSL.out ls.toArray (by rw [hls])
    have hE2 := eqi_ab z HZL.out lz.toArray (by rw [hlz])
    have hGD := gd_ab
    have HS0 := Lib.hid (show Inv w4.drew by rw [hInv]; exact ⟨hX4.drew, hY4.drew, h34.drew, h4.drew, hbw4.drew⟩)
    have HSB := Lib.hid (show ∀ wa wb, Inv wa → Below wa.heap.size wa wb → Inv wb from fun wa wb ha hb => by
      rw [hInv] at ha ⊢
      obtain ⟨q1, q2, q3, q4, q6⟩ := ha
      exact ⟨q1.below hb q1.lt, q2.below hb q2.lt, q3.below hb q3.lt, q4.below hb q4.lt, q6.trans (hb.mono q6.size)⟩)
    have HSW := Lib.hid (show ∀ wa, Inv wa → Below w.heap.size w wa from fun wa ha => by rw [hInv] at ha; exact ha.2.2.2.2)
    have HNC := Lib.hid (show ∀ wa, Inv wa → Calls Tryd.prog 30 #[.agg lx.toArray, .agg ly.toArray] wa fun e w' => e = .returned (.agg lz.toArray) ∧ Below wa.heap.size wa w' from fun wa ha => by
      have h := nodeX_any x y wa HX.out HY.out (HT.out.below (HSW.out wa ha))
      unfold ab at h
      rw [← HZE.out, hlx, hly, hlz] at h
      exact h)
    have HNR := Lib.hid (show ∀ wa, Inv wa → Calls Tryd.prog 31 #[.agg lx.toArray, .agg ly.toArray] wa fun e w' => e = .returned (.agg lz.toArray) ∧ Below wa.heap.size wa w' from fun wa ha => by
      have h := refNode_any x y wa HX.out HY.out
      unfold ab at h
      rw [← HZE.out, hlx, hly, hlz] at h
      exact h)
    clear hInv hX4 hY4 h34 h4 hbw4 h3 hX3 hY3 hbw3 hg4 hlx hly hls hlz
    refine wp_region_held_drew (S := (fun w' => w'.rangeAt w.heap.size 0 lx ∧ w'.rangeAt (w.heap.size + 1) 0 ly ∧ w'.rangeAt w1.heap.size 0 ls ∧ w'.rangeAt w3.heap.size 0 ls ∧ Inv w')) (by kernel_rfl) (HRG.out _ HS0.out) ?_
    intro hHeld
    try simp only [Act.put, List.setIfInBounds_toArray, List.set_cons_zero, List.set_cons_succ]
    refine wpAnyH_take (i := 0) (oi := { dst := some 23, op := Op.load 22 (Operand.tmp 7), type := 22, pos := "law.go:39", after := #[], guard := none }) (v := .agg ls.toArray) rfl (by kernel_rfl) (by kernel_rfl) (by kernel_rfl) (fun _ _ _ h => h) (yieldsIf_load_mid (by rfl) _ _ rfl _ _ rfl ls _ (fun wq h => h.2.2.1) hU rfl hIs) hHeld ?_
    try simp only [Act.put, List.setIfInBounds_toArray, List.set_cons_zero, List.set_cons_succ]
    refine wpAnyH_take (i := 1) (oi := { dst := some 24, op := Op.load 22 (Operand.tmp 9), type := 22, pos := "law.go:39", after := #[], guard := none }) (v := .agg ls.toArray) rfl (by kernel_rfl) (by kernel_rfl) (by kernel_rfl) (fun _ _ _ h => h) (yieldsIf_load_mid (by rfl) _ _ rfl _ _ rfl ls _ (fun wq h => h.2.2.2.1) hU rfl hIs) hHeld ?_
    try simp only [Act.put, List.setIfInBounds_toArray, List.set_cons_zero, List.set_cons_succ]
    refine wpAnyH_take (i := 2) (oi := { dst := some 25, op := Op.binOp BinOp.eql 22 (Operand.tmp 23) (Operand.tmp 24) 22, type := 4, pos := "law.go:39", after := #[{ on := 0, ground := Ground.data }, { on := 1, ground := Ground.data }], guard := none }) (v := ?v2) rfl (by kernel_rfl) (by kernel_rfl) (by kernel_rfl) (fun _ _ _ h => h) (Or.inl ⟨by rfl, ?y2⟩) hHeld ?r2
    case y2 => intro wq hSw; go_simp; try (with_reducible rfl)
    try simp only [Act.put, List.setIfInBounds_toArray, List.set_cons_zero, List.set_cons_succ]
    refine wpAnyH_take (i := 3) (oi := { dst := some 26, op := Op.move (Operand.tmp 25), type := 4, pos := "law.go:39", after := #[{ on := 2, ground := Ground.data }], guard := none }) (v := ?v3) rfl (by kernel_rfl) (by kernel_rfl) (by kernel_rfl) (fun _ _ _ h => h) (Or.inl ⟨by rfl, ?y3⟩) hHeld ?r3
    case y3 => intro wq hSw; go_simp; try (with_reducible rfl)
    try simp only [Act.put, List.setIfInBounds_toArray, List.set_cons_zero, List.set_cons_succ]
    refine wpAnyH_take (i := 4) (oi := { dst := some 27, op := Op.move (Operand.tmp 8), type := 24, pos := "law.go:39", after := #[{ on := 3, ground := Ground.guard }], guard := some (3, true) }) (v := ?v4) rfl (by kernel_rfl) (by kernel_rfl) (by kernel_rfl) (fun _ _ _ h => h) (Or.inl ⟨by rfl, ?y4⟩) hHeld ?r4
    case y4 => intro wq hSw; go_simp; try (with_reducible rfl)
    try simp only [Act.put, List.setIfInBounds_toArray, List.set_cons_zero, List.set_cons_succ]
    refine wpAnyH_take (i := 5) (oi := { dst := some 28, op := Op.move (Operand.tmp 10), type := 3, pos := "law.go:39", after := #[{ on := 3, ground := Ground.guard }], guard := some (3, true) }) (v := ?v5) rfl (by kernel_rfl) (by kernel_rfl) (by kernel_rfl) (fun _ _ _ h => h) (Or.inl ⟨by rfl, ?y5⟩) hHeld ?r5
    case y5 => intro wq hSw; go_simp; try (with_reducible rfl)
    try simp only [Act.put, List.setIfInBounds_toArray, List.set_cons_zero, List.set_cons_succ]
    refine wpAnyH_take (i := 6) (oi := { dst := some 29, op := Op.binOp BinOp.eql 3 (Operand.tmp 27) (Operand.tmp 28) 3, type := 4, pos := "law.go:39", after := #[{ on := 4, ground := Ground.data }, { on := 5, ground := Ground.data }, { on := 3, ground := Ground.guard }], guard := some (3, true) }) (v := ?v6) rfl (by kernel_rfl) (by kernel_rfl) (by kernel_rfl) (fun _ _ _ h => h) (Or.inl ⟨by rfl, ?y6⟩) hHeld ?r6
    case y6 => intro wq hSw; go_simp; try (with_reducible rfl)
    try simp only [Act.put, List.setIfInBounds_toArray, List.set_cons_zero, List.set_cons_succ]
    refine wpAnyH_take (i := 7) (oi := { dst := some 30, op := Op.pick (Operand.tmp 26) (Operand.tmp 29) (Operand.const (Value.bool false)), type := 4, pos := "law.go:39", after := #[{ on := 3, ground := Ground.data }, { on := 6, ground := Ground.data }], guard := none }) (v := ?v7) rfl (by kernel_rfl) (by kernel_rfl) (by kernel_rfl) (fun _ _ _ h => h) (Or.inl ⟨by rfl, ?y7⟩) hHeld ?r7
    case y7 => intro wq hSw; go_simp; try (with_reducible rfl)
    try simp only [Act.put, List.setIfInBounds_toArray, List.set_cons_zero, List.set_cons_succ]
    refine wpAnyH_take (i := 8) (oi := { dst := some 31, op := Op.move (Operand.tmp 30), type := 4, pos := "law.go:39", after := #[{ on := 7, ground := Ground.data }, { on := 3, ground := Ground.chain }], guard := none }) (v := ?v8) rfl (by kernel_rfl) (by kernel_rfl) (by kernel_rfl) (fun _ _ _ h => h) (Or.inl ⟨by rfl, ?y8⟩) hHeld ?r8
    case y8 => intro wq hSw; go_simp; try (with_reducible rfl)
    try simp only [Act.put, List.setIfInBounds_toArray, List.set_cons_zero, List.set_cons_succ]
    refine wpAnyH_take (i := 9) (oi := { dst := some 32, op := Op.load 22 (Operand.tmp 4), type := 22, pos := "law.go:39", after := #[{ on := 8, ground := Ground.guard }], guard := some (8, true) }) (v := .agg lx.toArray) rfl (by kernel_rfl) (by kernel_rfl) (by kernel_rfl) (fun _ _ _ h => h) (yieldsIf_load_mid (by rfl) _ _ rfl _ _ rfl lx _ (fun wq h => h.1) hU rfl hIx) hHeld ?_
    try simp only [Act.put, List.setIfInBounds_toArray, List.set_cons_zero, List.set_cons_succ]
    refine wpAnyH_take (i := 10) (oi := { dst := some 33, op := Op.load 22 (Operand.tmp 5), type := 22, pos := "law.go:39", after := #[{ on := 8, ground := Ground.guard }], guard := some (8, true) }) (v := .agg ly.toArray) rfl (by kernel_rfl) (by kernel_rfl) (by kernel_rfl) (fun _ _ _ h => h) (yieldsIf_load_mid (by rfl) _ _ rfl _ _ rfl ly _ (fun wq h => h.2.1) hU rfl hIy) hHeld ?_
    try simp only [Act.put, List.setIfInBounds_toArray, List.set_cons_zero, List.set_cons_succ]
    refine wpAnyH_take (i := 12) (oi := { dst := some 35, op := Op.load 22 (Operand.tmp 4), type := 22, pos := "law.go:39", after := #[{ on := 8, ground := Ground.guard }], guard := some (8, true) }) (v := .agg lx.toArray) rfl (by kernel_rfl) (by kernel_rfl) (by kernel_rfl) (fun _ _ _ h => h) (yieldsIf_load_mid (by rfl) _ _ rfl _ _ rfl lx _ (fun wq h => h.1) hU rfl hIx) hHeld ?_
    try simp only [Act.put, List.setIfInBounds_toArray, List.set_cons_zero, List.set_cons_succ]
    refine wpAnyH_take (i := 13) (oi := { dst := some 36, op := Op.load 22 (Operand.tmp 5), type := 22, pos := "law.go:39", after := #[{ on := 8, ground := Ground.guard }], guard := some (8, true) }) (v := .agg ly.toArray) rfl (by kernel_rfl) (by kernel_rfl) (by kernel_rfl) (fun _ _ _ h => h) (yieldsIf_load_mid (by rfl) _ _ rfl _ _ rfl ly _ (fun wq h => h.2.1) hU rfl hIy) hHeld ?_
    try simp only [Act.put, List.setIfInBounds_toArray, List.set_cons_zero, List.set_cons_succ]
    refine wpAnyH_ready (rs := [11]) (by kernel_rfl) (by simp) ?_
    refine AllReadyH.cons (o := { dst := some 34, op := Op.call { callee := Callee.value (Operand.func 30), args := #[Operand.tmp 32, Operand.tmp 33], argTypes := #[22, 22] }, type := 22, pos := "law.go:39", after := #[{ on := 9, ground := Ground.data }, { on := 10, ground := Ground.data }, { on := 8, ground := Ground.chain }, { on := 8, ground := Ground.guard }], guard := some (8, true) }) rfl (fun K hK => ?_) AllReadyH.nil
    go_simp
    go_at_call 30
    refine (HNC.out _ (HS0.out)).mono ?_
    rintro e w11 ⟨rfl, hb11⟩
    try go_simp
    refine hK.out _ _ (HRG.out _ (HSB.out _ _ (HS0.out) hb11)) (fun hHeld => ?_)
    try simp only [Act.put, List.setIfInBounds_toArray, List.set_cons_zero, List.set_cons_succ]
    refine wpAnyH_ready (rs := [14]) (by kernel_rfl) (by simp) ?_
    refine AllReadyH.cons (o := { dst := some 37, op := Op.call { callee := Callee.value (Operand.func 31), args := #[Operand.tmp 35, Operand.tmp 36], argTypes := #[22, 22] }, type := 22, pos := "law.go:39", after := #[{ on := 12, ground := Ground.data }, { on := 13, ground := Ground.data }, { on := 11, ground := Ground.chain }, { on := 8, ground := Ground.guard }], guard := some (8, true) }) rfl (fun K hK => ?_) AllReadyH.nil
    go_simp
    go_at_call 31
    refine (HNR.out _ (HSB.out _ _ HS0.out hb11)).mono ?_
    rintro e w12 ⟨rfl, hb12⟩
    try go_simp
    refine hK.out _ _ (HRG.out _ (HSB.out _ _ (HSB.out _ _ HS0.out hb11) hb12)) (fun hHeld => ?_)
    try simp only [Act.put, List.setIfInBounds_toArray, List.set_cons_zero, List.set_cons_succ]
    refine wpAnyH_take (i := 15) (oi := { dst := some 38, op := Op.binOp BinOp.eql 22 (Operand.tmp 34) (Operand.tmp 37) 22, type := 4, pos := "law.go:39", after := #[{ on := 11, ground := Ground.data }, { on := 14, ground := Ground.data }, { on := 8, ground := Ground.guard }], guard := some (8, true) }) (v := ?v15) rfl (by kernel_rfl) (by kernel_rfl) (by kernel_rfl) (fun _ _ _ h => h) (Or.inl ⟨by rfl, ?y15⟩) hHeld ?r15
    case y15 => intro wq hSw; go_simp; try (with_reducible rfl)
    try simp only [Act.put, List.setIfInBounds_toArray, List.set_cons_zero, List.set_cons_succ]
    refine wpAnyH_take (i := 16) (oi := { dst := some 39, op := Op.pick (Operand.tmp 31) (Operand.tmp 38) (Operand.const (Value.bool false)), type := 4, pos := "law.go:39", after := #[{ on := 8, ground := Ground.data }, { on := 15, ground := Ground.data }], guard := none }) (v := ?v16) rfl (by kernel_rfl) (by kernel_rfl) (by kernel_rfl) (fun _ _ _ h => h) (Or.inl ⟨by rfl, ?y16⟩) hHeld ?r16
    case y16 => intro wq hSw; go_simp; try (with_reducible rfl)
    try simp only [Act.put, List.setIfInBounds_toArray, List.set_cons_zero, List.set_cons_succ]
    refine wpAnyH_take (i := 17) (oi := { dst := some 6, op := Op.assign (Operand.tmp 39), type := 4, pos := "law.go:39", after := _, guard := none }) (v := ?v17) rfl (by kernel_rfl) (by kernel_rfl) (by kernel_rfl) (fun _ _ _ h => h) (Or.inl ⟨by rfl, ?y17⟩) hHeld ?r17
    case y17 => intro wq hSw; go_simp; try (with_reducible rfl)
    try simp only [Act.put, List.setIfInBounds_toArray, List.set_cons_zero, List.set_cons_succ]
    refine wpAnyH_done (by kernel_rfl) ?_ _
    all_goals
      go_wp2_with fail
      go_ret
      refine ⟨rfl, ?_⟩
      exact HSW.out _ (HSB.out _ _ (HSB.out _ _ HS0.out hb11) hb12)
end Go.Proofs.YtipclieldokfnaaDoor
