/- draw's Mix, the reference's Mix. -/
import Derived.Test.YtipclieldokfnaaDoorRefD
import Derived.Test.YtipclieldokfnaaDoorOcJoin
namespace Go.Proofs.YtipclieldokfnaaDoor
open Go.RowKit
set_option linter.unusedVariables false

/-- What Mix answers. -/
def mixM (L : List (List UInt8)) : List UInt8 × Int := if (Oc.flat L).length ≤ 8192 then (dig (Oc.flat L), 0) else (zero32, 4)
theorem mixM_len (L : List (List UInt8)) : (mixM L).1.length = 32 := by unfold mixM; split; exact dig_len _; exact List.length_replicate
theorem join_cases (L : List (List UInt8)) : (Oc.joinM L = ([], 4) ∧ mixM L = (zero32, 4)) ∨ ((Oc.flat L).length ≤ 16384 ∧ Oc.joinM L = (Oc.flat L, 0)) := by
  by_cases h : (Oc.flat L).length ≤ 16384
  · exact .inr ⟨h, Oc.joinM_good h⟩
  · refine .inl ⟨by unfold Oc.joinM; rw [if_neg h], by unfold mixM; rw [if_neg (by omega)]⟩
theorem mix_sum (L : List (List UInt8)) : sumM (Oc.flat L) = mixM L := by
  unfold sumM mixM
  by_cases h : (Oc.flat L).length ≤ 8192
  · rw [if_neg (by omega), if_pos h]
  · rw [if_pos (by omega), if_neg h]

set_option maxRecDepth 100000 in
set_option maxHeartbeats 1000000 in
theorem mix_any (A : Option Addr) (c : Nat) (xs : List Oc.El) (w : World) (hr : Oc.RdL w w.heap.size A c xs) (hl : xs.length ≤ 1000000) (hel : ∀ x ∈ xs, x.l.length ≤ 100000) (hT : Tab w) :
    Calls Tryd.prog 15 #[.slice A xs.length c] w fun e w' => e = .returned (.tuple #[ab (mixM (Oc.byts xs)).1, .int .i64 (mixM (Oc.byts xs)).2]) ∧ Below w.heap.size w w' := by
  have HT := Lib.hid hT
  have HJ := Lib.hid (Oc.join_any A c xs (w.alloc (.cells #[.int .u8 0, .int .u8 0, .int .u8 0, .int .u8 0, .int .u8 0, .int .u8 0, .int .u8 0, .int .u8 0, .int .u8 0, .int .u8 0, .int .u8 0, .int .u8 0, .int .u8 0, .int .u8 0, .int .u8 0, .int .u8 0, .int .u8 0, .int .u8 0, .int .u8 0, .int .u8 0, .int .u8 0, .int .u8 0, .int .u8 0, .int .u8 0, .int .u8 0, .int .u8 0, .int .u8 0, .int .u8 0, .int .u8 0, .int .u8 0, .int .u8 0, .int .u8 0] 22)) ((hr.alloc (Nat.le_refl _) _).more (by simp)) hl hel)
  have HZ := Lib.hid (Hb.new bv w 22 (List.replicate 32 0) _ z32)
  have hbw := fun (o : Obj) => below_new w o
  clear hT hel hl hr
  rcases join_cases (Oc.byts xs) with ⟨hj, hm⟩ | ⟨hfl, hj⟩
  · have HJM := Lib.hid hj
    have HM := Lib.hid hm
    clear hj hm
    go_enter Tryd.func15, Tryd.ntmps15
    go_wp2_with fail
    refine HJ.out.mono ?_
    rintro e w1 ⟨A1, c1, r1, rfl, hr1, ho1, hb1⟩
    rw [HJM.out] at hr1 ⊢
    dsimp only at hr1
    subst hr1
    have hz1 := HZ.out.below hb1 (by simp)
    have HB1 := Lib.hid ((hbw (.cells #[.int .u8 0, .int .u8 0, .int .u8 0, .int .u8 0, .int .u8 0, .int .u8 0, .int .u8 0, .int .u8 0, .int .u8 0, .int .u8 0, .int .u8 0, .int .u8 0, .int .u8 0, .int .u8 0, .int .u8 0, .int .u8 0, .int .u8 0, .int .u8 0, .int .u8 0, .int .u8 0, .int .u8 0, .int .u8 0, .int .u8 0, .int .u8 0, .int .u8 0, .int .u8 0, .int .u8 0, .int .u8 0, .int .u8 0, .int .u8 0, .int .u8 0, .int .u8 0] 22)).trans (hb1.mono (by simp)))
    clear hb1 ho1
    go_wp2_with ((with_reducible refine wpList_store_cs bv_one rfl _ (.tmp 2) (.tmp 13) rfl _ (List.replicate 32 0) _ z32 rfl rfl hz1 size32 (List.length_replicate ..) (List.length_replicate ..) ?_); intro w3 h3 hg3)
    refine bodyPost_cell_tmp (f := bv) (g := w.heap.size) (t := 22) (L := List.replicate 32 0) rfl rfl h3 Tryd.underlying22 size32 rfl ⟨by rw [HM.out]; rfl, HB1.out.grown hg3 HB1.out.size (fun k e => by cases e; omega)⟩
  · have HJM := Lib.hid hj
    have HFL := Lib.hid hfl
    have HM := Lib.hid (mix_sum (Oc.byts xs))
    obtain ⟨d, er, hd⟩ : ∃ d er, mixM (Oc.byts xs) = (d, er) := ⟨_, _, rfl⟩
    have HD := Lib.hid hd
    have HDL := Lib.hid (show d.length = 32 by have := mixM_len (Oc.byts xs); rw [hd] at this; exact this)
    clear hj hfl hd
    go_enter Tryd.func15, Tryd.ntmps15
    go_wp2_with fail
    refine HJ.out.mono ?_
    rintro e w1 ⟨A1, c1, r1, rfl, hr1, ho1, hb1⟩
    rw [HJM.out] at hr1 ⊢
    dsimp only at hr1 ⊢
    have hrl : r1.length ≤ 16384 := by rw [hr1]; exact HFL.out
    have HR1 := Lib.hid hr1
    have HB1 := Lib.hid ((hbw (.cells #[.int .u8 0, .int .u8 0, .int .u8 0, .int .u8 0, .int .u8 0, .int .u8 0, .int .u8 0, .int .u8 0, .int .u8 0, .int .u8 0, .int .u8 0, .int .u8 0, .int .u8 0, .int .u8 0, .int .u8 0, .int .u8 0, .int .u8 0, .int .u8 0, .int .u8 0, .int .u8 0, .int .u8 0, .int .u8 0, .int .u8 0, .int .u8 0, .int .u8 0, .int .u8 0, .int .u8 0, .int .u8 0, .int .u8 0, .int .u8 0, .int .u8 0, .int .u8 0] 22)).trans (hb1.mono (by simp)))
    have HZ1 := Lib.hid (HZ.out.below hb1 (by simp))
    have HO1 := Lib.hid (ow_of_oc ho1).rd
    clear hb1 ho1 hr1
    go_wp2_with fail
    refine (sum_any A1 c1 _ r1 w1 HO1.out (Nat.le_refl _) (by omega) (HT.out.below HB1.out)).mono ?_
    rintro e w2 ⟨rfl, hb2⟩
    rw [HR1.out, HM.out, HD.out]
    have hz2 := HZ1.out.below hb2 HZ1.out.lt
    have HB2 := Lib.hid (HB1.out.trans (hb2.mono HB1.out.size))
    clear hb2
    dsimp only
    unfold ab
    go_wp2_with ((with_reducible refine wpList_store_hb bv_one rfl _ (.tmp 2) (.tmp 17) rfl _ d rfl rfl hz2 size32 (List.length_replicate ..) HDL.out ?_); intro w3 h3 hg3)
    refine bodyPost_cell_tmp (f := bv) (g := w.heap.size) (t := 22) (L := d) rfl rfl h3 Tryd.underlying22 (by rw [HDL.out]; exact size32) rfl ⟨by rw [HD.out]; rfl, HB2.out.grown hg3 HB2.out.size (fun k e => by cases e; omega)⟩

set_option maxRecDepth 100000 in
set_option maxHeartbeats 1000000 in
theorem refMix_any (A : Option Addr) (c : Nat) (xs : List Oc.El) (w : World) (hr : Oc.RdL w w.heap.size A c xs) (hl : xs.length ≤ 1000000) (hel : ∀ x ∈ xs, x.l.length ≤ 100000) :
    Calls Tryd.prog 23 #[.slice A xs.length c] w fun e w' => e = .returned (.tuple #[ab (mixM (Oc.byts xs)).1, .int .i64 (mixM (Oc.byts xs)).2]) ∧ Below w.heap.size w w' := by
  have HJ := Lib.hid (Oc.refJoin_any A c xs (w.alloc (.cells #[.int .u8 0, .int .u8 0, .int .u8 0, .int .u8 0, .int .u8 0, .int .u8 0, .int .u8 0, .int .u8 0, .int .u8 0, .int .u8 0, .int .u8 0, .int .u8 0, .int .u8 0, .int .u8 0, .int .u8 0, .int .u8 0, .int .u8 0, .int .u8 0, .int .u8 0, .int .u8 0, .int .u8 0, .int .u8 0, .int .u8 0, .int .u8 0, .int .u8 0, .int .u8 0, .int .u8 0, .int .u8 0, .int .u8 0, .int .u8 0, .int .u8 0, .int .u8 0] 22)) ((hr.alloc (Nat.le_refl _) _).more (by simp)) hl hel)
  have HZ := Lib.hid (Hb.new bv w 22 (List.replicate 32 0) _ z32)
  have hbw := fun (o : Obj) => below_new w o
  clear hel hl hr
  rcases join_cases (Oc.byts xs) with ⟨hj, hm⟩ | ⟨hfl, hj⟩
  · have HJM := Lib.hid hj
    have HM := Lib.hid hm
    clear hj hm
    go_enter Tryd.func23, Tryd.ntmps23
    go_wp2_with fail
    refine HJ.out.mono ?_
    rintro e w1 ⟨A1, c1, r1, rfl, hr1, ho1, hb1⟩
    rw [HJM.out] at hr1 ⊢
    dsimp only at hr1
    subst hr1
    have hz1 := HZ.out.below hb1 (by simp)
    have HB1 := Lib.hid ((hbw (.cells #[.int .u8 0, .int .u8 0, .int .u8 0, .int .u8 0, .int .u8 0, .int .u8 0, .int .u8 0, .int .u8 0, .int .u8 0, .int .u8 0, .int .u8 0, .int .u8 0, .int .u8 0, .int .u8 0, .int .u8 0, .int .u8 0, .int .u8 0, .int .u8 0, .int .u8 0, .int .u8 0, .int .u8 0, .int .u8 0, .int .u8 0, .int .u8 0, .int .u8 0, .int .u8 0, .int .u8 0, .int .u8 0, .int .u8 0, .int .u8 0, .int .u8 0, .int .u8 0] 22)).trans (hb1.mono (by simp)))
    clear hb1 ho1
    go_wp2_with ((with_reducible refine wpList_store_cs bv_one rfl _ (.tmp 2) (.tmp 13) rfl _ (List.replicate 32 0) _ z32 rfl rfl hz1 size32 (List.length_replicate ..) (List.length_replicate ..) ?_); intro w3 h3 hg3)
    refine bodyPost_cell_tmp (f := bv) (g := w.heap.size) (t := 22) (L := List.replicate 32 0) rfl rfl h3 Tryd.underlying22 size32 rfl ⟨by rw [HM.out]; rfl, HB1.out.grown hg3 HB1.out.size (fun k e => by cases e; omega)⟩
  · have HJM := Lib.hid hj
    have HFL := Lib.hid hfl
    by_cases h8 : (Oc.flat (Oc.byts xs)).length ≤ 8192
    · have HD := Lib.hid (show mixM (Oc.byts xs) = (dig (Oc.flat (Oc.byts xs)), 0) by unfold mixM; rw [if_pos h8])
      have H8 := Lib.hid h8
      clear hj hfl h8
      go_enter Tryd.func23, Tryd.ntmps23
      go_wp2_with fail
      refine HJ.out.mono ?_
      rintro e w1 ⟨A1, c1, r1, rfl, hr1, ho1, hb1⟩
      rw [HJM.out] at hr1 ⊢
      dsimp only at hr1 ⊢
      have hrl : r1.length ≤ 8192 := by rw [hr1]; exact H8.out
      have hrd : decide ((8192 : Int) < (r1.length : Int)) = false := by simp; omega
      have HR1 := Lib.hid hr1
      have HB1 := Lib.hid ((hbw (.cells #[.int .u8 0, .int .u8 0, .int .u8 0, .int .u8 0, .int .u8 0, .int .u8 0, .int .u8 0, .int .u8 0, .int .u8 0, .int .u8 0, .int .u8 0, .int .u8 0, .int .u8 0, .int .u8 0, .int .u8 0, .int .u8 0, .int .u8 0, .int .u8 0, .int .u8 0, .int .u8 0, .int .u8 0, .int .u8 0, .int .u8 0, .int .u8 0, .int .u8 0, .int .u8 0, .int .u8 0, .int .u8 0, .int .u8 0, .int .u8 0, .int .u8 0, .int .u8 0] 22)).trans (hb1.mono (by simp)))
      have HZ1 := Lib.hid (HZ.out.below hb1 (by simp))
      have HO1 := Lib.hid (ow_of_oc ho1).rd
      clear hb1 ho1 hr1
      go_wp2_with fail
      refine (of_any A1 c1 _ r1 w1 HO1.out (Nat.le_refl _) (by omega)).mono ?_
      rintro e w2 ⟨rfl, hb2⟩
      have hz2 := HZ1.out.below hb2 HZ1.out.lt
      have HB2 := Lib.hid (HB1.out.trans (hb2.mono HB1.out.size))
      clear hb2
      rw [HR1.out]
      obtain ⟨d, hd⟩ : ∃ d, d = dig (Oc.flat (Oc.byts xs)) := ⟨_, rfl⟩
      rw [← hd] at HD ⊢
      have HDL := Lib.hid (show d.length = 32 by rw [hd]; exact dig_len _)
      clear hd
      unfold ab
      go_wp2_with ((with_reducible refine wpList_store_hb bv_one rfl _ (.tmp 2) (.tmp 20) rfl _ d rfl rfl hz2 size32 (List.length_replicate ..) HDL.out ?_); intro w3 h3 hg3)
      refine bodyPost_cell_tmp (f := bv) (g := w.heap.size) (t := 22) (L := d) rfl rfl h3 Tryd.underlying22 (by rw [HDL.out]; exact size32) rfl ⟨by rw [HD.out]; rfl, HB2.out.grown hg3 HB2.out.size (fun k e => by cases e; omega)⟩
    · have HM := Lib.hid (show mixM (Oc.byts xs) = (zero32, 4) by unfold mixM; rw [if_neg h8])
      have H8 := Lib.hid (show 8192 < (Oc.flat (Oc.byts xs)).length by omega)
      clear hj hfl h8
      go_enter Tryd.func23, Tryd.ntmps23
      go_wp2_with fail
      refine HJ.out.mono ?_
      rintro e w1 ⟨A1, c1, r1, rfl, hr1, ho1, hb1⟩
      rw [HJM.out] at hr1 ⊢
      dsimp only at hr1 ⊢
      have hrl : (8192 : Int) < (r1.length : Int) := by have := H8.out; rw [← hr1] at this; omega
      have HB1 := Lib.hid ((hbw (.cells #[.int .u8 0, .int .u8 0, .int .u8 0, .int .u8 0, .int .u8 0, .int .u8 0, .int .u8 0, .int .u8 0, .int .u8 0, .int .u8 0, .int .u8 0, .int .u8 0, .int .u8 0, .int .u8 0, .int .u8 0, .int .u8 0, .int .u8 0, .int .u8 0, .int .u8 0, .int .u8 0, .int .u8 0, .int .u8 0, .int .u8 0, .int .u8 0, .int .u8 0, .int .u8 0, .int .u8 0, .int .u8 0, .int .u8 0, .int .u8 0, .int .u8 0, .int .u8 0] 22)).trans (hb1.mono (by simp)))
      have hz1 := HZ.out.below hb1 (by simp)
      clear hb1 ho1 hr1
      go_wp2_with ((with_reducible refine wpList_store_cs bv_one rfl _ (.tmp 2) (.tmp 18) rfl _ (List.replicate 32 0) _ z32 rfl rfl hz1 size32 (List.length_replicate ..) (List.length_replicate ..) ?_); intro w3 h3 hg3)
      refine bodyPost_cell_tmp (f := bv) (g := w.heap.size) (t := 22) (L := List.replicate 32 0) rfl rfl h3 Tryd.underlying22 size32 rfl ⟨by rw [HM.out]; rfl, HB1.out.grown hg3 HB1.out.size (fun k e => by cases e; omega)⟩
end Go.Proofs.YtipclieldokfnaaDoor
