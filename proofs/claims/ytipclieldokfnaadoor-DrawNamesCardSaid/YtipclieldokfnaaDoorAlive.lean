/- The law's alive; first. -/
import Derived.Test.YtipclieldokfnaaDoorSmall
import Derived.Test.YtipclieldokfnaaDoorSample
namespace Go.Proofs.YtipclieldokfnaaDoor
open Go.RowKit
set_option linter.unusedVariables false

theorem drawn_one (s : List UInt8) (i : Nat) : drawnM s i 1 = some 0 := by
  have h := drawn_some (s := s) (i := i) (n := 1) (m := 0) (by omega) (fun k hk => by omega) (by have := tryM_lt s i 0; unfold lastM; omega)
  rw [h, Nat.mod_one]
theorem lot_zero (s : List UInt8) : lotM s 0 = ([], 0) := rfl
theorem lot_one (s : List UInt8) : lotM s 1 = ([0], 0) := rfl
theorem sam_three (s : List UInt8) : sampleM s 5 3 1 = ([0, 0, 0], 0) := by
  have e : sampleM s 5 3 1 = numsA s [(5, 1), (6, 1), (7, 1)] := rfl
  rw [e]
  unfold numsA
  simp only [numsM, drawn_one]
theorem num_one (s : List UInt8) : numberM s 0 1 = (0, 0) := by
  unfold numberM
  rw [if_pos ⟨by omega, by omega⟩, drawn_one]
def seedOf (x : UInt8) : List UInt8 := x :: List.replicate 31 0
theorem seedOf_len (x : UInt8) : (seedOf x).length = 32 := by simp [seedOf]
theorem ab_seed0 : ab (seedOf 0) = .agg #[.int .u8 0, .int .u8 0, .int .u8 0, .int .u8 0, .int .u8 0, .int .u8 0, .int .u8 0, .int .u8 0, .int .u8 0, .int .u8 0, .int .u8 0, .int .u8 0, .int .u8 0, .int .u8 0, .int .u8 0, .int .u8 0, .int .u8 0, .int .u8 0, .int .u8 0, .int .u8 0, .int .u8 0, .int .u8 0, .int .u8 0, .int .u8 0, .int .u8 0, .int .u8 0, .int .u8 0, .int .u8 0, .int .u8 0, .int .u8 0, .int .u8 0, .int .u8 0] := rfl
theorem ab_seed1 : ab (seedOf 1) = .agg #[.int .u8 1, .int .u8 0, .int .u8 0, .int .u8 0, .int .u8 0, .int .u8 0, .int .u8 0, .int .u8 0, .int .u8 0, .int .u8 0, .int .u8 0, .int .u8 0, .int .u8 0, .int .u8 0, .int .u8 0, .int .u8 0, .int .u8 0, .int .u8 0, .int .u8 0, .int .u8 0, .int .u8 0, .int .u8 0, .int .u8 0, .int .u8 0, .int .u8 0, .int .u8 0, .int .u8 0, .int .u8 0, .int .u8 0, .int .u8 0, .int .u8 0, .int .u8 0] := rfl
theorem ab_seed2 : ab (seedOf 2) = .agg #[.int .u8 2, .int .u8 0, .int .u8 0, .int .u8 0, .int .u8 0, .int .u8 0, .int .u8 0, .int .u8 0, .int .u8 0, .int .u8 0, .int .u8 0, .int .u8 0, .int .u8 0, .int .u8 0, .int .u8 0, .int .u8 0, .int .u8 0, .int .u8 0, .int .u8 0, .int .u8 0, .int .u8 0, .int .u8 0, .int .u8 0, .int .u8 0, .int .u8 0, .int .u8 0, .int .u8 0, .int .u8 0, .int .u8 0, .int .u8 0, .int .u8 0, .int .u8 0] := rfl
theorem ab_seed3 : ab (seedOf 3) = .agg #[.int .u8 3, .int .u8 0, .int .u8 0, .int .u8 0, .int .u8 0, .int .u8 0, .int .u8 0, .int .u8 0, .int .u8 0, .int .u8 0, .int .u8 0, .int .u8 0, .int .u8 0, .int .u8 0, .int .u8 0, .int .u8 0, .int .u8 0, .int .u8 0, .int .u8 0, .int .u8 0, .int .u8 0, .int .u8 0, .int .u8 0, .int .u8 0, .int .u8 0, .int .u8 0, .int .u8 0, .int .u8 0, .int .u8 0, .int .u8 0, .int .u8 0, .int .u8 0] := rfl
theorem rf_lit {α : Type} {f : α → Value} (w : World) (e : Nat) (L : List α) (cs : Array Value) (h : (L.map f).toArray = cs) (hm : L.length ≤ 1000000) : Rf f (w.alloc (.cells cs e)) (w.heap.size + 1) (some ⟨w.heap.size, 0, none⟩) L.length L := by
  have := (Hb.new f w e L cs h).rf_all (c := L.length) (Nat.le_refl _) (by unfold maxLen; omega)
  rwa [World.size_alloc] at this

set_option maxRecDepth 100000 in
set_option maxHeartbeats 1000000 in
theorem alive_any (w : World) (hT : Tab w) :
    Calls Tryd.prog 16 #[] w fun e w' => e = .returned (.bool true) ∧ Below w.heap.size w w' := by
  have HT := Lib.hid hT
  clear hT
  have L0 := Lib.hid (show ∀ wx : World, Tab wx → Calls Tryd.prog 13 #[.agg #[.int .u8 1, .int .u8 0, .int .u8 0, .int .u8 0, .int .u8 0, .int .u8 0, .int .u8 0, .int .u8 0, .int .u8 0, .int .u8 0, .int .u8 0, .int .u8 0, .int .u8 0, .int .u8 0, .int .u8 0, .int .u8 0, .int .u8 0, .int .u8 0, .int .u8 0, .int .u8 0, .int .u8 0, .int .u8 0, .int .u8 0, .int .u8 0, .int .u8 0, .int .u8 0, .int .u8 0, .int .u8 0, .int .u8 0, .int .u8 0, .int .u8 0, .int .u8 0], .int .i64 0] wx (IntsErr wx ([], 0)) from fun wx h => lot_any (seedOf 1) 0 wx (seedOf_len 1) rfl h)
  have L1 := Lib.hid (show ∀ wx : World, Tab wx → Calls Tryd.prog 13 #[.agg #[.int .u8 2, .int .u8 0, .int .u8 0, .int .u8 0, .int .u8 0, .int .u8 0, .int .u8 0, .int .u8 0, .int .u8 0, .int .u8 0, .int .u8 0, .int .u8 0, .int .u8 0, .int .u8 0, .int .u8 0, .int .u8 0, .int .u8 0, .int .u8 0, .int .u8 0, .int .u8 0, .int .u8 0, .int .u8 0, .int .u8 0, .int .u8 0, .int .u8 0, .int .u8 0, .int .u8 0, .int .u8 0, .int .u8 0, .int .u8 0, .int .u8 0, .int .u8 0], .int .i64 1] wx (IntsErr wx ([0], 0)) from fun wx h => lot_any (seedOf 2) 1 wx (seedOf_len 2) rfl h)
  have S3 := Lib.hid (show ∀ wx : World, Tab wx → Calls Tryd.prog 14 #[.agg #[.int .u8 3, .int .u8 0, .int .u8 0, .int .u8 0, .int .u8 0, .int .u8 0, .int .u8 0, .int .u8 0, .int .u8 0, .int .u8 0, .int .u8 0, .int .u8 0, .int .u8 0, .int .u8 0, .int .u8 0, .int .u8 0, .int .u8 0, .int .u8 0, .int .u8 0, .int .u8 0, .int .u8 0, .int .u8 0, .int .u8 0, .int .u8 0, .int .u8 0, .int .u8 0, .int .u8 0, .int .u8 0, .int .u8 0, .int .u8 0, .int .u8 0, .int .u8 0], .int .u32 5, .int .i64 3, .int .u64 1] wx (NumsErr wx ([0, 0, 0], 0)) from fun wx h => by
    have := sample_any (seedOf 3) 5 3 1 wx (seedOf_len 3) (by omega) rfl (by omega) h
    rw [sam_three] at this
    exact this)
  have N1 := Lib.hid (show ∀ wx : World, Tab wx → Calls Tryd.prog 12 #[.agg #[.int .u8 0, .int .u8 0, .int .u8 0, .int .u8 0, .int .u8 0, .int .u8 0, .int .u8 0, .int .u8 0, .int .u8 0, .int .u8 0, .int .u8 0, .int .u8 0, .int .u8 0, .int .u8 0, .int .u8 0, .int .u8 0, .int .u8 0, .int .u8 0, .int .u8 0, .int .u8 0, .int .u8 0, .int .u8 0, .int .u8 0, .int .u8 0, .int .u8 0, .int .u8 0, .int .u8 0, .int .u8 0, .int .u8 0, .int .u8 0, .int .u8 0, .int .u8 0], .int .u32 0, .int .u64 1] wx (fun e w' => e = .returned (.tuple #[.int .u64 0, .int .i64 0]) ∧ Below wx.heap.size wx w') from fun wx h => by
    have := number_any (seedOf 0) 0 1 wx (seedOf_len 0) (by omega) (by omega) h
    rw [num_one] at this
    exact this)
  go_enter Tryd.func16, Tryd.ntmps16
  go_wp2_with fail
  refine (L0.out w HT.out).mono ?_
  rintro e w1 ⟨A0, c0, r0, er, rfl, hq, h0, hb0⟩
  obtain ⟨rfl, rfl⟩ := Prod.mk.inj hq
  have HB1 := Lib.hid hb0
  clear hq h0 hb0
  go_wp2_with fail
  refine (L1.out w1 (HT.out.below HB1.out)).mono ?_
  rintro e w2 ⟨A1, c1, r1, er, rfl, hq, h1, hb1⟩
  obtain ⟨rfl, rfl⟩ := Prod.mk.inj hq
  have HB2 := Lib.hid (HB1.out.trans (hb1.mono HB1.out.size))
  have HR1 := Lib.hid h1.rd
  clear hq h1 hb1
  go_wp2_with fail
  refine (S3.out w2 (HT.out.below HB2.out)).mono ?_
  rintro e w3 ⟨A2, c2, r2, er, rfl, hq, h2, hb2⟩
  obtain ⟨rfl, rfl⟩ := Prod.mk.inj hq
  have HB3 := Lib.hid (HB2.out.trans (hb2.mono HB2.out.size))
  have HR13 := Lib.hid (HR1.out.below hb2)
  have HR2 := Lib.hid h2.rd
  have hz23 := hb2.size
  clear hq h2 hb2
  go_wp2_with fail
  refine (N1.out w3 (HT.out.below HB3.out)).mono ?_
  rintro e w4 ⟨rfl, hb3⟩
  have HB4 := Lib.hid (HB3.out.trans (hb3.mono HB3.out.size))
  have hz := hb3.size
  have HR14 := Lib.hid (HR13.out.below (hb3.mono hz23))
  have HR24 := Lib.hid (HR2.out.below hb3)
  clear hb3
  go_wp2_with fail
  have ha := sameInts_any A1 (some ⟨w4.heap.size, 0, none⟩) c1 1 w2.heap.size _ [0] [0] (w4.alloc (.cells #[.int .i64 0] 3)) (HR14.out.alloc (by omega) _) (rf_lit w4 _ [0] _ rfl (by simp)) (by simp) (by simp)
  refine (show Calls Tryd.prog _ #[.slice A1 1 c1, .slice (some ⟨w4.heap.size, 0, none⟩) 1 1] _ _ from ha).mono ?_
  clear ha
  rintro e w5 ⟨he, n5, rfl⟩
  obtain rfl : e = .returned (.bool true) := he
  go_wp2_with fail
  have hb := sameNumbers_any A2 (some ⟨w4.heap.size + 1, 0, none⟩) c2 3 w3.heap.size _ [0, 0, 0] [0, 0, 0] (((w4.alloc (.cells #[.int .i64 0] 3)).drewN n5).alloc (.cells #[.int .u64 0, .int .u64 0, .int .u64 0] 23)) ((((HR24.out.alloc hz _).drewN n5)).alloc (by simp; omega) _) (by
    have := rf_lit ((w4.alloc (.cells #[.int .i64 0] 3)).drewN n5) 23 [0, 0, 0] #[.int .u64 0, .int .u64 0, .int .u64 0] (f := qv) rfl (by simp)
    exact (show ((w4.alloc (.cells #[.int .i64 0] 3)).drewN n5).heap.size = w4.heap.size + 1 from World.size_alloc ..) ▸ this) (by simp) (by simp)
  refine (show Calls Tryd.prog _ #[.slice A2 3 c2, .slice (some ⟨w4.heap.size + 1, 0, none⟩) 3 3] _ _ from hb).mono ?_
  clear hb
  rintro e w6 ⟨he, n6, rfl⟩
  obtain rfl : e = .returned (.bool true) := he
  go_wp2_with fail
  go_ret
  exact ⟨rfl, (((HB4.out.alloc HB4.out.size _).trans (below_drewN _ _ n5)).alloc (by have := HB4.out.size; simp; omega) _).trans (below_drewN _ _ n6)⟩

set_option maxRecDepth 100000 in
set_option maxHeartbeats 1000000 in
theorem firstTry_any (s : List UInt8) (i : Nat) (w : World) (hs : s.length = 32) (hi : i < 4294967296) (hT : Tab w) :
    Calls Tryd.prog 26 #[ab s, .int .u32 i] w fun e w' => e = .returned (.int .u64 (tryM s i 0 : Nat)) ∧ Below w.heap.size w w' := by
  have HT := Lib.hid hT
  have HS := Lib.hid hs
  clear hT hs
  unfold ab
  obtain ⟨cs, hcs⟩ : ∃ cs, (s.map bv).toArray = cs := ⟨_, rfl⟩
  have hbx := Hb.new bv w 22 s cs hcs
  rw [hcs]
  have HBX := Lib.hid hbx
  clear hcs hbx
  have hsl : ∀ (b : Nat) (wx : World), (Instr.sliceAt 22 (.pointer (some ⟨b, 0, none⟩)) none none none).run Tryd.prog wx = .ok (.slice (some ⟨b, 0, none⟩) 32 32) wx := fun b wx => slice_all (P := Tryd.prog) Tryd.underlying22 bSize (by omega) b wx
  go_enter Tryd.func26, Tryd.ntmps26
  go_wp2_with fail
  have hr0 := (HBX.out.rf_all (c := 32) (by rw [HS.out]; exact Nat.le_refl _) (by unfold maxLen; omega))
  have p1 := put4_any _ 32 _ s i _ hr0 (Nat.le_refl _) (by rw [HS.out]; omega) hi
  rw [HS.out] at p1
  refine p1.mono ?_
  clear p1 hr0
  rintro e w1 ⟨A1, c1, r1, rfl, hr1, ho1, hb1⟩
  have HR1 := Lib.hid hr1
  have hl1 : r1.length ≤ 16380 := by rw [hr1, List.length_append, HS.out, beN_len]; omega
  clear hr1
  go_wp2_with fail
  refine (put4_any A1 c1 _ r1 0 _ ho1.rd (Nat.le_refl _) hl1 (by omega)).mono ?_
  rintro e w2 ⟨A2, c2, r2, rfl, hr2, ho2, hb2⟩
  have HR2 := Lib.hid hr2
  have hl2 : r2.length ≤ 16384 := by rw [hr2, List.length_append, beN_len]; omega
  have hl3 : r2.length ≤ 8192 := by rw [hr2, HR1.out]; simp only [List.length_append, HS.out, beN_len]; omega
  have hbw2 : Below w.heap.size w w2 := ((below_new w _).trans (hb1.mono (by simp))).trans (hb2.mono (by have := hb1.size; simp at this; omega))
  clear hr2 hl1 ho1 hb1 hb2
  go_wp2_with fail
  refine (sum_any A2 c2 _ r2 _ ho2.rd (Nat.le_refl _) (by omega) (HT.out.below hbw2)).mono ?_
  rintro e w3 ⟨rfl, hb3⟩
  have hM : sumM r2 = (dig r2, 0) := by unfold sumM; rw [if_neg (by omega)]
  rw [hM]
  have HTRY := Lib.hid (show num ((dig r2).take 8) = tryM s i 0 by rw [HR2.out, HR1.out]; rfl)
  have hbw3 := hbw2.trans (hb3.mono hbw2.size)
  clear hM hb3 hbw2 ho2 hl2 hl3
  obtain ⟨d, hd⟩ : ∃ d, d = dig r2 := ⟨_, rfl⟩
  rw [← hd] at HTRY
  dsimp only
  rw [← hd]
  have HDL := Lib.hid (show d.length = 32 by rw [hd]; exact dig_len _)
  clear hd
  unfold ab
  go_wp2_with ((with_reducible refine wpList_store_hb bv_one rfl _ (.tmp 9) (.tmp 29) rfl _ d rfl rfl (Hb.new bv w3 _ (List.replicate 32 0) _ z32) size32 (List.length_replicate ..) HDL.out ?_); intro w4 h4 hg4)
  have hbw4 : Below w.heap.size w w4 := (hbw3.alloc hbw3.size _).grown hg4 (hbw3.alloc hbw3.size _).size (fun k e => by cases e; exact hbw3.size)
  have t1 := take8_any _ 32 _ d w4 (h4.rf_all (c := 32) (by rw [HDL.out]; exact Nat.le_refl _) (by unfold maxLen; omega)) (Nat.le_refl _) (by rw [HDL.out]; omega) (by rw [HDL.out]; omega)
  rw [HDL.out] at t1
  refine t1.mono ?_
  clear t1
  rintro e w5 ⟨rfl, rfl⟩
  rw [HTRY.out]
  go_wp2_with fail
  go_ret
  exact ⟨rfl, hbw4⟩
end Go.Proofs.YtipclieldokfnaaDoor
