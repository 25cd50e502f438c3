/- DrawNames. Written by tools/names6.py. -/
import Derived.Test.YtipclieldokfnaaDoorLawFirst
import Derived.Test.YtipclieldokfnaaDoorMix
namespace Go.Proofs.YtipclieldokfnaaDoor
open Go.RowKit
set_option linter.unusedVariables false

theorem one_field (w : World) (g n : Nat) (h : Hb bv w g 5 (List.replicate n 0)) (hn : n ≤ 100000) : Oc.RdL (w.alloc (.cells #[.slice (some ⟨g, 0, none⟩) n n] 36)) (w.heap.size + 1) (some ⟨w.heap.size, 0, none⟩) 1 [⟨some ⟨g, 0, none⟩, n, List.replicate n 0⟩] := by
  have hl : (List.replicate n (0 : UInt8)).length = n := List.length_replicate
  refine ⟨by simp, by unfold maxLen; omega, (fun e => by cases e), fun ad e j hj => ?_, fun x hx => ?_⟩
  · obtain rfl := Option.some.inj e
    obtain rfl : j = 0 := by simp at hj; omega
    refine ⟨by simp, ?_⟩
    have := (Boxed.new w 36 (.slice (some ⟨g, 0, none⟩) n n)).cell
    rw [add_plain]
    rw [Nat.zero_add, this]
    simp only [List.getElem_cons_zero, Oc.El.v, hl]
  · obtain rfl : x = ⟨some ⟨g, 0, none⟩, n, List.replicate n 0⟩ := by simpa using hx
    have := ((h.alloc (.cells #[.slice (some ⟨g, 0, none⟩) n n] 36)).rf_all (c := n) (by rw [hl]; exact Nat.le_refl _) (by unfold maxLen; omega))
    rw [World.size_alloc] at this
    exact this.ocRd
theorem flat_one (n : Nat) : (Oc.flat [List.replicate n (0 : UInt8)]).length = 2 + n := by
  rw [Oc.flat_cons, Oc.flat_nil, List.append_nil, Oc.fld_len, List.length_replicate]
theorem mix_big : mixM [List.replicate 8191 (0 : UInt8)] = (zero32, 4) := by unfold mixM; rw [flat_one, if_neg (by omega)]
theorem mix_ok : ∃ d, mixM [List.replicate 8190 (0 : UInt8)] = (d, 0) ∧ d.length = 32 := by
  unfold mixM
  rw [flat_one, if_pos (by omega)]
  exact ⟨_, rfl, dig_len _⟩

set_option maxRecDepth 100000 in
set_option maxHeartbeats 2000000 in
theorem drawNames_any (w : World) (hT : Tab w) :
    Calls Tryd.prog 3 #[] w fun e w' => e = .returned (.bool true) ∧ Below w.heap.size w w' := by
  have HT := Lib.hid hT
  have hbw := fun (o : Obj) => below_new w o
  obtain ⟨s, hs⟩ : ∃ s : List UInt8, s = List.replicate 32 0 := ⟨_, rfl⟩
  have hsl : s.length = 32 := by rw [hs]; exact List.length_replicate
  have HS := Lib.hid hsl
  obtain ⟨cs, hcs⟩ : ∃ cs, (s.map bv).toArray = cs := ⟨_, rfl⟩
  have HCS := Lib.hid hcs
  have HBX := Lib.hid (show Hb bv (w.alloc (.cells #[.int .u8 0, .int .u8 0, .int .u8 0, .int .u8 0, .int .u8 0, .int .u8 0, .int .u8 0, .int .u8 0, .int .u8 0, .int .u8 0, .int .u8 0, .int .u8 0, .int .u8 0, .int .u8 0, .int .u8 0, .int .u8 0, .int .u8 0, .int .u8 0, .int .u8 0, .int .u8 0, .int .u8 0, .int .u8 0, .int .u8 0, .int .u8 0, .int .u8 0, .int .u8 0, .int .u8 0, .int .u8 0, .int .u8 0, .int .u8 0, .int .u8 0, .int .u8 0] 22)) w.heap.size 22 s by rw [hs]; exact Hb.new bv w _ (List.replicate 32 0) _ z32)
  have hab : ab s = .agg cs := by unfold ab; rw [hcs]
  have HLS := Lib.hid (show (([0] : List Nat), (0 : Int)) = sampleM s 4294967295 1 1 by
    have e : sampleM s 4294967295 1 1 = numsA s [(4294967295, 1)] := rfl
    rw [e]
    unfold numsA
    simp only [numsM, drawn_one])
  obtain ⟨x, hx⟩ : ∃ x, x = tryM s 4294967295 0 % 2 ^ 32 := ⟨_, rfl⟩
  have hxl : x < 4294967296 := by rw [hx]; exact Nat.mod_lt _ (by decide)
  have HX := Lib.hid (show numberM s 4294967295 4294967296 = (x, 0) by rw [hx]; exact number_pow s 4294967295 32 (by omega))
  have N1 := Lib.hid (show ∀ wx : World, Tab wx → Calls Tryd.prog 12 #[.agg cs, .int .u32 0, .int .u64 0] wx fun e w' => e = .returned (.tuple #[.int .u64 0, .int .i64 2]) ∧ Below wx.heap.size wx w' from fun wx h => by
    have := number_any s 0 0 wx hsl (by omega) (by omega) h
    rw [hab, show numberM s 0 0 = (0, 2) from rfl] at this
    exact this)
  have N2 := Lib.hid (show ∀ wx : World, Tab wx → Calls Tryd.prog 12 #[.agg cs, .int .u32 0, .int .u64 4294967297] wx fun e w' => e = .returned (.tuple #[.int .u64 0, .int .i64 2]) ∧ Below wx.heap.size wx w' from fun wx h => by
    have := number_any s 0 4294967297 wx hsl (by omega) (by omega) h
    rw [hab, show numberM s 0 4294967297 = (0, 2) by unfold numberM; rw [if_neg (by omega)]] at this
    exact this)
  have N3 := Lib.hid (show ∀ wx : World, Tab wx → Calls Tryd.prog 12 #[.agg cs, .int .u32 4294967295, .int .u64 4294967296] wx fun e w' => e = .returned (.tuple #[.int .u64 x, .int .i64 0]) ∧ Below wx.heap.size wx w' from fun wx h => by
    have := number_any s 4294967295 4294967296 wx hsl (by omega) (by omega) h
    rw [hab, HX.out] at this
    exact this)
  have L1 := Lib.hid (show ∀ wx : World, Tab wx → Calls Tryd.prog 13 #[.agg cs, .int .i64 65] wx (IntsErr wx ([], 2)) from fun wx h => by
    have := lot_any s 65 wx hsl rfl h
    rw [hab, show lotM s 65 = ([], 2) from by unfold lotM; rw [if_neg (by omega)]] at this
    exact this)
  have L2 := Lib.hid (show ∀ wx : World, Tab wx → Calls Tryd.prog 13 #[.agg cs, .int .i64 (-1)] wx (IntsErr wx ([], 2)) from fun wx h => by
    have := lot_any s (-1) wx hsl rfl h
    rw [hab, show lotM s (-1) = ([], 2) from by unfold lotM; rw [if_neg (by omega)]] at this
    exact this)
  have S1 := Lib.hid (show ∀ wx : World, Tab wx → Calls Tryd.prog 14 #[.agg cs, .int .u32 4294967295, .int .i64 2, .int .u64 1] wx (NumsErr wx ([], 2)) from fun wx h => by
    have := sample_any s 4294967295 2 1 wx hsl (by omega) rfl (by omega) h
    rw [hab, show sampleM s 4294967295 2 1 = ([], 2) from by unfold sampleM; rw [if_neg (by omega)]] at this
    exact this)
  have S2 := Lib.hid (show ∀ wx : World, Tab wx → Calls Tryd.prog 14 #[.agg cs, .int .u32 4294967295, .int .i64 1, .int .u64 1] wx (NumsErr wx ([0], 0)) from fun wx h => by
    have := sample_any s 4294967295 1 1 wx hsl (by omega) rfl (by omega) h
    rw [hab, show sampleM s 4294967295 1 1 = ([0], 0) from HLS.out.symm] at this
    exact this)
  have S3 := Lib.hid (show ∀ wx : World, Tab wx → Calls Tryd.prog 14 #[.agg cs, .int .u32 0, .int .i64 4097, .int .u64 1] wx (NumsErr wx ([], 4)) from fun wx h => by
    have := sample_any s 0 4097 1 wx hsl (by omega) rfl (by omega) h
    rw [hab, show sampleM s 0 4097 1 = ([], 4) from by unfold sampleM; rw [if_pos (by omega), if_pos (by omega)]] at this
    exact this)
  have S4 := Lib.hid (show ∀ wx : World, Tab wx → Calls Tryd.prog 14 #[.agg cs, .int .u32 0, .int .i64 (-1), .int .u64 1] wx (NumsErr wx ([], 2)) from fun wx h => by
    have := sample_any s 0 (-1) 1 wx hsl (by omega) rfl (by omega) h
    rw [hab, show sampleM s 0 (-1) 1 = ([], 2) from by unfold sampleM; rw [if_neg (by omega)]] at this
    exact this)
  have S5 := Lib.hid (show ∀ wx : World, Tab wx → Calls Tryd.prog 14 #[.agg cs, .int .u32 0, .int .i64 4097, .int .u64 0] wx (NumsErr wx ([], 2)) from fun wx h => by
    have := sample_any s 0 4097 0 wx hsl (by omega) rfl (by omega) h
    rw [hab, show sampleM s 0 4097 0 = ([], 2) from by unfold sampleM; rw [if_neg (by omega)]] at this
    exact this)
  obtain ⟨dm, hdm, hdl⟩ := mix_ok
  have HDM := Lib.hid hdm
  have HDL := Lib.hid hdl
  have HXL := Lib.hid hxl
  have HZL := Lib.hid (show zero32.length = 32 from rfl)
  have hxi : (x : Int) < 4294967296 := by omega
  clear hs hsl hcs hab hx hxl hdm hdl hT
  go_enter Tryd.func3, Tryd.ntmps3
  have B0 := Lib.hid (hbw (.cells #[.int .u8 0, .int .u8 0, .int .u8 0, .int .u8 0, .int .u8 0, .int .u8 0, .int .u8 0, .int .u8 0, .int .u8 0, .int .u8 0, .int .u8 0, .int .u8 0, .int .u8 0, .int .u8 0, .int .u8 0, .int .u8 0, .int .u8 0, .int .u8 0, .int .u8 0, .int .u8 0, .int .u8 0, .int .u8 0, .int .u8 0, .int .u8 0, .int .u8 0, .int .u8 0, .int .u8 0, .int .u8 0, .int .u8 0, .int .u8 0, .int .u8 0, .int .u8 0] 22))
  have X0 := HBX
  go_wp2_with ((with_reducible refine wpList_load_hb rfl _ (.tmp 1) rfl _ rfl X0.out Tryd.underlying22 (by rw [HS.out]; exact size32) ?_); rw [HCS.out])
  refine (N1.out _ (HT.out.below B0.out)).mono ?_
  rintro e w1 ⟨rfl, hb⟩
  have B1 := Lib.hid (B0.out.trans (hb.mono B0.out.size))
  have X1 := Lib.hid (X0.out.below hb X0.out.lt)
  clear hb
  go_wp2_with ((with_reducible refine wpList_load_hb rfl _ (.tmp 1) rfl _ rfl X1.out Tryd.underlying22 (by rw [HS.out]; exact size32) ?_); rw [HCS.out])
  refine (N2.out _ (HT.out.below B1.out)).mono ?_
  rintro e w2 ⟨rfl, hb⟩
  have B2 := Lib.hid (B1.out.trans (hb.mono B1.out.size))
  have X2 := Lib.hid (X1.out.below hb X1.out.lt)
  clear hb
  go_wp2_with ((with_reducible refine wpList_load_hb rfl _ (.tmp 1) rfl _ rfl X2.out Tryd.underlying22 (by rw [HS.out]; exact size32) ?_); rw [HCS.out])
  refine (N3.out _ (HT.out.below B2.out)).mono ?_
  rintro e w3 ⟨rfl, hb⟩
  have B3 := Lib.hid (B2.out.trans (hb.mono B2.out.size))
  have X3 := Lib.hid (X2.out.below hb X2.out.lt)
  clear hb
  go_wp2_with ((with_reducible refine wpList_load_hb rfl _ (.tmp 1) rfl _ rfl X3.out Tryd.underlying22 (by rw [HS.out]; exact size32) ?_); rw [HCS.out])
  refine (L1.out _ (HT.out.below B3.out)).mono ?_
  rintro e w4 ⟨A4, c4, r4, er4, rfl, hq, ho, hb⟩
  obtain ⟨rfl, rfl⟩ := Prod.mk.inj hq
  have B4 := Lib.hid (B3.out.trans (hb.mono B3.out.size))
  have X4 := Lib.hid (X3.out.below hb X3.out.lt)
  clear hb hq ho
  go_wp2_with ((with_reducible refine wpList_load_hb rfl _ (.tmp 1) rfl _ rfl X4.out Tryd.underlying22 (by rw [HS.out]; exact size32) ?_); rw [HCS.out])
  refine (L2.out _ (HT.out.below B4.out)).mono ?_
  rintro e w5 ⟨A5, c5, r5, er5, rfl, hq, ho, hb⟩
  obtain ⟨rfl, rfl⟩ := Prod.mk.inj hq
  have B5 := Lib.hid (B4.out.trans (hb.mono B4.out.size))
  have X5 := Lib.hid (X4.out.below hb X4.out.lt)
  clear hb hq ho
  go_wp2_with ((with_reducible refine wpList_load_hb rfl _ (.tmp 1) rfl _ rfl X5.out Tryd.underlying22 (by rw [HS.out]; exact size32) ?_); rw [HCS.out])
  refine (S1.out _ (HT.out.below B5.out)).mono ?_
  rintro e w6 ⟨A6, c6, r6, er6, rfl, hq, ho, hb⟩
  obtain ⟨rfl, rfl⟩ := Prod.mk.inj hq
  have B6 := Lib.hid (B5.out.trans (hb.mono B5.out.size))
  have X6 := Lib.hid (X5.out.below hb X5.out.lt)
  clear hb hq ho
  go_wp2_with ((with_reducible refine wpList_load_hb rfl _ (.tmp 1) rfl _ rfl X6.out Tryd.underlying22 (by rw [HS.out]; exact size32) ?_); rw [HCS.out])
  refine (S2.out _ (HT.out.below B6.out)).mono ?_
  rintro e w7 ⟨A7, c7, r7, er7, rfl, hq, ho, hb⟩
  obtain ⟨rfl, rfl⟩ := Prod.mk.inj hq
  have B7 := Lib.hid (B6.out.trans (hb.mono B6.out.size))
  have X7 := Lib.hid (X6.out.below hb X6.out.lt)
  clear hb hq ho
  go_wp2_with ((with_reducible refine wpList_load_hb rfl _ (.tmp 1) rfl _ rfl X7.out Tryd.underlying22 (by rw [HS.out]; exact size32) ?_); rw [HCS.out])
  refine (S3.out _ (HT.out.below B7.out)).mono ?_
  rintro e w8 ⟨A8, c8, r8, er8, rfl, hq, ho, hb⟩
  obtain ⟨rfl, rfl⟩ := Prod.mk.inj hq
  have B8 := Lib.hid (B7.out.trans (hb.mono B7.out.size))
  have X8 := Lib.hid (X7.out.below hb X7.out.lt)
  clear hb hq ho
  go_wp2_with ((with_reducible refine wpList_load_hb rfl _ (.tmp 1) rfl _ rfl X8.out Tryd.underlying22 (by rw [HS.out]; exact size32) ?_); rw [HCS.out])
  refine (S4.out _ (HT.out.below B8.out)).mono ?_
  rintro e w9 ⟨A9, c9, r9, er9, rfl, hq, ho, hb⟩
  obtain ⟨rfl, rfl⟩ := Prod.mk.inj hq
  have B9 := Lib.hid (B8.out.trans (hb.mono B8.out.size))
  have X9 := Lib.hid (X8.out.below hb X8.out.lt)
  clear hb hq ho
  go_wp2_with ((with_reducible refine wpList_load_hb rfl _ (.tmp 1) rfl _ rfl X9.out Tryd.underlying22 (by rw [HS.out]; exact size32) ?_); rw [HCS.out])
  refine (S5.out _ (HT.out.below B9.out)).mono ?_
  rintro e w10 ⟨A10, c10, r10, er10, rfl, hq, ho, hb⟩
  obtain ⟨rfl, rfl⟩ := Prod.mk.inj hq
  have B10 := Lib.hid (B9.out.trans (hb.mono B9.out.size))
  have X10 := Lib.hid (X9.out.below hb X9.out.lt)
  clear hb hq ho
  go_wp2_with (at_make; refine wpList_make_hb _ rfl _ _ rfl _ 8191 rfl rfl rfl (by omega) ?_; intro m10 hm10 hbm10 hsm10)
  have BM10 := Lib.hid (B10.out.trans (hbm10.mono B10.out.size))
  have hmx := mix_any (some ⟨m10.heap.size, 0, none⟩) 1 [⟨some ⟨w10.heap.size, 0, none⟩, 8191, List.replicate 8191 0⟩] (m10.alloc (.cells #[.slice (some ⟨w10.heap.size, 0, none⟩) 8191 8191] 36)) (by rw [World.size_alloc]; exact one_field m10 _ 8191 hm10 (by omega)) (by simp) (by intro y hy; obtain rfl := List.mem_singleton.1 hy; simp) (HT.out.below (BM10.out.alloc BM10.out.size _))
  rw [show Oc.byts [(⟨some ⟨w10.heap.size, 0, none⟩, 8191, List.replicate 8191 0⟩ : Oc.El)] = [List.replicate 8191 0] from rfl, mix_big] at hmx
  obtain ⟨cz10, hcz10⟩ : ∃ cz10, (zero32.map bv).toArray = cz10 := ⟨_, rfl⟩
  dsimp only at hmx
  rw [show ab zero32 = .agg cz10 by unfold ab; rw [hcz10]] at hmx
  have HCz10 := Lib.hid hcz10
  clear hcz10
  refine (show Calls Tryd.prog _ #[.slice (some ⟨m10.heap.size, 0, none⟩) 1 1] _ _ from hmx).mono ?_
  clear hmx
  rintro e v10 ⟨rfl, hb⟩
  have BV10 := Lib.hid ((BM10.out.alloc BM10.out.size _).trans (hb.mono (Nat.le_trans BM10.out.size (by simp))))
  clear hb hm10 hbm10 hsm10
  go_wp2_with (first
    | (at_make; refine wpList_make_hb _ rfl _ _ rfl _ 8190 rfl rfl rfl (by omega) ?_; intro m11 hm11 hbm11 hsm11)
    | ((with_reducible refine wpList_store_cs bv_one rfl _ (.tmp 22) (.tmp 81) rfl _ zero32 _ HCz10.out rfl rfl (Hb.new bv v10 _ (List.replicate 32 0) _ z32) size32 (List.length_replicate ..) HZL.out ?_); intro w11 h11 hg11; have B11 := Lib.hid ((BV10.out.alloc BV10.out.size _).grown hg11 (BV10.out.alloc BV10.out.size _).size (fun k e => by cases e; exact BV10.out.size))))
  have BM11 := Lib.hid (B11.out.trans (hbm11.mono B11.out.size))
  have hmx := mix_any (some ⟨m11.heap.size, 0, none⟩) 1 [⟨some ⟨w11.heap.size, 0, none⟩, 8190, List.replicate 8190 0⟩] (m11.alloc (.cells #[.slice (some ⟨w11.heap.size, 0, none⟩) 8190 8190] 36)) (by rw [World.size_alloc]; exact one_field m11 _ 8190 hm11 (by omega)) (by simp) (by intro y hy; obtain rfl := List.mem_singleton.1 hy; simp) (HT.out.below (BM11.out.alloc BM11.out.size _))
  rw [show Oc.byts [(⟨some ⟨w11.heap.size, 0, none⟩, 8190, List.replicate 8190 0⟩ : Oc.El)] = [List.replicate 8190 0] from rfl, HDM.out] at hmx
  obtain ⟨cz11, hcz11⟩ : ∃ cz11, (dm.map bv).toArray = cz11 := ⟨_, rfl⟩
  dsimp only at hmx
  rw [show ab dm = .agg cz11 by unfold ab; rw [hcz11]] at hmx
  have HCz11 := Lib.hid hcz11
  clear hcz11
  refine (show Calls Tryd.prog _ #[.slice (some ⟨m11.heap.size, 0, none⟩) 1 1] _ _ from hmx).mono ?_
  clear hmx
  rintro e v11 ⟨rfl, hb⟩
  have BV11 := Lib.hid ((BM11.out.alloc BM11.out.size _).trans (hb.mono (Nat.le_trans BM11.out.size (by simp))))
  clear hb hm11 hbm11 hsm11
  go_wp2_with (first
    | ((with_reducible refine wpList_store_cs bv_one rfl _ (.tmp 24) (.tmp 87) rfl _ dm _ HCz11.out rfl rfl (Hb.new bv v11 _ (List.replicate 32 0) _ z32) size32 (List.length_replicate ..) HDL.out ?_); intro w12 h12 hg12; have B12 := Lib.hid ((BV11.out.alloc BV11.out.size _).grown hg12 (BV11.out.alloc BV11.out.size _).size (fun k e => by cases e; exact BV11.out.size)))
    | (go_at_call 16; refine (alive_any _ (HT.out.below B12.out)).mono ?_; rintro e w13 ⟨rfl, hb13⟩))
  go_ret
  exact ⟨rfl, B12.out.trans (hb13.mono B12.out.size)⟩
end Go.Proofs.YtipclieldokfnaaDoor
