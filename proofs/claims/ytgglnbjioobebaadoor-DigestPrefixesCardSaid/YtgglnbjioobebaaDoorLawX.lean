/- DigestPrefixes. -/
import Derived.Test.YtgglnbjioobebaaDoorEq
namespace Go.Proofs.YtgglnbjioobebaaDoor
open Go.RowKit
set_option linter.unusedVariables false
set_option linter.unusedSimpArgs false

set_option maxHeartbeats 2000000 in
theorem digestPrefixes_any (A : Option Addr) (c : Nat) (l x y : List UInt8) (w : World) (hr : Rf bv w w.heap.size A c l) (hx : x.length = 32) (hy : y.length = 32) (hT : Tab w) :
    Calls Tryd.prog 8 #[.slice A l.length c, ab x, ab y] w fun e w' => e = .returned (.bool true) ∧ Below w.heap.size w w' := by
  have HT := Lib.hid hT
  obtain ⟨cx, hcx⟩ : ∃ cx, (x.map bv).toArray = cx := ⟨_, rfl⟩
  obtain ⟨cy, hcy⟩ : ∃ cy, (y.map bv).toArray = cy := ⟨_, rfl⟩
  unfold ab
  rw [hcx, hcy]
  have HB0 := Lib.hid (show Below w.heap.size w ((w.alloc (.cells cx 22)).alloc (.cells cy 22)) from ((Below.refl _ w).alloc (Nat.le_refl _) _).alloc (by simp) _)
  have HX0 := Lib.hid (show Hb bv ((w.alloc (.cells cx 22)).alloc (.cells cy 22)) w.heap.size 22 x from (Hb.new bv w _ x _ hcx).alloc _)
  have HY0 := Lib.hid (show Hb bv ((w.alloc (.cells cx 22)).alloc (.cells cy 22)) (w.heap.size + 1) 22 y from Hb.new1 bv w _ _ y _ hcy)
  have HX := Lib.hid hx
  have HY := Lib.hid hy
  have HCX := Lib.hid hcx
  have HCY := Lib.hid hcy
  clear hT hx hy hcx hcy
  by_cases hbig : 8191 < l.length
  · have hbd : (8191 : Int) < (l.length : Int) := by omega
    go_enter Tryd.func8, Tryd.ntmps8
    go_wp2_with fail
    refine (alive_any _ (HT.out.below HB0.out)).mono ?_
    rintro e w1 ⟨rfl, hb1⟩
    go_wp2_with fail
    go_ret
    exact ⟨rfl, HB0.out.trans (hb1.mono HB0.out.size)⟩
  · have HML := Lib.hid (show leafM l = (dig (0 :: l), 0) by unfold leafM; rw [if_neg hbig])
    have hbd : decide ((8191 : Int) < (l.length : Int)) = false := by simp; omega
    obtain ⟨bi, hbi, hz0, hz1, hz2⟩ := info_parts bInfo
    have HBI := Lib.hid hbi
    have HZ0 := Lib.hid hz0
    have HZ1 := Lib.hid hz1
    have HZ2 := Lib.hid hz2
    clear hbi hz0 hz1 hz2
    go_enter Tryd.func8, Tryd.ntmps8
    go_wp2_with fail
    refine (alive_any _ (HT.out.below HB0.out)).mono ?_
    rintro e w1 ⟨rfl, hb1⟩
    have hbw1 := HB0.out.trans (hb1.mono HB0.out.size)
    have hs1 := hb1.size
    simp only [World.size_alloc] at hs1
    have hX1 := HX0.out.below hb1 HX0.out.lt
    have hY1 := HY0.out.below hb1 HY0.out.lt
    clear hb1 HX0 HY0
    go_wp2_with fail
    refine (leafX_any A c w.heap.size l w1 (hr.below hbw1) hbw1.size (by omega) (HT.out.below hbw1)).mono ?_
    rintro e w2 ⟨rfl, hb2⟩
    rw [HML.out]
    unfold ab
    have hbw2 := hbw1.trans (hb2.mono hbw1.size)
    have hs2 := hb2.size
    have hX2 := hX1.below hb2 hX1.lt
    have hY2 := hY1.below hb2 hY1.lt
    clear hb2 hX1 hY1 hbw1
    obtain ⟨cd, hcd⟩ : ∃ cd, ((dig (0 :: l)).map bv).toArray = cd := ⟨_, rfl⟩
    rw [hcd]
    have HCD := Lib.hid hcd
    clear hcd
    go_wp2_with (first
      | ((with_reducible refine wpList_store_cs bv_one rfl _ (.tmp 8) (.tmp 27) rfl _ (dig (0 :: l)) _ HCD.out rfl rfl (Hb.new bv w2 _ (List.replicate 32 0) _ z32) size32 (List.length_replicate ..) (dig_len _) ?_); intro w3 h3 hg3; have hbw3 : Below w.heap.size w w3 := (hbw2.alloc hbw2.size _).grown hg3 (hbw2.alloc hbw2.size _).size (fun k e => by cases e; exact hbw2.size); have hX3 := (hX2.alloc _).grown hg3 (by simp; omega); have hY3 := (hY2.alloc _).grown hg3 (by simp; omega); have hs3 := hg3.size; simp only [World.size_alloc] at hs3)
      | (at_builtin; refine wpList_append_f _ bv_one rfl (.tmp 30) (.tmp 31) 26 rfl (w.heap.size + 1 + 1) 5 1 bi _ Tryd.underlying26 HBI.out HZ0.out HZ1.out HZ2.out (by omega) rfl [0] l rfl rfl (ow_one_v w3 0 _ rfl _ _ (by omega)) ((hr.below hbw3).alloc hbw3.size _) (by simp; omega) (by simp; omega) ?_; intro A4 c4 w4 r4 hr4 hown4 hg4 hb4; have hrl4 : r4.length ≤ 8192 := (by rw [hr4.out]; simp; omega); have hs4 := hg4.size; simp only [World.size_alloc] at hs4; have hbw4 : Below w.heap.size w w4 := (hbw3.alloc hbw3.size _).grown hg4 (hbw3.alloc hbw3.size _).size (fun k e => by cases e; exact hbw3.size)))
    have hre4 : r4 = 0 :: l := by rw [hr4.out]; rfl
    have HR4 := Lib.hid (show sumM r4 = (dig (0 :: l), 0) by unfold sumM; rw [if_neg (by omega), hre4])
    clear hre4
    have h4 := (h3.alloc (.cells #[.int .u8 0] 5)).grown hg4 (by have := h3.lt; simp [blk]; omega)
    have hX4 := (hX3.alloc (.cells #[.int .u8 0] 5)).grown hg4 (by simp [blk]; omega)
    have hY4 := (hY3.alloc (.cells #[.int .u8 0] 5)).grown hg4 (by simp [blk]; omega)
    refine (sum_any A4 c4 w4.heap.size r4 w4 hown4.rd (Nat.le_refl _) (by omega) (HT.out.below hbw4)).mono ?_
    rintro e w5 ⟨rfl, hb5⟩
    rw [HR4.out]
    unfold ab
    rw [HCD.out]
    have hbw5 := hbw4.trans (hb5.mono hbw4.size)
    have hs5 := hb5.size
    have h5 := h4.below hb5 h4.lt
    have hX5 := hX4.below hb5 hX4.lt
    have hY5 := hY4.below hb5 hY4.lt
    clear hb5 h4 hX4 hY4 hbw4 hown4 hg4 hb4 hr4 h3 hg3 hX3 hY3 hbw3 hX2 hY2 hbw2
    have hsl : ∀ (b : Nat) (wx : World), (Instr.sliceAt 22 (.pointer (some ⟨b, 0, none⟩)) none none none).run Tryd.prog wx = .ok (.slice (some ⟨b, 0, none⟩) 32 32) wx := fun b wx => slice_all (P := Tryd.prog) Tryd.underlying22 bSize (by omega) b wx
    go_wp2_with (with_reducible refine wpList_store_cs bv_one rfl _ (.tmp 10) (.tmp 34) rfl _ (dig (0 :: l)) _ HCD.out rfl rfl (Hb.new bv w5 _ (List.replicate 32 0) _ z32) size32 (List.length_replicate ..) (dig_len _) ?_; intro w6 h6 hg6; have hbw6 : Below w.heap.size w w6 := (hbw5.alloc hbw5.size _).grown hg6 (hbw5.alloc hbw5.size _).size (fun k e => by cases e; exact hbw5.size); have hX6 := (hX5.alloc _).grown hg6 (by simp; omega); have hY6 := (hY5.alloc _).grown hg6 (by simp; omega); have h86 := (h5.alloc _).grown hg6 (by have := h5.lt; simp; omega); have hs6 := hg6.size; simp only [World.size_alloc] at hs6)
    clear h5 hX5 hY5 hbw5 hg6
    go_region_law (first
      | (refine step_append_f bv_one rfl (.tmp 36) (.tmp 37) 26 rfl (w.heap.size + 1 + 1) 5 1 bi _ Tryd.underlying26 HBI.out HZ0.out HZ1.out HZ2.out (by omega) rfl [1] x rfl (by rw [HX.out]; rfl) (ow_one_v w6.drew 1 _ rfl _ _ (by simp; omega)) ((hX6.drew.alloc _).rf_all (c := 32) (by rw [HX.out]; exact Nat.le_refl _) (by unfold maxLen; omega)) (by rw [HX.out]; simp) (by simp; omega) ?_; intro A7 c7 w7 r7 hr7 hown7 hg7 hb7)
      | (refine step_append_f bv_one rfl (.tmp 38) (.tmp 39) 26 rfl (w.heap.size + 1 + 1) 5 1 bi _ Tryd.underlying26 HBI.out HZ0.out HZ1.out HZ2.out (by omega) rfl r7 y rfl (by rw [HY.out]; rfl) hown7 (((hY6.drew.alloc _).grown hg7 (by simp [blk]; omega)).rf_all (c := 32) (by rw [HY.out]; exact Nat.le_refl _) (by unfold maxLen; omega)) (by rw [HY.out, hr7.out, List.length_append, HX.out]; simp) (by have := hg7.size; simp at this; omega) ?_; intro A8 c8 w8 r8 hr8 hown8 hg8 hb8))
    have hre8 : r8 = 1 :: (x ++ y) := by rw [hr8.out, hr7.out]; rfl
    have hrl8 : r8.length ≤ 100 := by rw [hre8]; simp [HX.out, HY.out]
    have HN8 := Lib.hid (show sumM r8 = (nodeM x y, 0) by unfold sumM nodeM; rw [if_neg (by omega), hre8])
    have hs8 := hg8.size
    have hs7 := hg7.size
    simp only [World.size_alloc, World.size_drew] at hs7
    have hn7 : ∀ g, g < w6.heap.size → some g ≠ blk A7 := fun g hg => by rcases hb7 with e | e <;> (rw [e]; simp [blk]; omega)
    have hk8 : ∀ {g t : Nat} {L : List UInt8}, Hb bv w6 g t L → Hb bv w8 g t L := fun {g t L} h => ((h.drew.alloc (.cells #[.int .u8 1] 5)).grown hg7 (by have := h.lt; simp [blk]; omega)).grown hg8 (hn7 g h.lt)
    have hbw8 : Below w.heap.size w w8 := ((hbw6.drew.alloc hbw6.size (.cells #[.int .u8 1] 5)).grown hg7 (by simp; omega) (fun k e => by simp [blk] at e; omega)).grown hg8 (by omega) (fun k e => by have := (hown7.blk_ge k e).1; omega)
    have h8 := hk8 h6
    have h88 := hk8 h86
    have hX8 := hk8 hX6
    have hY8 := hk8 hY6
    clear hk8 hn7 hg7 hg8 hown7 hb7 hb8 h6 h86 hX6 hY6 hbw6 hr7 hr8 hre8
    go_wp2_with fail
    refine (sum_any A8 c8 w8.heap.size r8 w8 hown8.rd (Nat.le_refl _) (by omega) (HT.out.below hbw8)).mono ?_
    rintro e w9 ⟨rfl, hb9⟩
    rw [HN8.out]
    unfold ab
    have hbw9 := hbw8.trans (hb9.mono hbw8.size)
    have hs9 := hb9.size
    have h9 := h8.below hb9 h8.lt
    have h89 := h88.below hb9 h88.lt
    have hX9 := hX8.below hb9 hX8.lt
    have hY9 := hY8.below hb9 hY8.lt
    clear h8 h88 hX8 hY8 hbw8 hb9 hown8
    obtain ⟨z, hz⟩ : ∃ z, z = nodeM x y := ⟨_, rfl⟩
    have HZL := Lib.hid (show z.length = 32 by rw [hz]; exact dig_len _)
    have HZE := Lib.hid hz
    rw [← hz]
    clear hz
    obtain ⟨cz, hcz⟩ : ∃ cz, (z.map bv).toArray = cz := ⟨_, rfl⟩
    have HCZ := Lib.hid hcz
    rw [hcz]
    clear hcz
    go_wp2_with (with_reducible refine wpList_store_cs bv_one rfl _ (.tmp 13) (.tmp 44) rfl _ z _ HCZ.out rfl rfl (Hb.new bv w9 _ (List.replicate 32 0) _ z32) size32 (List.length_replicate ..) HZL.out ?_; intro w10 h10 hg10; have hbw10 : Below w.heap.size w w10 := (hbw9.alloc hbw9.size _).grown hg10 (hbw9.alloc hbw9.size _).size (fun k e => by cases e; exact hbw9.size); have hX10 := (hX9.alloc _).grown hg10 (by have := hX9.lt; simp; omega); have hY10 := (hY9.alloc _).grown hg10 (by have := hY9.lt; simp; omega); have h910 := (h9.alloc _).grown hg10 (by have := h9.lt; simp; omega); have h8910 := (h89.alloc _).grown hg10 (by have := h89.lt; simp; omega))
    obtain ⟨lx, hlx⟩ : ∃ lx, x.map bv = lx := ⟨_, rfl⟩
    obtain ⟨ly, hly⟩ : ∃ ly, y.map bv = ly := ⟨_, rfl⟩
    obtain ⟨ld, hld⟩ : ∃ ld, (dig (0 :: l)).map bv = ld := ⟨_, rfl⟩
    obtain ⟨lz, hlz⟩ : ∃ lz, z.map bv = lz := ⟨_, rfl⟩
    have hU := Tryd.underlying22
    have hIx : (Tryd.prog.info? 22).map (·.size) = some lx.length := by rw [← hlx, List.length_map, HX.out]; exact size32
    have hIy : (Tryd.prog.info? 22).map (·.size) = some ly.length := by rw [← hly, List.length_map, HY.out]; exact size32
    have hId : (Tryd.prog.info? 22).map (·.size) = some ld.length := by rw [← hld, List.length_map, dig_len]; exact size32
    have hIz : (Tryd.prog.info? 22).map (·.size) = some lz.length := by rw [← hlz, List.length_map, HZL.out]; exact size32
    obtain ⟨Inv, hInv⟩ : ∃ Inv : World → Prop, Inv = fun w' => Hb bv w' w.heap.size 22 x ∧ Hb bv w' (w.heap.size + 1) 22 y ∧ Hb bv w' w2.heap.size 22 (dig (0 :: l)) ∧ Hb bv w' w5.heap.size 22 (dig (0 :: l)) ∧ Hb bv w' w9.heap.size 22 z ∧ Below w.heap.size w w' := ⟨_, rfl⟩
    have HRG := Lib.hid (show ∀ w', Inv w' → w'.rangeAt w.heap.size 0 lx ∧ w'.rangeAt (w.heap.size + 1) 0 ly ∧ w'.rangeAt w2.heap.size 0 ld ∧ w'.rangeAt w5.heap.size 0 ld ∧ w'.rangeAt w9.heap.size 0 lz ∧ Inv w' from fun w' h => by
      have hi := h
      rw [hInv] at h
      exact ⟨h.1.range hlx, h.2.1.range hly, h.2.2.1.range hld, h.2.2.2.1.range hld, h.2.2.2.2.1.range hlz, hi⟩)
    have hE1 := eqi_ab (dig (0 :: l)) (dig_len _) ld.toArray (by rw [hld])
    have hE2 := eqi_ab z HZL.out lz.toArray (by rw [hlz])
    have hGD := gd_ab
    have HS0 := Lib.hid (show Inv w10.drew by rw [hInv]; exact ⟨hX10.drew, hY10.drew, h8910.drew, h910.drew, h10.drew, hbw10.drew⟩)
    have HSB := Lib.hid (show ∀ wa wb, Inv wa → Below wa.heap.size wa wb → Inv wb from fun wa wb ha hb => by
      rw [hInv] at ha ⊢
      obtain ⟨q1, q2, q3, q4, q5, q6⟩ := ha
      exact ⟨q1.below hb q1.lt, q2.below hb q2.lt, q3.below hb q3.lt, q4.below hb q4.lt, q5.below hb q5.lt, q6.trans (hb.mono q6.size)⟩)
    have HSW := Lib.hid (show ∀ wa, Inv wa → Below w.heap.size w wa from fun wa ha => by rw [hInv] at ha; exact ha.2.2.2.2.2)
    have HNC := Lib.hid (show ∀ wa, Inv wa → Calls Tryd.prog 22 #[.agg lx.toArray, .agg ly.toArray] wa fun e w' => e = .returned (.agg lz.toArray) ∧ Below wa.heap.size wa w' from fun wa ha => by
      have h := nodeX_any x y wa HX.out HY.out (HT.out.below (HSW.out wa ha))
      unfold ab at h
      rw [← HZE.out, hlx, hly, hlz] at h
      exact h)
    clear hInv hX10 hY10 h910 h8910 h10 hbw10 h9 h89 hX9 hY9 hbw9 hg10 hlx hly hld hlz
    refine wp_region_held_drew (S := (fun w' => w'.rangeAt w.heap.size 0 lx ∧ w'.rangeAt (w.heap.size + 1) 0 ly ∧ w'.rangeAt w2.heap.size 0 ld ∧ w'.rangeAt w5.heap.size 0 ld ∧ w'.rangeAt w9.heap.size 0 lz ∧ Inv w')) (by kernel_rfl) (HRG.out _ HS0.out) ?_
    intro hHeld
    try simp only [Act.put, List.setIfInBounds_toArray, List.set_cons_zero, List.set_cons_succ]
    refine wpAnyH_take (i := 0) (oi := { dst := some 46, op := Op.move (Operand.tmp 7), type := 4, pos := "outright.go:64", after := #[], guard := none }) (v := ?v0) rfl (by kernel_rfl) (by kernel_rfl) (by kernel_rfl) (fun _ _ _ h => h) (Or.inl ⟨by rfl, ?y0⟩) hHeld ?r0
    case y0 => intro wq hSw; go_simp; try (with_reducible rfl)
    try simp only [Act.put, List.setIfInBounds_toArray, List.set_cons_zero, List.set_cons_succ]
    refine wpAnyH_take (i := 1) (oi := { dst := some 47, op := Op.move (Operand.tmp 46), type := 4, pos := "outright.go:64", after := #[{ on := 0, ground := Ground.data }], guard := none }) (v := ?v1) rfl (by kernel_rfl) (by kernel_rfl) (by kernel_rfl) (fun _ _ _ h => h) (Or.inl ⟨by rfl, ?y1⟩) hHeld ?r1
    case y1 => intro wq hSw; go_simp; try (with_reducible rfl)
    try simp only [Act.put, List.setIfInBounds_toArray, List.set_cons_zero, List.set_cons_succ]
    refine wpAnyH_take (i := 2) (oi := { dst := some 48, op := Op.move (Operand.tmp 9), type := 23, pos := "outright.go:64", after := #[{ on := 1, ground := Ground.guard }], guard := some (1, true) }) (v := ?v2) rfl (by kernel_rfl) (by kernel_rfl) (by kernel_rfl) (fun _ _ _ h => h) (Or.inl ⟨by rfl, ?y2⟩) hHeld ?r2
    case y2 => intro wq hSw; go_simp; try (with_reducible rfl)
    try simp only [Act.put, List.setIfInBounds_toArray, List.set_cons_zero, List.set_cons_succ]
    refine wpAnyH_take (i := 3) (oi := { dst := some 49, op := Op.binOp BinOp.eql 23 (Operand.tmp 48) (Operand.const (Value.int IntKind.i64 0)) 23, type := 4, pos := "outright.go:64", after := #[{ on := 2, ground := Ground.data }, { on := 1, ground := Ground.guard }], guard := some (1, true) }) (v := ?v3) rfl (by kernel_rfl) (by kernel_rfl) (by kernel_rfl) (fun _ _ _ h => h) (Or.inl ⟨by rfl, ?y3⟩) hHeld ?r3
    case y3 => intro wq hSw; go_simp; try (with_reducible rfl)
    try simp only [Act.put, List.setIfInBounds_toArray, List.set_cons_zero, List.set_cons_succ]
    refine wpAnyH_take (i := 4) (oi := { dst := some 50, op := Op.pick (Operand.tmp 47) (Operand.tmp 49) (Operand.const (Value.bool false)), type := 4, pos := "outright.go:64", after := #[{ on := 1, ground := Ground.data }, { on := 3, ground := Ground.data }], guard := none }) (v := ?v4) rfl (by kernel_rfl) (by kernel_rfl) (by kernel_rfl) (fun _ _ _ h => h) (Or.inl ⟨by rfl, ?y4⟩) hHeld ?r4
    case y4 => intro wq hSw; go_simp; try (with_reducible rfl)
    try simp only [Act.put, List.setIfInBounds_toArray, List.set_cons_zero, List.set_cons_succ]
    refine wpAnyH_take (i := 5) (oi := { dst := some 51, op := Op.move (Operand.tmp 50), type := 4, pos := "outright.go:64", after := #[{ on := 4, ground := Ground.data }, { on := 1, ground := Ground.chain }], guard := none }) (v := ?v5) rfl (by kernel_rfl) (by kernel_rfl) (by kernel_rfl) (fun _ _ _ h => h) (Or.inl ⟨by rfl, ?y5⟩) hHeld ?r5
    case y5 => intro wq hSw; go_simp; try (with_reducible rfl)
    try simp only [Act.put, List.setIfInBounds_toArray, List.set_cons_zero, List.set_cons_succ]
    refine wpAnyH_take (i := 6) (oi := { dst := some 52, op := Op.move (Operand.tmp 11), type := 23, pos := "outright.go:64", after := #[{ on := 5, ground := Ground.guard }], guard := some (5, true) }) (v := ?v6) rfl (by kernel_rfl) (by kernel_rfl) (by kernel_rfl) (fun _ _ _ h => h) (Or.inl ⟨by rfl, ?y6⟩) hHeld ?r6
    case y6 => intro wq hSw; go_simp; try (with_reducible rfl)
    try simp only [Act.put, List.setIfInBounds_toArray, List.set_cons_zero, List.set_cons_succ]
    refine wpAnyH_take (i := 7) (oi := { dst := some 53, op := Op.binOp BinOp.eql 23 (Operand.tmp 52) (Operand.const (Value.int IntKind.i64 0)) 23, type := 4, pos := "outright.go:64", after := #[{ on := 6, ground := Ground.data }, { on := 5, ground := Ground.guard }], guard := some (5, true) }) (v := ?v7) rfl (by kernel_rfl) (by kernel_rfl) (by kernel_rfl) (fun _ _ _ h => h) (Or.inl ⟨by rfl, ?y7⟩) hHeld ?r7
    case y7 => intro wq hSw; go_simp; try (with_reducible rfl)
    try simp only [Act.put, List.setIfInBounds_toArray, List.set_cons_zero, List.set_cons_succ]
    refine wpAnyH_take (i := 8) (oi := { dst := some 54, op := Op.pick (Operand.tmp 51) (Operand.tmp 53) (Operand.const (Value.bool false)), type := 4, pos := "outright.go:64", after := #[{ on := 5, ground := Ground.data }, { on := 7, ground := Ground.data }], guard := none }) (v := ?v8) rfl (by kernel_rfl) (by kernel_rfl) (by kernel_rfl) (fun _ _ _ h => h) (Or.inl ⟨by rfl, ?y8⟩) hHeld ?r8
    case y8 => intro wq hSw; go_simp; try (with_reducible rfl)
    try simp only [Act.put, List.setIfInBounds_toArray, List.set_cons_zero, List.set_cons_succ]
    refine wpAnyH_take (i := 9) (oi := { dst := some 55, op := Op.move (Operand.tmp 54), type := 4, pos := "outright.go:64", after := #[{ on := 8, ground := Ground.data }, { on := 5, ground := Ground.chain }], guard := none }) (v := ?v9) rfl (by kernel_rfl) (by kernel_rfl) (by kernel_rfl) (fun _ _ _ h => h) (Or.inl ⟨by rfl, ?y9⟩) hHeld ?r9
    case y9 => intro wq hSw; go_simp; try (with_reducible rfl)
    try simp only [Act.put, List.setIfInBounds_toArray, List.set_cons_zero, List.set_cons_succ]
    refine wpAnyH_take (i := 10) (oi := { dst := some 56, op := Op.load 22 (Operand.tmp 8), type := 22, pos := "outright.go:64", after := #[{ on := 9, ground := Ground.guard }], guard := some (9, true) }) (v := .agg ld.toArray) rfl (by kernel_rfl) (by kernel_rfl) (by kernel_rfl) (fun _ _ _ h => h) (yieldsIf_load_mid (by rfl) _ _ rfl _ _ rfl ld _ (fun wq h => h.2.2.1) hU rfl hId) hHeld ?_
    try simp only [Act.put, List.setIfInBounds_toArray, List.set_cons_zero, List.set_cons_succ]
    refine wpAnyH_take (i := 11) (oi := { dst := some 57, op := Op.load 22 (Operand.tmp 10), type := 22, pos := "outright.go:64", after := #[{ on := 9, ground := Ground.guard }], guard := some (9, true) }) (v := .agg ld.toArray) rfl (by kernel_rfl) (by kernel_rfl) (by kernel_rfl) (fun _ _ _ h => h) (yieldsIf_load_mid (by rfl) _ _ rfl _ _ rfl ld _ (fun wq h => h.2.2.2.1) hU rfl hId) hHeld ?_
    try simp only [Act.put, List.setIfInBounds_toArray, List.set_cons_zero, List.set_cons_succ]
    refine wpAnyH_take (i := 12) (oi := { dst := some 58, op := Op.binOp BinOp.eql 22 (Operand.tmp 56) (Operand.tmp 57) 22, type := 4, pos := "outright.go:64", after := #[{ on := 10, ground := Ground.data }, { on := 11, ground := Ground.data }, { on := 9, ground := Ground.guard }], guard := some (9, true) }) (v := ?v12) rfl (by kernel_rfl) (by kernel_rfl) (by kernel_rfl) (fun _ _ _ h => h) (Or.inl ⟨by rfl, ?y12⟩) hHeld ?r12
    case y12 => intro wq hSw; go_simp; try (with_reducible rfl)
    try simp only [Act.put, List.setIfInBounds_toArray, List.set_cons_zero, List.set_cons_succ]
    refine wpAnyH_take (i := 13) (oi := { dst := some 59, op := Op.pick (Operand.tmp 55) (Operand.tmp 58) (Operand.const (Value.bool false)), type := 4, pos := "outright.go:64", after := #[{ on := 9, ground := Ground.data }, { on := 12, ground := Ground.data }], guard := none }) (v := ?v13) rfl (by kernel_rfl) (by kernel_rfl) (by kernel_rfl) (fun _ _ _ h => h) (Or.inl ⟨by rfl, ?y13⟩) hHeld ?r13
    case y13 => intro wq hSw; go_simp; try (with_reducible rfl)
    try simp only [Act.put, List.setIfInBounds_toArray, List.set_cons_zero, List.set_cons_succ]
    refine wpAnyH_take (i := 14) (oi := { dst := some 60, op := Op.move (Operand.tmp 59), type := 4, pos := "outright.go:64", after := #[{ on := 13, ground := Ground.data }, { on := 9, ground := Ground.chain }], guard := none }) (v := ?v14) rfl (by kernel_rfl) (by kernel_rfl) (by kernel_rfl) (fun _ _ _ h => h) (Or.inl ⟨by rfl, ?y14⟩) hHeld ?r14
    case y14 => intro wq hSw; go_simp; try (with_reducible rfl)
    try simp only [Act.put, List.setIfInBounds_toArray, List.set_cons_zero, List.set_cons_succ]
    refine wpAnyH_take (i := 15) (oi := { dst := some 61, op := Op.move (Operand.tmp 14), type := 23, pos := "outright.go:64", after := #[{ on := 14, ground := Ground.guard }], guard := some (14, true) }) (v := ?v15) rfl (by kernel_rfl) (by kernel_rfl) (by kernel_rfl) (fun _ _ _ h => h) (Or.inl ⟨by rfl, ?y15⟩) hHeld ?r15
    case y15 => intro wq hSw; go_simp; try (with_reducible rfl)
    try simp only [Act.put, List.setIfInBounds_toArray, List.set_cons_zero, List.set_cons_succ]
    refine wpAnyH_take (i := 16) (oi := { dst := some 62, op := Op.binOp BinOp.eql 23 (Operand.tmp 61) (Operand.const (Value.int IntKind.i64 0)) 23, type := 4, pos := "outright.go:64", after := #[{ on := 15, ground := Ground.data }, { on := 14, ground := Ground.guard }], guard := some (14, true) }) (v := ?v16) rfl (by kernel_rfl) (by kernel_rfl) (by kernel_rfl) (fun _ _ _ h => h) (Or.inl ⟨by rfl, ?y16⟩) hHeld ?r16
    case y16 => intro wq hSw; go_simp; try (with_reducible rfl)
    try simp only [Act.put, List.setIfInBounds_toArray, List.set_cons_zero, List.set_cons_succ]
    refine wpAnyH_take (i := 17) (oi := { dst := some 63, op := Op.pick (Operand.tmp 60) (Operand.tmp 62) (Operand.const (Value.bool false)), type := 4, pos := "outright.go:64", after := #[{ on := 14, ground := Ground.data }, { on := 16, ground := Ground.data }], guard := none }) (v := ?v17) rfl (by kernel_rfl) (by kernel_rfl) (by kernel_rfl) (fun _ _ _ h => h) (Or.inl ⟨by rfl, ?y17⟩) hHeld ?r17
    case y17 => intro wq hSw; go_simp; try (with_reducible rfl)
    try simp only [Act.put, List.setIfInBounds_toArray, List.set_cons_zero, List.set_cons_succ]
    refine wpAnyH_take (i := 18) (oi := { dst := some 64, op := Op.move (Operand.tmp 63), type := 4, pos := "outright.go:64", after := #[{ on := 17, ground := Ground.data }, { on := 14, ground := Ground.chain }], guard := none }) (v := ?v18) rfl (by kernel_rfl) (by kernel_rfl) (by kernel_rfl) (fun _ _ _ h => h) (Or.inl ⟨by rfl, ?y18⟩) hHeld ?r18
    case y18 => intro wq hSw; go_simp; try (with_reducible rfl)
    try simp only [Act.put, List.setIfInBounds_toArray, List.set_cons_zero, List.set_cons_succ]
    refine wpAnyH_take (i := 19) (oi := { dst := some 65, op := Op.load 22 (Operand.tmp 13), type := 22, pos := "outright.go:64", after := #[{ on := 18, ground := Ground.guard }], guard := some (18, true) }) (v := .agg lz.toArray) rfl (by kernel_rfl) (by kernel_rfl) (by kernel_rfl) (fun _ _ _ h => h) (yieldsIf_load_mid (by rfl) _ _ rfl _ _ rfl lz _ (fun wq h => h.2.2.2.2.1) hU rfl hIz) hHeld ?_
    try simp only [Act.put, List.setIfInBounds_toArray, List.set_cons_zero, List.set_cons_succ]
    refine wpAnyH_take (i := 20) (oi := { dst := some 66, op := Op.load 22 (Operand.tmp 4), type := 22, pos := "outright.go:64", after := #[{ on := 18, ground := Ground.guard }], guard := some (18, true) }) (v := .agg lx.toArray) rfl (by kernel_rfl) (by kernel_rfl) (by kernel_rfl) (fun _ _ _ h => h) (yieldsIf_load_mid (by rfl) _ _ rfl _ _ rfl lx _ (fun wq h => h.1) hU rfl hIx) hHeld ?_
    try simp only [Act.put, List.setIfInBounds_toArray, List.set_cons_zero, List.set_cons_succ]
    refine wpAnyH_take (i := 21) (oi := { dst := some 67, op := Op.load 22 (Operand.tmp 5), type := 22, pos := "outright.go:64", after := #[{ on := 18, ground := Ground.guard }], guard := some (18, true) }) (v := .agg ly.toArray) rfl (by kernel_rfl) (by kernel_rfl) (by kernel_rfl) (fun _ _ _ h => h) (yieldsIf_load_mid (by rfl) _ _ rfl _ _ rfl ly _ (fun wq h => h.2.1) hU rfl hIy) hHeld ?_
    try simp only [Act.put, List.setIfInBounds_toArray, List.set_cons_zero, List.set_cons_succ]
    refine wpAnyH_ready (rs := [22]) (by kernel_rfl) (by simp) ?_
    refine AllReadyH.cons (o := { dst := some 68, op := Op.call { callee := Callee.value (Operand.func 22), args := #[Operand.tmp 66, Operand.tmp 67], argTypes := #[22, 22] }, type := 22, pos := "outright.go:64", after := #[{ on := 20, ground := Ground.data }, { on := 21, ground := Ground.data }, { on := 18, ground := Ground.chain }, { on := 18, ground := Ground.guard }], guard := some (18, true) }) rfl (fun K hK => ?_) AllReadyH.nil
    go_simp
    go_at_call 22
    refine (HNC.out _ HS0.out).mono ?_
    rintro e w11 ⟨rfl, hb11⟩
    try go_simp
    refine hK.out _ _ (HRG.out _ (HSB.out _ _ HS0.out hb11)) (fun hHeld => ?_)
    try simp only [Act.put, List.setIfInBounds_toArray, List.set_cons_zero, List.set_cons_succ]
    refine wpAnyH_take (i := 23) (oi := { dst := some 69, op := Op.binOp BinOp.eql 22 (Operand.tmp 65) (Operand.tmp 68) 22, type := 4, pos := "outright.go:64", after := #[{ on := 19, ground := Ground.data }, { on := 22, ground := Ground.data }, { on := 18, ground := Ground.guard }], guard := some (18, true) }) (v := ?v23) rfl (by kernel_rfl) (by kernel_rfl) (by kernel_rfl) (fun _ _ _ h => h) (Or.inl ⟨by rfl, ?y23⟩) hHeld ?r23
    case y23 => intro wq hSw; go_simp; try (with_reducible rfl)
    try simp only [Act.put, List.setIfInBounds_toArray, List.set_cons_zero, List.set_cons_succ]
    refine wpAnyH_take (i := 24) (oi := { dst := some 70, op := Op.pick (Operand.tmp 64) (Operand.tmp 69) (Operand.const (Value.bool false)), type := 4, pos := "outright.go:64", after := #[{ on := 18, ground := Ground.data }, { on := 23, ground := Ground.data }], guard := none }) (v := ?v24) rfl (by kernel_rfl) (by kernel_rfl) (by kernel_rfl) (fun _ _ _ h => h) (Or.inl ⟨by rfl, ?y24⟩) hHeld ?r24
    case y24 => intro wq hSw; go_simp; try (with_reducible rfl)
    try simp only [Act.put, List.setIfInBounds_toArray, List.set_cons_zero, List.set_cons_succ]
    refine wpAnyH_take (i := 25) (oi := { dst := some 6, op := Op.assign (Operand.tmp 70), type := 4, pos := "outright.go:64", after := _, guard := none }) (v := ?v25) rfl (by kernel_rfl) (by kernel_rfl) (by kernel_rfl) (fun _ _ _ h => h) (Or.inl ⟨by rfl, ?y25⟩) hHeld ?r25
    case y25 => intro wq hSw; go_simp; try (with_reducible rfl)
    try simp only [Act.put, List.setIfInBounds_toArray, List.set_cons_zero, List.set_cons_succ]
    refine wpAnyH_done (by kernel_rfl) ?_ _
    all_goals
      go_wp2_with fail
      go_ret
      refine ⟨rfl, ?_⟩
      exact HSW.out _ (HSB.out _ _ HS0.out hb11)
end Go.Proofs.YtgglnbjioobebaaDoor
