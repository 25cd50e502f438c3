/- The reference's Marked. The reference's Marks, Ranks. The reference's Scores. The reference's Read. -/
import Derived.Test.YtejphpcngbjgjaaDoorGe
namespace Go.Proofs.YtejphpcngbjgjaaDoor
open Go.RowKit
set_option linter.unusedVariables false

/-- Which of the first k boxes count as marked; which remain in doubt. -/
def mkS (p : Po) (s : List UInt8) (l : List De) (k : Nat) : List Bool := (List.range k).map fun i => markAt p l i (s.getD i 0)
def dkS (p : Po) (s : List UInt8) (l : List De) (k : Nat) : List Int := ((List.range k).filter fun i => openAt p l i (s.getD i 0)).map (fun i => ((i : Nat) : Int))
theorem mkS_succ (p : Po) (s : List UInt8) (l : List De) (k : Nat) : mkS p s l (k + 1) = mkS p s l k ++ [markAt p l k (s.getD k 0)] := by
  unfold mkS
  rw [List.range_succ, List.map_append]; rfl
theorem dkS_succ (p : Po) (s : List UInt8) (l : List De) (k : Nat) : dkS p s l (k + 1) = dkS p s l k ++ if openAt p l k (s.getD k 0) then [((k : Nat) : Int)] else [] := by
  unfold dkS
  rw [List.range_succ, List.filter_append, List.map_append]
  congr 1
  by_cases h : openAt p l k (s.getD k 0) = true
  · rw [if_pos h, List.filter_cons, if_pos h]; rfl
  · rw [if_neg h, List.filter_cons, if_neg h]; rfl
theorem mkS_len (p : Po) (s : List UInt8) (l : List De) (k : Nat) : (mkS p s l k).length = k := by simp [mkS]
theorem dkS_len (p : Po) (s : List UInt8) (l : List De) (k : Nat) : (dkS p s l k).length ≤ k := by
  unfold dkS
  rw [List.length_map]
  have := List.length_filter_le (fun i => openAt p l i (s.getD i 0)) (List.range k)
  simpa using this
theorem ow_apart {α β : Type} {f : α → Value} {g : β → Value} {w : World} {b1 b2 t1 t2 c1 c2 : Nat} {A1 A2 : Option Addr} {l1 : List α} {l2 : List β} (h1 : Ow f w b1 t1 A1 c1 l1) (h2 : Ow g w b2 t2 A2 c2 l2) (hne : t1 ≠ t2) : blk A1 = none ∨ blk A1 ≠ blk A2 := by
  rcases h1.2 with ⟨hv, hn⟩ | ⟨g1, cap, cur, hv, hb, hg, hnc, hcm, _⟩
  · simp only [Value.slice.injEq] at hv
    left; rw [hv.1]; rfl
  · simp only [Value.slice.injEq] at hv
    right; rw [hv.1]
    exact ow_blk_ne h2 hg (fun e => hne e.symm)
theorem ow_keep {α β : Type} {f : α → Value} {g : β → Value} {w w' : World} {b1 b2 t1 t2 c1 c2 : Nat} {A1 A2 : Option Addr} {l1 : List α} {l2 : List β} (h1 : Ow f w b1 t1 A1 c1 l1) (h2 : Ow g w b2 t2 A2 c2 l2) (hne : t1 ≠ t2) (hg : w.grownBy w' (blk A2)) : Ow f w' b1 t1 A1 c1 l1 := h1.kept hg (ow_apart h1 h2 hne)
theorem blk_keep {β : Type} {g : β → Value} {w w' : World} {b2 t2 c2 r t : Nat} {A2 : Option Addr} {l2 : List β} {cs : Array Value} (h1 : Blk w r t cs) (h2 : Ow g w b2 t2 A2 c2 l2) (hne : t2 ≠ t) (hg : w.grownBy w' (blk A2)) : Blk w' r t cs := h1.grown hg (ow_blk_ne h2 h1 hne)
theorem u8_all (p : Po) (h : p.high ≤ 255) (z : UInt8) : decide ((p.high : Int) ≤ (z.toNat : Int)) = decide (p.high ≤ z.toNat) := by
  by_cases hx : p.high ≤ z.toNat
  · rw [decide_eq_true hx, decide_eq_true (by omega)]
  · rw [decide_eq_false hx, decide_eq_false (by omega)]

set_option maxRecDepth 100000 in
set_option maxHeartbeats 4000000 in
theorem refMarked_any (p : Po) (s : List UInt8) (l : List De) (As : Option Addr) (cs : Nat) (Al : Option Addr) (cl : Nat) (w : World) (hs : Rf bv w w.heap.size As cs s) (hl : Rde w w.heap.size Al cl l) (hsl : s.length ≤ 1000000) (hll : l.length ≤ 1000000) :
    Calls Tryd.prog 29 #[pov p, shv As cs s, .slice Al l.length cl] w fun e w' => ∃ A1 c1 m A2 c2 d, e = .returned (.tuple #[.slice A1 m.length c1, .slice A2 d.length c2]) ∧ m = markS p s l ∧ d = doubtsS p s l ∧ Ow tv w' w.heap.size 4 A1 c1 m ∧ Ow zv w' w.heap.size 3 A2 c2 d ∧ Below w.heap.size w w' := by
  obtain ⟨i0, hi0, hz0, hz1, hz2⟩ := info_parts zInfo
  obtain ⟨j0, hj0, hy0, hy1, hy2⟩ := info_parts tInfo
  obtain ⟨wA, hwA⟩ : ∃ wA, wA = (w.alloc (.cells #[.int .u8 (p.low : Nat), .int .u8 (p.high : Nat), .int .i64 p.skips] 38)).alloc (.cells #[.slice As s.length cs] 27) := ⟨_, rfl⟩
  have B0 := Lib.hid (show Below w.heap.size w wA from by rw [hwA]; exact (below_new w _).alloc (by simp) _)
  have HP0 := Lib.hid (show Blk wA w.heap.size 38 #[.int .u8 (p.low : Nat), .int .u8 (p.high : Nat), .int .i64 p.skips] from by rw [hwA]; exact (Blk.new w _ _).alloc _)
  have HS0 := Lib.hid (show Blk wA (w.heap.size + 1) 27 #[.slice As s.length cs] from by
    have h := Blk.new (w.alloc (.cells #[.int .u8 (p.low : Nat), .int .u8 (p.high : Nat), .int .i64 p.skips] 38)) 27 #[.slice As s.length cs]
    rw [World.size_alloc] at h
    rw [hwA]; exact h)
  have HSR := Lib.hid hs
  have HLR := Lib.hid hl
  have HDE := Lib.hid (fun (i : Int) wx (hb : Below w.heap.size w wx) => refDecided_any l i Al cl wx ((hl.below hb).more hb.size) hll)
  have HDO := Lib.hid (fun (b : UInt8) wx => refDoubt_any p b wx)
  unfold pov at HDO
  clear hs hl
  unfold pov shv
  go_enter Tryd.func29, Tryd.ntmps29
  go_wp2_with fail
  rw [← hwA]
  clear hwA
  go_loopw [8, 9, 10] (fun f g i wr => ∃ (k : Nat) (A1 : Option Addr) (c1 : Nat) (m : List Bool) (A2 : Option Addr) (c2 : Nat) (d : List Int), k ≤ s.length ∧ f = .slice A1 m.length c1 ∧ g = .slice A2 d.length c2 ∧ i = .int .i64 k ∧ Hid (m = mkS p s l k) ∧ Hid (d = dkS p s l k) ∧ Hid (Ow tv wr w.heap.size 4 A1 c1 m) ∧ Hid (Ow zv wr w.heap.size 3 A2 c2 d) ∧ Hid (Blk wr w.heap.size 38 #[.int .u8 (p.low : Nat), .int .u8 (p.high : Nat), .int .i64 p.skips]) ∧ Hid (Blk wr (w.heap.size + 1) 27 #[.slice As s.length cs]) ∧ Hid (Below w.heap.size w wr)) (fun _ _ i _ => s.length - (intOf i).toNat)
  case atStart => exact ⟨0, none, 0, [], none, 0, [], Nat.zero_le _, rfl, rfl, rfl, rfl, rfl, Ow.nil _ _ _, Ow.nil _ _ _, HP0, HS0, B0⟩
  case round =>
    obtain ⟨k, A1, c1, m, A2, c2, d, hk, rfl, rfl, rfl, hm, hd, hom, hod, hP, hS, hbw⟩ := hrel
    have hsz := hbw.out.size
    have cS := hS.out.cell 0
    simp at cS
    by_cases hlt : k < s.length
    · obtain ⟨b, o, rfl, hbb, hcc⟩ := (HSR.out.below hbw.out).at_ hlt
      have hcx := hcc k hlt
      have hgd : s.getD k 0 = s[k] := by simp [List.getD, hlt]
      obtain ⟨z, hz⟩ : ∃ z, z = s[k] := ⟨_, rfl⟩
      rw [← hz] at hcx hgd
      unfold bv at hcx
      have HM1 := Lib.hid (mkS_succ p s l k)
      have HD1 := Lib.hid (dkS_succ p s l k)
      rw [hgd] at HM1 HD1
      have HFA := Lib.hid (show ∀ wx, Below wr.heap.size wr wx → (wx.cell? ⟨w.heap.size, 0, none⟩ = some (.int .u8 (p.low : Nat)) ∧ wx.cell? ⟨w.heap.size, 1, none⟩ = some (.int .u8 (p.high : Nat)) ∧ wx.cell? ⟨w.heap.size, 2, none⟩ = some (.int .i64 p.skips) ∧ wx.cell? ⟨w.heap.size + 1, 0, none⟩ = some (.slice (some ⟨b, o, none⟩) s.length cs) ∧ wx.cell? ⟨b, o + k, none⟩ = some (.int .u8 (z.toNat : Int))) from fun wx hb => by
        have h1 := hP.out.below hb hP.out.lt
        have h2 := hS.out.below hb hS.out.lt
        exact ⟨h1.cell 0, h1.cell 1, h1.cell 2, h2.cell 0, (hb.cell (by simp; omega)).trans hcx⟩)
      have hF0 := HFA.out _ (Below.refl _ wr).drew
      have hF1 := HFA.out _ (Below.refl _ wr).drew.drew
      clear hcc hz hgd
      cases hdz : doubtP p z with
      | false =>
        have HDZ := Lib.hid hdz
        have HV := Lib.hid (show markAt p l k z = decide (p.high ≤ z.toNat) by unfold markAt; rw [hdz]; rfl)
        have HN := Lib.hid (show openAt p l k z = false by unfold openAt; rw [hdz]; rfl)
        clear hdz
        go_wp2_with fail
        go_region_held3 (fun w' => (w'.cell? ⟨w.heap.size, 0, none⟩ = some (.int .u8 (p.low : Nat)) ∧ w'.cell? ⟨w.heap.size, 1, none⟩ = some (.int .u8 (p.high : Nat)) ∧ w'.cell? ⟨w.heap.size, 2, none⟩ = some (.int .i64 p.skips) ∧ w'.cell? ⟨w.heap.size + 1, 0, none⟩ = some (.slice (some ⟨b, o, none⟩) s.length cs) ∧ w'.cell? ⟨b, o + k, none⟩ = some (.int .u8 (z.toNat : Int)))) (exact hF0) (fail)
        go_wp2_with fail
        go_region_held3 (fun w' => (w'.cell? ⟨w.heap.size, 0, none⟩ = some (.int .u8 (p.low : Nat)) ∧ w'.cell? ⟨w.heap.size, 1, none⟩ = some (.int .u8 (p.high : Nat)) ∧ w'.cell? ⟨w.heap.size, 2, none⟩ = some (.int .i64 p.skips) ∧ w'.cell? ⟨w.heap.size + 1, 0, none⟩ = some (.slice (some ⟨b, o, none⟩) s.length cs) ∧ w'.cell? ⟨b, o + k, none⟩ = some (.int .u8 (z.toNat : Int)))) (first | exact hF1 | exact hF2) (first
          | (go_simp; go_at_call 28; refine (HDO.out z _).mono ?_; rintro e w2 ⟨rfl, hb2⟩; rw [HDZ.out]; have BB := Lib.hid (((Below.refl wr.heap.size wr).drew.drew).trans hb2); have hF2 := HFA.out _ BB.out; clear hb2))
        have B2 := Lib.hid (hbw.out.trans (BB.out.mono hsz))
        have HO2 := Lib.hid (hom.out.below (Nat.le_refl _) BB.out)
        have HD2 := Lib.hid (hod.out.below (Nat.le_refl _) BB.out)
        have HP2 := Lib.hid (hP.out.below BB.out hP.out.lt)
        have HS2 := Lib.hid (hS.out.below BB.out hS.out.lt)
        go_wp2_with (at_builtin; refine wpList_append_f _ tv_one rfl (.tmp 49) (.tmp 51) 72 rfl w.heap.size 4 1 j0 _ Tryd.underlying72 hj0 hy0 hy1 hy2 (by omega) rfl m [decide (p.high ≤ z.toNat)] rfl rfl (HO2.out.alloc (.cells #[.bool (decide (p.high ≤ z.toNat))] 4)) (rf_one (f := tv) (w := w2) (decide (p.high ≤ z.toNat)) 4) (by have := hm.out; rw [this, mkS_len]; simp; omega) (by have := B2.out.size; simp; omega) ?_; intro A8 c8 w8 r8 hr8 ho8 hg8 hb8)
        have B8 := Lib.hid ((B2.out.alloc B2.out.size (.cells #[.bool (decide (p.high ≤ z.toNat))] 4)).grown hg8 (by have := B2.out.size; simp; omega) (fun j hj => (HO2.out.blk_ge j hj).1))
        have HD8 := Lib.hid (ow_keep (HD2.out.alloc (.cells #[.bool (decide (p.high ≤ z.toNat))] 4)) (HO2.out.alloc (.cells #[.bool (decide (p.high ≤ z.toNat))] 4)) (by decide) hg8)
        have HP8 := Lib.hid (blk_keep (HP2.out.alloc (.cells #[.bool (decide (p.high ≤ z.toNat))] 4)) (HO2.out.alloc (.cells #[.bool (decide (p.high ≤ z.toNat))] 4)) (by decide) hg8)
        have HS8 := Lib.hid (blk_keep (HS2.out.alloc (.cells #[.bool (decide (p.high ≤ z.toNat))] 4)) (HO2.out.alloc (.cells #[.bool (decide (p.high ≤ z.toNat))] 4)) (by decide) hg8)
        have HM8 := Lib.hid (show r8 = mkS p s l (k + 1) by rw [hr8.out, HM1.out, ← hm.out, HV.out])
        have HQ8 := Lib.hid (show d = dkS p s l (k + 1) by rw [HD1.out, HN.out, ← hd.out]; simp)
        go_wp2_with fail
        go_roundw
        case rel => exact ⟨k + 1, A8, c8, r8, A2, c2, d, by omega, rfl, rfl, by go_num, HM8, HQ8, ho8, HD8, HP8, HS8, B8⟩
        case measure => simp [intOf]; omega
      | true =>
        have HDZ := Lib.hid hdz
        cases hdc : decidedS l k with
        | some v =>
          have HDC := Lib.hid hdc
          have HV := Lib.hid (show markAt p l k z = v by unfold markAt; rw [hdz, hdc]; rfl)
          have HN := Lib.hid (show openAt p l k z = false by unfold openAt; rw [hdz, hdc]; rfl)
          clear hdz hdc
          go_wp2_with fail
          go_region_held3 (fun w' => (w'.cell? ⟨w.heap.size, 0, none⟩ = some (.int .u8 (p.low : Nat)) ∧ w'.cell? ⟨w.heap.size, 1, none⟩ = some (.int .u8 (p.high : Nat)) ∧ w'.cell? ⟨w.heap.size, 2, none⟩ = some (.int .i64 p.skips) ∧ w'.cell? ⟨w.heap.size + 1, 0, none⟩ = some (.slice (some ⟨b, o, none⟩) s.length cs) ∧ w'.cell? ⟨b, o + k, none⟩ = some (.int .u8 (z.toNat : Int)))) (exact hF0) (fail)
          go_wp2_with fail
          go_region_held3 (fun w' => (w'.cell? ⟨w.heap.size, 0, none⟩ = some (.int .u8 (p.low : Nat)) ∧ w'.cell? ⟨w.heap.size, 1, none⟩ = some (.int .u8 (p.high : Nat)) ∧ w'.cell? ⟨w.heap.size, 2, none⟩ = some (.int .i64 p.skips) ∧ w'.cell? ⟨w.heap.size + 1, 0, none⟩ = some (.slice (some ⟨b, o, none⟩) s.length cs) ∧ w'.cell? ⟨b, o + k, none⟩ = some (.int .u8 (z.toNat : Int)))) (first | exact hF1 | exact hF2) (first
            | (go_simp; go_at_call 28; refine (HDO.out z _).mono ?_; rintro e w2 ⟨rfl, hb2⟩; rw [HDZ.out]; have BB := Lib.hid (((Below.refl wr.heap.size wr).drew.drew).trans hb2); have hF2 := HFA.out _ BB.out; clear hb2))
          have B2 := Lib.hid (hbw.out.trans (BB.out.mono hsz))
          have HO2 := Lib.hid (hom.out.below (Nat.le_refl _) BB.out)
          have HD2 := Lib.hid (hod.out.below (Nat.le_refl _) BB.out)
          have HP2 := Lib.hid (hP.out.below BB.out hP.out.lt)
          have HS2 := Lib.hid (hS.out.below BB.out hS.out.lt)
          go_wp2_with fail
          refine (HDE.out (k : Int) _ B2.out).mono ?_
          rintro e w3 ⟨rfl, hw3⟩
          obtain rfl := hw3.symm
          rw [HDC.out]
          go_wp2_with (at_builtin; refine wpList_append_f _ tv_one rfl (.tmp 49) (.tmp 51) 72 rfl w.heap.size 4 1 j0 _ Tryd.underlying72 hj0 hy0 hy1 hy2 (by omega) rfl m [v] rfl rfl (HO2.out.alloc (.cells #[.bool (v)] 4)) (rf_one (f := tv) (w := w2) (v) 4) (by have := hm.out; rw [this, mkS_len]; simp; omega) (by have := B2.out.size; simp; omega) ?_; intro A8 c8 w8 r8 hr8 ho8 hg8 hb8)
          have B8 := Lib.hid ((B2.out.alloc B2.out.size (.cells #[.bool (v)] 4)).grown hg8 (by have := B2.out.size; simp; omega) (fun j hj => (HO2.out.blk_ge j hj).1))
          have HD8 := Lib.hid (ow_keep (HD2.out.alloc (.cells #[.bool (v)] 4)) (HO2.out.alloc (.cells #[.bool (v)] 4)) (by decide) hg8)
          have HP8 := Lib.hid (blk_keep (HP2.out.alloc (.cells #[.bool (v)] 4)) (HO2.out.alloc (.cells #[.bool (v)] 4)) (by decide) hg8)
          have HS8 := Lib.hid (blk_keep (HS2.out.alloc (.cells #[.bool (v)] 4)) (HO2.out.alloc (.cells #[.bool (v)] 4)) (by decide) hg8)
          have HM8 := Lib.hid (show r8 = mkS p s l (k + 1) by rw [hr8.out, HM1.out, ← hm.out, HV.out])
          have HQ8 := Lib.hid (show d = dkS p s l (k + 1) by rw [HD1.out, HN.out, ← hd.out]; simp)
          go_wp2_with fail
          go_roundw
          case rel => exact ⟨k + 1, A8, c8, r8, A2, c2, d, by omega, rfl, rfl, by go_num, HM8, HQ8, ho8, HD8, HP8, HS8, B8⟩
          case measure => simp [intOf]; omega
        | none =>
          have HDC := Lib.hid hdc
          have HV := Lib.hid (show markAt p l k z = false by unfold markAt; rw [hdz, hdc]; rfl)
          have HN := Lib.hid (show openAt p l k z = true by unfold openAt; rw [hdz, hdc]; rfl)
          clear hdz hdc
          go_wp2_with fail
          go_region_held3 (fun w' => (w'.cell? ⟨w.heap.size, 0, none⟩ = some (.int .u8 (p.low : Nat)) ∧ w'.cell? ⟨w.heap.size, 1, none⟩ = some (.int .u8 (p.high : Nat)) ∧ w'.cell? ⟨w.heap.size, 2, none⟩ = some (.int .i64 p.skips) ∧ w'.cell? ⟨w.heap.size + 1, 0, none⟩ = some (.slice (some ⟨b, o, none⟩) s.length cs) ∧ w'.cell? ⟨b, o + k, none⟩ = some (.int .u8 (z.toNat : Int)))) (exact hF0) (fail)
          go_wp2_with fail
          go_region_held3 (fun w' => (w'.cell? ⟨w.heap.size, 0, none⟩ = some (.int .u8 (p.low : Nat)) ∧ w'.cell? ⟨w.heap.size, 1, none⟩ = some (.int .u8 (p.high : Nat)) ∧ w'.cell? ⟨w.heap.size, 2, none⟩ = some (.int .i64 p.skips) ∧ w'.cell? ⟨w.heap.size + 1, 0, none⟩ = some (.slice (some ⟨b, o, none⟩) s.length cs) ∧ w'.cell? ⟨b, o + k, none⟩ = some (.int .u8 (z.toNat : Int)))) (first | exact hF1 | exact hF2) (first
            | (go_simp; go_at_call 28; refine (HDO.out z _).mono ?_; rintro e w2 ⟨rfl, hb2⟩; rw [HDZ.out]; have BB := Lib.hid (((Below.refl wr.heap.size wr).drew.drew).trans hb2); have hF2 := HFA.out _ BB.out; clear hb2))
          have B2 := Lib.hid (hbw.out.trans (BB.out.mono hsz))
          have HO2 := Lib.hid (hom.out.below (Nat.le_refl _) BB.out)
          have HD2 := Lib.hid (hod.out.below (Nat.le_refl _) BB.out)
          have HP2 := Lib.hid (hP.out.below BB.out hP.out.lt)
          have HS2 := Lib.hid (hS.out.below BB.out hS.out.lt)
          go_wp2_with fail
          refine (HDE.out (k : Int) _ B2.out).mono ?_
          rintro e w3 ⟨rfl, hw3⟩
          obtain rfl := hw3.symm
          rw [HDC.out]
          go_wp2_with (first
            | (at_builtin; refine wpList_append_f _ zv_one rfl (.tmp 45) (.tmp 47) 40 rfl w.heap.size 3 8 i0 _ Tryd.underlying40 hi0 hz0 hz1 hz2 (by omega) rfl d [((k : Nat) : Int)] rfl rfl (HD2.out.alloc (.cells #[.int .i64 (k : Nat)] 3)) (rf_one (f := zv) (w := w2) ((k : Nat) : Int) 3) (by have := hd.out; have h2 := dkS_len p s l k; rw [this]; simp; omega) (by have := B2.out.size; simp; omega) ?_; intro A5 c5 w5 r5 hr5 ho5 hg5 hb5; have HD5 := Lib.hid ho5; have B5 := Lib.hid ((B2.out.alloc B2.out.size (.cells #[.int .i64 (k : Nat)] 3)).grown hg5 (by have := B2.out.size; simp; omega) (fun j hj => (HD2.out.blk_ge j hj).1)); have HO5 := Lib.hid (ow_keep (HO2.out.alloc (.cells #[.int .i64 (k : Nat)] 3)) (HD2.out.alloc (.cells #[.int .i64 (k : Nat)] 3)) (by decide) hg5); have HP5 := Lib.hid (blk_keep (HP2.out.alloc (.cells #[.int .i64 (k : Nat)] 3)) (HD2.out.alloc (.cells #[.int .i64 (k : Nat)] 3)) (by decide) hg5); have HS5 := Lib.hid (blk_keep (HS2.out.alloc (.cells #[.int .i64 (k : Nat)] 3)) (HD2.out.alloc (.cells #[.int .i64 (k : Nat)] 3)) (by decide) hg5); clear ho5 hg5)
            | (at_builtin; refine wpList_append_f _ tv_one rfl (.tmp 49) (.tmp 51) 72 rfl w.heap.size 4 1 j0 _ Tryd.underlying72 hj0 hy0 hy1 hy2 (by omega) rfl m [false] rfl rfl (HO5.out.alloc (.cells #[.bool (false)] 4)) (rf_one (f := tv) (w := w5) (false) 4) (by have := hm.out; rw [this, mkS_len]; simp; omega) (by have := B5.out.size; simp; omega) ?_; intro A8 c8 w8 r8 hr8 ho8 hg8 hb8))
          have B8 := Lib.hid ((B5.out.alloc B5.out.size (.cells #[.bool (false)] 4)).grown hg8 (by have := B5.out.size; simp; omega) (fun j hj => (HO5.out.blk_ge j hj).1))
          have HD8 := Lib.hid (ow_keep (HD5.out.alloc (.cells #[.bool (false)] 4)) (HO5.out.alloc (.cells #[.bool (false)] 4)) (by decide) hg8)
          have HP8 := Lib.hid (blk_keep (HP5.out.alloc (.cells #[.bool (false)] 4)) (HO5.out.alloc (.cells #[.bool (false)] 4)) (by decide) hg8)
          have HS8 := Lib.hid (blk_keep (HS5.out.alloc (.cells #[.bool (false)] 4)) (HO5.out.alloc (.cells #[.bool (false)] 4)) (by decide) hg8)
          have HM8 := Lib.hid (show r8 = mkS p s l (k + 1) by rw [hr8.out, HM1.out, ← hm.out, HV.out])
          have HQ8 := Lib.hid (show r5 = dkS p s l (k + 1) by rw [hr5.out, HD1.out, HN.out, ← hd.out]; rfl)
          go_wp2_with fail
          go_roundw
          case rel => exact ⟨k + 1, A8, c8, r8, A5, c5, r5, by omega, rfl, rfl, by go_num, HM8, HQ8, ho8, HD8, HP8, HS8, B8⟩
          case measure => simp [intOf]; omega
    · obtain rfl : k = s.length := by omega
      have HQ1 := Lib.hid (show m = markS p s l from hm.out)
      have HQ2 := Lib.hid (show d = doubtsS p s l from hd.out)
      go_wp2_with fail
      go_ret2
      exact ⟨A1, c1, m, A2, c2, d, rfl, HQ1.out, HQ2.out, hom.out, hod.out, hbw.out⟩
end Go.Proofs.YtejphpcngbjgjaaDoor
namespace Go.Proofs.YtejphpcngbjgjaaDoor
open Go.RowKit
set_option linter.unusedVariables false

/-- A list of marks of the call's own, and a number. -/
def IntsOver (w : World) (q : List Int × Int) (e : Ending) (w' : World) : Prop :=
  ∃ (A : Option Addr) (c : Nat) (r : List Int) (ov : Int), e = .returned (.tuple #[.slice A r.length c, .int .i64 ov]) ∧ (r, ov) = q ∧ Ow zv w' w.heap.size 3 A c r ∧ Below w.heap.size w w'

set_option maxRecDepth 100000 in
set_option maxHeartbeats 1000000 in
theorem refMarksS_any (m : List Bool) (most : Int) (A : Option Addr) (c : Nat) (w : World) (hr : Rf tv w w.heap.size A c m) (hm : m.length ≤ 1000000) :
    Calls Tryd.prog 32 #[.slice A m.length c, .int .i64 most] w (IntsOver w (marksS m most)) := by
  have HC := Lib.hid (refColumn_any m m.length 1 0 A c w hr (fun i hi => by omega) hm hm)
  have hq : marksS m most = if most < ((colS m m.length 1 0).length : Nat) then ([], 1) else (colS m m.length 1 0, 0) := rfl
  by_cases h : most < ((colS m m.length 1 0).length : Nat)
  · have HQ := Lib.hid (show marksS m most = ([], 1) by rw [hq, if_pos h])
    have HH := Lib.hid (fun (r : List Int) (e : r = colS m m.length 1 0) => show decide (most < (r.length : Int)) = true by rw [e]; simpa using h)
    clear h hq hr
    go_enter Tryd.func32, Tryd.ntmps32
    go_wp2_with fail
    refine HC.out.mono ?_
    rintro e w1 ⟨A1, c1, r, rfl, hr1, ho1, hb1⟩
    have hd := HH.out r hr1
    have HO1 := Lib.hid ho1
    clear hr1 ho1
    go_wp2_with fail
    go_ret2
    exact ⟨none, 0, [], 1, rfl, HQ.out.symm, Ow.nil _ _ _, hb1⟩
  · have HQ := Lib.hid (show marksS m most = (colS m m.length 1 0, 0) by rw [hq, if_neg h])
    have HH := Lib.hid (fun (r : List Int) (e : r = colS m m.length 1 0) => show decide (most < (r.length : Int)) = false by rw [e]; simpa using h)
    clear h hq hr
    go_enter Tryd.func32, Tryd.ntmps32
    go_wp2_with fail
    refine HC.out.mono ?_
    rintro e w1 ⟨A1, c1, r, rfl, hr1, ho1, hb1⟩
    have hd := HH.out r hr1
    have HO1 := Lib.hid ho1
    have HR1 := Lib.hid hr1
    clear hr1 ho1
    go_wp2_with fail
    go_ret2
    exact ⟨A1, c1, r, 0, rfl, by rw [HQ.out, HR1.out], HO1.out, hb1⟩

theorem range_drop (n k : Nat) (h : k < n) : (List.range n).drop k = k :: (List.range n).drop (k + 1) := by
  rw [List.drop_eq_getElem_cons (by simpa using h), List.getElem_range]
theorem ranksS_at (m : List Bool) (n : Nat) (skips : Int) (out : List Int) (sk k : Nat) (h : k < n) : ranksL (((List.range n).drop k).map fun j => colS m n n j) skips out sk = ranksL (colS m n n k :: ((List.range n).drop (k + 1)).map fun j => colS m n n j) skips out sk := by
  rw [range_drop n k h]; rfl

set_option maxRecDepth 100000 in
set_option maxHeartbeats 4000000 in
theorem refRanks_any (m : List Bool) (n : Nat) (skips : Int) (A : Option Addr) (c : Nat) (w : World) (hr : Rf tv w w.heap.size A c m) (hm : m.length = n * n) (hn : n ≤ 1000) :
    Calls Tryd.prog 31 #[.slice A m.length c, .int .i64 (n : Nat), .int .i64 skips] w (IntsOver w (ranksS m n skips)) := by
  obtain ⟨i0, hi0, hz0, hz1, hz2⟩ := info_parts zInfo
  have hmm : m.length ≤ 1000000 := by rw [hm]; exact Nat.le_trans (Nat.mul_le_mul hn hn) (by decide)
  have HC := Lib.hid (fun (j : Nat) wx (hb : Below w.heap.size w wx) (hj : j < n) => refColumn_any m n n j A c wx ((hr.below hb).more hb.size) (fun i hi => by
    rw [hm]
    have h1 : (i + 1) * n ≤ n * n := Nat.mul_le_mul_right _ hi
    rw [Nat.succ_mul] at h1
    omega) hmm (by omega))
  have HQ0 := Lib.hid (show ranksS m n skips = ranksL (((List.range n).drop 0).map fun j => colS m n n j) skips [] 0 from rfl)
  clear hr hm
  go_enter Tryd.func31, Tryd.ntmps31
  go_wp2_with fail
  go_loopw [8, 9, 10] (fun f g i wr => ∃ (k sk : Nat) (A1 : Option Addr) (c1 : Nat) (out : List Int), k ≤ n ∧ f = .slice A1 out.length c1 ∧ g = .int .i64 sk ∧ i = .int .i64 k ∧ sk ≤ k ∧ out.length ≤ k ∧ Hid (ranksS m n skips = ranksL (((List.range n).drop k).map fun j => colS m n n j) skips out sk) ∧ Hid (Ow zv wr w.heap.size 3 A1 c1 out) ∧ Hid (Below w.heap.size w wr)) (fun _ _ i _ => n - (intOf i).toNat)
  case atStart => exact ⟨0, 0, none, 0, [], Nat.zero_le _, rfl, rfl, rfl, Nat.le_refl _, by simp, HQ0, Ow.nil _ _ _, Below.refl _ _⟩
  case round =>
    obtain ⟨k, sk, A1, c1, out, hk, rfl, rfl, rfl, hsk, hol, hq, ho, hbw⟩ := hrel
    have hsz := hbw.out.size
    by_cases hlt : k < n
    · have hlti : (k : Int) < (n : Int) := by omega
      have HQK := Lib.hid (hq.out.trans (ranksS_at m n skips out sk k hlt))
      have HCK := Lib.hid (HC.out k wr hbw.out hlt)
      go_wp2_with fail
      refine HCK.out.mono ?_
      rintro e w2 ⟨A2, c2, r, rfl, hr2, ho2, hb2⟩
      have B2 := Lib.hid (hbw.out.trans (hb2.mono hsz))
      have HO2 := Lib.hid (ho.out.below (Nat.le_refl _) hb2)
      have HR2 := Lib.hid ho2
      have HQR := Lib.hid (show ranksS m n skips = ranksL (r :: ((List.range n).drop (k + 1)).map fun j => colS m n n j) skips out sk by rw [HQK.out, hr2])
      clear hr2 ho2 hb2
      match r, HR2, HQR with
      | [], HR2, HQR =>
        by_cases h0 : 0 < skips ∧ skips ≤ ((sk + 1 : Nat) : Int)
        · have d0 : decide ((0 : Int) < skips) = true := by simpa using h0.1
          have d1 : decide (skips ≤ (sk : Int) + 1) = true := by simp; omega
          have HQ := Lib.hid (show ranksS m n skips = (out, 0) by rw [HQR.out, ranksL, if_pos h0])
          clear h0
          go_wp2_with fail
          go_ret2
          exact ⟨A1, c1, out, 0, rfl, HQ.out.symm, HO2.out, B2.out⟩
        · have HQ := Lib.hid (show ranksS m n skips = ranksL (((List.range n).drop (k + 1)).map fun j => colS m n n j) skips out (sk + 1) by rw [HQR.out, ranksL, if_neg h0])
          by_cases h1 : 0 < skips
          · have d0 : decide ((0 : Int) < skips) = true := by simpa using h1
            have d1 : decide (skips ≤ (sk : Int) + 1) = false := by simp; omega
            clear h0 h1
            go_wp2_with fail
            go_roundw
            case rel => exact ⟨k + 1, sk + 1, A1, c1, out, by omega, rfl, by go_num, by go_num, by omega, by omega, HQ, HO2, B2⟩
            case measure => simp [intOf]; omega
          · have d0 : decide ((0 : Int) < skips) = false := by simpa using h1
            clear h0 h1
            go_wp2_with fail
            go_roundw
            case rel => exact ⟨k + 1, sk + 1, A1, c1, out, by omega, rfl, by go_num, by go_num, by omega, by omega, HQ, HO2, B2⟩
            case measure => simp [intOf]; omega
      | [x], HR2, HQR =>
        obtain ⟨b, o, rfl, hbb, hcc⟩ := HR2.out.rd.at_ (k := 0) (by simp)
        have hcx := hcc 0 (by simp)
        simp only [List.getElem_cons_zero, Nat.add_zero] at hcx
        unfold zv at hcx
        have HIN := Lib.hid (refIn_any out x A1 c1 w2 HO2.out.rd (by omega))
        clear hcc
        by_cases hx : x ∈ out
        · have HD := Lib.hid (show decide (x ∈ out) = true by simpa using hx)
          have HQ := Lib.hid (show ranksS m n skips = ranksL (((List.range n).drop (k + 1)).map fun j => colS m n n j) skips out 0 by rw [HQR.out, ranksL, if_pos hx])
          clear hx
          go_wp2_with fail
          refine HIN.out.mono ?_
          rintro e w3 ⟨rfl, hw3⟩
          obtain rfl := hw3.symm
          rw [HD.out]
          go_wp2_with fail
          go_roundw
          case rel => exact ⟨k + 1, 0, A1, c1, out, by omega, rfl, rfl, by go_num, by omega, by omega, HQ, HO2, B2⟩
          case measure => simp [intOf]; omega
        · have HD := Lib.hid (show decide (x ∈ out) = false by simpa using hx)
          have HQ := Lib.hid (show ranksS m n skips = ranksL (((List.range n).drop (k + 1)).map fun j => colS m n n j) skips (out ++ [x]) 0 by rw [HQR.out, ranksL, if_neg hx])
          clear hx
          go_wp2_with fail
          refine HIN.out.mono ?_
          rintro e w3 ⟨rfl, hw3⟩
          obtain rfl := hw3.symm
          rw [HD.out]
          go_wp2_with (at_builtin; refine wpList_append_f _ zv_one rfl (.tmp 45) (.tmp 49) 40 rfl w.heap.size 3 8 i0 _ Tryd.underlying40 hi0 hz0 hz1 hz2 (by omega) rfl out [x] rfl rfl (HO2.out.alloc (.cells #[.int .i64 x] 3)) (rf_one (f := zv) (w := w2) x 3) (by simp; omega) (by have := B2.out.size; simp; omega) ?_; intro A8 c8 w8 r8 hr8 ho8 hg8 hb8)
          have B8 := Lib.hid ((B2.out.alloc B2.out.size (.cells #[.int .i64 x] 3)).grown hg8 (by have := B2.out.size; simp; omega) (fun j hj => (HO2.out.blk_ge j hj).1))
          have HQ8 := Lib.hid (show ranksS m n skips = ranksL (((List.range n).drop (k + 1)).map fun j => colS m n n j) skips r8 0 by rw [hr8.out]; exact HQ.out)
          have HL8 : r8.length ≤ k + 1 := by rw [hr8.out, List.length_append]; simp; omega
          go_wp2_with fail
          go_roundw
          case rel => exact ⟨k + 1, 0, A8, c8, r8, by omega, rfl, rfl, by go_num, by omega, HL8, HQ8, ho8, B8⟩
          case measure => simp [intOf]; omega
      | x :: y :: r, HR2, HQR =>
        have HQ := Lib.hid (show ranksS m n skips = (out, 1) by rw [HQR.out, ranksL])
        obtain ⟨L, hL⟩ : ∃ L, L = (x :: y :: r).length := ⟨_, rfl⟩
        have hL2 : (1 : Int) < (L : Int) := by rw [hL]; simp; omega
        rw [← hL]
        clear hL
        go_wp2_with fail
        go_ret2
        exact ⟨A1, c1, out, 1, rfl, HQ.out.symm, HO2.out, B2.out⟩
    · have hlti : ¬ (k : Int) < (n : Int) := by omega
      obtain rfl : k = n := by omega
      have HQ := Lib.hid (show ranksS m k skips = (out, 0) by rw [hq.out, List.drop_eq_nil_of_le (by simp)]; rfl)
      go_wp2_with fail
      go_ret2
      exact ⟨A1, c1, out, 0, rfl, HQ.out.symm, ho.out, hbw.out⟩
end Go.Proofs.YtejphpcngbjgjaaDoor
namespace Go.Proofs.YtejphpcngbjgjaaDoor
open Go.RowKit
set_option linter.unusedVariables false

def jsS (m : List Bool) (i j : Nat) : List Nat := (List.range j).filter fun t => m.getD (i * 11 + t) false
theorem jsS_succ (m : List Bool) (i j : Nat) : jsS m i (j + 1) = jsS m i j ++ if m.getD (i * 11 + j) false then [j] else [] := by
  unfold jsS
  rw [List.range_succ, List.filter_append]
  congr 1
  by_cases h : m.getD (i * 11 + j) false = true
  · rw [if_pos h, List.filter_cons, if_pos h]; rfl
  · rw [if_neg h, List.filter_cons, if_neg h]; rfl
theorem jsS_len (m : List Bool) (i j : Nat) : (jsS m i j).length ≤ j := by
  have := List.length_filter_le (fun t => m.getD (i * 11 + t) false) (List.range j)
  simpa [jsS] using this
def lastS (l : List Nat) : Nat := l.getLast?.getD 0
theorem lastS_snoc (l : List Nat) (j : Nat) : lastS (l ++ [j]) = j := by simp [lastS]
theorem scoreOf_many {l : List Nat} (h : 1 < l.length) : scoreOf l = 0 := by
  match l, h with
  | _ :: _ :: _, _ => rfl
theorem scoreOf_few {l : List Nat} (h : ¬ 1 < l.length) : scoreOf l = ((lastS l : Nat) : Int) := by
  match l, h with
  | [], _ => rfl
  | [j], _ => rfl
  | _ :: _ :: _, h => simp at h
/-- The scores of the first k candidates; how many of them are overvoted. -/
def scS (m : List Bool) (k : Nat) : List Int := (List.range k).map fun i => scoreOf (scoreJs m i)
def ovS (m : List Bool) (k : Nat) : Nat := (List.range k).countP fun i => decide (1 < (scoreJs m i).length)
theorem scS_succ (m : List Bool) (k : Nat) : scS m (k + 1) = scS m k ++ [scoreOf (scoreJs m k)] := by unfold scS; rw [List.range_succ, List.map_append]; rfl
theorem ovS_succ (m : List Bool) (k : Nat) : ovS m (k + 1) = ovS m k + if 1 < (scoreJs m k).length then 1 else 0 := by
  unfold ovS
  rw [List.range_succ, List.countP_append]
  congr 1
  simp [List.countP_cons]
theorem ovS_le (m : List Bool) (k : Nat) : ovS m k ≤ k := by
  have := List.countP_le_length (p := fun i => decide (1 < (scoreJs m i).length)) (l := List.range k)
  simpa [ovS] using this

set_option maxRecDepth 100000 in
set_option maxHeartbeats 4000000 in
theorem refScores_any (m : List Bool) (n : Nat) (A : Option Addr) (c : Nat) (w : World) (hr : Rf tv w w.heap.size A c m) (hm : m.length = n * 11) (hn : n ≤ 1000) :
    Calls Tryd.prog 34 #[.slice A m.length c, .int .i64 (n : Nat)] w (IntsOver w (scoresS m n)) := by
  obtain ⟨i0, hi0, hz0, hz1, hz2⟩ := info_parts zInfo
  have HR := Lib.hid hr
  have HML := Lib.hid hm
  clear hr hm
  go_enter Tryd.func34, Tryd.ntmps34
  go_wp2_with fail
  go_loopw [6, 7, 8] (fun f g i wr => ∃ (k ov : Nat) (A1 : Option Addr) (c1 : Nat) (out : List Int), k ≤ n ∧ f = .slice A1 out.length c1 ∧ g = .int .i64 ov ∧ i = .int .i64 k ∧ ov ≤ k ∧ Hid (out.length = k) ∧ Hid (out = scS m k) ∧ Hid (ov = ovS m k) ∧ Hid (Ow zv wr w.heap.size 3 A1 c1 out) ∧ Hid (Below w.heap.size w wr)) (fun _ _ i _ => n - (intOf i).toNat)
  case atStart => exact ⟨0, 0, none, 0, [], Nat.zero_le _, rfl, rfl, rfl, Nat.le_refl _, rfl, rfl, rfl, Ow.nil _ _ _, Below.refl _ _⟩
  case round =>
    obtain ⟨k, ov, A1, c1, out, hk, rfl, rfl, rfl, hov, hol, hout, hovs, ho, hbw⟩ := hrel
    have hsz := hbw.out.size
    by_cases hlt : k < n
    · have hlti : (k : Int) < (n : Int) := by omega
      go_wp2_with fail
      go_loop [9, 10, 11] (fun s q i => ∃ (j sc many : Nat), j ≤ 11 ∧ s = .int .i64 sc ∧ q = .int .i64 many ∧ i = .int .i64 j ∧ many ≤ j ∧ Hid (sc = lastS (jsS m k j)) ∧ Hid (many = (jsS m k j).length)) (fun _ _ i => 11 - (intOf i).toNat)
      case atStart => exact ⟨0, 0, 0, Nat.zero_le _, rfl, rfl, rfl, Nat.le_refl _, rfl, rfl⟩
      case round =>
        obtain ⟨j, sc, many, hj, rfl, rfl, rfl, hmany, hsc, hmn⟩ := hrel
        by_cases hjlt : j < 11
        · have hji : (j : Int) < 11 := by omega
          have hbk : k * 11 + j < m.length := by rw [HML.out]; omega
          obtain ⟨b, o, rfl, hbb, hcc⟩ := (HR.out.below hbw.out).at_ hbk
          have hcx := hcc _ hbk
          have hgd : m.getD (k * 11 + j) false = m[k * 11 + j] := by simp [List.getD, hbk]
          have hjs := jsS_succ m k j
          rw [hgd] at hjs
          obtain ⟨x, hx⟩ : ∃ x, x = m[k * 11 + j] := ⟨_, rfl⟩
          rw [← hx] at hcx hjs
          unfold tv at hcx
          have HJS := Lib.hid hjs
          have hbi : (k : Int) * 11 + (j : Int) < (m.length : Int) := by omega
          clear hcc hx hgd hjs
          cases x with
          | true =>
            have HS1 := Lib.hid (show j = lastS (jsS m k (j + 1)) by rw [HJS.out, if_pos rfl, lastS_snoc])
            have HM1 := Lib.hid (show many + 1 = (jsS m k (j + 1)).length by rw [HJS.out, if_pos rfl, List.length_append, ← hmn.out]; rfl)
            go_wp2_with fail
            go_round
            case rel => exact ⟨j + 1, j, many + 1, by omega, rfl, by go_num, by go_num, by omega, HS1, HM1⟩
            case measure => simp [intOf]; omega
          | false =>
            have HS1 := Lib.hid (show sc = lastS (jsS m k (j + 1)) by rw [HJS.out]; simpa using hsc.out)
            have HM1 := Lib.hid (show many = (jsS m k (j + 1)).length by rw [HJS.out]; simpa using hmn.out)
            go_wp2_with fail
            go_round
            case rel => exact ⟨j + 1, sc, many, by omega, rfl, rfl, by go_num, by omega, HS1, HM1⟩
            case measure => simp [intOf]; omega
        · have hji : ¬ (j : Int) < 11 := by omega
          obtain rfl : j = 11 := by omega
          have hjs : scoreJs m k = jsS m k 11 := rfl
          by_cases h1 : 1 < many
          · have hd : decide ((1 : Int) < (many : Int)) = true := by simp; omega
            have hl1 : 1 < (scoreJs m k).length := by rw [hjs, ← hmn.out]; exact h1
            have HSC := Lib.hid (show scoreOf (scoreJs m k) = 0 from scoreOf_many hl1)
            have HMN := Lib.hid (show (if 1 < (scoreJs m k).length then 1 else 0) = 1 from if_pos hl1)
            clear hl1 hjs
            go_wp2_with (at_builtin; refine wpList_append_f _ zv_one rfl (.tmp 35) (.tmp 37) 40 rfl w.heap.size 3 8 i0 _ Tryd.underlying40 hi0 hz0 hz1 hz2 (by omega) rfl out [0] rfl rfl (ho.out.alloc (.cells #[.int .i64 0] 3)) (rf_one (f := zv) (w := wr) 0 3) (by have := hol.out; simp; omega) (by simp; omega) ?_; intro A8 c8 w8 r8 hr8 ho8 hg8 hb8)
            have B8 := Lib.hid ((hbw.out.alloc hsz (.cells #[.int .i64 0] 3)).grown hg8 (by simp; omega) (fun j hj => (ho.out.blk_ge j hj).1))
            have HL8 := Lib.hid (show r8.length = k + 1 by rw [hr8.out, List.length_append, hol.out]; rfl)
            have HO8 := Lib.hid (show r8 = scS m (k + 1) by rw [hr8.out, scS_succ, ← hout.out, HSC.out])
            have HV8 := Lib.hid (show (ov + 1) = ovS m (k + 1) by rw [ovS_succ, ← hovs.out, HMN.out] <;> rfl)
            go_wp2_with fail
            go_roundw
            case rel => exact ⟨k + 1, (ov + 1), A8, c8, r8, by omega, rfl, by go_num, by go_num, by omega, HL8, HO8, HV8, ho8, B8⟩
            case measure => simp [intOf]; omega
          · have hd : decide ((1 : Int) < (many : Int)) = false := by simp; omega
            have hl1 : ¬ 1 < (scoreJs m k).length := by rw [hjs, ← hmn.out]; exact h1
            have HSC := Lib.hid (show scoreOf (scoreJs m k) = ((sc : Nat) : Int) by rw [scoreOf_few hl1, hsc.out, hjs])
            have HMN := Lib.hid (show (if 1 < (scoreJs m k).length then 1 else 0) = 0 from if_neg hl1)
            clear hl1 hjs
            go_wp2_with (at_builtin; refine wpList_append_f _ zv_one rfl (.tmp 35) (.tmp 37) 40 rfl w.heap.size 3 8 i0 _ Tryd.underlying40 hi0 hz0 hz1 hz2 (by omega) rfl out [((sc : Nat) : Int)] rfl rfl (ho.out.alloc (.cells #[.int .i64 ((sc : Nat) : Int)] 3)) (rf_one (f := zv) (w := wr) ((sc : Nat) : Int) 3) (by have := hol.out; simp; omega) (by simp; omega) ?_; intro A8 c8 w8 r8 hr8 ho8 hg8 hb8)
            have B8 := Lib.hid ((hbw.out.alloc hsz (.cells #[.int .i64 ((sc : Nat) : Int)] 3)).grown hg8 (by simp; omega) (fun j hj => (ho.out.blk_ge j hj).1))
            have HL8 := Lib.hid (show r8.length = k + 1 by rw [hr8.out, List.length_append, hol.out]; rfl)
            have HO8 := Lib.hid (show r8 = scS m (k + 1) by rw [hr8.out, scS_succ, ← hout.out, HSC.out])
            have HV8 := Lib.hid (show ov = ovS m (k + 1) by rw [ovS_succ, ← hovs.out, HMN.out] <;> rfl)
            go_wp2_with fail
            go_roundw
            case rel => exact ⟨k + 1, ov, A8, c8, r8, by omega, rfl, rfl, by go_num, by omega, HL8, HO8, HV8, ho8, B8⟩
            case measure => simp [intOf]; omega
    · have hlti : ¬ (k : Int) < (n : Int) := by omega
      obtain rfl : k = n := by omega
      have HQ := Lib.hid (show scoresS m k = (out, (ov : Int)) by rw [hout.out, hovs.out]; rfl)
      go_wp2_with fail
      go_ret2
      exact ⟨A1, c1, out, ov, rfl, HQ.out.symm, ho.out, hbw.out⟩
end Go.Proofs.YtejphpcngbjgjaaDoor
namespace Go.Proofs.YtejphpcngbjgjaaDoor
open Go.RowKit
set_option linter.unusedVariables false

/-- The cells of a reading. -/
def rgs (A : Option Addr) (c : Nat) (Ad : Option Addr) (cd : Nat) (x : Rg) : Array Value := #[.int .u8 (x.bal.kind : Nat), .slice A x.bal.marks.length c, .int .i64 x.over, .slice Ad x.doubts.length cd]
def rgv (A : Option Addr) (c : Nat) (Ad : Option Addr) (cd : Nat) (x : Rg) : Value := .agg (rgs A c Ad cd x)
theorem size_rg : (Tryd.prog.info? 44).map (·.size) = some 4 := by kernel_rfl
theorem wpList_store_rg {w : World} {ops : Array Oper} {rest : List Oper} {o : Oper} {a : Act} {Q : Exit → Act → World → Prop} (hgd : o.guard = none) (y z : Operand) (ho : o.op = .store 44 y z)
    (g : Nat) (hx : a.eval y = .pointer (some ⟨g, 0, none⟩)) {old : Array Value} (hB : Blk w g 44 old) (hold : old.size = 4) (A : Option Addr) (c : Nat) (Ad : Option Addr) (cd : Nat) (x : Rg) (hy : a.eval z = rgv A c Ad cd x)
    (h : ∀ w', Blk w' g 44 (rgs A c Ad cd x) → w.grownBy w' (some g) → wpList Tryd.prog ops Q rest (a.put o.dst undef) w') : wpList Tryd.prog ops Q (o :: rest) a w :=
  wpList_store_row hgd _ y z ho g (rgs A c Ad cd x) hx hy 44 old hB size_rg hold (by simp [rgs, Value.oneCell']) (h _ (setRow_heap w g _ _ _ _ hB) ⟨rfl, rfl, rfl, by simp, fun k _ hk => setRow_other w g k _ (fun e => hk (by rw [e]))⟩)
theorem rg_ret2 {fn : Func} {p q : Tmp} (h : fn.results = #[.cell p 44, .tmp q]) {a : Act} {w : World} {g : Nat} {A : Option Addr} {c : Nat} {Ad : Option Addr} {cd : Nat} {x : Rg} {Q : Ending → World → Prop}
    (hp : a.tmps.getD p undef = .pointer (some ⟨g, 0, none⟩)) (hB : Blk w g 44 (rgs A c Ad cd x)) (hd : a.defers = []) (hQ : Q (.returned (.tuple #[rgv A c Ad cd x, a.tmps.getD q undef])) w) : bodyPost Tryd.prog fn Q .ret a w := by
  refine bodyPost_ret (v := .tuple #[rgv A c Ad cd x, a.tmps.getD q undef]) ?_ hd hQ
  have hld := run_loadVar_row w g 44 44 _ _ _ hB Tryd.underlying44 rfl size_rg
  have hp' : a.tmps[p]?.getD undef = .pointer (some ⟨g, 0, none⟩) := by simpa using hp
  simp [results, h, hp', asAddr, hld, Result.andThen, rgv]
/-- A reading and an error. -/
def RgErr (w : World) (q : Rg × Int) (e : Ending) (w' : World) : Prop :=
  ∃ (A : Option Addr) (c : Nat) (Ad : Option Addr) (cd : Nat) (x : Rg) (er : Int), e = .returned (.tuple #[rgv A c Ad cd x, .int .i64 er]) ∧ (x, er) = q ∧ Ow zv w' w.heap.size 3 A c x.bal.marks ∧ Ow zv w' w.heap.size 3 Ad cd x.doubts ∧ (∀ k, blk A = some k → blk Ad ≠ some k) ∧ Below w.heap.size w w'
theorem rgErr_none {w w' : World} {q : Rg × Int} {er : Int} (h : q = (zeroRg, er)) (hb : Below w.heap.size w w') : RgErr w q (.returned (.tuple #[rgv none 0 none 0 zeroRg, .int .i64 er])) w' :=
  ⟨none, 0, none, 0, zeroRg, er, rfl, h.symm, Ow.nil _ _ _, Ow.nil _ _ _, (fun k e => by cases e), hb⟩
theorem checkS_three (c : Ct) (s : List UInt8) (h : checkS c s ≠ 0) : checkS c s = 4 ∨ checkS c s = 8 := by
  unfold checkS at h ⊢
  split
  · rename_i h1; exact checkM_three c h1
  · split
    · exact .inr rfl
    · split
      · rename_i h1 h2 h3; rw [if_neg h1, if_neg h2, if_pos h3] at h; exact absurd rfl h
      · exact .inr rfl
theorem kindM_three (r : Nat) : kindM r = 1 ∨ kindM r = 2 ∨ kindM r = 3 := by
  unfold kindM
  split
  · exact .inr (.inl rfl)
  · split
    · exact .inr (.inr rfl)
    · exact .inl rfl
theorem markS_len (p : Po) (s : List UInt8) (l : List De) : (markS p s l).length = s.length := by simp [markS]
theorem readS_p1 {c : Ct} {p : Po} {s : List UInt8} {l : List De} (h : checkS c s ≠ 0) : readS c p s l = (zeroRg, checkS c s) := by unfold readS; rw [if_pos h]
theorem readS_p2 {c : Ct} {p : Po} {s : List UInt8} {l : List De} (h : checkS c s = 0) (h2 : mayP p = false) : readS c p s l = (zeroRg, 2) := by unfold readS; rw [if_neg (by omega), if_pos h2]
theorem readS_p3 {c : Ct} {p : Po} {s : List UInt8} {l : List De} (h : checkS c s = 0) (h2 : mayP p = true) (h3 : s.length < l.length) : readS c p s l = (zeroRg, 4) := by unfold readS; rw [if_neg (by omega), if_neg (by rw [h2]; simp), if_pos h3]
theorem readS_p4 {c : Ct} {p : Po} {s : List UInt8} {l : List De} (h : checkS c s = 0) (h2 : mayP p = true) (h3 : ¬ s.length < l.length) (h4 : decsS p s l = false) : readS c p s l = (zeroRg, 2) := by unfold readS; rw [if_neg (by omega), if_neg (by rw [h2]; simp), if_neg h3, if_pos h4]
theorem readS_p5 {c : Ct} {p : Po} {s : List UInt8} {l : List De} (h : checkS c s = 0) (h2 : mayP p = true) (h3 : ¬ s.length < l.length) (h4 : decsS p s l = true) : readS c p s l = (⟨⟨kindM c.rule, (ballotS c p.skips (markS p s l)).1⟩, (ballotS c p.skips (markS p s l)).2, doubtsS p s l⟩, 0) := by unfold readS; rw [if_neg (by omega), if_neg (by rw [h2]; simp), if_neg h3, if_neg (by rw [h4]; simp)]
theorem decsS_bad {p : Po} {s : List UInt8} {l : List De} {i : Nat} (hi : i < l.length) (h : namesD p s l[i] = false) : decsS p s l = false := by
  rw [Bool.eq_false_iff]
  intro e
  have := ((decsS_iff p s l).1 e).1 _ (List.getElem_mem hi)
  rw [h] at this; cases this
theorem decsS_twice {p : Po} {s : List UInt8} {l : List De} {i t : Nat} (hi : i < l.length) (ht : t < i) (h : (l[t]'(by omega)).box = l[i].box) : decsS p s l = false := by
  rw [Bool.eq_false_iff]
  intro e
  have hn := ((decsS_iff p s l).1 e).2
  have h1 := List.pairwise_iff_getElem.1 hn t i (by simp; omega) (by simpa using hi) ht
  simp at h1
  exact h1 h
theorem decsS_good {p : Po} {s : List UInt8} {l : List De} (h1 : ∀ j (h : j < l.length), namesD p s l[j] = true) (h2 : ∀ j (h : j < l.length) t (ht : t < j), (l[t]'(by omega)).box ≠ l[j].box) : decsS p s l = true := by
  rw [decsS_iff]
  refine ⟨fun d hd => ?_, ?_⟩
  · obtain ⟨j, hj, rfl⟩ := List.getElem_of_mem hd
    exact h1 j hj
  · unfold List.Nodup
    rw [List.pairwise_iff_getElem]
    intro i j hi hj hij
    simp only [List.getElem_map]
    exact h2 j (by simpa using hj) i hij

theorem grown_setCell25 (w : World) (g i : Nat) (u : Value) : w.grownBy (w.setCell ⟨g, i, none⟩ u) (some g) :=
  ⟨rfl, rfl, rfl, by simp [World.setCell], fun k _ hk => Below.heap_setCell w ⟨g, i, none⟩ u k (fun e => hk (by rw [e]))⟩

set_option maxRecDepth 100000 in
set_option maxHeartbeats 8000000 in
theorem refReadS_any (x : Ct) (p : Po) (s : List UInt8) (l : List De) (A : Option Addr) (c : Nat) (As : Option Addr) (cs : Nat) (Al : Option Addr) (cl : Nat) (w : World) (h : CtOk w A c x) (hn : x.name.length ≤ 4000000000) (hcl : ∀ y ∈ x.cands, y.length ≤ 4000000000) (hs : Rf bv w w.heap.size As cs s) (hl : Rde w w.heap.size Al cl l) (hsl : s.length ≤ 1000000) (hll : l.length ≤ 1000000) :
    Calls Tryd.prog 13 #[cv A c x, pov p, shv As cs s, .slice Al l.length cl] w (RgErr w (readS x p s l)) := by
  obtain ⟨wA, hwA⟩ : ∃ wA, wA = (((w.alloc (.cells (cvs A c x) 24)).alloc (.cells #[.int .u8 (p.low : Nat), .int .u8 (p.high : Nat), .int .i64 p.skips] 38)).alloc (.cells #[.slice As s.length cs] 27)).alloc (.cells #[.int .u8 0, .slice none 0 0, .int .i64 0, .slice none 0 0] 44) := ⟨_, rfl⟩
  have B0 := Lib.hid (show Below w.heap.size w wA from by rw [hwA]; exact (((below_new w _).alloc (by simp) _).alloc (by simp; omega) _).alloc (by simp; omega) _)
  have HC0 := Lib.hid (show Blk wA w.heap.size 24 (cvs A c x) from by rw [hwA]; exact (((Blk.new w _ _).alloc _).alloc _).alloc _)
  have HP0 := Lib.hid (show Blk wA (w.heap.size + 1) 38 #[.int .u8 (p.low : Nat), .int .u8 (p.high : Nat), .int .i64 p.skips] from by
    have h := Blk.new (w.alloc (.cells (cvs A c x) 24)) 38 #[.int .u8 (p.low : Nat), .int .u8 (p.high : Nat), .int .i64 p.skips]
    rw [World.size_alloc] at h
    rw [hwA]; exact (h.alloc _).alloc _)
  have HS0 := Lib.hid (show Blk wA (w.heap.size + 1 + 1) 27 #[.slice As s.length cs] from by
    have h := Blk.new ((w.alloc (.cells (cvs A c x) 24)).alloc (.cells #[.int .u8 (p.low : Nat), .int .u8 (p.high : Nat), .int .i64 p.skips] 38)) 27 #[.slice As s.length cs]
    rw [World.size_alloc, World.size_alloc] at h
    rw [hwA]; exact h.alloc _)
  have HR0 := Lib.hid (show Blk wA (w.heap.size + 1 + 1 + 1) 44 #[.int .u8 0, .slice none 0 0, .int .i64 0, .slice none 0 0] from by
    have h := Blk.new (((w.alloc (.cells (cvs A c x) 24)).alloc (.cells #[.int .u8 (p.low : Nat), .int .u8 (p.high : Nat), .int .i64 p.skips] 38)).alloc (.cells #[.slice As s.length cs] 27)) 44 #[.int .u8 0, .slice none 0 0, .int .i64 0, .slice none 0 0]
    rw [World.size_alloc, World.size_alloc, World.size_alloc] at h
    rw [hwA]; exact h)
  have HCK := Lib.hid (refCheckS_any x A c s As cs wA (h.below B0.out) hn hcl ((hs.below B0.out).more B0.out.size))
  have HMP := Lib.hid (fun wx => refMayPolicy_any p wx)
  have HDO := Lib.hid (fun (b : UInt8) wx => refDoubt_any p b wx)
  have HMK := Lib.hid (fun wx (hb : Below w.heap.size w wx) => refMarked_any p s l As cs Al cl wx ((hs.below hb).more hb.size) ((hl.below hb).more hb.size) hsl hll)
  have HKI := Lib.hid (fun wx => refKindOf_any x.rule wx h.rule)
  have HSR := Lib.hid hs
  have HLR := Lib.hid hl
  clear h hn hcl hs hl
  unfold cv shv at HCK
  unfold pov at HMP HDO HMK
  unfold shv at HMK
  unfold cvs at HC0 HCK hwA
  unfold cv cvs pov shv
  by_cases h0 : checkS x s = 0
  case neg =>
    rcases checkS_three x s h0 with h4 | h4
    all_goals
      have HE := Lib.hid h4
      have HQ := Lib.hid (readS_p1 (p := p) (l := l) h0)
      rw [h4] at HQ
      clear h0 h4
      go_enter Tryd.func13, Tryd.ntmps13
      go_wp2_with fail
      rw [← hwA]
      refine HCK.out.mono ?_
      rintro e w1 ⟨rfl, hb1⟩
      rw [HE.out]
      have B1 := Lib.hid (B0.out.trans (hb1.mono B0.out.size))
      have HC1 := Lib.hid (HC0.out.below hb1 HC0.out.lt)
      have HP1 := Lib.hid (HP0.out.below hb1 HP0.out.lt)
      have HS1 := Lib.hid (HS0.out.below hb1 HS0.out.lt)
      have HR1 := Lib.hid (HR0.out.below hb1 HR0.out.lt)
      have p0 : w1.cell? ⟨w.heap.size + 1, 0, none⟩ = some (.int .u8 (p.low : Nat)) := HP1.out.cell 0
      have p1 : w1.cell? ⟨w.heap.size + 1, 1, none⟩ = some (.int .u8 (p.high : Nat)) := HP1.out.cell 1
      have p2 : w1.cell? ⟨w.heap.size + 1, 2, none⟩ = some (.int .i64 p.skips) := HP1.out.cell 2
      clear hb1 hwA
      go_wp2_with ((with_reducible refine wpList_store_rg rfl (.tmp 8) (.tmp 21) rfl (w.heap.size + 1 + 1 + 1) rfl HR1.out rfl none 0 none 0 zeroRg rfl ?_); intro wE hbE hgE)
      refine rg_ret2 (g := w.heap.size + 1 + 1 + 1) rfl rfl hbE rfl ⟨none, 0, none, 0, zeroRg, _, rfl, HQ.out.symm, Ow.nil _ _ _, Ow.nil _ _ _, (fun k e => by cases e), B1.out.grown hgE B1.out.size (fun k e => by cases e; omega)⟩
  have HE := Lib.hid h0
  cases hm : mayP p with
  | false =>
    have HM := Lib.hid hm
    have HQ := Lib.hid (readS_p2 (l := l) h0 hm)
    clear h0 hm
    go_enter Tryd.func13, Tryd.ntmps13
    go_wp2_with fail
    rw [← hwA]
    refine HCK.out.mono ?_
    rintro e w1 ⟨rfl, hb1⟩
    rw [HE.out]
    have B1 := Lib.hid (B0.out.trans (hb1.mono B0.out.size))
    have HC1 := Lib.hid (HC0.out.below hb1 HC0.out.lt)
    have HP1 := Lib.hid (HP0.out.below hb1 HP0.out.lt)
    have HS1 := Lib.hid (HS0.out.below hb1 HS0.out.lt)
    have HR1 := Lib.hid (HR0.out.below hb1 HR0.out.lt)
    have p0 : w1.cell? ⟨w.heap.size + 1, 0, none⟩ = some (.int .u8 (p.low : Nat)) := HP1.out.cell 0
    have p1 : w1.cell? ⟨w.heap.size + 1, 1, none⟩ = some (.int .u8 (p.high : Nat)) := HP1.out.cell 1
    have p2 : w1.cell? ⟨w.heap.size + 1, 2, none⟩ = some (.int .i64 p.skips) := HP1.out.cell 2
    clear hb1 hwA
    go_wp2_with fail
    refine (HMP.out _).mono ?_
    rintro e w2 ⟨rfl, hb2⟩
    rw [HM.out]
    have B2 := Lib.hid (B1.out.trans (hb2.mono B1.out.size))
    have HC2 := Lib.hid (HC1.out.below hb2 HC1.out.lt)
    have HP2 := Lib.hid (HP1.out.below hb2 HP1.out.lt)
    have HS2 := Lib.hid (HS1.out.below hb2 HS1.out.lt)
    have HR2 := Lib.hid (HR1.out.below hb2 HR1.out.lt)
    have s0 : w2.cell? ⟨w.heap.size + 1 + 1, 0, none⟩ = some (.slice As s.length cs) := HS2.out.cell 0
    clear hb2 p0 p1 p2
    go_wp2_with ((with_reducible refine wpList_store_rg rfl (.tmp 8) (.tmp 26) rfl (w.heap.size + 1 + 1 + 1) rfl HR2.out rfl none 0 none 0 zeroRg rfl ?_); intro wE hbE hgE)
    refine rg_ret2 (g := w.heap.size + 1 + 1 + 1) rfl rfl hbE rfl ⟨none, 0, none, 0, zeroRg, _, rfl, HQ.out.symm, Ow.nil _ _ _, Ow.nil _ _ _, (fun k e => by cases e), B2.out.grown hgE B2.out.size (fun k e => by cases e; omega)⟩
  | true =>
    have HM := Lib.hid hm
    by_cases h3 : s.length < l.length
    case pos =>
      have h3d : decide ((s.length : Int) < (l.length : Int)) = true := by simp; omega
      have HQ := Lib.hid (readS_p3 h0 hm h3)
      clear h0 hm
      go_enter Tryd.func13, Tryd.ntmps13
      go_wp2_with fail
      rw [← hwA]
      refine HCK.out.mono ?_
      rintro e w1 ⟨rfl, hb1⟩
      rw [HE.out]
      have B1 := Lib.hid (B0.out.trans (hb1.mono B0.out.size))
      have HC1 := Lib.hid (HC0.out.below hb1 HC0.out.lt)
      have HP1 := Lib.hid (HP0.out.below hb1 HP0.out.lt)
      have HS1 := Lib.hid (HS0.out.below hb1 HS0.out.lt)
      have HR1 := Lib.hid (HR0.out.below hb1 HR0.out.lt)
      have p0 : w1.cell? ⟨w.heap.size + 1, 0, none⟩ = some (.int .u8 (p.low : Nat)) := HP1.out.cell 0
      have p1 : w1.cell? ⟨w.heap.size + 1, 1, none⟩ = some (.int .u8 (p.high : Nat)) := HP1.out.cell 1
      have p2 : w1.cell? ⟨w.heap.size + 1, 2, none⟩ = some (.int .i64 p.skips) := HP1.out.cell 2
      clear hb1 hwA
      go_wp2_with fail
      refine (HMP.out _).mono ?_
      rintro e w2 ⟨rfl, hb2⟩
      rw [HM.out]
      have B2 := Lib.hid (B1.out.trans (hb2.mono B1.out.size))
      have HC2 := Lib.hid (HC1.out.below hb2 HC1.out.lt)
      have HP2 := Lib.hid (HP1.out.below hb2 HP1.out.lt)
      have HS2 := Lib.hid (HS1.out.below hb2 HS1.out.lt)
      have HR2 := Lib.hid (HR1.out.below hb2 HR1.out.lt)
      have s0 : w2.cell? ⟨w.heap.size + 1 + 1, 0, none⟩ = some (.slice As s.length cs) := HS2.out.cell 0
      clear hb2 p0 p1 p2
      go_wp2_with ((with_reducible refine wpList_store_rg rfl (.tmp 8) (.tmp 33) rfl (w.heap.size + 1 + 1 + 1) rfl HR2.out rfl none 0 none 0 zeroRg rfl ?_); intro wE hbE hgE)
      refine rg_ret2 (g := w.heap.size + 1 + 1 + 1) rfl rfl hbE rfl ⟨none, 0, none, 0, zeroRg, _, rfl, HQ.out.symm, Ow.nil _ _ _, Ow.nil _ _ _, (fun k e => by cases e), B2.out.grown hgE B2.out.size (fun k e => by cases e; omega)⟩
    have h3d : decide ((s.length : Int) < (l.length : Int)) = false := by simp; omega
    have HQB := Lib.hid (fun (h4 : decsS p s l = false) => readS_p4 h0 hm h3 h4)
    have HQG := Lib.hid (fun (h4 : decsS p s l = true) => readS_p5 h0 hm h3 h4)
    have HCS := Lib.hid (checkS_ok.1 h0)
    clear h0 hm
    go_enter Tryd.func13, Tryd.ntmps13
    go_wp2_with fail
    rw [← hwA]
    refine HCK.out.mono ?_
    rintro e w1 ⟨rfl, hb1⟩
    rw [HE.out]
    have B1 := Lib.hid (B0.out.trans (hb1.mono B0.out.size))
    have HC1 := Lib.hid (HC0.out.below hb1 HC0.out.lt)
    have HP1 := Lib.hid (HP0.out.below hb1 HP0.out.lt)
    have HS1 := Lib.hid (HS0.out.below hb1 HS0.out.lt)
    have HR1 := Lib.hid (HR0.out.below hb1 HR0.out.lt)
    have p0 : w1.cell? ⟨w.heap.size + 1, 0, none⟩ = some (.int .u8 (p.low : Nat)) := HP1.out.cell 0
    have p1 : w1.cell? ⟨w.heap.size + 1, 1, none⟩ = some (.int .u8 (p.high : Nat)) := HP1.out.cell 1
    have p2 : w1.cell? ⟨w.heap.size + 1, 2, none⟩ = some (.int .i64 p.skips) := HP1.out.cell 2
    clear hb1 hwA
    go_wp2_with fail
    refine (HMP.out _).mono ?_
    rintro e w2 ⟨rfl, hb2⟩
    rw [HM.out]
    have B2 := Lib.hid (B1.out.trans (hb2.mono B1.out.size))
    have HC2 := Lib.hid (HC1.out.below hb2 HC1.out.lt)
    have HP2 := Lib.hid (HP1.out.below hb2 HP1.out.lt)
    have HS2 := Lib.hid (HS1.out.below hb2 HS1.out.lt)
    have HR2 := Lib.hid (HR1.out.below hb2 HR1.out.lt)
    have s0 : w2.cell? ⟨w.heap.size + 1 + 1, 0, none⟩ = some (.slice As s.length cs) := HS2.out.cell 0
    clear hb2 p0 p1 p2
    go_wp2_with fail
    go_loopw [11] (fun i wr => ∃ k : Nat, k ≤ l.length ∧ i = .int .i64 k ∧ Hid (∀ j (h : j < l.length), j < k → namesD p s l[j] = true) ∧ Hid (∀ j (h : j < l.length) t (ht : t < j), j < k → (l[t]'(by omega)).box ≠ l[j].box) ∧ Hid (Blk wr w.heap.size 24 #[.string ⟨x.name.toArray⟩, .slice A x.cands.length c, .int .i64 x.seats, .int .u8 x.rule]) ∧ Hid (Blk wr (w.heap.size + 1) 38 #[.int .u8 (p.low : Nat), .int .u8 (p.high : Nat), .int .i64 p.skips]) ∧ Hid (Blk wr (w.heap.size + 1 + 1) 27 #[.slice As s.length cs]) ∧ Hid (Blk wr (w.heap.size + 1 + 1 + 1) 44 #[.int .u8 0, .slice none 0 0, .int .i64 0, .slice none 0 0]) ∧ Hid (Below w.heap.size w wr)) (fun i _ => l.length - (intOf i).toNat)
    case atStart => exact ⟨0, Nat.zero_le _, rfl, (fun j h hj => absurd hj (Nat.not_lt_zero j)), (fun j h t ht hj => absurd hj (Nat.not_lt_zero j)), HC2, HP2, HS2, HR2, B2⟩
    case round =>
      obtain ⟨k, hk, rfl, hpre, hdis, hC, hP, hS, hR, hbw⟩ := hrel
      by_cases hlt : k < l.length
      · obtain ⟨b, o, hAl, hbb, hcc⟩ := (HLR.out.below hbw.out).de hlt
        subst hAl
        obtain ⟨f1, f2⟩ := hcc k hlt
        have q0 : wr.cell? ⟨w.heap.size + 1, 0, none⟩ = some (.int .u8 (p.low : Nat)) := hP.out.cell 0
        have q1 : wr.cell? ⟨w.heap.size + 1, 1, none⟩ = some (.int .u8 (p.high : Nat)) := hP.out.cell 1
        have q2 : wr.cell? ⟨w.heap.size + 1, 2, none⟩ = some (.int .i64 p.skips) := hP.out.cell 2
        have q3 : wr.cell? ⟨w.heap.size + 1 + 1, 0, none⟩ = some (.slice As s.length cs) := hS.out.cell 0
        obtain ⟨z, hz⟩ : ∃ z, z = l[k] := ⟨_, rfl⟩
        rw [← hz] at f1 f2
        by_cases h1 : z.box < 0
        · have d1 : decide (z.box < 0) = true := by simpa using h1
          have HQ := Lib.hid (HQB.out (decsS_bad hlt (by rw [← hz, Bool.eq_false_iff]; intro e; have := (namesD_iff p s z).1 e; omega)))
          clear hcc hz h1
          go_wp2_with fail
          go_quiet (fail)
          have HRq := Lib.hid (hR.out.drewN nq)
          have Bq := Lib.hid (hbw.out.trans (below_drewN _ _ nq))
          go_wp2_with ((with_reducible refine wpList_store_rg rfl (.tmp 8) (.tmp 71) rfl (w.heap.size + 1 + 1 + 1) rfl HRq.out rfl none 0 none 0 zeroRg rfl ?_); intro wE hbE hgE)
          refine rg_ret2 (g := w.heap.size + 1 + 1 + 1) rfl rfl hbE rfl ⟨none, 0, none, 0, zeroRg, _, rfl, HQ.out.symm, Ow.nil _ _ _, Ow.nil _ _ _, (fun k e => by cases e), Bq.out.grown hgE Bq.out.size (fun k e => by cases e; omega)⟩
        have d1 : decide (z.box < 0) = false := by simpa using h1
        by_cases h2 : (s.length : Int) ≤ z.box
        · have d2 : decide ((s.length : Int) ≤ z.box) = true := by simpa using h2
          have HQ := Lib.hid (HQB.out (decsS_bad hlt (by rw [← hz, Bool.eq_false_iff]; intro e; have := (namesD_iff p s z).1 e; omega)))
          clear hcc hz h1 h2
          go_wp2_with fail
          go_quiet (fail)
          have HRq := Lib.hid (hR.out.drewN nq)
          have Bq := Lib.hid (hbw.out.trans (below_drewN _ _ nq))
          go_wp2_with ((with_reducible refine wpList_store_rg rfl (.tmp 8) (.tmp 71) rfl (w.heap.size + 1 + 1 + 1) rfl HRq.out rfl none 0 none 0 zeroRg rfl ?_); intro wE hbE hgE)
          refine rg_ret2 (g := w.heap.size + 1 + 1 + 1) rfl rfl hbE rfl ⟨none, 0, none, 0, zeroRg, _, rfl, HQ.out.symm, Ow.nil _ _ _, Ow.nil _ _ _, (fun k e => by cases e), Bq.out.grown hgE Bq.out.size (fun k e => by cases e; omega)⟩
        obtain ⟨n0, hn0⟩ : ∃ n0 : Nat, z.box = (n0 : Int) := ⟨z.box.toNat, by omega⟩
        have hnl : n0 < s.length := by omega
        have hnli : (n0 : Int) < (s.length : Int) := by omega
        obtain ⟨bs, os, hAs, hbs, hss⟩ := (HSR.out.below hbw.out).at_ hnl
        subst hAs
        have g1 := hss n0 hnl
        obtain ⟨zb, hzb⟩ : ∃ zb, zb = s[n0] := ⟨_, rfl⟩
        rw [← hzb] at g1
        unfold bv at g1
        have HND := Lib.hid (show namesD p s z = doubtP p zb by
          unfold namesD
          have e1 : s.getD z.box.toNat 0 = zb := by rw [hn0, hzb]; simp [List.getD, hnl]
          rw [e1, decide_eq_true (by omega), decide_eq_true (by omega)]
          rfl)
        rw [hn0] at f1 d1 h2
        have d2 : decide ((s.length : Int) ≤ ((n0 : Nat) : Int)) = false := by simp; omega
        have d2n : ¬ s.length ≤ n0 := by omega
        have HFA := Lib.hid (show ∀ wx, Below wr.heap.size wr wx → (wx.cell? ⟨w.heap.size + 1, 0, none⟩ = some (.int .u8 (p.low : Nat)) ∧ wx.cell? ⟨w.heap.size + 1, 1, none⟩ = some (.int .u8 (p.high : Nat)) ∧ wx.cell? ⟨w.heap.size + 1, 2, none⟩ = some (.int .i64 p.skips) ∧ wx.cell? ⟨w.heap.size + 1 + 1, 0, none⟩ = some (.slice (some ⟨bs, os, none⟩) s.length cs) ∧ wx.cell? ⟨b, o + k * 2, none⟩ = some (.int .i64 ((n0 : Nat) : Int)) ∧ wx.cell? ⟨bs, os + n0, none⟩ = some (.int .u8 (zb.toNat : Int))) from fun wx hb => by
          have k1 := hP.out.below hb hP.out.lt
          have k2 := hS.out.below hb hS.out.lt
          have hsz := hbw.out.size
          exact ⟨k1.cell 0, k1.cell 1, k1.cell 2, k2.cell 0, (hb.cell (by simp; omega)).trans f1, (hb.cell (by simp; omega)).trans g1⟩)
        have hF0 := HFA.out _ (Below.refl _ wr).drew
        have HZ := Lib.hid hz
        have HBX := Lib.hid hn0
        clear hss hz hzb h1 h2 hn0
        cases hdz : doubtP p zb with
        | false =>
          have HDZ := Lib.hid hdz
          have HQ := Lib.hid (HQB.out (decsS_bad hlt (by rw [← HZ.out, HND.out]; exact hdz)))
          clear hdz hcc
          go_wp2_with fail
          go_region_held3 (fun w' => (w'.cell? ⟨w.heap.size + 1, 0, none⟩ = some (.int .u8 (p.low : Nat)) ∧ w'.cell? ⟨w.heap.size + 1, 1, none⟩ = some (.int .u8 (p.high : Nat)) ∧ w'.cell? ⟨w.heap.size + 1, 2, none⟩ = some (.int .i64 p.skips) ∧ w'.cell? ⟨w.heap.size + 1 + 1, 0, none⟩ = some (.slice (some ⟨bs, os, none⟩) s.length cs) ∧ w'.cell? ⟨b, o + k * 2, none⟩ = some (.int .i64 ((n0 : Nat) : Int)) ∧ w'.cell? ⟨bs, os + n0, none⟩ = some (.int .u8 (zb.toNat : Int)))) (first | exact hF0 | exact hF2) (first
            | (go_simp; go_at_call 28; refine (HDO.out zb _).mono ?_; rintro e w3 ⟨rfl, hb3⟩; rw [HDZ.out]; have BB := Lib.hid ((Below.refl wr.heap.size wr).drew.trans hb3); have hF2 := HFA.out _ BB.out; clear hb3))
          have B3 := Lib.hid (hbw.out.trans (BB.out.mono hbw.out.size))
          have HRq := Lib.hid (hR.out.below BB.out hR.out.lt)
          go_wp2_with ((with_reducible refine wpList_store_rg rfl (.tmp 8) (.tmp 71) rfl (w.heap.size + 1 + 1 + 1) rfl HRq.out rfl none 0 none 0 zeroRg rfl ?_); intro wE hbE hgE)
          refine rg_ret2 (g := w.heap.size + 1 + 1 + 1) rfl rfl hbE rfl ⟨none, 0, none, 0, zeroRg, _, rfl, HQ.out.symm, Ow.nil _ _ _, Ow.nil _ _ _, (fun k e => by cases e), B3.out.grown hgE B3.out.size (fun k e => by cases e; omega)⟩
        | true =>
          have HDZ := Lib.hid hdz
          have HPR := Lib.hid (show ∀ j (h : j < l.length), j < k + 1 → namesD p s l[j] = true from fun j h hj => by
            by_cases e : j = k
            · subst e; rw [← HZ.out, HND.out]; exact hdz
            · exact hpre.out j h (by omega))
          clear hdz
          go_wp2_with fail
          go_region_held3 (fun w' => (w'.cell? ⟨w.heap.size + 1, 0, none⟩ = some (.int .u8 (p.low : Nat)) ∧ w'.cell? ⟨w.heap.size + 1, 1, none⟩ = some (.int .u8 (p.high : Nat)) ∧ w'.cell? ⟨w.heap.size + 1, 2, none⟩ = some (.int .i64 p.skips) ∧ w'.cell? ⟨w.heap.size + 1 + 1, 0, none⟩ = some (.slice (some ⟨bs, os, none⟩) s.length cs) ∧ w'.cell? ⟨b, o + k * 2, none⟩ = some (.int .i64 ((n0 : Nat) : Int)) ∧ w'.cell? ⟨bs, os + n0, none⟩ = some (.int .u8 (zb.toNat : Int)))) (first | exact hF0 | exact hF2) (first
            | (go_simp; go_at_call 28; refine (HDO.out zb _).mono ?_; rintro e w3 ⟨rfl, hb3⟩; rw [HDZ.out]; have BB := Lib.hid ((Below.refl wr.heap.size wr).drew.trans hb3); have hF2 := HFA.out _ BB.out; clear hb3))
          have B3 := Lib.hid (hbw.out.trans (BB.out.mono hbw.out.size))
          have HRq := Lib.hid (hR.out.below BB.out hR.out.lt)
          have HC3 := Lib.hid (hC.out.below BB.out hC.out.lt)
          have HP3 := Lib.hid (hP.out.below BB.out hP.out.lt)
          have HS3 := Lib.hid (hS.out.below BB.out hS.out.lt)
          have HCC := Lib.hid (show ∀ j (hj : j < l.length), w3.cell? ⟨b, o + j * 2, none⟩ = some (.int .i64 l[j].box) from fun j hj => (BB.out.cell (by have := hbw.out.size; simp; omega)).trans (hcc j hj).1)
          have HLK := Lib.hid (show l[k].box = ((n0 : Nat) : Int) by rw [← HZ.out]; exact HBX.out)
          have k1 : w3.cell? ⟨b, o + k * 2, none⟩ = some (.int .i64 ((n0 : Nat) : Int)) := by rw [HCC.out k hlt, HLK.out]
          clear hcc f1 f2 q0 q1 q2 q3 g1 hF0 hF2
          go_wp2_with fail
          go_loopw [12] (fun i wv => ∃ t : Nat, t ≤ k ∧ i = .int .i64 t ∧ Hid (∀ j (h : j < l.length), j < t → l[j].box ≠ ((n0 : Nat) : Int)) ∧ ∃ q, wv = w3.drewN q) (fun i _ => k - (intOf i).toNat)
          case atStart => exact ⟨0, Nat.zero_le _, rfl, (fun j h hj => absurd hj (Nat.not_lt_zero j)), 0, rfl⟩
          case round =>
            obtain ⟨t, ht, rfl, hin, q, rfl⟩ := hrel
            have k2 : (w3.drewN q).cell? ⟨b, o + k * 2, none⟩ = some (.int .i64 ((n0 : Nat) : Int)) := k1
            by_cases htk : t < k
            · have htl : t < l.length := by omega
              have htki : (t : Int) < (k : Int) := by omega
              obtain ⟨y, hy⟩ : ∃ y, y = l[t].box := ⟨_, rfl⟩
              have k3 : (w3.drewN q).cell? ⟨b, o + t * 2, none⟩ = some (.int .i64 y) := by rw [hy]; exact HCC.out t htl
              have k4 : w3.cell? ⟨b, o + t * 2, none⟩ = some (.int .i64 y) := k3
              by_cases he : y = ((n0 : Nat) : Int)
              · have hbe : (y == ((n0 : Nat) : Int)) = true := by simpa using he
                have HQ := Lib.hid (HQB.out (decsS_twice hlt htk (by rw [← hy, he, HLK.out])))
                clear hy
                go_wp2_with fail
                go_quiet (fail)
                have HRz := Lib.hid (HRq.out.drewN (q + nq))
                have Bz := Lib.hid (B3.out.trans (below_drewN _ _ (q + nq)))
                rw [World.drewN_drewN]
                go_wp2_with ((with_reducible refine wpList_store_rg rfl (.tmp 8) (.tmp 88) rfl (w.heap.size + 1 + 1 + 1) rfl HRz.out rfl none 0 none 0 zeroRg rfl ?_); intro wE hbE hgE)
                refine rg_ret2 (g := w.heap.size + 1 + 1 + 1) rfl rfl hbE rfl ⟨none, 0, none, 0, zeroRg, _, rfl, HQ.out.symm, Ow.nil _ _ _, Ow.nil _ _ _, (fun k e => by cases e), Bz.out.grown hgE Bz.out.size (fun k e => by cases e; omega)⟩
              · have hbe : (y == ((n0 : Nat) : Int)) = false := by simpa using he
                have HIN := Lib.hid (show ∀ j (h : j < l.length), j < t + 1 → l[j].box ≠ ((n0 : Nat) : Int) from fun j h hj => by
                  by_cases e : j = t
                  · subst e; rw [← hy]; exact he
                  · exact hin.out j h (by omega))
                clear hy he
                go_wp2_with fail
                go_quiet (fail)
                go_wp2_with fail
                go_roundw
                case rel => exact ⟨t + 1, by omega, by go_num, HIN, q + nq, by first | rfl | rw [World.drewN_drewN]⟩
                case measure => simp [intOf]; omega
            · have htki : ¬ (t : Int) < (k : Int) := by omega
              obtain rfl : t = k := by omega
              have HDI := Lib.hid (show ∀ j (h : j < l.length) u (hu : u < j), j < t + 1 → (l[u]'(by omega)).box ≠ l[j].box from fun j h u hu hj => by
                by_cases e : j = t
                · subst e; rw [HLK.out]; exact hin.out u (by omega) hu
                · exact hdis.out j h u hu (by omega))
              go_wp2_with fail
              go_roundw
              case rel => exact ⟨t + 1, by omega, by go_num, HPR, HDI, HC3.out.drewN q, HP3.out.drewN q, HS3.out.drewN q, HRq.out.drewN q, B3.out.trans (below_drewN _ _ q)⟩
              case measure => simp [intOf]; omega
      · have HQ := Lib.hid (HQG.out (decsS_good (fun j h => hpre.out j h (by omega)) (fun j h t ht => hdis.out j h t ht (by omega))))
        obtain rfl : k = l.length := by omega
        have q0 : wr.cell? ⟨w.heap.size + 1, 0, none⟩ = some (.int .u8 (p.low : Nat)) := hP.out.cell 0
        have q1 : wr.cell? ⟨w.heap.size + 1, 1, none⟩ = some (.int .u8 (p.high : Nat)) := hP.out.cell 1
        have q2 : wr.cell? ⟨w.heap.size + 1, 2, none⟩ = some (.int .i64 p.skips) := hP.out.cell 2
        have q3 : wr.cell? ⟨w.heap.size + 1 + 1, 0, none⟩ = some (.slice As s.length cs) := hS.out.cell 0
        go_wp2_with fail
        refine (HMK.out _ hbw.out).mono ?_
        rintro e w4 ⟨A1, c1, m, A2, c2, d, rfl, hm4, hd4, hom, hod, hb4⟩
        have B4 := Lib.hid (hbw.out.trans (hb4.mono hbw.out.size))
        have HC4 := Lib.hid (hC.out.below hb4 hC.out.lt)
        have HP4 := Lib.hid (hP.out.below hb4 hP.out.lt)
        have HR4 := Lib.hid (hR.out.below hb4 hR.out.lt)
        have HOM := Lib.hid hom
        have HOD := Lib.hid hod
        have HM4 := Lib.hid hm4
        have HD4 := Lib.hid hd4
        have HML := Lib.hid (show m.length = manyS x by rw [hm4, markS_len]; exact HCS.out.2.1)
        have hRw : w.heap.size + 1 + 1 + 1 < wr.heap.size := hR.out.lt
        have hw4 := hb4.size
        clear hm4 hd4 hom hod hb4 q0 q1 q2 q3
        have HBN := Lib.hid (show Blk (w4.alloc (.cells #[.int .u8 0, .slice none 0 0, .int .i64 0, .slice none 0 0] 44)) w4.heap.size 44 #[.int .u8 0, .slice none 0 0, .int .i64 0, .slice none 0 0] from Blk.new w4 _ _)
        have BA := Lib.hid (show Below w4.heap.size w4 (w4.alloc (.cells #[.int .u8 0, .slice none 0 0, .int .i64 0, .slice none 0 0] 44)) from below_new w4 _)
        have hGw : w.heap.size + 1 + 1 + 1 < w4.heap.size := by omega
        go_wp2_with ((with_reducible refine wpList_store_rg rfl (.tmp 15) (.tmp 97) rfl w4.heap.size rfl HBN.out rfl none 0 A2 c2 ⟨⟨0, []⟩, 0, d⟩ rfl ?_); intro w5 hb5 hg5; have B5 := Lib.hid (BA.out.grown hg5 (by simp) (fun k e => by cases e; exact Nat.le_refl _)); have HG5 := Lib.hid hb5; have HC5 := Lib.hid (HC4.out.below B5.out (by omega)); have HP5 := Lib.hid (HP4.out.below B5.out (by omega)); have HR5 := Lib.hid (HR4.out.below B5.out hGw); have r3 : w5.cell? ⟨w.heap.size, 3, none⟩ = some (.int .u8 x.rule) := HC5.out.cell 3; clear hg5 hb5)
        obtain ⟨hfew1, hfew2, hfew3, hfew4⟩ := checkM_few HCS.out.1
        rcases kindM_three x.rule with hk | hk | hk
        · have HK := Lib.hid hk
          have HMN := Lib.hid (show m.length = x.cands.length * x.cands.length by rw [HML.out]; unfold manyS; rw [wideS_rank hk])
          have HBS := Lib.hid (fun q => show ballotS x p.skips q = ranksS q x.cands.length p.skips by unfold ballotS; rw [if_pos hk])
          clear hk
          refine (HKI.out _).mono ?_
          rintro e w6 ⟨rfl, rfl⟩
          rw [HK.out]
          have g0 : w5.cell? ⟨w4.heap.size, 0, none⟩ = some (.int .u8 0) := HG5.out.cell 0
          have z0 : w5.frozen? ⟨w4.heap.size, 0, none⟩ = false := HG5.out.frozen 0
          obtain ⟨W6, hW6⟩ : ∃ W6, W6 = w5.setCell ⟨w4.heap.size, 0, none⟩ (.int .u8 1) := ⟨_, rfl⟩
          have HG6 := Lib.hid (show Blk W6 w4.heap.size 44 #[.int .u8 1, .slice none 0 0, .int .i64 0, .slice A2 d.length c2] from by rw [hW6]; exact HG5.out.set_ 0 _)
          have HC6 := Lib.hid (show Blk W6 w.heap.size 24 #[.string ⟨x.name.toArray⟩, .slice A x.cands.length c, .int .i64 x.seats, .int .u8 x.rule] from by rw [hW6]; exact HC5.out.far (by simp; omega) _)
          have HP6 := Lib.hid (show Blk W6 (w.heap.size + 1) 38 #[.int .u8 (p.low : Nat), .int .u8 (p.high : Nat), .int .i64 p.skips] from by rw [hW6]; exact HP5.out.far (by simp; omega) _)
          have HR6 := Lib.hid (show Blk W6 (w.heap.size + 1 + 1 + 1) 44 #[.int .u8 0, .slice none 0 0, .int .i64 0, .slice none 0 0] from by rw [hW6]; exact HR5.out.far (by simp; omega) _)
          have B6 := Lib.hid (show Below w4.heap.size w4 W6 from by rw [hW6]; exact B5.out.setCell (by simp) _)
          have e0 : W6.cell? ⟨w4.heap.size, 0, none⟩ = some (.int .u8 1) := HG6.out.cell 0
          have e1 : W6.cell? ⟨w.heap.size, 1, none⟩ = some (.slice A x.cands.length c) := HC6.out.cell 1
          have e3 : W6.cell? ⟨w.heap.size, 3, none⟩ = some (.int .u8 x.rule) := HC6.out.cell 3
          have e2 : W6.cell? ⟨w.heap.size + 1, 2, none⟩ = some (.int .i64 p.skips) := HP6.out.cell 2
          have h6 : w4.heap.size < W6.heap.size := HG6.out.lt
          have HOM6 := Lib.hid ((HOM.out.rd.below B6.out).more B6.out.size)
          have HOD6 := Lib.hid (HOD.out.below (Nat.le_refl _) B6.out)
          rw [hW6] at e0 e1 e2 e3
          go_wp2_with fail
          rw [← hW6]
          clear hW6 e0 e1 e2 e3 g0 z0 r3
          refine (refRanks_any m x.cands.length p.skips A1 c1 W6 HOM6.out HMN.out (by omega)).mono ?_
          rintro e w7 ⟨A7, c7, r, ov, rfl, hq7, ho7, hb7⟩
          have HQ7 := Lib.hid hq7
          have HG7 := Lib.hid (HG6.out.below hb7 h6)
          have HR7 := Lib.hid (HR6.out.below hb7 HR6.out.lt)
          have HOD7 := Lib.hid (HOD6.out.below (Nat.le_refl _) hb7)
          have HO7 := Lib.hid ho7
          have B7 := Lib.hid (B6.out.trans (hb7.mono B6.out.size))
          clear hq7 ho7 hb7
          obtain ⟨W8, hW8⟩ : ∃ W8, W8 = (w7.setCell ⟨w4.heap.size, 1, none⟩ (.slice A7 r.length c7)).setCell ⟨w4.heap.size, 2, none⟩ (.int .i64 ov) := ⟨_, rfl⟩
          have HG8 := Lib.hid (show Blk W8 w4.heap.size 44 #[.int .u8 1, .slice A7 r.length c7, .int .i64 ov, .slice A2 d.length c2] from by rw [hW8]; exact (HG7.out.set_ 1 _).set_ 2 _)
          have HR8 := Lib.hid (show Blk W8 (w.heap.size + 1 + 1 + 1) 44 #[.int .u8 0, .slice none 0 0, .int .i64 0, .slice none 0 0] from by rw [hW8]; exact (HR7.out.far (by simp; omega) _).far (by simp; omega) _)
          have B8 := Lib.hid (show Below w4.heap.size w4 W8 from by rw [hW8]; exact (B7.out.setCell (by simp) _).setCell (by simp) _)
          have hnA : blk A7 = none ∨ blk A7 ≠ some w4.heap.size := by
            cases hb : blk A7 with
            | none => exact .inl rfl
            | some j => exact .inr (fun e => by have := (HO7.out.blk_ge j hb).1; have := Option.some.inj e; omega)
          have hnD : blk A2 = none ∨ blk A2 ≠ some w4.heap.size := by
            cases hb : blk A2 with
            | none => exact .inl rfl
            | some j => exact .inr (fun e => by have := (HOD.out.blk_ge j hb).2; have := Option.some.inj e; omega)
          have HO8 := Lib.hid (show Ow zv W8 W6.heap.size 3 A7 c7 r from by rw [hW8]; exact (HO7.out.kept (grown_setCell25 _ _ 1 _) hnA).kept (grown_setCell25 _ _ 2 _) hnA)
          have HOD8 := Lib.hid (show Ow zv W8 wr.heap.size 3 A2 c2 d from by rw [hW8]; exact (HOD7.out.kept (grown_setCell25 _ _ 1 _) hnD).kept (grown_setCell25 _ _ 2 _) hnD)
          have g1 : w7.cell? ⟨w4.heap.size, 1, none⟩ = some (.slice none 0 0) := HG7.out.cell 1
          have g2 : w7.cell? ⟨w4.heap.size, 2, none⟩ = some (.int .i64 0) := HG7.out.cell 2
          have z1 : w7.frozen? ⟨w4.heap.size, 1, none⟩ = false := HG7.out.frozen 1
          have z2 : w7.frozen? ⟨w4.heap.size, 2, none⟩ = false := HG7.out.frozen 2
          have i0 : W8.cell? ⟨w4.heap.size, 0, none⟩ = some (.int .u8 1) := HG8.out.cell 0
          have i1 : W8.cell? ⟨w4.heap.size, 1, none⟩ = some (.slice A7 r.length c7) := HG8.out.cell 1
          have i2 : W8.cell? ⟨w4.heap.size, 2, none⟩ = some (.int .i64 ov) := HG8.out.cell 2
          have i3 : W8.cell? ⟨w4.heap.size, 3, none⟩ = some (.slice A2 d.length c2) := HG8.out.cell 3
          rw [hW8] at i0 i1 i2 i3 HR8
          have hnR : ∀ g, w.heap.size + 1 + 1 + 1 < g → ∀ (a : Option Addr), (∀ j, blk a = some j → g ≤ j) → blk a = none ∨ blk a ≠ some (w.heap.size + 1 + 1 + 1) := fun g hg a ha => by
            cases hb : blk a with
            | none => exact .inl rfl
            | some j => exact .inr (fun e => by have := ha j hb; have := Option.some.inj e; omega)
          have HNR := Lib.hid hnR
          clear hnR hnA hnD
          go_wp2_with ((with_reducible refine wpList_store_rg rfl (.tmp 8) (.tmp 150) rfl (w.heap.size + 1 + 1 + 1) rfl HR8.out rfl A7 c7 A2 c2 ⟨⟨1, r⟩, ov, d⟩ rfl ?_); intro w9 hb9 hg9)
          rw [← hW8] at hg9
          have HO9 := Lib.hid (HO8.out.kept hg9 (HNR.out W6.heap.size (by omega) A7 (fun j hj => (HO7.out.blk_ge j hj).1)))
          have HOD9 := Lib.hid (HOD8.out.kept hg9 (HNR.out wr.heap.size hRw A2 (fun j hj => (HOD.out.blk_ge j hj).1)))
          have HDI := Lib.hid (show ∀ k, blk A7 = some k → blk A2 ≠ some k from fun k hk e => by
            have h1 := (HO7.out.blk_ge k hk).1
            have h2 := (HOD.out.blk_ge k e).2
            omega)
          have B9 := Lib.hid ((B4.out.trans (B8.out.mono B4.out.size)).grown hg9 (Nat.le_trans B4.out.size B8.out.size) (fun k e => by cases e; omega))
          refine rg_ret2 (g := w.heap.size + 1 + 1 + 1) rfl rfl hb9 rfl ⟨A7, c7, A2, c2, _, _, rfl, ?_, HO9.out.lower (Nat.le_trans B4.out.size B6.out.size), HOD9.out.lower hbw.out.size, HDI.out, B9.out⟩
          rw [HQ.out, HK.out, HBS.out, ← HM4.out, ← HQ7.out, HD4.out]
        · have HK := Lib.hid hk
          have HMN := Lib.hid (show m.length = x.cands.length by rw [HML.out]; unfold manyS; rw [wideS_mark (by omega) (by omega), Nat.mul_one])
          have HBS := Lib.hid (fun q => show ballotS x p.skips q = marksS q (marksM x.rule x.cands.length) by unfold ballotS; rw [if_neg (by omega), if_pos hk])
          clear hk
          refine (HKI.out _).mono ?_
          rintro e w6 ⟨rfl, rfl⟩
          rw [HK.out]
          have g0 : w5.cell? ⟨w4.heap.size, 0, none⟩ = some (.int .u8 0) := HG5.out.cell 0
          have z0 : w5.frozen? ⟨w4.heap.size, 0, none⟩ = false := HG5.out.frozen 0
          obtain ⟨W6, hW6⟩ : ∃ W6, W6 = w5.setCell ⟨w4.heap.size, 0, none⟩ (.int .u8 2) := ⟨_, rfl⟩
          have HG6 := Lib.hid (show Blk W6 w4.heap.size 44 #[.int .u8 2, .slice none 0 0, .int .i64 0, .slice A2 d.length c2] from by rw [hW6]; exact HG5.out.set_ 0 _)
          have HC6 := Lib.hid (show Blk W6 w.heap.size 24 #[.string ⟨x.name.toArray⟩, .slice A x.cands.length c, .int .i64 x.seats, .int .u8 x.rule] from by rw [hW6]; exact HC5.out.far (by simp; omega) _)
          have HP6 := Lib.hid (show Blk W6 (w.heap.size + 1) 38 #[.int .u8 (p.low : Nat), .int .u8 (p.high : Nat), .int .i64 p.skips] from by rw [hW6]; exact HP5.out.far (by simp; omega) _)
          have HR6 := Lib.hid (show Blk W6 (w.heap.size + 1 + 1 + 1) 44 #[.int .u8 0, .slice none 0 0, .int .i64 0, .slice none 0 0] from by rw [hW6]; exact HR5.out.far (by simp; omega) _)
          have B6 := Lib.hid (show Below w4.heap.size w4 W6 from by rw [hW6]; exact B5.out.setCell (by simp) _)
          have e0 : W6.cell? ⟨w4.heap.size, 0, none⟩ = some (.int .u8 2) := HG6.out.cell 0
          have e1 : W6.cell? ⟨w.heap.size, 1, none⟩ = some (.slice A x.cands.length c) := HC6.out.cell 1
          have e3 : W6.cell? ⟨w.heap.size, 3, none⟩ = some (.int .u8 x.rule) := HC6.out.cell 3
          have e2 : W6.cell? ⟨w.heap.size + 1, 2, none⟩ = some (.int .i64 p.skips) := HP6.out.cell 2
          have h6 : w4.heap.size < W6.heap.size := HG6.out.lt
          have HOM6 := Lib.hid ((HOM.out.rd.below B6.out).more B6.out.size)
          have HOD6 := Lib.hid (HOD.out.below (Nat.le_refl _) B6.out)
          rw [hW6] at e0 e1 e2 e3
          go_wp2_with fail
          rw [← hW6]
          clear hW6 e0 e1 e2 e3 g0 z0 r3
          refine (refMarks_any x.rule x.cands.length W6 (by omega) (by omega)).mono ?_
          rintro e w6b ⟨rfl, hw6b⟩
          obtain rfl := hw6b
          go_wp2_with fail
          refine (refMarksS_any m (marksM x.rule x.cands.length) A1 c1 W6 HOM6.out (by have := HMN.out; omega)).mono ?_
          rintro e w7 ⟨A7, c7, r, ov, rfl, hq7, ho7, hb7⟩
          have HQ7 := Lib.hid hq7
          have HG7 := Lib.hid (HG6.out.below hb7 h6)
          have HR7 := Lib.hid (HR6.out.below hb7 HR6.out.lt)
          have HOD7 := Lib.hid (HOD6.out.below (Nat.le_refl _) hb7)
          have HO7 := Lib.hid ho7
          have B7 := Lib.hid (B6.out.trans (hb7.mono B6.out.size))
          clear hq7 ho7 hb7
          obtain ⟨W8, hW8⟩ : ∃ W8, W8 = (w7.setCell ⟨w4.heap.size, 1, none⟩ (.slice A7 r.length c7)).setCell ⟨w4.heap.size, 2, none⟩ (.int .i64 ov) := ⟨_, rfl⟩
          have HG8 := Lib.hid (show Blk W8 w4.heap.size 44 #[.int .u8 2, .slice A7 r.length c7, .int .i64 ov, .slice A2 d.length c2] from by rw [hW8]; exact (HG7.out.set_ 1 _).set_ 2 _)
          have HR8 := Lib.hid (show Blk W8 (w.heap.size + 1 + 1 + 1) 44 #[.int .u8 0, .slice none 0 0, .int .i64 0, .slice none 0 0] from by rw [hW8]; exact (HR7.out.far (by simp; omega) _).far (by simp; omega) _)
          have B8 := Lib.hid (show Below w4.heap.size w4 W8 from by rw [hW8]; exact (B7.out.setCell (by simp) _).setCell (by simp) _)
          have hnA : blk A7 = none ∨ blk A7 ≠ some w4.heap.size := by
            cases hb : blk A7 with
            | none => exact .inl rfl
            | some j => exact .inr (fun e => by have := (HO7.out.blk_ge j hb).1; have := Option.some.inj e; omega)
          have hnD : blk A2 = none ∨ blk A2 ≠ some w4.heap.size := by
            cases hb : blk A2 with
            | none => exact .inl rfl
            | some j => exact .inr (fun e => by have := (HOD.out.blk_ge j hb).2; have := Option.some.inj e; omega)
          have HO8 := Lib.hid (show Ow zv W8 W6.heap.size 3 A7 c7 r from by rw [hW8]; exact (HO7.out.kept (grown_setCell25 _ _ 1 _) hnA).kept (grown_setCell25 _ _ 2 _) hnA)
          have HOD8 := Lib.hid (show Ow zv W8 wr.heap.size 3 A2 c2 d from by rw [hW8]; exact (HOD7.out.kept (grown_setCell25 _ _ 1 _) hnD).kept (grown_setCell25 _ _ 2 _) hnD)
          have g1 : w7.cell? ⟨w4.heap.size, 1, none⟩ = some (.slice none 0 0) := HG7.out.cell 1
          have g2 : w7.cell? ⟨w4.heap.size, 2, none⟩ = some (.int .i64 0) := HG7.out.cell 2
          have z1 : w7.frozen? ⟨w4.heap.size, 1, none⟩ = false := HG7.out.frozen 1
          have z2 : w7.frozen? ⟨w4.heap.size, 2, none⟩ = false := HG7.out.frozen 2
          have i0 : W8.cell? ⟨w4.heap.size, 0, none⟩ = some (.int .u8 2) := HG8.out.cell 0
          have i1 : W8.cell? ⟨w4.heap.size, 1, none⟩ = some (.slice A7 r.length c7) := HG8.out.cell 1
          have i2 : W8.cell? ⟨w4.heap.size, 2, none⟩ = some (.int .i64 ov) := HG8.out.cell 2
          have i3 : W8.cell? ⟨w4.heap.size, 3, none⟩ = some (.slice A2 d.length c2) := HG8.out.cell 3
          rw [hW8] at i0 i1 i2 i3 HR8
          have hnR : ∀ g, w.heap.size + 1 + 1 + 1 < g → ∀ (a : Option Addr), (∀ j, blk a = some j → g ≤ j) → blk a = none ∨ blk a ≠ some (w.heap.size + 1 + 1 + 1) := fun g hg a ha => by
            cases hb : blk a with
            | none => exact .inl rfl
            | some j => exact .inr (fun e => by have := ha j hb; have := Option.some.inj e; omega)
          have HNR := Lib.hid hnR
          clear hnR hnA hnD
          go_wp2_with ((with_reducible refine wpList_store_rg rfl (.tmp 8) (.tmp 150) rfl (w.heap.size + 1 + 1 + 1) rfl HR8.out rfl A7 c7 A2 c2 ⟨⟨2, r⟩, ov, d⟩ rfl ?_); intro w9 hb9 hg9)
          rw [← hW8] at hg9
          have HO9 := Lib.hid (HO8.out.kept hg9 (HNR.out W6.heap.size (by omega) A7 (fun j hj => (HO7.out.blk_ge j hj).1)))
          have HOD9 := Lib.hid (HOD8.out.kept hg9 (HNR.out wr.heap.size hRw A2 (fun j hj => (HOD.out.blk_ge j hj).1)))
          have HDI := Lib.hid (show ∀ k, blk A7 = some k → blk A2 ≠ some k from fun k hk e => by
            have h1 := (HO7.out.blk_ge k hk).1
            have h2 := (HOD.out.blk_ge k e).2
            omega)
          have B9 := Lib.hid ((B4.out.trans (B8.out.mono B4.out.size)).grown hg9 (Nat.le_trans B4.out.size B8.out.size) (fun k e => by cases e; omega))
          refine rg_ret2 (g := w.heap.size + 1 + 1 + 1) rfl rfl hb9 rfl ⟨A7, c7, A2, c2, _, _, rfl, ?_, HO9.out.lower (Nat.le_trans B4.out.size B6.out.size), HOD9.out.lower hbw.out.size, HDI.out, B9.out⟩
          rw [HQ.out, HK.out, HBS.out, ← HM4.out, ← HQ7.out, HD4.out]
        · have HK := Lib.hid hk
          have HMN := Lib.hid (show m.length = x.cands.length * 11 by rw [HML.out]; unfold manyS; rw [wideS_score (by omega) hk])
          have HBS := Lib.hid (fun q => show ballotS x p.skips q = scoresS q x.cands.length by unfold ballotS; rw [if_neg (by omega), if_neg (by omega)])
          clear hk
          refine (HKI.out _).mono ?_
          rintro e w6 ⟨rfl, rfl⟩
          rw [HK.out]
          have g0 : w5.cell? ⟨w4.heap.size, 0, none⟩ = some (.int .u8 0) := HG5.out.cell 0
          have z0 : w5.frozen? ⟨w4.heap.size, 0, none⟩ = false := HG5.out.frozen 0
          obtain ⟨W6, hW6⟩ : ∃ W6, W6 = w5.setCell ⟨w4.heap.size, 0, none⟩ (.int .u8 3) := ⟨_, rfl⟩
          have HG6 := Lib.hid (show Blk W6 w4.heap.size 44 #[.int .u8 3, .slice none 0 0, .int .i64 0, .slice A2 d.length c2] from by rw [hW6]; exact HG5.out.set_ 0 _)
          have HC6 := Lib.hid (show Blk W6 w.heap.size 24 #[.string ⟨x.name.toArray⟩, .slice A x.cands.length c, .int .i64 x.seats, .int .u8 x.rule] from by rw [hW6]; exact HC5.out.far (by simp; omega) _)
          have HP6 := Lib.hid (show Blk W6 (w.heap.size + 1) 38 #[.int .u8 (p.low : Nat), .int .u8 (p.high : Nat), .int .i64 p.skips] from by rw [hW6]; exact HP5.out.far (by simp; omega) _)
          have HR6 := Lib.hid (show Blk W6 (w.heap.size + 1 + 1 + 1) 44 #[.int .u8 0, .slice none 0 0, .int .i64 0, .slice none 0 0] from by rw [hW6]; exact HR5.out.far (by simp; omega) _)
          have B6 := Lib.hid (show Below w4.heap.size w4 W6 from by rw [hW6]; exact B5.out.setCell (by simp) _)
          have e0 : W6.cell? ⟨w4.heap.size, 0, none⟩ = some (.int .u8 3) := HG6.out.cell 0
          have e1 : W6.cell? ⟨w.heap.size, 1, none⟩ = some (.slice A x.cands.length c) := HC6.out.cell 1
          have e3 : W6.cell? ⟨w.heap.size, 3, none⟩ = some (.int .u8 x.rule) := HC6.out.cell 3
          have e2 : W6.cell? ⟨w.heap.size + 1, 2, none⟩ = some (.int .i64 p.skips) := HP6.out.cell 2
          have h6 : w4.heap.size < W6.heap.size := HG6.out.lt
          have HOM6 := Lib.hid ((HOM.out.rd.below B6.out).more B6.out.size)
          have HOD6 := Lib.hid (HOD.out.below (Nat.le_refl _) B6.out)
          rw [hW6] at e0 e1 e2 e3
          go_wp2_with fail
          rw [← hW6]
          clear hW6 e0 e1 e2 e3 g0 z0 r3
          refine (refScores_any m x.cands.length A1 c1 W6 HOM6.out HMN.out (by omega)).mono ?_
          rintro e w7 ⟨A7, c7, r, ov, rfl, hq7, ho7, hb7⟩
          have HQ7 := Lib.hid hq7
          have HG7 := Lib.hid (HG6.out.below hb7 h6)
          have HR7 := Lib.hid (HR6.out.below hb7 HR6.out.lt)
          have HOD7 := Lib.hid (HOD6.out.below (Nat.le_refl _) hb7)
          have HO7 := Lib.hid ho7
          have B7 := Lib.hid (B6.out.trans (hb7.mono B6.out.size))
          clear hq7 ho7 hb7
          obtain ⟨W8, hW8⟩ : ∃ W8, W8 = (w7.setCell ⟨w4.heap.size, 1, none⟩ (.slice A7 r.length c7)).setCell ⟨w4.heap.size, 2, none⟩ (.int .i64 ov) := ⟨_, rfl⟩
          have HG8 := Lib.hid (show Blk W8 w4.heap.size 44 #[.int .u8 3, .slice A7 r.length c7, .int .i64 ov, .slice A2 d.length c2] from by rw [hW8]; exact (HG7.out.set_ 1 _).set_ 2 _)
          have HR8 := Lib.hid (show Blk W8 (w.heap.size + 1 + 1 + 1) 44 #[.int .u8 0, .slice none 0 0, .int .i64 0, .slice none 0 0] from by rw [hW8]; exact (HR7.out.far (by simp; omega) _).far (by simp; omega) _)
          have B8 := Lib.hid (show Below w4.heap.size w4 W8 from by rw [hW8]; exact (B7.out.setCell (by simp) _).setCell (by simp) _)
          have hnA : blk A7 = none ∨ blk A7 ≠ some w4.heap.size := by
            cases hb : blk A7 with
            | none => exact .inl rfl
            | some j => exact .inr (fun e => by have := (HO7.out.blk_ge j hb).1; have := Option.some.inj e; omega)
          have hnD : blk A2 = none ∨ blk A2 ≠ some w4.heap.size := by
            cases hb : blk A2 with
            | none => exact .inl rfl
            | some j => exact .inr (fun e => by have := (HOD.out.blk_ge j hb).2; have := Option.some.inj e; omega)
          have HO8 := Lib.hid (show Ow zv W8 W6.heap.size 3 A7 c7 r from by rw [hW8]; exact (HO7.out.kept (grown_setCell25 _ _ 1 _) hnA).kept (grown_setCell25 _ _ 2 _) hnA)
          have HOD8 := Lib.hid (show Ow zv W8 wr.heap.size 3 A2 c2 d from by rw [hW8]; exact (HOD7.out.kept (grown_setCell25 _ _ 1 _) hnD).kept (grown_setCell25 _ _ 2 _) hnD)
          have g1 : w7.cell? ⟨w4.heap.size, 1, none⟩ = some (.slice none 0 0) := HG7.out.cell 1
          have g2 : w7.cell? ⟨w4.heap.size, 2, none⟩ = some (.int .i64 0) := HG7.out.cell 2
          have z1 : w7.frozen? ⟨w4.heap.size, 1, none⟩ = false := HG7.out.frozen 1
          have z2 : w7.frozen? ⟨w4.heap.size, 2, none⟩ = false := HG7.out.frozen 2
          have i0 : W8.cell? ⟨w4.heap.size, 0, none⟩ = some (.int .u8 3) := HG8.out.cell 0
          have i1 : W8.cell? ⟨w4.heap.size, 1, none⟩ = some (.slice A7 r.length c7) := HG8.out.cell 1
          have i2 : W8.cell? ⟨w4.heap.size, 2, none⟩ = some (.int .i64 ov) := HG8.out.cell 2
          have i3 : W8.cell? ⟨w4.heap.size, 3, none⟩ = some (.slice A2 d.length c2) := HG8.out.cell 3
          rw [hW8] at i0 i1 i2 i3 HR8
          have hnR : ∀ g, w.heap.size + 1 + 1 + 1 < g → ∀ (a : Option Addr), (∀ j, blk a = some j → g ≤ j) → blk a = none ∨ blk a ≠ some (w.heap.size + 1 + 1 + 1) := fun g hg a ha => by
            cases hb : blk a with
            | none => exact .inl rfl
            | some j => exact .inr (fun e => by have := ha j hb; have := Option.some.inj e; omega)
          have HNR := Lib.hid hnR
          clear hnR hnA hnD
          go_wp2_with ((with_reducible refine wpList_store_rg rfl (.tmp 8) (.tmp 150) rfl (w.heap.size + 1 + 1 + 1) rfl HR8.out rfl A7 c7 A2 c2 ⟨⟨3, r⟩, ov, d⟩ rfl ?_); intro w9 hb9 hg9)
          rw [← hW8] at hg9
          have HO9 := Lib.hid (HO8.out.kept hg9 (HNR.out W6.heap.size (by omega) A7 (fun j hj => (HO7.out.blk_ge j hj).1)))
          have HOD9 := Lib.hid (HOD8.out.kept hg9 (HNR.out wr.heap.size hRw A2 (fun j hj => (HOD.out.blk_ge j hj).1)))
          have HDI := Lib.hid (show ∀ k, blk A7 = some k → blk A2 ≠ some k from fun k hk e => by
            have h1 := (HO7.out.blk_ge k hk).1
            have h2 := (HOD.out.blk_ge k e).2
            omega)
          have B9 := Lib.hid ((B4.out.trans (B8.out.mono B4.out.size)).grown hg9 (Nat.le_trans B4.out.size B8.out.size) (fun k e => by cases e; omega))
          refine rg_ret2 (g := w.heap.size + 1 + 1 + 1) rfl rfl hb9 rfl ⟨A7, c7, A2, c2, _, _, rfl, ?_, HO9.out.lower (Nat.le_trans B4.out.size B6.out.size), HOD9.out.lower hbw.out.size, HDI.out, B9.out⟩
          rw [HQ.out, HK.out, HBS.out, ← HM4.out, ← HQ7.out, HD4.out]
end Go.Proofs.YtejphpcngbjgjaaDoor
