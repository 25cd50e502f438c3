/- sheet's code: Read; and the contracts of sheet's three calls. -/
import Derived.Test.YtejphpcngbjgjaaDoorGl
import Derived.Test.YtejphpcngbjgjaaDoorGh
namespace Go.Proofs.YtejphpcngbjgjaaDoor
open Go.RowKit
set_option linter.unusedVariables false

theorem bitsR_fin (p : Po) (s : List UInt8) (m : List De) : bitsR (finS p s m) = markS p s m := by
  unfold bitsR finS markS
  rw [List.map_map]
  apply List.map_congr_left
  intro i _
  exact stD_two p m i (s.getD i 0)
theorem dbK_fin (p : Po) (s : List UInt8) (m : List De) : (dbK (finS p s m) s.length).map (fun i => ((i : Nat) : Int)) = doubtsS p s m := by
  unfold dbK doubtsS doubtsN
  congr 1
  apply List.filter_congr
  intro i hi
  rw [finS_get p s m (List.mem_range.1 hi)]
  exact stD_open p m i (s.getD i 0)

theorem readingS_any (x : Ct) (p : Po) (s : List UInt8) (l : List De) (g : Nat) (w : World) (hck : checkS x s = 0) (hm : mayP p = true) (hu : Hb zv w g 88 (finS p s l)) :
    Calls Tryd.prog 26 #[ppv (layM x) g s.length p.skips] w (RgOnly w ⟨⟨kindM x.rule, (ballotS x p.skips (markS p s l)).1⟩, (ballotS x p.skips (markS p s l)).2, doubtsS p s l⟩) := by
  obtain ⟨h0, hlen, _⟩ := checkS_ok.1 hck
  have hf := checkM_few h0
  have hsk := ((mayP_iff p).1 hm).2.2.2.1
  have hgl := hu.lt
  have hle : s.length ≤ 110 := by
    have := layM_le h0
    rw [hlen]; unfold manyS; exact this
  have hbit := bitsR_fin p s l
  have hdb := dbK_fin p s l
  have hfl := finS_len p s l
  rcases kindM_three x.rule with hk | hk | hk
  · have hw : wideS x = x.cands.length := wideS_rank hk
    have hn : s.length = x.cands.length * x.cands.length := by rw [hlen]; unfold manyS; rw [hw]
    have h := reading_rank (layM x) (finS p s l) g s.length p.skips w hu hfl (by omega) hk (ranksS (bitsR (finS p s l)) x.cands.length p.skips)
      (fun wx hb => ranking_any (layM x) (finS p s l) g s.length p.skips wx (hu.below hb hgl) hfl hn hw (show x.cands.length ≤ 100 by omega) hsk)
    rw [hdb, hbit] at h
    have hb : ballotS x p.skips (markS p s l) = ranksS (markS p s l) x.cands.length p.skips := by unfold ballotS; rw [if_pos hk]
    rw [hb]
    exact h
  · have hw : wideS x = 1 := wideS_mark (by omega) (by omega)
    have hn : x.cands.length = s.length := by rw [hlen]; unfold manyS; rw [hw, Nat.mul_one]
    have h := reading_mark (layM x) (finS p s l) g s.length p.skips w hu hfl (by omega) hk (marksS (bitsR (finS p s l)) (marksM x.rule x.cands.length))
      (fun wx hb => approval_any (layM x) (finS p s l) g s.length p.skips wx (hu.below hb hgl) hfl (by omega) hw hn)
    rw [hdb, hbit] at h
    have hb : ballotS x p.skips (markS p s l) = marksS (markS p s l) (marksM x.rule x.cands.length) := by unfold ballotS; rw [if_neg (by omega), if_pos hk]
    rw [hb]
    exact h
  · have hw : wideS x = 11 := wideS_score (by omega) hk
    have hn : s.length = x.cands.length * 11 := by rw [hlen]; unfold manyS; rw [hw]
    have h := reading_score (layM x) (finS p s l) g s.length p.skips w hu hfl (by omega) hk (scoresS (bitsR (finS p s l)) x.cands.length)
      (fun wx hb => scores_any (layM x) (finS p s l) g s.length p.skips wx (hu.below hb hgl) hfl hn hw (show x.cands.length ≤ 1000 by omega))
    rw [hdb, hbit] at h
    have hb : ballotS x p.skips (markS p s l) = scoresS (markS p s l) x.cands.length := by unfold ballotS; rw [if_neg (by omega), if_neg (by omega)]
    rw [hb]
    exact h

set_option maxRecDepth 100000 in
set_option maxHeartbeats 8000000 in
theorem readSheet_any (x : Ct) (p : Po) (s : List UInt8) (l : List De) (A : Option Addr) (c : Nat) (As : Option Addr) (cs : Nat) (Al : Option Addr) (cl : Nat) (w : World) (h : CtOk w A c x) (hs : Rf bv w w.heap.size As cs s) (hl : Rde w w.heap.size Al cl l) (hsl : s.length ≤ 1000000) (hll : l.length ≤ 1000000) (hT : Tab w) :
    Calls Tryd.prog 12 #[cv A c x, pov p, shv As cs s, .slice Al l.length cl] w (RgErr w (readS x p s l)) := by
  obtain ⟨wA, hwA⟩ : ∃ wA, wA = (((w.alloc (.cells (cvs A c x) 24)).alloc (.cells #[.int .u8 (p.low : Nat), .int .u8 (p.high : Nat), .int .i64 p.skips] 38)).alloc (.cells #[.slice As s.length cs] 27)).alloc (.cells #[.int .u8 0, .slice none 0 0, .int .i64 0, .slice none 0 0] 44) := ⟨_, rfl⟩
  have B0 := Lib.hid (show Below w.heap.size w wA from by rw [hwA]; exact (((below_new w _).alloc (by simp) _).alloc (by simp; omega) _).alloc (by simp; omega) _)
  have HC0 := Lib.hid (show Blk wA w.heap.size 24 (cvs A c x) from by rw [hwA]; exact (((Blk.new w _ _).alloc _).alloc _).alloc _)
  have HP0 := Lib.hid (show Blk wA (w.heap.size + 1) 38 #[.int .u8 (p.low : Nat), .int .u8 (p.high : Nat), .int .i64 p.skips] from by
    have h := Blk.new (w.alloc (.cells (cvs A c x) 24)) 38 #[.int .u8 (p.low : Nat), .int .u8 (p.high : Nat), .int .i64 p.skips]
    rw [World.size_alloc] at h
    rw [hwA]; exact (h.alloc _).alloc _)
  have HS0 := Lib.hid (show Blk wA (w.heap.size + 1 + 1) 27 #[.slice As s.length cs] from by
    have h := Blk.new ((w.alloc (.cells (cvs A c x) 24)).alloc (.cells #[.int .u8 (p.low : Nat), .int .u8 (p.high : Nat), .int .i64 p.skips] 38)) 27 #[.slice As s.length cs]
    rw [World.size_alloc, World.size_alloc] at h
    rw [hwA]; exact h.alloc _)
  have HR0 := Lib.hid (show Blk wA (w.heap.size + 1 + 1 + 1) 44 #[.int .u8 0, .slice none 0 0, .int .i64 0, .slice none 0 0] from by
    have h := Blk.new (((w.alloc (.cells (cvs A c x) 24)).alloc (.cells #[.int .u8 (p.low : Nat), .int .u8 (p.high : Nat), .int .i64 p.skips] 38)).alloc (.cells #[.slice As s.length cs] 27)) 44 #[.int .u8 0, .slice none 0 0, .int .i64 0, .slice none 0 0]
    rw [World.size_alloc, World.size_alloc, World.size_alloc] at h
    rw [hwA]; exact h)
  have HCK := Lib.hid (checkSh_any x A c s As cs wA (h.below B0.out) ((hs.below B0.out).more B0.out.size) hsl (hT.below (Nat.le_refl _) B0.out))
  have HMP := Lib.hid (fun wx => isPolicy_any p wx)
  have HST := Lib.hid (fun wx (hb : Below w.heap.size w wx) => statesOf_any p s As cs wx ((hs.below hb).more hb.size) hsl)
  have HDE := Lib.hid (fun g wx (hb : Below w.heap.size w wx) (hg : w.heap.size ≤ g) (hu : Hb zv wx g 88 (stS p s)) => decide_any (stS p s) l g s.length Al cl wx hu (by simp [stS]) hsl ((hl.below hb).more hg) hll)
  have HLA := Lib.hid (fun wx (hb : Below w.heap.size w wx) => layoutOf_any x A c wx (h.below hb) (hT.below (Nat.le_refl _) hb))
  clear h hs hl hT
  unfold cv shv at HCK
  unfold pov at HMP HST
  unfold shv at HST
  unfold cv at HLA
  unfold cvs at HC0 HCK hwA HLA
  unfold cv cvs pov shv
  by_cases h0 : checkS x s = 0
  case neg =>
    rcases checkS_three x s h0 with h4 | h4
    all_goals
      have HE := Lib.hid h4
      have HQ := Lib.hid (readS_p1 (p := p) (l := l) h0)
      rw [h4] at HQ
      clear h0 h4
      go_enter Tryd.func12, Tryd.ntmps12
      go_wp2_with fail
      rw [← hwA]
      refine HCK.out.mono ?_
      rintro e w1 ⟨rfl, hb1⟩
      rw [HE.out]
      have B1 := Lib.hid (B0.out.trans (hb1.mono B0.out.size))
      have HR1 := Lib.hid (HR0.out.below hb1 HR0.out.lt)
      clear hb1 hwA
      go_wp2_with ((with_reducible refine wpList_store_rg rfl (.tmp 8) (.tmp 19) rfl (w.heap.size + 1 + 1 + 1) rfl HR1.out rfl none 0 none 0 zeroRg rfl ?_); intro wE hbE hgE)
      refine rg_ret2 (g := w.heap.size + 1 + 1 + 1) rfl rfl hbE rfl ⟨none, 0, none, 0, zeroRg, _, rfl, HQ.out.symm, Ow.nil _ _ _, Ow.nil _ _ _, (fun k e => by cases e), B1.out.grown hgE B1.out.size (fun k e => by cases e; omega)⟩
  have HE := Lib.hid h0
  cases hm : mayP p with
  | false =>
    have HM := Lib.hid hm
    have HQ := Lib.hid (readS_p2 (l := l) h0 hm)
    clear h0 hm
    go_enter Tryd.func12, Tryd.ntmps12
    go_wp2_with fail
    rw [← hwA]
    refine HCK.out.mono ?_
    rintro e w1 ⟨rfl, hb1⟩
    rw [HE.out]
    have B1 := Lib.hid (B0.out.trans (hb1.mono B0.out.size))
    have HP1 := Lib.hid (HP0.out.below hb1 HP0.out.lt)
    have HR1 := Lib.hid (HR0.out.below hb1 HR0.out.lt)
    have p0 : w1.cell? ⟨w.heap.size + 1, 0, none⟩ = some (.int .u8 (p.low : Nat)) := HP1.out.cell 0
    have p1 : w1.cell? ⟨w.heap.size + 1, 1, none⟩ = some (.int .u8 (p.high : Nat)) := HP1.out.cell 1
    have p2 : w1.cell? ⟨w.heap.size + 1, 2, none⟩ = some (.int .i64 p.skips) := HP1.out.cell 2
    clear hb1 hwA
    go_wp2_with fail
    refine (HMP.out _).mono ?_
    rintro e w2 ⟨rfl, hb2⟩
    rw [HM.out]
    have B2 := Lib.hid (B1.out.trans (hb2.mono B1.out.size))
    have HR2 := Lib.hid (HR1.out.below hb2 HR1.out.lt)
    clear hb2 p0 p1 p2
    go_wp2_with ((with_reducible refine wpList_store_rg rfl (.tmp 8) (.tmp 24) rfl (w.heap.size + 1 + 1 + 1) rfl HR2.out rfl none 0 none 0 zeroRg rfl ?_); intro wE hbE hgE)
    refine rg_ret2 (g := w.heap.size + 1 + 1 + 1) rfl rfl hbE rfl ⟨none, 0, none, 0, zeroRg, _, rfl, HQ.out.symm, Ow.nil _ _ _, Ow.nil _ _ _, (fun k e => by cases e), B2.out.grown hgE B2.out.size (fun k e => by cases e; omega)⟩
  | true =>
  have HM := Lib.hid hm
  by_cases h3 : s.length < l.length
  case pos =>
    have h3d : decide ((s.length : Int) < (l.length : Int)) = true := by simp; omega
    have HQ := Lib.hid (readS_p3 h0 hm h3)
    clear h0 hm
    go_enter Tryd.func12, Tryd.ntmps12
    go_wp2_with fail
    rw [← hwA]
    refine HCK.out.mono ?_
    rintro e w1 ⟨rfl, hb1⟩
    rw [HE.out]
    have B1 := Lib.hid (B0.out.trans (hb1.mono B0.out.size))
    have HP1 := Lib.hid (HP0.out.below hb1 HP0.out.lt)
    have HS1 := Lib.hid (HS0.out.below hb1 HS0.out.lt)
    have HR1 := Lib.hid (HR0.out.below hb1 HR0.out.lt)
    have p0 : w1.cell? ⟨w.heap.size + 1, 0, none⟩ = some (.int .u8 (p.low : Nat)) := HP1.out.cell 0
    have p1 : w1.cell? ⟨w.heap.size + 1, 1, none⟩ = some (.int .u8 (p.high : Nat)) := HP1.out.cell 1
    have p2 : w1.cell? ⟨w.heap.size + 1, 2, none⟩ = some (.int .i64 p.skips) := HP1.out.cell 2
    clear hb1 hwA
    go_wp2_with fail
    refine (HMP.out _).mono ?_
    rintro e w2 ⟨rfl, hb2⟩
    rw [HM.out]
    have B2 := Lib.hid (B1.out.trans (hb2.mono B1.out.size))
    have HR2 := Lib.hid (HR1.out.below hb2 HR1.out.lt)
    have s0 : w2.cell? ⟨w.heap.size + 1 + 1, 0, none⟩ = some (.slice As s.length cs) := (HS1.out.below hb2 HS1.out.lt).cell 0
    clear hb2 p0 p1 p2
    go_wp2_with ((with_reducible refine wpList_store_rg rfl (.tmp 8) (.tmp 31) rfl (w.heap.size + 1 + 1 + 1) rfl HR2.out rfl none 0 none 0 zeroRg rfl ?_); intro wE hbE hgE)
    refine rg_ret2 (g := w.heap.size + 1 + 1 + 1) rfl rfl hbE rfl ⟨none, 0, none, 0, zeroRg, _, rfl, HQ.out.symm, Ow.nil _ _ _, Ow.nil _ _ _, (fun k e => by cases e), B2.out.grown hgE B2.out.size (fun k e => by cases e; omega)⟩
  have h3d : decide ((s.length : Int) < (l.length : Int)) = false := by simp; omega
  have HQB := Lib.hid (fun (h4 : decsS p s l = false) => readS_p4 h0 hm h3 h4)
  have HQG := Lib.hid (fun (h4 : decsS p s l = true) => readS_p5 h0 hm h3 h4)
  have HRD := Lib.hid (fun g wx hu => readingS_any x p s l g wx h0 hm hu)
  have HDC := Lib.hid (decC_is p s l)
  have HLE := Lib.hid (show layE x = (layM x, 0) by unfold layE; rw [if_pos (checkS_ok.1 h0).1])
  unfold ppv pps layM at HRD
  simp only at HRD
  clear h0 hm
  go_enter Tryd.func12, Tryd.ntmps12
  go_wp2_with fail
  rw [← hwA]
  refine HCK.out.mono ?_
  rintro e w1 ⟨rfl, hb1⟩
  rw [HE.out]
  have B1 := Lib.hid (B0.out.trans (hb1.mono B0.out.size))
  have HC1 := Lib.hid (HC0.out.below hb1 HC0.out.lt)
  have HP1 := Lib.hid (HP0.out.below hb1 HP0.out.lt)
  have HS1 := Lib.hid (HS0.out.below hb1 HS0.out.lt)
  have HR1 := Lib.hid (HR0.out.below hb1 HR0.out.lt)
  have p0 : w1.cell? ⟨w.heap.size + 1, 0, none⟩ = some (.int .u8 (p.low : Nat)) := HP1.out.cell 0
  have p1 : w1.cell? ⟨w.heap.size + 1, 1, none⟩ = some (.int .u8 (p.high : Nat)) := HP1.out.cell 1
  have p2 : w1.cell? ⟨w.heap.size + 1, 2, none⟩ = some (.int .i64 p.skips) := HP1.out.cell 2
  clear hb1 hwA
  go_wp2_with fail
  refine (HMP.out _).mono ?_
  rintro e w2 ⟨rfl, hb2⟩
  rw [HM.out]
  have B2 := Lib.hid (B1.out.trans (hb2.mono B1.out.size))
  have HC2 := Lib.hid (HC1.out.below hb2 HC1.out.lt)
  have HP2 := Lib.hid (HP1.out.below hb2 HP1.out.lt)
  have HS2 := Lib.hid (HS1.out.below hb2 HS1.out.lt)
  have HR2 := Lib.hid (HR1.out.below hb2 HR1.out.lt)
  have s0 : w2.cell? ⟨w.heap.size + 1 + 1, 0, none⟩ = some (.slice As s.length cs) := HS2.out.cell 0
  have q0 : w2.cell? ⟨w.heap.size + 1, 0, none⟩ = some (.int .u8 (p.low : Nat)) := HP2.out.cell 0
  have q1 : w2.cell? ⟨w.heap.size + 1, 1, none⟩ = some (.int .u8 (p.high : Nat)) := HP2.out.cell 1
  have q2 : w2.cell? ⟨w.heap.size + 1, 2, none⟩ = some (.int .i64 p.skips) := HP2.out.cell 2
  clear hb2 p0 p1 p2
  go_wp2_with fail
  refine (HST.out w2 B2.out).mono ?_
  rintro e w3 ⟨g, rfl, hg, hu3, hb3⟩
  have B3 := Lib.hid (B2.out.trans (hb3.mono B2.out.size))
  have HC3 := Lib.hid (HC2.out.below hb3 HC2.out.lt)
  have HP3 := Lib.hid (HP2.out.below hb3 HP2.out.lt)
  have HR3 := Lib.hid (HR2.out.below hb3 HR2.out.lt)
  have HU3 := Lib.hid hu3
  have hgw : w.heap.size ≤ g := Nat.le_trans B2.out.size hg
  have hgr : w.heap.size + 1 + 1 + 1 < g := by have := HR2.out.lt; omega
  clear hb3 hu3 s0 q0 q1 q2
  go_wp2_with fail
  refine (HDE.out g w3 B3.out hgw HU3.out).mono ?_
  rintro e w4 ⟨b, rfl, hb4, hres⟩
  have B4 := Lib.hid (B3.out.trans (hb4.mono hgw))
  have HC4 := Lib.hid (HC3.out.below hb4 (by omega))
  have HP4 := Lib.hid (HP3.out.below hb4 (by omega))
  have HR4 := Lib.hid (HR3.out.below hb4 (by omega))
  rw [HDC.out] at hres
  clear hb4
  cases hd : decsS p s l with
  | false =>
    rw [hd] at hres
    have hbf : b = false := by
      rcases hres with ⟨_, rfl⟩ | ⟨M, hM, _⟩
      · rfl
      · cases hM
    have HQ := Lib.hid (HQB.out hd)
    subst hbf
    clear hres hd
    go_wp2_with ((with_reducible refine wpList_store_rg rfl (.tmp 8) (.tmp 39) rfl (w.heap.size + 1 + 1 + 1) rfl HR4.out rfl none 0 none 0 zeroRg rfl ?_); intro wE hbE hgE)
    refine rg_ret2 (g := w.heap.size + 1 + 1 + 1) rfl rfl hbE rfl ⟨none, 0, none, 0, zeroRg, _, rfl, HQ.out.symm, Ow.nil _ _ _, Ow.nil _ _ _, (fun k e => by cases e), B4.out.grown hgE B4.out.size (fun k e => by cases e; omega)⟩
  | true =>
    rw [hd] at hres
    obtain ⟨hbt, HU4⟩ : b = true ∧ Hid (Hb zv w4 g 88 (finS p s l)) := by
      rcases hres with ⟨hN, _⟩ | ⟨M, hM, rfl, hu⟩
      · cases hN
      · rw [if_pos rfl] at hM
        rw [Option.some.inj hM]
        exact ⟨rfl, hu⟩
    have HQ := Lib.hid (HQG.out hd)
    subst hbt
    clear hres hd
    have c0 : w4.cell? ⟨w.heap.size, 0, none⟩ = some (.string ⟨x.name.toArray⟩) := HC4.out.cell 0
    have c1 : w4.cell? ⟨w.heap.size, 1, none⟩ = some (.slice A x.cands.length c) := HC4.out.cell 1
    have c2 : w4.cell? ⟨w.heap.size, 2, none⟩ = some (.int .i64 x.seats) := HC4.out.cell 2
    have c3 : w4.cell? ⟨w.heap.size, 3, none⟩ = some (.int .u8 x.rule) := HC4.out.cell 3
    go_wp2_with fail
    refine (HLA.out w4 B4.out).mono ?_
    rintro e w5 ⟨rfl, hb5⟩
    rw [HLE.out]
    have B5 := Lib.hid (B4.out.trans (hb5.mono B4.out.size))
    have HP5 := Lib.hid (HP4.out.below hb5 HP4.out.lt)
    have HR5 := Lib.hid (HR4.out.below hb5 HR4.out.lt)
    have HU5 := Lib.hid (HU4.out.below hb5 HU4.out.lt)
    have q2 : (w5.alloc (.cells #[.int .u8 (kindM x.rule : Nat), .int .i64 (marksM x.rule x.cands.length), .int .i64 (x.cands.length : Nat), .int .i64 (wideS x : Nat)] 57)).cell? ⟨w.heap.size + 1, 2, none⟩ = some (.int .i64 p.skips) := (HP5.out.alloc _).cell 2
    obtain ⟨w6, hw6⟩ : ∃ w6, w6 = w5.alloc (.cells #[.int .u8 (kindM x.rule : Nat), .int .i64 (marksM x.rule x.cands.length), .int .i64 (x.cands.length : Nat), .int .i64 (wideS x : Nat)] 57) := ⟨_, rfl⟩
    have B6 := Lib.hid (show Below w.heap.size w w6 from by rw [hw6]; exact B5.out.alloc B5.out.size _)
    have HR6 := Lib.hid (show Blk w6 (w.heap.size + 1 + 1 + 1) 44 #[.int .u8 0, .slice none 0 0, .int .i64 0, .slice none 0 0] from by rw [hw6]; exact HR5.out.alloc _)
    have HU6 := Lib.hid (show Hb zv w6 g 88 (finS p s l) from by rw [hw6]; exact HU5.out.alloc _)
    have HW6 := Lib.hid hw6
    clear hb5 c0 c1 c2 c3 hw6
    unfold lyv lys layM
    simp only
    go_wp2_with fail
    rw [← HW6.out]
    refine (HRD.out g w6 HU6.out).mono ?_
    rintro e w7 ⟨A7, c7, Ad7, cd7, x7, rfl, hx7, ho7, hod7, hap7, hb7⟩
    have HX := Lib.hid hx7
    have HO7 := Lib.hid ho7
    have HOD7 := Lib.hid hod7
    have HAP := Lib.hid hap7
    have B7 := Lib.hid (B6.out.trans (hb7.mono B6.out.size))
    have HR7 := Lib.hid (HR6.out.below hb7 HR6.out.lt)
    have h6 := HR6.out.lt
    clear hx7 ho7 hod7 hap7 hb7 q2
    go_wp2_with ((with_reducible refine wpList_store_rg rfl (.tmp 8) (.tmp 50) rfl (w.heap.size + 1 + 1 + 1) rfl HR7.out rfl A7 c7 Ad7 cd7 x7 rfl ?_); intro w8 hb8 hg8)
    have ap : ∀ (a : Option Addr), (∀ k, blk a = some k → w6.heap.size ≤ k) → blk a = none ∨ blk a ≠ some (w.heap.size + 1 + 1 + 1) := fun a ha => by
      cases e : blk a with
      | none => exact .inl rfl
      | some k => exact .inr (fun e2 => by have := ha k e; have := Option.some.inj e2; omega)
    have hO8 := HO7.out.kept hg8 (ap A7 (fun k e => (HO7.out.blk_ge k e).1))
    have hD8 := HOD7.out.kept hg8 (ap Ad7 (fun k e => (HOD7.out.blk_ge k e).1))
    refine rg_ret2 (g := w.heap.size + 1 + 1 + 1) rfl rfl hb8 rfl ⟨A7, c7, Ad7, cd7, x7, _, rfl, ?_, hO8.lower B6.out.size, hD8.lower B6.out.size, HAP.out, B7.out.grown hg8 B7.out.size (fun k e => by cases e; omega)⟩
    rw [HQ.out, ← HX.out]

/-- **What sheet's calls answer.** -/
theorem con25 : Con25 Tab where
  keep := fun h hb => h.below (Nat.le_refl _) hb
  boxes := fun x A c w hc hT => boxes_any x A c w hc.ok hT
  check := fun x A c s As cs w hc hs hsl hT => checkSh_any x A c s As cs w hc.ok hs hsl hT
  read := fun x p s l A c As cs Al cl w hc hs hl hsl hll hT => readSheet_any x p s l A c As cs Al cl w hc.ok hs hl hsl hll hT
end Go.Proofs.YtejphpcngbjgjaaDoor
