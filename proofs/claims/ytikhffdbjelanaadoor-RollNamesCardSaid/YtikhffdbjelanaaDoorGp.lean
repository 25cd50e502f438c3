/- roll's Add. roll's Count. roll's Bytes. roll's Read. What roll's eleven calls answer. -/
import Derived.Test.YtikhffdbjelanaaDoorGo
import Derived.Test.YtikhffdbjelanaaDoorGd
import Derived.Test.YtikhffdbjelanaaDoorGh
import Derived.Test.YtikhffdbjelanaaDoorGc
namespace Go.Proofs.YtikhffdbjelanaaDoor
open Go.RowKit
set_option linter.unusedVariables false

theorem newV_state (n : List UInt8) (p : Int) : (newV n p).state = 1 := rfl

set_option maxRecDepth 100000 in
set_option maxHeartbeats 4000000 in
theorem addV_any (l : List Vt) (n : List UInt8) (p : Int) (A : Option Addr) (c : Nat) (w : World) (hr : Rvt w w.heap.size A c l) (hok : VtOk l) (hn : n.length ≤ 100000) (hT : Tab w) :
    Calls Tryd.prog 12 #[.slice A l.length c, .string ⟨n.toArray⟩, .int .i64 p] w (VtsErr w (addV l n p)) := by
  have HK := Lib.hid (checkV_any l A c w hr hok.long hT)
  by_cases h0 : checkV l = 0
  case neg =>
    rcases ne_zero_cases h0 with h4 | h4
    all_goals
      have HE := Lib.hid h4
      have HQ := Lib.hid (show addV l n p = ([], checkV l) by unfold addV; rw [if_pos h0])
      rw [h4] at HQ
      clear h0 h4 hr hok hn hT
      go_enter Tryd.func12, Tryd.ntmps12
      go_wp2_with fail
      refine HK.out.mono ?_
      rintro e w1 ⟨rfl, hb⟩
      rw [HE.out]
      have B1 := Lib.hid hb
      clear hb
      go_wp2_with fail
      go_ret2
      exact vtsErr_none HQ.out B1.out
  have hl : l.length ≤ 64 := (checkV_ok.1 h0).1
  have HE := Lib.hid h0
  have hasc := checkV_asc h0
  have HIV := Lib.hid (fun wx (hb : Below w.heap.size w wx) => isVoter_any (newV n p) wx (show n.length ≤ 4000000000 by omega) (hT.below (Nat.le_refl _) hb))
  unfold vv vvs at HIV
  have HPO := Lib.hid (fun wx (hb : Below w.heap.size w wx) => position_any l n A c wx ((hr.below hb).more hb.size) (by omega))
  have HTW := Lib.hid (fun wx (hb : Below w.heap.size w wx) => twins_any l A c wx ((hr.below hb).more hb.size) (by omega) hok.long)
  have HTN := Lib.hid (fun wx => rtwin_any (newV n p) wx (show n.length ≤ 4000000000 by omega))
  unfold vv vvs at HTN
  have HBX := Lib.hid (fun (w1 : World) => Blk.new w1 30 #[.string ⟨#[]⟩, .int .i64 0, .int .u8 0])
  clear hr hok hn hT
  cases hm : mayV (newV n p) with
  | false =>
    have HQ := Lib.hid (show addV l n p = ([], 2) by unfold addV; rw [if_neg (by omega), if_pos hm])
    have HM := Lib.hid hm
    clear h0 hm hasc
    go_enter Tryd.func12, Tryd.ntmps12
    go_wp2_with fail
    refine HK.out.mono ?_
    rintro e w1 ⟨rfl, hb⟩
    rw [HE.out]
    have B1 := Lib.hid hb
    have HBN := Lib.hid (HBX.out w1)
    clear hb
    go_wp2_with ((with_reducible refine wpList_store_vt rfl (.tmp 9) (.tmp 19) rfl w1.heap.size rfl HBN.out rfl (x := newV n p) rfl ?_); intro w2 hb2 hg2; obtain ⟨c1, c2, c3⟩ := vt_cells hb2)
    have B2 := Lib.hid ((B1.out.alloc B1.out.size (.cells #[.string ⟨#[]⟩, .int .i64 0, .int .u8 0] 30)).grown hg2 (by have := B1.out.size; simp; omega) (fun k e => by cases e; exact B1.out.size))
    have HB2 := Lib.hid hb2
    clear hb2 hg2
    refine (HIV.out _ B2.out).mono ?_
    rintro e w3 ⟨rfl, hb3⟩
    rw [HM.out]
    have B3 := Lib.hid (B2.out.trans (hb3.mono B2.out.size))
    have HB3 := Lib.hid (HB2.out.below hb3 HB2.out.lt)
    clear hb3 c1 c2 c3
    go_wp2_with fail
    go_ret2
    exact vtsErr_none HQ.out B3.out
  | true =>
    have HM := Lib.hid hm
    cases hf : foundV l n with
    | true =>
      have ⟨h1, h2⟩ := foundV_some hasc hf
      have HQ := Lib.hid (show addV l n p = ([], 240) by unfold addV; rw [if_neg (by omega), if_neg (by rw [hm]; simp), if_pos (by rw [h1]; rfl)])
      have HF := Lib.hid hf
      clear h0 hm hasc h1 h2 hf
      go_enter Tryd.func12, Tryd.ntmps12
      go_wp2_with fail
      refine HK.out.mono ?_
      rintro e w1 ⟨rfl, hb⟩
      rw [HE.out]
      have B1 := Lib.hid hb
      have HBN := Lib.hid (HBX.out w1)
      clear hb
      go_wp2_with ((with_reducible refine wpList_store_vt rfl (.tmp 9) (.tmp 19) rfl w1.heap.size rfl HBN.out rfl (x := newV n p) rfl ?_); intro w2 hb2 hg2; obtain ⟨c1, c2, c3⟩ := vt_cells hb2)
      have B2 := Lib.hid ((B1.out.alloc B1.out.size (.cells #[.string ⟨#[]⟩, .int .i64 0, .int .u8 0] 30)).grown hg2 (by have := B1.out.size; simp; omega) (fun k e => by cases e; exact B1.out.size))
      have HB2 := Lib.hid hb2
      clear hb2 hg2
      refine (HIV.out _ B2.out).mono ?_
      rintro e w3 ⟨rfl, hb3⟩
      rw [HM.out]
      have B3 := Lib.hid (B2.out.trans (hb3.mono B2.out.size))
      have HB3 := Lib.hid (HB2.out.below hb3 HB2.out.lt)
      clear hb3 c1 c2 c3
      go_wp2_with fail
      refine (HPO.out _ B3.out).mono ?_
      rintro e w4 ⟨rfl, hb4⟩
      rw [HF.out]
      have B4 := Lib.hid (B3.out.trans (hb4.mono B3.out.size))
      have HB4 := Lib.hid (HB3.out.below hb4 HB3.out.lt)
      clear hb4
      go_wp2_with fail
      go_ret2
      exact vtsErr_none HQ.out B4.out
    | false =>
      have h1 := foundV_none hasc hf
      have HF := Lib.hid hf
      by_cases h64 : l.length = 64
      · have h64i : (l.length : Int) = 64 := by omega
        have HQ := Lib.hid (show addV l n p = ([], 9) by unfold addV; rw [if_neg (by omega), if_neg (by rw [hm]; simp), if_neg (by rw [h1]; simp), if_pos (by omega)])
        clear h0 hm hasc h1 hf h64
        go_enter Tryd.func12, Tryd.ntmps12
        go_wp2_with fail
        refine HK.out.mono ?_
        rintro e w1 ⟨rfl, hb⟩
        rw [HE.out]
        have B1 := Lib.hid hb
        have HBN := Lib.hid (HBX.out w1)
        clear hb
        go_wp2_with ((with_reducible refine wpList_store_vt rfl (.tmp 9) (.tmp 19) rfl w1.heap.size rfl HBN.out rfl (x := newV n p) rfl ?_); intro w2 hb2 hg2; obtain ⟨c1, c2, c3⟩ := vt_cells hb2)
        have B2 := Lib.hid ((B1.out.alloc B1.out.size (.cells #[.string ⟨#[]⟩, .int .i64 0, .int .u8 0] 30)).grown hg2 (by have := B1.out.size; simp; omega) (fun k e => by cases e; exact B1.out.size))
        have HB2 := Lib.hid hb2
        clear hb2 hg2
        refine (HIV.out _ B2.out).mono ?_
        rintro e w3 ⟨rfl, hb3⟩
        rw [HM.out]
        have B3 := Lib.hid (B2.out.trans (hb3.mono B2.out.size))
        have HB3 := Lib.hid (HB2.out.below hb3 HB2.out.lt)
        clear hb3 c1 c2 c3
        go_wp2_with fail
        refine (HPO.out _ B3.out).mono ?_
        rintro e w4 ⟨rfl, hb4⟩
        rw [HF.out]
        have B4 := Lib.hid (B3.out.trans (hb4.mono B3.out.size))
        have HB4 := Lib.hid (HB3.out.below hb4 HB3.out.lt)
        clear hb4
        go_wp2_with fail
        go_ret2
        exact vtsErr_none HQ.out B4.out
      · have h64i : ¬ (l.length : Int) = 64 := by omega
        have HQ := Lib.hid (show addV l n p = (insV l (newV n p), 0) by unfold addV; rw [if_neg (by omega), if_neg (by rw [hm]; simp), if_neg (by rw [h1]; simp), if_neg (by omega)])
        have HIN := Lib.hid (show insV l (newV n p) = l.take (posV l n) ++ newV n p :: l.drop (posV l n) from insV_pos (v := newV n p) hasc hf)
        have HPL := Lib.hid (posV_le l n)
        clear h0 hm hasc h1 hf h64
        go_enter Tryd.func12, Tryd.ntmps12
        go_wp2_with fail
        refine HK.out.mono ?_
        rintro e w1 ⟨rfl, hb⟩
        rw [HE.out]
        have B1 := Lib.hid hb
        have HBN := Lib.hid (HBX.out w1)
        clear hb
        go_wp2_with ((with_reducible refine wpList_store_vt rfl (.tmp 9) (.tmp 19) rfl w1.heap.size rfl HBN.out rfl (x := newV n p) rfl ?_); intro w2 hb2 hg2; obtain ⟨c1, c2, c3⟩ := vt_cells hb2)
        have B2 := Lib.hid ((B1.out.alloc B1.out.size (.cells #[.string ⟨#[]⟩, .int .i64 0, .int .u8 0] 30)).grown hg2 (by have := B1.out.size; simp; omega) (fun k e => by cases e; exact B1.out.size))
        have HB2 := Lib.hid hb2
        clear hb2 hg2
        refine (HIV.out _ B2.out).mono ?_
        rintro e w3 ⟨rfl, hb3⟩
        rw [HM.out]
        have B3 := Lib.hid (B2.out.trans (hb3.mono B2.out.size))
        have HB3 := Lib.hid (HB2.out.below hb3 HB2.out.lt)
        clear hb3 c1 c2 c3
        go_wp2_with fail
        refine (HPO.out _ B3.out).mono ?_
        rintro e w4 ⟨rfl, hb4⟩
        rw [HF.out]
        have B4 := Lib.hid (B3.out.trans (hb4.mono B3.out.size))
        have HB4 := Lib.hid (HB3.out.below hb4 HB3.out.lt)
        clear hb4
        go_wp2_with fail
        have HS4 := Lib.hid (show ∀ wx, Below w4.heap.size w4 wx → (wx.cell? ⟨w1.heap.size, 0, none⟩ = some (.string ⟨(newV n p).name.toArray⟩) ∧ wx.cell? ⟨w1.heap.size, 1, none⟩ = some (.int .i64 (newV n p).pre) ∧ wx.cell? ⟨w1.heap.size, 2, none⟩ = some (.int .u8 ((newV n p).state : Nat))) from fun wx hb => vt_cells (HB4.out.below hb HB4.out.lt))
        have hS4 := HS4.out _ (Below.refl _ w4).drew
        go_region_held3 (fun w' => (w'.cell? ⟨w1.heap.size, 0, none⟩ = some (.string ⟨(newV n p).name.toArray⟩) ∧ w'.cell? ⟨w1.heap.size, 1, none⟩ = some (.int .i64 (newV n p).pre) ∧ w'.cell? ⟨w1.heap.size, 2, none⟩ = some (.int .u8 ((newV n p).state : Nat)))) (first | exact hS4 | exact hS5 | exact hS6 | exact hS7 | exact hS8) (first
          | (go_simp; go_at_call 39; refine (HTW.out _ B4.out.drew).mono ?_; rintro e w5 ⟨rfl, ho5, hb5⟩; have HO5 := Lib.hid (ho5.rd vl_len); have BB5 := Lib.hid ((Below.refl w4.heap.size w4).drew.trans hb5); have hS5 := HS4.out _ BB5.out; clear ho5 hb5)
          | (go_simp; go_at_call 40; refine (HTN.out _).mono ?_; rintro e w6 ⟨rfl, hb6⟩; have HO6 := Lib.hid ((HO5.out.below hb6).more hb6.size); have BB6 := Lib.hid (BB5.out.trans (hb6.mono BB5.out.size)); have hS6 := HS4.out _ BB6.out; have BB7 := Lib.hid (BB6.out.alloc BB6.out.size (.cells #[.string ⟨(newV n p).name.toArray⟩, .int .i64 (newV n p).pre, .int .u8 ((newV n p).state : Nat)] 30)); have hS7 := HS4.out _ BB7.out; clear hb6)
          | (go_simp; go_at_call 38; refine (insert_any l (newV n p) (posV l n) _ w6.heap.size _ HPL.out (by omega) ((HO6.out.alloc (Nat.le_refl _) _).more (by simp)) ((rk_one w6 vl_len (newV n p) _ rfl _).more (by simp))).mono ?_; rintro e w8 ⟨c8, r8, rfl, hr8, ho8, hb8⟩; have HR8 := Lib.hid hr8; have HO8 := Lib.hid (show OwV w8 (w6.heap.size + 1) (some ⟨w6.heap.size + 1, 0, none⟩) c8 r8 from by simpa using ho8); have BB8 := Lib.hid (BB7.out.trans (hb8.mono BB7.out.size)); have hS8 := HS4.out _ BB8.out; clear ho8 hb8 hr8))
        go_wp2_with fail
        go_ret2
        refine ⟨some ⟨w6.heap.size + 1, 0, none⟩, c8, r8, 0, by first | rfl | simp, by rw [HQ.out, HR8.out, HIN.out], HO8.out.lower ?_, B4.out.trans (BB8.out.mono B4.out.size)⟩
        have h1 := B4.out.size
        have h2 := BB6.out.size
        omega
end Go.Proofs.YtikhffdbjelanaaDoor
namespace Go.Proofs.YtikhffdbjelanaaDoor
open Go.RowKit
set_option linter.unusedVariables false

/-- How many of the voters at the front are counted in state s. -/
def numV (l : List Vt) (p : Int) (s : Nat) : Nat := l.countP fun v => decide (v.state = s) && (decide (p = -1) || decide (p = v.pre))
theorem numV_many {l : List Vt} {p : Int} (h : ¬ (p < -1 ∨ 8 ≤ p)) (s : Nat) : numV l p s = manyV l p s := by
  unfold numV manyV
  refine List.countP_congr fun v _ => ?_
  have e1 : decide (p = -1) = decide (p < 0) := by
    by_cases h1 : p = -1
    · rw [decide_eq_true h1, decide_eq_true (by omega)]
    · rw [decide_eq_false h1, decide_eq_false (by omega)]
  have e2 : decide (p = v.pre) = decide (v.pre = p) := by
    by_cases h1 : p = v.pre
    · rw [decide_eq_true h1, decide_eq_true h1.symm]
    · rw [decide_eq_false h1, decide_eq_false (fun e => h1 e.symm)]
  rw [e1, e2]
theorem numV_take (l : List Vt) (p : Int) (s k : Nat) (h : k < l.length) : numV (l.take (k + 1)) p s = numV (l.take k) p s + if l[k].state = s ∧ (p = -1 ∨ p = l[k].pre) then 1 else 0 := by
  unfold numV
  rw [List.take_succ_eq_append_getElem h, List.countP_append]
  congr 1
  simp [List.countP_cons]
/-- The five counters. -/
def cntC (l : List Vt) (p : Int) : List Value := [.int .i64 (numV l p 0 : Nat), .int .i64 (numV l p 1 : Nat), .int .i64 (numV l p 2 : Nat), .int .i64 (numV l p 3 : Nat), .int .i64 (numV l p 4 : Nat)]

theorem cntC_get (l : List Vt) (p : Int) {s : Nat} (h : s ≤ 4) : (cntC l p).toArray[s]? = some (.int .i64 (numV l p s : Nat)) := by
  match s, h with
  | 0, _ => rfl
  | 1, _ => rfl
  | 2, _ => rfl
  | 3, _ => rfl
  | 4, _ => rfl
theorem cntC_step (l : List Vt) (p : Int) (k : Nat) (h : k < l.length) (hs : l[k].state ≤ 4) (hc : p = -1 ∨ p = l[k].pre) :
    (cntC (l.take k) p).toArray.setIfInBounds l[k].state (.int .i64 ((numV (l.take k) p l[k].state : Nat) + 1)) = (cntC (l.take (k + 1)) p).toArray := by
  unfold cntC
  simp only [numV_take l p _ k h]
  generalize l[k].state = s at hs ⊢
  have hc' : ∀ i : Nat, (s = i ∧ (p = -1 ∨ p = l[k].pre)) ↔ s = i := fun i => ⟨fun h => h.1, fun h => ⟨h, hc⟩⟩
  simp only [hc']
  match s, hs with
  | 0, _ => simp
  | 1, _ => simp
  | 2, _ => simp
  | 3, _ => simp
  | 4, _ => simp
theorem cntC_stay (l : List Vt) (p : Int) (k : Nat) (h : k < l.length) (hc : ¬ (p = -1 ∨ p = l[k].pre)) : cntC (l.take k) p = cntC (l.take (k + 1)) p := by
  unfold cntC
  simp [numV_take l p _ k h, hc]
theorem numV_le (l : List Vt) (p : Int) (s : Nat) : numV l p s ≤ l.length := List.countP_le_length

set_option maxRecDepth 100000 in
set_option maxHeartbeats 4000000 in
theorem countV_any (l : List Vt) (p : Int) (A : Option Addr) (c : Nat) (w : World) (hr : Rvt w w.heap.size A c l) (hok : VtOk l) (hT : Tab w) :
    Calls Tryd.prog 18 #[.slice A l.length c, .int .i64 p] w (ToErr w (countV l p)) := by
  have HB0 := Lib.hid (show Blk (w.alloc (.cells #[.int .i64 0, .int .i64 0, .int .i64 0, .int .i64 0] 34)) w.heap.size 34 #[.int .i64 0, .int .i64 0, .int .i64 0, .int .i64 0] from Blk.new w _ _)
  have B0 := Lib.hid (below_new w (.cells #[.int .i64 0, .int .i64 0, .int .i64 0, .int .i64 0] 34))
  have HK := Lib.hid (fun wx (hb : Below w.heap.size w wx) => checkV_any l A c wx ((hr.below hb).more hb.size) hok.long (hT.below (Nat.le_refl _) hb))
  by_cases h0 : checkV l = 0
  case neg =>
    rcases ne_zero_cases h0 with h4 | h4
    all_goals
      have HE := Lib.hid h4
      have HQ := Lib.hid (countV_bad (p := p) h0)
      rw [h4] at HQ
      clear h0 h4 hr hok hT
      go_enter Tryd.func18, Tryd.ntmps18
      go_wp2_with fail
      refine (HK.out _ B0.out).mono ?_
      rintro e w1 ⟨rfl, hb⟩
      rw [HE.out]
      have B1 := Lib.hid (B0.out.trans (hb.mono B0.out.size))
      have HB1 := Lib.hid (HB0.out.below hb HB0.out.lt)
      clear hb
      go_wp2_with ((with_reducible refine wpList_store_to rfl (.tmp 4) (.tmp 14) rfl w.heap.size rfl HB1.out rfl (x := zeroT) rfl ?_); intro w2 hb2 hg2)
      refine to_ret2 (g := w.heap.size) rfl rfl hb2 rfl ⟨zeroT, _, rfl, HQ.out.symm, B1.out.grown hg2 B1.out.size (fun k e => by cases e; exact Nat.le_refl _)⟩
  have hl : l.length ≤ 64 := (checkV_ok.1 h0).1
  have hm := ((rowV_iff l).1 (checkV_ok.1 h0).2).1
  have HE := Lib.hid h0
  by_cases h1 : p = -1
  · subst h1
    have HQ := Lib.hid (countV_yes (p := -1) h0 (by omega))
    have HNM := Lib.hid (fun (s : Nat) => numV_many (l := l) (p := -1) (by omega) s)
    have HR := Lib.hid hr
    have HMV := Lib.hid hm
    clear h0 hr hok hT hm
    go_enter Tryd.func18, Tryd.ntmps18
    go_wp2_with fail
    refine (HK.out _ B0.out).mono ?_
    rintro e w1 ⟨rfl, hb⟩
    rw [HE.out]
    have B1 := Lib.hid (B0.out.trans (hb.mono B0.out.size))
    have HB1 := Lib.hid (HB0.out.below hb HB0.out.lt)
    clear hb
    go_wp2_with fail
    obtain ⟨gm, hgm⟩ : ∃ gm, gm = w1.heap.size := ⟨_, rfl⟩
    have hgw : w.heap.size < gm := by rw [hgm]; exact HB1.out.lt
    have HM0 := Lib.hid (show Blk (w1.alloc (.cells #[.int .i64 0, .int .i64 0, .int .i64 0, .int .i64 0, .int .i64 0] 76)) gm 76 (cntC (l.take 0) (-1)).toArray from by rw [hgm]; exact Blk.new w1 _ _)
    have HT0 := Lib.hid (HB1.out.alloc (.cells #[.int .i64 0, .int .i64 0, .int .i64 0, .int .i64 0, .int .i64 0] 76))
    have BB0 := Lib.hid (B1.out.alloc B1.out.size (.cells #[.int .i64 0, .int .i64 0, .int .i64 0, .int .i64 0, .int .i64 0] 76))
    rw [← hgm]
    clear hgm
    go_loopw [26] (fun i wr => ∃ k : Nat, k ≤ l.length ∧ i = .int .i64 k ∧ Hid (Blk wr gm 76 (cntC (l.take k) (-1)).toArray) ∧ Hid (Blk wr w.heap.size 34 #[.int .i64 0, .int .i64 0, .int .i64 0, .int .i64 0]) ∧ Hid (Below w.heap.size w wr)) (fun i _ => l.length - (intOf i).toNat)
    case atStart => exact ⟨0, Nat.zero_le _, rfl, HM0, HT0, BB0⟩
    case round =>
      obtain ⟨k, hk, rfl, hmc, hto, hbw⟩ := hrel
      have hsz := hbw.out.size
      by_cases hlt : k < l.length
      · obtain ⟨b, o, rfl, hbb, hc⟩ := (HR.out.below hbw.out).vt hlt
        obtain ⟨f1, f2, f3⟩ := hc k hlt
        obtain ⟨hx1, hx2, hx3, hx4, hx5⟩ := (mayV_iff _).1 (HMV.out _ (List.getElem_mem hlt))
        have hstep := cntC_step l (-1) k hlt hx5
        have hstay := cntC_stay l (-1) k hlt
        obtain ⟨x, hx⟩ : ∃ x, x = l[k] := ⟨_, rfl⟩
        rw [← hx] at f1 f2 f3 hx1 hx2 hx3 hx4 hx5 hstep hstay
        have HBN := Lib.hid (Blk.new wr 30 #[.string ⟨#[]⟩, .int .i64 0, .int .u8 0])
        have hgl : gm < wr.heap.size := hmc.out.lt
        have HMX := Lib.hid (fun (w2 : World) (hg2 : (wr.alloc (.cells #[.string ⟨#[]⟩, .int .i64 0, .int .u8 0] 30)).grownBy w2 (some wr.heap.size)) => (hmc.out.alloc (.cells #[.string ⟨#[]⟩, .int .i64 0, .int .u8 0] 30)).grown hg2 (by simp; omega))
        have HTX := Lib.hid (fun (w2 : World) (hg2 : (wr.alloc (.cells #[.string ⟨#[]⟩, .int .i64 0, .int .u8 0] 30)).grownBy w2 (some wr.heap.size)) => (hto.out.alloc (.cells #[.string ⟨#[]⟩, .int .i64 0, .int .u8 0] 30)).grown hg2 (by have := hto.out.lt; simp; omega))
        have HBX := Lib.hid (fun (w2 : World) (hg2 : (wr.alloc (.cells #[.string ⟨#[]⟩, .int .i64 0, .int .u8 0] 30)).grownBy w2 (some wr.heap.size)) => (hbw.out.alloc hsz (.cells #[.string ⟨#[]⟩, .int .i64 0, .int .u8 0] 30)).grown hg2 (by simp; omega) (fun k e => by cases e; exact hsz))
        have hN := numV_le (l.take k) (-1) x.state
        have hN2 : (l.take k).length ≤ 64 := by rw [List.length_take]; omega
        obtain ⟨N, hNe⟩ : ∃ N, N = numV (l.take k) (-1) x.state := ⟨_, rfl⟩
        rw [← hNe] at hN hstep
        have hNi : (N : Int) ≤ 64 := by omega
        have HCG := Lib.hid (show (cntC (l.take k) (-1)).toArray[x.state]? = some (.int .i64 (N : Nat)) by rw [hNe]; exact cntC_get _ (-1) hx5)
        have hs0 : (0 : Int) ≤ (x.state : Int) := by omega
        have hs5 : (x.state : Int) < 5 := by omega
        have hs5n : x.state < 5 := by omega
        clear hc hx hNe hN hN2
        go_wp2_with ((with_reducible refine wpList_store_vt rfl (.tmp 9) (.tmp 29) rfl wr.heap.size rfl HBN.out rfl (x := x) rfl ?_); intro w2 hb2 hg2; obtain ⟨d1, d2, d3⟩ := vt_cells hb2; have hcg : w2.cell? ⟨gm, x.state, none⟩ = some (.int .i64 (N : Nat)) := ((HMX.out w2 hg2).cell x.state).trans HCG.out; have hfg : w2.frozen? ⟨gm, x.state, none⟩ = false := (HMX.out w2 hg2).frozen x.state)
        trace_state
        have HM2 := Lib.hid (HMX.out w2 hg2)
        have HT2 := Lib.hid (HTX.out w2 hg2)
        have HB2 := Lib.hid (HBX.out w2 hg2)
        go_roundw
        case rel => exact ⟨k + 1, by omega, by go_num, (show Hid _ from by have h := HM2.out.set_ x.state (.int .i64 ((N : Nat) + 1)); rwa [hstep (.inl rfl)] at h), HT2.out.far (by simp; omega) _, HB2.out.setCell (by simp; omega) _⟩
        case measure => simp [intOf]; omega
      · have HF := Lib.hid (show Blk wr gm 76 (cntC l (-1)).toArray by
          have h := hmc.out
          rwa [List.take_of_length_le (by omega)] at h)
        obtain rfl : k = l.length := by omega
        have c1 : wr.cell? ⟨gm, 1, none⟩ = some (.int .i64 (numV l (-1) 1 : Nat)) := HF.out.cell 1
        have c2 : wr.cell? ⟨gm, 2, none⟩ = some (.int .i64 (numV l (-1) 2 : Nat)) := HF.out.cell 2
        have c3 : wr.cell? ⟨gm, 3, none⟩ = some (.int .i64 (numV l (-1) 3 : Nat)) := HF.out.cell 3
        have c4 : wr.cell? ⟨gm, 4, none⟩ = some (.int .i64 (numV l (-1) 4 : Nat)) := HF.out.cell 4
        go_wp2_with ((with_reducible refine wpList_store_to rfl (.tmp 4) (.tmp 53) rfl w.heap.size rfl hto.out rfl (x := ⟨numV l (-1) 1, numV l (-1) 2, numV l (-1) 3, numV l (-1) 4⟩) rfl ?_); intro w3 hb3 hg3)
        refine to_ret2 (g := w.heap.size) rfl rfl hb3 rfl ⟨⟨numV l (-1) 1, numV l (-1) 2, numV l (-1) 3, numV l (-1) 4⟩, _, rfl, ?_, hbw.out.grown hg3 hbw.out.size (fun k e => by cases e; exact Nat.le_refl _)⟩
        rw [HQ.out, HNM.out, HNM.out, HNM.out, HNM.out]
        rfl
  have h1b : (p == -1) = false := by simpa using h1
  have h1d : (p != -1) = true := by simpa using h1
  by_cases h2 : preB p = true
  · have hpq : ¬ (p < -1 ∨ 8 ≤ p) := by unfold preB at h2; simp at h2; omega
    have HP := Lib.hid h2
    have HQ := Lib.hid (countV_yes (p := p) h0 hpq)
    have HNM := Lib.hid (fun (s : Nat) => numV_many (l := l) (p := p) hpq s)
    have HR := Lib.hid hr
    have HMV := Lib.hid hm
    clear h0 hr hok hT h2 hm
    go_enter Tryd.func18, Tryd.ntmps18
    go_wp2_with fail
    refine (HK.out _ B0.out).mono ?_
    rintro e w1 ⟨rfl, hb⟩
    rw [HE.out]
    have B1 := Lib.hid (B0.out.trans (hb.mono B0.out.size))
    have HB1 := Lib.hid (HB0.out.below hb HB0.out.lt)
    clear hb
    go_wp2_with fail
    refine (isPrecinct_any p _).mono ?_
    rintro e w1b ⟨rfl, hw1⟩
    obtain rfl := hw1.symm
    rw [HP.out]
    go_wp2_with fail
    obtain ⟨gm, hgm⟩ : ∃ gm, gm = w1.heap.size := ⟨_, rfl⟩
    have hgw : w.heap.size < gm := by rw [hgm]; exact HB1.out.lt
    have HM0 := Lib.hid (show Blk (w1.alloc (.cells #[.int .i64 0, .int .i64 0, .int .i64 0, .int .i64 0, .int .i64 0] 76)) gm 76 (cntC (l.take 0) p).toArray from by rw [hgm]; exact Blk.new w1 _ _)
    have HT0 := Lib.hid (HB1.out.alloc (.cells #[.int .i64 0, .int .i64 0, .int .i64 0, .int .i64 0, .int .i64 0] 76))
    have BB0 := Lib.hid (B1.out.alloc B1.out.size (.cells #[.int .i64 0, .int .i64 0, .int .i64 0, .int .i64 0, .int .i64 0] 76))
    rw [← hgm]
    clear hgm
    go_loopw [26] (fun i wr => ∃ k : Nat, k ≤ l.length ∧ i = .int .i64 k ∧ Hid (Blk wr gm 76 (cntC (l.take k) p).toArray) ∧ Hid (Blk wr w.heap.size 34 #[.int .i64 0, .int .i64 0, .int .i64 0, .int .i64 0]) ∧ Hid (Below w.heap.size w wr)) (fun i _ => l.length - (intOf i).toNat)
    case atStart => exact ⟨0, Nat.zero_le _, rfl, HM0, HT0, BB0⟩
    case round =>
      obtain ⟨k, hk, rfl, hmc, hto, hbw⟩ := hrel
      have hsz := hbw.out.size
      by_cases hlt : k < l.length
      · obtain ⟨b, o, rfl, hbb, hc⟩ := (HR.out.below hbw.out).vt hlt
        obtain ⟨f1, f2, f3⟩ := hc k hlt
        obtain ⟨hx1, hx2, hx3, hx4, hx5⟩ := (mayV_iff _).1 (HMV.out _ (List.getElem_mem hlt))
        have hstep := cntC_step l p k hlt hx5
        have hstay := cntC_stay l p k hlt
        obtain ⟨x, hx⟩ : ∃ x, x = l[k] := ⟨_, rfl⟩
        rw [← hx] at f1 f2 f3 hx1 hx2 hx3 hx4 hx5 hstep hstay
        have HBN := Lib.hid (Blk.new wr 30 #[.string ⟨#[]⟩, .int .i64 0, .int .u8 0])
        have hgl : gm < wr.heap.size := hmc.out.lt
        have HMX := Lib.hid (fun (w2 : World) (hg2 : (wr.alloc (.cells #[.string ⟨#[]⟩, .int .i64 0, .int .u8 0] 30)).grownBy w2 (some wr.heap.size)) => (hmc.out.alloc (.cells #[.string ⟨#[]⟩, .int .i64 0, .int .u8 0] 30)).grown hg2 (by simp; omega))
        have HTX := Lib.hid (fun (w2 : World) (hg2 : (wr.alloc (.cells #[.string ⟨#[]⟩, .int .i64 0, .int .u8 0] 30)).grownBy w2 (some wr.heap.size)) => (hto.out.alloc (.cells #[.string ⟨#[]⟩, .int .i64 0, .int .u8 0] 30)).grown hg2 (by have := hto.out.lt; simp; omega))
        have HBX := Lib.hid (fun (w2 : World) (hg2 : (wr.alloc (.cells #[.string ⟨#[]⟩, .int .i64 0, .int .u8 0] 30)).grownBy w2 (some wr.heap.size)) => (hbw.out.alloc hsz (.cells #[.string ⟨#[]⟩, .int .i64 0, .int .u8 0] 30)).grown hg2 (by simp; omega) (fun k e => by cases e; exact hsz))
        have hN := numV_le (l.take k) p x.state
        have hN2 : (l.take k).length ≤ 64 := by rw [List.length_take]; omega
        obtain ⟨N, hNe⟩ : ∃ N, N = numV (l.take k) p x.state := ⟨_, rfl⟩
        rw [← hNe] at hN hstep
        have hNi : (N : Int) ≤ 64 := by omega
        have HCG := Lib.hid (show (cntC (l.take k) p).toArray[x.state]? = some (.int .i64 (N : Nat)) by rw [hNe]; exact cntC_get _ p hx5)
        have hs0 : (0 : Int) ≤ (x.state : Int) := by omega
        have hs5 : (x.state : Int) < 5 := by omega
        have hs5n : x.state < 5 := by omega
        clear hc hx hNe hN hN2
        by_cases hpv : p = x.pre
        · have hpb : (p == x.pre) = true := by simpa using hpv
          have HCC := Lib.hid (show p = -1 ∨ p = x.pre from .inr hpv)
          clear hpv
          go_wp2_with ((with_reducible refine wpList_store_vt rfl (.tmp 9) (.tmp 29) rfl wr.heap.size rfl HBN.out rfl (x := x) rfl ?_); intro w2 hb2 hg2; obtain ⟨d1, d2, d3⟩ := vt_cells hb2; have hcg : w2.cell? ⟨gm, x.state, none⟩ = some (.int .i64 (N : Nat)) := ((HMX.out w2 hg2).cell x.state).trans HCG.out; have hfg : w2.frozen? ⟨gm, x.state, none⟩ = false := (HMX.out w2 hg2).frozen x.state)
          trace_state
          have HM2 := Lib.hid (HMX.out w2 hg2)
          have HT2 := Lib.hid (HTX.out w2 hg2)
          have HB2 := Lib.hid (HBX.out w2 hg2)
          go_roundw
          case rel => exact ⟨k + 1, by omega, by go_num, (show Hid _ from by have h := HM2.out.set_ x.state (.int .i64 ((N : Nat) + 1)); rwa [hstep HCC.out] at h), HT2.out.far (by simp; omega) _, HB2.out.setCell (by simp; omega) _⟩
          case measure => simp [intOf]; omega
        · have hpb : (p == x.pre) = false := by simpa using hpv
          have HS := Lib.hid (hstay (fun h => h.elim h1 hpv))
          go_wp2_with ((with_reducible refine wpList_store_vt rfl (.tmp 9) (.tmp 29) rfl wr.heap.size rfl HBN.out rfl (x := x) rfl ?_); intro w2 hb2 hg2; obtain ⟨d1, d2, d3⟩ := vt_cells hb2)
          have HM2 := Lib.hid (HMX.out w2 hg2)
          have HT2 := Lib.hid (HTX.out w2 hg2)
          have HB2 := Lib.hid (HBX.out w2 hg2)
          go_roundw
          case rel => exact ⟨k + 1, by omega, by go_num, (show Hid _ from by have h := HM2.out; rwa [HS.out] at h), HT2, HB2⟩
          case measure => simp [intOf]; omega
      · have HF := Lib.hid (show Blk wr gm 76 (cntC l p).toArray by
          have h := hmc.out
          rwa [List.take_of_length_le (by omega)] at h)
        obtain rfl : k = l.length := by omega
        have c1 : wr.cell? ⟨gm, 1, none⟩ = some (.int .i64 (numV l p 1 : Nat)) := HF.out.cell 1
        have c2 : wr.cell? ⟨gm, 2, none⟩ = some (.int .i64 (numV l p 2 : Nat)) := HF.out.cell 2
        have c3 : wr.cell? ⟨gm, 3, none⟩ = some (.int .i64 (numV l p 3 : Nat)) := HF.out.cell 3
        have c4 : wr.cell? ⟨gm, 4, none⟩ = some (.int .i64 (numV l p 4 : Nat)) := HF.out.cell 4
        go_wp2_with ((with_reducible refine wpList_store_to rfl (.tmp 4) (.tmp 53) rfl w.heap.size rfl hto.out rfl (x := ⟨numV l p 1, numV l p 2, numV l p 3, numV l p 4⟩) rfl ?_); intro w3 hb3 hg3)
        refine to_ret2 (g := w.heap.size) rfl rfl hb3 rfl ⟨⟨numV l p 1, numV l p 2, numV l p 3, numV l p 4⟩, _, rfl, ?_, hbw.out.grown hg3 hbw.out.size (fun k e => by cases e; exact Nat.le_refl _)⟩
        rw [HQ.out, HNM.out, HNM.out, HNM.out, HNM.out]
        rfl
  · have HP := Lib.hid (show preB p = false by simpa using h2)
    have HQ := Lib.hid (countV_arg (p := p) h0 (by unfold preB at h2; simp at h2; omega))
    clear h0 hr hok hT h1 h2 hm
    go_enter Tryd.func18, Tryd.ntmps18
    go_wp2_with fail
    refine (HK.out _ B0.out).mono ?_
    rintro e w1 ⟨rfl, hb⟩
    rw [HE.out]
    have B1 := Lib.hid (B0.out.trans (hb.mono B0.out.size))
    have HB1 := Lib.hid (HB0.out.below hb HB0.out.lt)
    clear hb
    go_wp2_with fail
    refine (isPrecinct_any p _).mono ?_
    rintro e w2 ⟨rfl, rfl⟩
    rw [HP.out]
    go_wp2_with ((with_reducible refine wpList_store_to rfl (.tmp 4) (.tmp 23) rfl w.heap.size rfl HB1.out rfl (x := zeroT) rfl ?_); intro w3 hb3 hg3)
    refine to_ret2 (g := w.heap.size) rfl rfl hb3 rfl ⟨zeroT, _, rfl, HQ.out.symm, B1.out.grown hg3 B1.out.size (fun k e => by cases e; exact Nat.le_refl _)⟩
end Go.Proofs.YtikhffdbjelanaaDoor
namespace Go.Proofs.YtikhffdbjelanaaDoor
open Go.RowKit
set_option linter.unusedVariables false

/-- A list of byte strings is appended to: whatever has made the new element. -/
theorem fine_step24 {W W6 w8 : World} {A A8 : Option Addr} {c base : Nat} {xs ys : List Oc.El} {y : Oc.El}
    (ho : Ow Oc.El.v W base 37 A c xs) (hel : ∀ x ∈ xs, Fine W A x) (hb6 : Below W.heap.size W W6) (hy : Rf bv W6 W6.heap.size y.A y.c y.l) (hyA : ∀ g, blk y.A = some g → W.heap.size ≤ g ∧ g < W6.heap.size)
    (hys : ys = xs ++ [y]) (hg : (W6.alloc (.cells #[Oc.El.v y] 37)).grownBy w8 (blk A)) (hb : blk A8 = blk A ∨ blk A8 = some (W6.alloc (.cells #[Oc.El.v y] 37)).heap.size) :
    ∀ x ∈ ys, Fine w8 A8 x := by
  intro x hx
  rw [hys] at hx
  have hnew := below_new W6 (.cells #[Oc.El.v y] 37)
  rcases List.mem_append.1 hx with h | h
  · exact (((hel x h).below hb6).below hnew).grown hg hb
  · obtain rfl := List.mem_singleton.1 h
    refine Fine.grown (Fine.below (w := W6) ⟨hy, fun g hg' => ?_⟩ hnew) hg hb
    obtain ⟨h1, h2⟩ := hyA g hg'
    refine ⟨h2, fun e => ?_⟩
    have := (ho.blk_ge g e).2
    omega
theorem map_take_snoc (l : List Vt) (k : Nat) (h : k < l.length) : (l.take (k + 1)).map fieldV = (l.take k).map fieldV ++ [fieldV l[k]] := by
  rw [List.take_succ_eq_append_getElem h, List.map_append]; rfl

set_option maxRecDepth 100000 in
set_option maxHeartbeats 4000000 in
theorem bytesV_any (l : List Vt) (A : Option Addr) (c : Nat) (w : World) (hr : Rvt w w.heap.size A c l) (hok : VtOk l) (hT : Tab w) :
    Calls Tryd.prog 31 #[.slice A l.length c] w (BytesErrV w (bytesV l)) := by
  have HK := Lib.hid (checkV_any l A c w hr hok.long hT)
  by_cases h0 : checkV l = 0
  case neg =>
    rcases ne_zero_cases h0 with h4 | h4
    all_goals
      have HE := Lib.hid h4
      have HQ := Lib.hid (bytesV_err h0)
      rw [h4] at HQ
      clear h0 h4 hr hok hT
      go_enter Tryd.func31, Tryd.ntmps31
      go_wp2_with fail
      refine HK.out.mono ?_
      rintro e w1 ⟨rfl, hb⟩
      rw [HE.out]
      go_wp2_with fail
      go_ret2
      exact ⟨none, 0, [], _, rfl, HQ.out.symm, Ow.nil _ _ _, hb⟩
  have hl : l.length ≤ 64 := (checkV_ok.1 h0).1
  have HMV := Lib.hid ((rowV_iff l).1 (checkV_ok.1 h0).2).1
  have HE := Lib.hid h0
  have HQ := Lib.hid (show bytesV l = (textV l, 0) by unfold bytesV; rw [if_neg (by omega)])
  have HTS := Lib.hid (textV_short h0)
  have HR := Lib.hid hr
  obtain ⟨i0, hi0, hz0, hz1, hz2⟩ := info_parts bInfo24
  obtain ⟨bi, hbi, hw0, hw1, hw2⟩ := slInfo_parts
  clear h0 hr hok hT
  go_enter Tryd.func31, Tryd.ntmps31
  go_wp2_with fail
  refine HK.out.mono ?_
  rintro e w1 ⟨rfl, hb⟩
  rw [HE.out]
  have B1 := Lib.hid hb
  clear hb
  go_wp2_with fail
  go_loopw [5, 15] (fun f i wr => ∃ (k : Nat) (A' : Option Addr) (c' : Nat) (xs : List Oc.El), k ≤ l.length ∧ f = .slice A' xs.length c' ∧ i = .int .i64 k ∧ Hid (Oc.byts xs = (l.take k).map fieldV) ∧ Hid (xs.length = k) ∧ Hid (Ow Oc.El.v wr w.heap.size 37 A' c' xs) ∧ Hid (∀ y ∈ xs, Fine wr A' y) ∧ Hid (Below w.heap.size w wr)) (fun _ i _ => l.length - (intOf i).toNat)
  case atStart => exact ⟨0, none, 0, [], Nat.zero_le _, rfl, rfl, rfl, rfl, Ow.nil _ _ _, (fun y hy => by cases hy), B1.out⟩
  case round =>
    obtain ⟨k, A5, c5, xs5, hk, rfl, rfl, hby5, hln5, ho5, he5, hbw⟩ := hrel
    have hsz := hbw.out.size
    by_cases hlt : k < l.length
    · obtain ⟨b, o, rfl, hbb, hc⟩ := (HR.out.below hbw.out).vt hlt
      obtain ⟨f1, f2, f3⟩ := hc k hlt
      obtain ⟨hnb, hp0, hp8, hs1, hs4⟩ := (mayV_iff _).1 (HMV.out _ (List.getElem_mem hlt))
      have HTK := Lib.hid (map_take_snoc l k hlt)
      obtain ⟨x, hx⟩ : ∃ x, x = l[k] := ⟨_, rfl⟩
      rw [← hx] at f1 f2 f3 hnb hp0 hp8 hs1 hs4 HTK
      have hnl := ((nameB_iff _).1 hnb).2.1
      have hwp : IntKind.u8.wrap x.pre = x.pre := by rw [IntKind.wrap_u8]; omega
      have HBP := Lib.hid (byte24 (n := x.pre) ⟨by omega, by omega⟩)
      have HBS := Lib.hid (byte24 (n := (x.state : Int)) ⟨by omega, by omega⟩)
      have HF := Lib.hid (show fieldV x = [UInt8.ofNat x.pre.toNat, UInt8.ofNat x.state] ++ x.name from rfl)
      have HBN := Lib.hid (Blk.new wr 30 #[.string ⟨#[]⟩, .int .i64 0, .int .u8 0])
      clear hc hx hnb
      have HST := Lib.hid (fun (w2 : World) (hg2 : (wr.alloc (.cells #[.string ⟨#[]⟩, .int .i64 0, .int .u8 0] 30)).grownBy w2 (some wr.heap.size)) => ((Below.refl wr.heap.size wr).alloc (Nat.le_refl _) (.cells #[.string ⟨#[]⟩, .int .i64 0, .int .u8 0] 30)).grown hg2 (by simp) (fun k e => by cases e; exact Nat.le_refl _))
      have HCX := Lib.hid (fun (w2 : World) (hb2 : Blk w2 wr.heap.size 30 (vvs x)) (o : Obj) => vt_cells (hb2.alloc o))
      have HO1 := Lib.hid (fun (w2 : World) => ow_two w2 x.pre.toNat x.state x.pre (x.state : Int) 5 w2.heap.size HBP.out (by have := HBS.out; simpa using this) (Nat.le_refl _))
      go_wp2_with (first
        | ((with_reducible refine wpList_store_vt rfl (.tmp 7) (.tmp 18) rfl wr.heap.size rfl HBN.out rfl (x := x) rfl ?_); intro w2 hb2 hg2; obtain ⟨d1, d2, d3⟩ := vt_cells hb2; obtain ⟨e1, e2, e3⟩ := HCX.out w2 hb2 (.cells #[.int .u8 x.pre, .int .u8 (x.state : Nat)] 5); have B2 := Lib.hid (HST.out w2 hg2); clear hg2)
        | (at_builtin; refine wpList_append_text _ rfl (.tmp 25) (.tmp 27) 37 9 rfl w2.heap.size 5 i0 Tryd.underlying37 Tryd.underlying9 hi0 hz0 hz1 hz2 [UInt8.ofNat x.pre.toNat, UInt8.ofNat x.state] x.name rfl rfl (HO1.out w2) (by simp; omega) (by simp) ?_; intro A3 c3 w3 r3 hr3 ho3 hg3; have HO3 := Lib.hid ho3; have B3 := Lib.hid ((B2.out.alloc B2.out.size (.cells #[.int .u8 x.pre, .int .u8 (x.state : Nat)] 5)).grown hg3 (by have := B2.out.size; simp; omega) (fun j hj => by have := B2.out.size; simp [blk] at hj; omega)); clear ho3 hg3; have HRF := Lib.hid (show Rf Oc.El.v (w3.alloc (.cells #[.slice A3 r3.length c3] 37)) (w3.heap.size + 1) (some ⟨w3.heap.size, 0, none⟩) 1 [⟨A3, c3, r3⟩] from rf_one (f := Oc.El.v) (w := w3) ⟨A3, c3, r3⟩ 37); have HOA := Lib.hid ((ho5.out.below (Nat.le_refl _) B3.out).alloc (.cells #[.slice A3 r3.length c3] 37)); have HSA := Lib.hid (show w.heap.size ≤ (w3.alloc (.cells #[.slice A3 r3.length c3] 37)).heap.size by have := B3.out.size; simp only [World.size_alloc]; omega); have HLE := Lib.hid (show xs5.length + [(⟨A3, c3, r3⟩ : Oc.El)].length ≤ 4000000000 by have := hln5.out; simp only [List.length_cons, List.length_nil]; omega))
        | (at_builtin; refine wpList_append_f _ elv_one rfl (.tmp 19) (.tmp 29) 77 rfl w.heap.size 37 24 bi _ Tryd.underlying77 hbi hw0 hw1 hw2 (by omega) rfl xs5 [⟨A3, c3, r3⟩] rfl rfl HOA.out HRF.out HLE.out HSA.out ?_; intro A8 c8 w8 xs8 hx8 hown8 hg8 hbl8))
      have hne : ∀ j, blk A5 = some j → w.heap.size ≤ j := fun j e => (ho5.out.blk_ge j e).1
      have BW3 := Lib.hid (hbw.out.trans (B3.out.mono hsz))
      refine ⟨⟨k + 1, A8, c8, xs8, by omega, rfl, by go_num, ?_, ?_, hown8, ?_, ?_⟩, by simp [intOf]; omega⟩
      · show _ = _
        rw [hx8.out, byts_snoc, hby5.out, HTK.out, HF.out, ← hr3.out]
      · show _ = _
        rw [hx8.out, List.length_append, hln5.out]
        rfl
      · exact fine_step24 (y := ⟨A3, c3, r3⟩) ho5.out he5.out B3.out HO3.out.rd (fun g e => by
          have h := HO3.out.blk_ge g e
          have := B2.out.size
          exact ⟨by omega, h.2⟩) hx8.out hg8 hbl8
      · exact (BW3.out.alloc BW3.out.size (.cells #[.slice A3 r3.length c3] 37)).grown hg8 (by have := BW3.out.size; simp only [World.size_alloc]; omega) (fun j e => hne j e)
    · obtain rfl : k = l.length := by omega
      have HPT := Lib.hid (show Oc.byts xs5 = l.map fieldV by rw [hby5.out, List.take_of_length_le (Nat.le_refl _)])
      have HRL := Lib.hid (rdl_of_fine ho5.out he5.out)
      have HXL := Lib.hid (show xs5.length ≤ 1000000 by have := hln5.out; omega)
      have HEL := Lib.hid (show ∀ y ∈ xs5, y.l.length ≤ 100000 from fun y hy => by
        have hm : y.l ∈ Oc.byts xs5 := List.mem_map.2 ⟨y, hy, rfl⟩
        rw [HPT.out] at hm
        obtain ⟨v, hv, e⟩ := List.mem_map.1 hm
        have := ((nameB_iff _).1 ((mayV_iff _).1 (HMV.out v hv)).1).2.1
        rw [← e]
        simp [fieldV]
        omega)
      have HJ := Lib.hid (show Oc.joinM (Oc.byts xs5) = (textV l, 0) by
        rw [HPT.out]
        exact Oc.joinM_good (by have := HTS.out; unfold textV at this; omega))
      go_wp2_with fail
      refine (Oc.join_any A5 c5 xs5 wr HRL.out HXL.out HEL.out).mono ?_
      rintro e w9 ⟨A9, c9, r9, rfl, hr9, ho9, hb9⟩
      rw [HJ.out] at hr9 ⊢
      have HR9 := Lib.hid hr9
      have HO9 := Lib.hid (Ow.ofOc (ho9.lower hbw.out.size))
      have B9 := Lib.hid (hbw.out.trans (hb9.mono hbw.out.size))
      clear hr9 ho9 hb9
      go_wp2_with fail
      go_ret2
      exact ⟨A9, c9, r9, 0, rfl, by rw [HQ.out, HR9.out], HO9.out, B9.out⟩
end Go.Proofs.YtikhffdbjelanaaDoor
namespace Go.Proofs.YtikhffdbjelanaaDoor
open Go.RowKit
set_option linter.unusedVariables false

set_option maxRecDepth 100000 in
set_option maxHeartbeats 4000000 in
theorem readV_any (l : List UInt8) (A : Option Addr) (c : Nat) (w : World) (hr : Rf bv w w.heap.size A c l) (hl : l.length ≤ 100000) (hT : Tab w) :
    Calls Tryd.prog 19 #[.slice A l.length c] w (VtsErr w (readV l)) := by
  have HT := Lib.hid hT
  clear hT
  have HSP := Lib.hid (Oc.split_any A c l w hr.rd24 (by omega))
  go_enter Tryd.func19, Tryd.ntmps19
  go_wp2_with fail
  refine HSP.out.mono ?_
  rintro e w1 ⟨A1, cc1, xs, rfl, hby, how, hb⟩
  have B1 := Lib.hid hb
  have hr1l := how.rd
  clear hb how HSP
  rcases splitM_three l with h0 | h0
  case inr =>
    have HQ := Lib.hid (readV_split (b := l) (by rcases h0 with h | h <;> rw [h] <;> decide))
    obtain ⟨er, her⟩ : ∃ er, er = (Oc.splitM l).2 := ⟨_, rfl⟩
    rw [← her] at h0 HQ ⊢
    have hne : (er != 0) = true := by rw [bne_iff_ne]; rcases h0 with h | h <;> rw [h] <;> decide
    have hne2 : ¬ er = 0 := by rcases h0 with h | h <;> rw [h] <;> decide
    clear h0 her hby hr1l
    go_wp2_with fail
    go_ret2
    exact vtsErr_none HQ.out B1.out
  obtain ⟨hfit, hfl, hbl⟩ := Oc.splitM_ok h0
  have hcnt := Oc.flat_count (Oc.splitM l).1
  rw [← hfl] at hcnt
  have hxl : xs.length ≤ 1000000 := by rw [← Oc.byts_len, hby]; omega
  have HFIT := Lib.hid (show ∀ y ∈ Oc.byts xs, y.length ≤ 65535 by rw [hby]; exact hfit)
  have HBY := Lib.hid hby
  have H0 := Lib.hid h0
  have HRL := Lib.hid hr1l
  clear hby h0 hfit hfl hbl hcnt hr1l
  rw [H0.out]
  obtain ⟨i0, hi0, hz0, hz1, hz2⟩ := info_parts vInfo
  go_wp2_with fail
  go_loopw [6, 19] (fun s6 s7 wr => ∃ (k : Nat) (A2 : Option Addr) (c2 : Nat) (out : List Vt), k ≤ xs.length ∧ s7 = .int .i64 k ∧ s6 = .slice A2 out.length c2 ∧ out.length = k ∧ Hid (ofFields ((Oc.byts xs).take k) = some out) ∧ Hid (OwV wr w1.heap.size A2 c2 out) ∧ Hid (Below w1.heap.size w1 wr)) (fun _ s7 _ => xs.length - (intOf s7).toNat)
  case atStart => exact ⟨0, none, 0, [], Nat.zero_le _, rfl, rfl, rfl, rfl, OwK.nil _ _ _, Below.refl _ _⟩
  case round =>
    obtain ⟨k, A2, c2, out, hk, rfl, rfl, hol, hout, ho, hbw⟩ := hrel
    have hsz := hbw.out.size
    have HOL := Lib.hid hol
    have hol2 : out.length ≤ 1000000 := by omega
    clear hol
    by_cases hlt : k < xs.length
    · obtain ⟨b, o, rfl, hbb, hcc⟩ := (HRL.out.below hbw.out).at_ hlt
      have hcx := hcc k hlt
      have hel := (HRL.out.below hbw.out).el _ (List.getElem_mem hlt)
      have hbk : (Oc.byts xs)[k]'(by rw [Oc.byts_len]; exact hlt) = xs[k].l := by simp [Oc.byts]
      have hmem : xs[k].l ∈ Oc.byts xs := List.mem_map.2 ⟨_, List.getElem_mem hlt, rfl⟩
      obtain ⟨x, hx⟩ : ∃ x, x = xs[k] := ⟨_, rfl⟩
      rw [← hx] at hcx hel hbk hmem
      obtain ⟨xA, xc, xl⟩ := x
      unfold Oc.El.v at hcx
      simp only at hcx hel hbk hmem
      by_cases h2 : xl.length < 2
      · have h2d : decide ((xl.length : Int) < 2) = true := by simp; omega
        have HQ := Lib.hid (readV_none (b := l) H0.out (by rw [← HBY.out]; exact ofFields_none hmem (ofField_short h2)))
        clear h2 hbk hmem hx hel hcc
        go_wp2_with fail
        go_ret2
        exact vtsErr_none HQ.out (B1.out.trans (hbw.out.mono B1.out.size))
      have h2d : decide ((xl.length : Int) < 2) = false := by simp; omega
      obtain ⟨p, s, n, rfl⟩ : ∃ p s n, xl = p :: s :: n := by
        match xl, h2 with
        | [], h => simp at h
        | [_], h => simp at h
        | p :: s :: n, _ => exact ⟨p, s, n, rfl⟩
      obtain ⟨b1, o1, rfl, hb1b, hd⟩ := (rf24 hel).at_ (k := 0) (by simp)
      have hd0 := hd 0 (by simp)
      have hd1 := hd 1 (by simp)
      simp only [List.getElem_cons_zero, List.getElem_cons_succ, Nat.add_zero] at hd0 hd1
      unfold bv at hd0 hd1
      have hnl := HFIT.out _ hmem
      have HOF := Lib.hid (ofFields_take (by rw [Oc.byts_len]; exact hlt) hout.out hbk)
      obtain ⟨N, hN⟩ : ∃ N, N = (p :: s :: n).length := ⟨_, rfl⟩
      rw [← hN] at hcx h2d hnl
      have hN2 : 2 ≤ N := by rw [hN]; simp
      have hcap := (rf24 hel).cap
      have hcpm := (rf24 hel).capm
      rw [← hN] at hcap
      have HEL := Lib.hid (rf24 hel)
      have HNN := Lib.hid hN
      clear hcc hd hN hbk hx hmem h2 hel
      have hN0 : 0 < N := by omega
      have hN1 : 1 < N := by omega
      have hi1 : (1 : Int) < (N : Int) := by omega
      have hi2 : (2 : Int) ≤ (N : Int) := by omega
      have hi3 : (N : Int) ≤ (xc : Int) := by omega
      have hwp : IntKind.i64.wrap (p.toNat : Int) = (p.toNat : Int) := by have := UInt8.toNat_lt p; rw [IntKind.wrap_i64]; omega
      have BW1 := Lib.hid (show Below w1.heap.size wr (wr.drew.alloc (.cells #[.string ⟨n.toArray⟩, .int .i64 (p.toNat : Int), .int .u8 (s.toNat : Int)] 30)) from (Below.refl _ wr).drew.alloc (by simpa using hsz) _)
      have HOA := Lib.hid (ho.out.drew.alloc (.cells #[.string ⟨n.toArray⟩, .int .i64 (p.toNat : Int), .int .u8 (s.toNat : Int)] 30))
      have HRK := Lib.hid (show Rk 3 vl (wr.drew.alloc (.cells #[.string ⟨n.toArray⟩, .int .i64 (p.toNat : Int), .int .u8 (s.toNat : Int)] 30)) (wr.heap.size + 1) (some ⟨wr.heap.size, 0, none⟩) 1 [(⟨n, (p.toNat : Int), s.toNat⟩ : Vt)] from rk_one wr.drew vl_len (⟨n, (p.toNat : Int), s.toNat⟩ : Vt) #[.string ⟨n.toArray⟩, .int .i64 (p.toNat : Int), .int .u8 (s.toNat : Int)] rfl _)
      by_cases hx2 : xc = 2
      · subst hx2
        obtain rfl : N = 2 := by omega
        have hne : n = [] := by
          have := HNN.out
          simp at this
          exact this
        have HCELL := Lib.hid (show ∀ wx : World, Below w1.heap.size wr wx → (wx.cell? ⟨b, o + k, none⟩ = some (.slice (some ⟨b1, o1, none⟩) 2 2) ∧ wx.cell? ⟨b1, o1, none⟩ = some (.int .u8 (p.toNat : Int)) ∧ wx.cell? ⟨b1, o1 + 1, none⟩ = some (.int .u8 (s.toNat : Int)) ∧ (convert 37 9 (.slice (some ⟨b1, o1, none⟩) 0 0)).run Tryd.prog wx = .ok (.string ⟨n.toArray⟩) wx) from fun wx hb => ⟨(hb.cell hbb).trans hcx, (hb.cell hb1b).trans hd0, (hb.cell hb1b).trans hd1, by
          have h : Rf bv wx w1.heap.size (some ⟨b1, o1, none⟩) 0 ([] : List UInt8) := ⟨Nat.le_refl _, by simp [maxLen], (fun e => by cases e), fun _ _ j hj => by simp at hj⟩
          have h2 := run_string_f (P := Tryd.prog) wx 37 9 5 Tryd.underlying37 Tryd.underlying5 Tryd.underlying9 h
          rw [hne]
          exact h2⟩)
        clear hne
        have hS0 := HCELL.out wr.drew (Below.refl _ wr).drew
        have hS1 := HCELL.out _ BW1.out
        go_wp2_with fail
        go_region_held3 (fun w' => (w'.cell? ⟨b, o + k, none⟩ = some (.slice (some ⟨b1, o1, none⟩) 2 2) ∧ w'.cell? ⟨b1, o1, none⟩ = some (.int .u8 (p.toNat : Int)) ∧ w'.cell? ⟨b1, o1 + 1, none⟩ = some (.int .u8 (s.toNat : Int)) ∧ (convert 37 9 (.slice (some ⟨b1, o1, none⟩) 0 0)).run Tryd.prog w' = .ok (.string ⟨n.toArray⟩) w')) (first | exact hS0 | exact hS1 | exact hS3) (first
          | (refine step_append_k vl_len vl_one rfl (.tmp 26) (.tmp 38) 22 rfl w1.heap.size 30 32 i0 _ Tryd.underlying22 hi0 hz0 hz1 (by omega) hz2 (by omega) rfl out [⟨n, (p.toNat : Int), s.toNat⟩] rfl rfl HOA.out HRK.out (by simp; omega) (Nat.le_trans hsz (by simp)) ?_; intro A3 c3 w3 r3 hr3 ho3 hg3 hb3; have BW3 := Lib.hid (BW1.out.grown hg3 (Nat.le_trans hsz (by simp)) (fun j hj => (ho.out.blk_ge j hj).1)); have hS3 := HCELL.out _ BW3.out)
          | fail)
        have HO5 := Lib.hid (show ofFields ((Oc.byts xs).take (k + 1)) = some r3 by rw [hr3.out]; exact HOF.out)
        have HL5 := (show r3.length = k + 1 by rw [hr3.out, List.length_append, HOL.out]; rfl)
        have B5 := Lib.hid (hbw.out.trans BW3.out)
        go_wp2_with fail
        go_roundw
        case rel => exact ⟨k + 1, A3, c3, r3, by omega, by go_num, rfl, HL5, HO5, ho3, B5⟩
        case measure => simp [intOf]; omega
      have hx3 : ¬ (xc : Int) = 2 := by omega
      have hx4 : ¬ xc - 2 = 0 := by omega
      have HCELL := Lib.hid (show ∀ wx : World, Below w1.heap.size wr wx → (wx.cell? ⟨b, o + k, none⟩ = some (.slice (some ⟨b1, o1, none⟩) N xc) ∧ wx.cell? ⟨b1, o1, none⟩ = some (.int .u8 (p.toNat : Int)) ∧ wx.cell? ⟨b1, o1 + 1, none⟩ = some (.int .u8 (s.toNat : Int)) ∧ (convert 37 9 (.slice (some ⟨b1, o1 + 2, none⟩) (N - 2) (xc - 2))).run Tryd.prog wx = .ok (.string ⟨n.toArray⟩) wx) from fun wx hb => ⟨(hb.cell hbb).trans hcx, (hb.cell hb1b).trans hd0, (hb.cell hb1b).trans hd1, by
        have h := (HEL.out.below hb).piece 2 n.length (by simp; omega)
        have e : seg (p :: s :: n) 2 n.length = n := by simp [seg]
        rw [e] at h
        have h2 := run_string_f (P := Tryd.prog) wx 37 9 5 Tryd.underlying37 Tryd.underlying5 Tryd.underlying9 h
        rw [show N - 2 = n.length by rw [HNN.out]; simp]
        exact h2⟩)
      have hS0 := HCELL.out wr.drew (Below.refl _ wr).drew
      have hS1 := HCELL.out _ BW1.out
      go_wp2_with fail
      go_region_held3 (fun w' => (w'.cell? ⟨b, o + k, none⟩ = some (.slice (some ⟨b1, o1, none⟩) N xc) ∧ w'.cell? ⟨b1, o1, none⟩ = some (.int .u8 (p.toNat : Int)) ∧ w'.cell? ⟨b1, o1 + 1, none⟩ = some (.int .u8 (s.toNat : Int)) ∧ (convert 37 9 (.slice (some ⟨b1, o1 + 2, none⟩) (N - 2) (xc - 2))).run Tryd.prog w' = .ok (.string ⟨n.toArray⟩) w')) (first | exact hS0 | exact hS1 | exact hS3) (first
        | (refine step_append_k vl_len vl_one rfl (.tmp 26) (.tmp 38) 22 rfl w1.heap.size 30 32 i0 _ Tryd.underlying22 hi0 hz0 hz1 (by omega) hz2 (by omega) rfl out [⟨n, (p.toNat : Int), s.toNat⟩] rfl rfl HOA.out HRK.out (by simp; omega) (Nat.le_trans hsz (by simp)) ?_; intro A3 c3 w3 r3 hr3 ho3 hg3 hb3; have BW3 := Lib.hid (BW1.out.grown hg3 (Nat.le_trans hsz (by simp)) (fun j hj => (ho.out.blk_ge j hj).1)); have hS3 := HCELL.out _ BW3.out)
        | fail)
      have HO5 := Lib.hid (show ofFields ((Oc.byts xs).take (k + 1)) = some r3 by rw [hr3.out]; exact HOF.out)
      have HL5 := (show r3.length = k + 1 by rw [hr3.out, List.length_append, HOL.out]; rfl)
      have B5 := Lib.hid (hbw.out.trans BW3.out)
      go_wp2_with fail
      go_roundw
      case rel => exact ⟨k + 1, A3, c3, r3, by omega, by go_num, rfl, HL5, HO5, ho3, B5⟩
      case measure => simp [intOf]; omega
    · obtain rfl : k = xs.length := by omega
      have HOF := Lib.hid (show ofFields (Oc.splitM l).1 = some out by
        have := hout.out
        rw [List.take_of_length_le (by rw [Oc.byts_len]; omega), HBY.out] at this
        exact this)
      have HNM := Lib.hid (show ∀ v ∈ out, v.name.length ≤ 4000000000 from fun v hv => by
        have h := fields_ofFields HOF.out
        have hm : fieldV v ∈ Oc.byts xs := by rw [HBY.out, ← h]; exact List.mem_map.2 ⟨v, hv, rfl⟩
        have := HFIT.out _ hm
        simp [fieldV] at this
        omega)
      have B4 := Lib.hid (B1.out.trans (hbw.out.mono B1.out.size))
      have HKK := Lib.hid (fun wx (hb : Below wr.heap.size wr wx) => checkV_any out A2 c2 wx ((((ho.out.rd vl_len).below hb)).more hb.size) HNM.out (HT.out.below (Nat.le_refl _) (B4.out.trans (hb.mono B4.out.size))))
      by_cases h0 : checkV out = 0
      · have HE := Lib.hid h0
        have HQ := Lib.hid (readV_yes (b := l) H0.out HOF.out h0)
        clear h0
        go_wp2_with fail
        refine (HKK.out _ (Below.refl _ _)).mono ?_
        rintro e w5 ⟨rfl, hb⟩
        rw [HE.out]
        have HO5 := Lib.hid (ho.out.below (Nat.le_refl _) hb)
        have B5 := Lib.hid (B4.out.trans (hb.mono B4.out.size))
        clear hb
        go_wp2_with fail
        go_ret2
        exact ⟨A2, c2, out, 0, rfl, HQ.out.symm, HO5.out.lower B1.out.size, B5.out⟩
      · have HQ := Lib.hid (readV_no (b := l) H0.out HOF.out h0)
        rcases ne_zero_cases h0 with h4 | h4
        all_goals
          have HE := Lib.hid h4
          clear h0 h4
          go_wp2_with fail
          refine (HKK.out _ (Below.refl _ _)).mono ?_
          rintro e w5 ⟨rfl, hb⟩
          rw [HE.out]
          have B5 := Lib.hid (B4.out.trans (hb.mono B4.out.size))
          clear hb
          go_wp2_with fail
          go_ret2
          exact vtsErr_none HQ.out B5.out
end Go.Proofs.YtikhffdbjelanaaDoor
namespace Go.Proofs.YtikhffdbjelanaaDoor
open Go.RowKit
set_option linter.unusedVariables false

theorem con24 : Con24 Tab where
  keep := fun h hb => h.below (Nat.le_refl _) hb
  check := fun l A c w hr ho hT => checkV_any l A c w hr ho.long hT
  find := fun l n A c w hr ho hn hT => findV_any l n A c w hr ho.long hT
  count := fun l p A c w hr ho hp hT => countV_any l p A c w hr ho hT
  add := fun l n p A c w hr ho hn hp hT => addV_any l n p A c w hr ho hn hT
  issue := fun l n A c w hr ho hn hT => issue_v l n A c w hr ho hT
  ret := fun l n A c w hr ho hn hT => ret_v l n A c w hr ho hT
  vote := fun l n A c w hr ho hn hT => vote_v l n A c w hr ho hT
  strike := fun l n A c w hr ho hn hT => strike_v l n A c w hr ho hT
  restore := fun l n A c w hr ho hn hT => restore_v l n A c w hr ho hT
  bytes := fun l A c w hr ho hT => bytesV_any l A c w hr ho hT
  read := fun l A c w hr hl hT => readV_any l A c w hr hl hT
end Go.Proofs.YtikhffdbjelanaaDoor
