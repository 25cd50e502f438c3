/- contest's Check, Place; slices.Equal; Same. -/
import Derived.Test.YtdjifopdlkppoaaDoorCdV
namespace Go.Proofs.YtdjifopdlkppoaaDoor
open Go.RowKit
set_option linter.unusedVariables false

set_option maxRecDepth 100000 in
set_option maxHeartbeats 400000 in
theorem check_any (x : Ct) (A : Option Addr) (c : Nat) (w : World) (hc : CtOk w A c x) (hT : Tab w) :
    Calls Tryd.prog 12 #[cv A c x] w fun e w' => e = .returned (.int .i64 (checkM x)) ∧ Below w.heap.size w w' := by
  have HM := Lib.hid (fun (h10 : x.cands.length ≤ 10) wx (hb : Below w.heap.size w wx) => isValid_any x A c wx (hc.below hb) h10 (hT.below (Nat.le_refl _) hb))
  have hbw := fun (o : Obj) => below_new w o
  clear hc hT
  by_cases h1 : 10 < x.cands.length
  · have h1d : decide ((10 : Int) < (x.cands.length : Int)) = true := by simp; omega
    have HC := Lib.hid (show checkM x = 4 by unfold checkM; rw [if_pos h1])
    clear h1
    unfold cv cvs
    go_enter Tryd.func12, Tryd.ntmps12
    go_wp2_with fail
    go_ret
    exact ⟨by rw [HC.out] <;> rfl, hbw _⟩
  · have h1d : decide ((10 : Int) < (x.cands.length : Int)) = false := by simp; omega
    have HM := Lib.hid (HM.out (by omega))
    cases hm : mayB x with
    | true =>
      have HB := Lib.hid hm
      have HC := Lib.hid (show checkM x = 0 by unfold checkM; rw [if_neg h1, if_pos hm])
      clear h1 hm
      unfold cv cvs
      go_enter Tryd.func12, Tryd.ntmps12
      go_wp2_with fail
      refine (HM.out _ (hbw _)).mono ?_
      rintro e w1 ⟨rfl, hb⟩
      rw [HB.out]
      go_wp2_with fail
      go_ret
      exact ⟨by rw [HC.out] <;> rfl, (hbw _).trans (hb.mono (hbw _).size)⟩
    | false =>
      have HB := Lib.hid hm
      have HC := Lib.hid (show checkM x = 8 by unfold checkM; rw [if_neg h1, hm]; rfl)
      clear h1 hm
      unfold cv cvs
      go_enter Tryd.func12, Tryd.ntmps12
      go_wp2_with fail
      refine (HM.out _ (hbw _)).mono ?_
      rintro e w1 ⟨rfl, hb⟩
      rw [HB.out]
      go_wp2_with fail
      go_ret
      exact ⟨by rw [HC.out] <;> rfl, (hbw _).trans (hb.mono (hbw _).size)⟩

set_option maxRecDepth 100000 in
set_option maxHeartbeats 400000 in
theorem place_any (x : Ct) (y : List UInt8) (A : Option Addr) (c : Nat) (w : World) (hx : CtOk w A c x) (hT : Tab w) :
    Calls Tryd.prog 22 #[cv A c x, .string ⟨y.toArray⟩] w fun e w' => e = .returned (.tuple #[.int .i64 (placeM x y).1, .int .i64 (placeM x y).2]) ∧ Below w.heap.size w w' := by
  have HK := Lib.hid (fun wx (hb : Below w.heap.size w wx) => check_any x A c wx (hx.below hb) (hT.below (Nat.le_refl _) hb))
  have hbw := fun (o : Obj) => below_new w o
  rcases checkM_cases x with hc | hc | hc
  · have HC := Lib.hid hc
    have HP := Lib.hid (place_ok y hc)
    have HR := Lib.hid (fun wx (hb : Below w.heap.size w wx) => index_any x.cands y _ rfl A c wx (hx.below hb).rd)
    have HBK := Lib.hid (fun wx (hb : Below (w.alloc (.cells (cvs A c x) 26)).heap.size (w.alloc (.cells (cvs A c x) 26)) wx) => (show Blk wx w.heap.size _ (cvs A c x) from (Blk.new w 26 (cvs A c x)).below hb (by simp)).cell 1)
    have hcap : x.cands.length < 10000 := by
      have := ((mayB_iff x).1 (checkM_ok.1 hc)).2.2.1
      omega
    clear hc hx hT
    unfold cvs at HBK
    unfold cv cvs
    by_cases hm : y ∈ x.cands
    · have hlt := List.idxOf_lt_length_iff.2 hm
      obtain ⟨k, hk⟩ : ∃ k, k = x.cands.idxOf y := ⟨_, rfl⟩
      rw [← hk] at hlt
      have HI := Lib.hid (show indexM x.cands y = ((k : Nat) : Int) by unfold indexM; rw [if_pos hm, hk])
      have HB := Lib.hid (show placeM x y = (((k : Nat) : Int), 0) by rw [HP.out, if_pos hm, hk])
      clear hk hm
      go_enter Tryd.func22, Tryd.ntmps22
      go_wp2_with fail
      refine (HK.out _ (hbw _)).mono ?_
      rintro e w1 ⟨rfl, hb⟩
      rw [HC.out]
      have hc1 : w1.cell? ⟨w.heap.size, 1, none⟩ = some (.slice A x.cands.length c) := HBK.out w1 hb
      have HBW := Lib.hid ((hbw _).trans (hb.mono (hbw _).size))
      have HI2 := Lib.hid (HR.out w1 HBW.out)
      clear hb HK
      go_wp2_with fail
      refine HI2.out.mono ?_
      rintro e w2 ⟨rfl, rfl⟩
      rw [HI.out]
      go_wp2_with fail
      go_ret2
      exact ⟨by rw [HB.out] <;> rfl, HBW.out⟩
    · have HI := Lib.hid (show indexM x.cands y = -1 by unfold indexM; rw [if_neg hm])
      have HB := Lib.hid (show placeM x y = (0, 6) by rw [HP.out, if_neg hm])
      clear hm
      go_enter Tryd.func22, Tryd.ntmps22
      go_wp2_with fail
      refine (HK.out _ (hbw _)).mono ?_
      rintro e w1 ⟨rfl, hb⟩
      rw [HC.out]
      have hc1 : w1.cell? ⟨w.heap.size, 1, none⟩ = some (.slice A x.cands.length c) := HBK.out w1 hb
      have HBW := Lib.hid ((hbw _).trans (hb.mono (hbw _).size))
      have HI2 := Lib.hid (HR.out w1 HBW.out)
      clear hb HK
      go_wp2_with fail
      refine HI2.out.mono ?_
      rintro e w2 ⟨rfl, rfl⟩
      rw [HI.out]
      go_wp2_with fail
      go_ret2
      exact ⟨by rw [HB.out] <;> rfl, HBW.out⟩
  all_goals
    have HC := Lib.hid hc
    have HB := Lib.hid (show placeM x y = (0, checkM x) by unfold placeM; rw [if_pos (by rw [hc]; decide)])
    clear hc hx hT
    unfold cv cvs
    go_enter Tryd.func22, Tryd.ntmps22
    go_wp2_with fail
    refine (HK.out _ (hbw _)).mono ?_
    rintro e w1 ⟨rfl, hb⟩
    rw [HC.out]
    go_wp2_with fail
    go_ret2
    exact ⟨by rw [HB.out, HC.out] <;> rfl, (hbw _).trans (hb.mono (hbw _).size)⟩

set_option maxRecDepth 100000 in
set_option maxHeartbeats 400000 in
theorem equal_any (l l2 : List (List UInt8)) (A A2 : Option Addr) (c c2 : Nat) (w : World) (hr : Rf sv w w.heap.size A c l) (hr2 : Rf sv w w.heap.size A2 c2 l2) :
    Calls Tryd.prog 49 #[.slice A l.length c, .slice A2 l2.length c2] w fun e w' => e = .returned (.bool (decide (l = l2))) ∧ ∃ q, w' = w.drewN q := by
  have hcm := hr.capm
  have hcp := hr.cap
  have hcm2 := hr2.capm
  have hcp2 := hr2.cap
  unfold maxLen at hcm hcm2
  by_cases h4 : l.length = l2.length
  case neg =>
    have h4d : ((l.length : Int) != (l2.length : Int)) = true := by rw [bne_iff_ne]; omega
    have HB := Lib.hid (show decide (l = l2) = false from decide_eq_false (fun e => h4 (by rw [e])))
    have h4p : ¬ (l.length : Int) = (l2.length : Int) := by omega
    clear h4
    go_enter Tryd.func49, Tryd.ntmps49
    go_wp2_with fail
    go_ret
    exact ⟨by rw [HB.out] <;> rfl, 0, rfl⟩
  have h4d : ((l.length : Int) != (l2.length : Int)) = false := by rw [bne_eq_false_iff_eq]; omega
  have HL := Lib.hid h4
  have HR := Lib.hid hr
  have HR2 := Lib.hid hr2
  clear h4 hr hr2
  go_enter Tryd.func49, Tryd.ntmps49
  go_wp2_with fail
  go_loopw [13] (fun i wr => ∃ k : Nat, k ≤ l.length ∧ i = .int .i64 k ∧ Hid (l.take k = l2.take k) ∧ ∃ q, wr = w.drewN q) (fun i _ => l.length - (intOf i).toNat)
  case atStart => exact ⟨0, Nat.zero_le _, rfl, by simp [Hid], 0, rfl⟩
  case round =>
    obtain ⟨k, hk, rfl, hpre, q, rfl⟩ := hrel
    by_cases hlt : k < l.length
    · have hlt2 : k < l2.length := by rw [← HL.out]; exact hlt
      obtain ⟨b, o, rfl, hb, hc⟩ := HR.out.at_ hlt
      obtain ⟨b2, o2, rfl, hb2, hc2⟩ := HR2.out.at_ hlt2
      have hcx := hc k hlt
      have hcy := hc2 k hlt2
      have tx := List.take_succ_eq_append_getElem hlt
      have ty := List.take_succ_eq_append_getElem hlt2
      obtain ⟨u, hxk⟩ : ∃ u, u = l[k] := ⟨_, rfl⟩
      obtain ⟨v, hyk⟩ : ∃ v, v = l2[k] := ⟨_, rfl⟩
      rw [← hxk] at hcx tx
      rw [← hyk] at hcy ty
      unfold sv at hcx hcy
      have TX := Lib.hid tx
      have TY := Lib.hid ty
      clear hc hc2 hxk hyk tx ty
      by_cases he : u = v
      · subst he
        go_wp2_with fail
        go_quiet (fail)
        go_wp2_with fail
        go_roundw
        case rel => exact ⟨k + 1, by omega, by go_num, by show _ = _; rw [TX.out, TY.out, hpre.out], q + nq, by first | rfl | rw [World.drewN_drewN]⟩
        case measure => simp [intOf]; omega
      · have hbe : (u == v) = false := by rw [beq_eq_false_iff_ne]; exact he
        have HD := Lib.hid (show decide (l = l2) = false from decide_eq_false (fun e => by
          have h1 := TX.out
          rw [e, TY.out] at h1
          have := (List.append_inj' h1 rfl).2
          simp at this
          exact he this.symm))
        go_wp2_with fail
        go_quiet (fail)
        go_wp2_with fail
        go_ret
        exact ⟨by rw [HD.out] <;> rfl, by first | exact ⟨q + nq, rfl⟩ | (rw [World.drewN_drewN]; exact ⟨_, rfl⟩)⟩
    · have HD := Lib.hid (show decide (l = l2) = true from decide_eq_true (by
        have h1 := hpre.out
        have hl := HL.out
        rwa [List.take_of_length_le (by omega), List.take_of_length_le (by omega)] at h1))
      go_wp2_with fail
      go_ret
      exact ⟨by rw [HD.out] <;> rfl, by first | exact ⟨_, rfl⟩ | exact ⟨q, rfl⟩⟩
end Go.Proofs.YtdjifopdlkppoaaDoor
