/- The reference's Split. -/
import Derived.Test.YtdjifopdlkppoaaDoorOcJoin
namespace Go.Proofs.YtdjifopdlkppoaaDoor.Oc
open Go.RowKit
set_option linter.unusedVariables false

/-- What a call answers that returns a list of byte strings and an error. -/
def ListErr (w : World) (q : List (List UInt8) × Int) (e : Ending) (w' : World) : Prop :=
  ∃ A' c' ys, e = .returned (.tuple #[.slice A' ys.length c', .int .i64 q.2]) ∧ byts ys = q.1 ∧ OwnL w' w.heap.size A' c' ys ∧ Below w.heap.size w w'

/-- Where the loop of a split stands: 'ys' have been taken, p is the place behind them. -/
structure SplitAt (l : List UInt8) (p : Nat) (ys : List El) : Prop where
  fit : Fit (byts ys)
  len : p = (flat (byts ys)).length
  whole : l = flat (byts ys) ++ l.drop p
theorem SplitAt.start (l : List UInt8) : SplitAt l 0 [] := ⟨(fun _ h => by cases h), rfl, rfl⟩
theorem SplitAt.le {l : List UInt8} {p : Nat} {ys : List El} (h : SplitAt l p ys) : p ≤ l.length := by
  have := congrArg List.length h.whole
  rw [List.length_append, ← h.len] at this
  omega
theorem SplitAt.count {l : List UInt8} {p : Nat} {ys : List El} (h : SplitAt l p ys) : 2 * ys.length ≤ l.length := by
  have := flat_count (byts ys)
  rw [byts_len, ← h.len] at this
  have := h.le
  omega
theorem SplitAt.step {l : List UInt8} {p : Nat} {ys : List El} (h : SplitAt l p ys) {x : El} (hx : x.l.length ≤ 65535) (hd : l.drop p = fld x.l ++ l.drop (p + 2 + x.l.length)) : SplitAt l (p + 2 + x.l.length) (ys ++ [x]) := by
  have e : byts (ys ++ [x]) = byts ys ++ [x.l] := by simp [byts]
  refine ⟨?_, ?_, ?_⟩
  · rw [e]
    intro z hz
    rcases List.mem_append.1 hz with hz | hz
    · exact h.fit z hz
    · simp at hz; subst hz; exact hx
  · rw [e, flat_snoc, List.length_append, fld_len, ← h.len]; omega
  · rw [e, flat_snoc, List.append_assoc, ← hd]; exact h.whole
theorem SplitAt.done {l : List UInt8} {p : Nat} {ys : List El} (h : SplitAt l p ys) (hp : ¬ p < l.length) (hl : l.length ≤ 16384) : splitM l = (byts ys, 0) := by
  have e : l = flat (byts ys) := by
    have := h.whole
    rw [List.drop_eq_nil_of_le (by omega), List.append_nil] at this
    exact this
  have hl' : (flat (byts ys)).length ≤ 16384 := by rw [← e]; exact hl
  rw [e]
  exact splitM_flat h.fit hl'
theorem SplitAt.stuck {l : List UInt8} {p : Nat} {ys : List El} (h : SplitAt l p ys) (hp : p < l.length) (hl : l.length ≤ 16384) (hno : ∀ x r, x.length ≤ 65535 → l.drop p ≠ fld x ++ r) : splitM l = ([], 10) := by
  refine splitM_no hl fun L hL e => ?_
  refine no_flat (byts ys) (l.drop p) h.fit (fun e0 => ?_) hno L hL (h.whole ▸ e)
  have := congrArg List.length e0
  rw [List.length_drop] at this
  simp at this
  omega

set_option maxHeartbeats 2000000 in
theorem refSplit_any (A : Option Addr) (c : Nat) (l : List UInt8) (w : World) (hr : Rd w w.heap.size A c l) (hl : l.length ≤ 200000) :
    Calls Tryd.prog 57 #[.slice A l.length c] w (ListErr w (splitM l)) := by
  by_cases hbig : 16384 < l.length
  · rw [splitM_big hbig]
    have hi : (16384 : Int) < l.length := by omega
    go_enter Tryd.func57, Tryd.ntmps57
    go_wp2_with fail
    go_ret2
    exact ⟨none, 0, [], rfl, rfl, OwnL.nil _ _, Below.refl _ _⟩
  have hi : ¬ (16384 : Int) < l.length := by omega
  have hle : l.length ≤ 16384 := by omega
  go_enter Tryd.func57, Tryd.ntmps57
  go_wp2_with fail
  go_loopw [4, 5] (fun v i wr => ∃ p : Nat, ∃ A' c' ys, i = .int .i64 p ∧ v = .slice A' ys.length c' ∧ SplitAt l p ys ∧ OwnL wr w.heap.size A' c' ys ∧ Below w.heap.size w wr) (fun _ i _ => l.length - (intOf i).toNat)
  case atStart => exact ⟨0, none, 0, [], rfl, rfl, SplitAt.start l, OwnL.nil _ _, Below.refl _ _⟩
  case round =>
    obtain ⟨p, A1, c1, ys, rfl, rfl, hsp, hown1, hb1⟩ := hrel
    have hs1 := hb1.size
    have hple := hsp.le
    have hcnt := hsp.count
    by_cases hlt : p < l.length
    · have hT := refTakeField_any A c l p wr ((hr.below hb1).more hs1) hl (by omega) (by omega)
      rcases takeFieldM_spec l p hple with ⟨x, hx, hxl, hq, hd⟩ | ⟨hq, hno⟩
      · rw [hq] at hT
        have HT := Lib.hid hT
        have HD := Lib.hid hd
        clear hT hd hq
        go_wp2_with fail
        refine HT.out.mono ?_
        rintro e w2 ⟨A2, c2, r2, rfl, hr2, hown2, hb2⟩
        obtain rfl : r2 = x := hr2
        have hs2 := hb2.size
        have hown1' := hown1.below (Nat.le_refl _) hb2
        have hx2 := hown2.lower hs1
        obtain ⟨X, hX⟩ : ∃ X : El, X = ⟨A2, c2, r2⟩ := ⟨_, rfl⟩
        go_wp2_with (at_builtin; refine wpList_append_el w2 rfl _ _ rfl w.heap.size ys ⟨A2, c2, r2⟩ rfl rfl hown1' hx2 (by omega) (by omega) ?_; intro A3 c3 w3 zs hzs hown3 hg3 hb3)
        have hst := hsp.step (x := ⟨A2, c2, r2⟩) hx HD.out
        have hzs' : zs = ys ++ [⟨A2, c2, r2⟩] := hzs.out
        rw [← hzs'] at hst
        have hbn : Below w.heap.size w w3 := ((hb1.trans (hb2.mono hs1)).alloc (by omega) _).trans (below_of_grown hg3 (by simp; omega) (fun g hg => (hown1.blk_ge g hg).1))
        clear hzs'
        go_roundw
        case rel => exact ⟨p + 2 + r2.length, A3, c3, zs, by go_num, rfl, hst, hown3, hbn⟩
        case measure => simp [intOf]; omega
      · rw [hq] at hT
        have HT := Lib.hid hT
        have hq2 := hsp.stuck hlt hle hno
        have HQ := Lib.hid hq2
        clear hT hq hno hq2
        go_wp2_with fail
        refine HT.out.mono ?_
        rintro e w2 ⟨A2, c2, r2, rfl, hr2, hown2, hb2⟩
        go_wp2_with fail
        go_ret2
        rw [HQ.out]
        exact ⟨none, 0, [], rfl, rfl, OwnL.nil _ _, hb1.trans (hb2.mono hs1)⟩
    · have hq2 := hsp.done hlt hle
      have HQ := Lib.hid hq2
      clear hq2
      go_wp2_with fail
      go_ret2
      rw [HQ.out]
      exact ⟨A1, c1, ys, rfl, rfl, hown1, hb1⟩
end Go.Proofs.YtdjifopdlkppoaaDoor.Oc
