/- The reference's Done. A voter in a block of the call's own: loaded and stored whole. The reference's Add. The reference's Find, Count. -/
import Derived.Test.YtikhffdbjelanaaDoorGf
namespace Go.Proofs.YtikhffdbjelanaaDoor
open Go.RowKit
set_option linter.unusedVariables false

theorem vInfo : (Tryd.prog.info? 30).map (fun i => (i.zero, i.size, i.bytes)) = some (some (.agg #[.string ⟨#[]⟩, .int .i64 0, .int .u8 0]), 3, 32) := by kernel_rfl
/-- A list of voters of the call's own. -/
abbrev OwV (w : World) (base : Nat) (A : Option Addr) (c : Nat) (l : List Vt) : Prop := OwK 3 vl w base 30 A c l
/-- A list of voters and an error. -/
def VtsErr (w : World) (q : List Vt × Int) (e : Ending) (w' : World) : Prop :=
  ∃ (A : Option Addr) (c : Nat) (r : List Vt) (er : Int), e = .returned (.tuple #[.slice A r.length c, .int .i64 er]) ∧ (r, er) = q ∧ OwV w' w.heap.size A c r ∧ Below w.heap.size w w'
theorem vtsErr_none {w w' : World} {q : List Vt × Int} {er : Int} (h : q = ([], er)) (hb : Below w.heap.size w w') : VtsErr w q (.returned (.tuple #[.slice none 0 0, .int .i64 er])) w' :=
  ⟨none, 0, [], er, rfl, h.symm, OwK.nil _ _ _, hb⟩
theorem doneV_bad {l : List Vt} {n : List UInt8} {o : Int} (h : checkV l ≠ 0) : doneV l n o = ([], checkV l) := by unfold doneV; rw [if_pos h]
theorem doneV_none {l : List Vt} {n : List UInt8} {o : Int} (h : checkV l = 0) (ha : atV l n = none) : doneV l n o = ([], 6) := by unfold doneV; rw [if_neg (by simp [h]), ha]
theorem doneV_state {l : List Vt} {n : List UInt8} {o : Int} (h : checkV l = 0) {i : Nat} (hi : i < l.length) (ha : atV l n = some i) (hs : l[i].state ≠ (wasis o).1) : doneV l n o = ([], 241) := by
  unfold doneV; rw [if_neg (by simp [h]), ha]
  simp only [List.getElem?_eq_getElem hi]
  rw [if_pos hs]
theorem doneV_yes {l : List Vt} {n : List UInt8} {o : Int} (h : checkV l = 0) {i : Nat} (hi : i < l.length) (ha : atV l n = some i) (hs : l[i].state = (wasis o).1) : doneV l n o = (l.set i { l[i] with state := (wasis o).2 }, 0) := by
  unfold doneV; rw [if_neg (by simp [h]), ha]
  simp only [List.getElem?_eq_getElem hi]
  rw [if_neg (by omega)]
theorem ne_zero_cases {l : List Vt} (h : checkV l ≠ 0) : checkV l = 4 ∨ checkV l = 8 := by
  rcases checkV_cases l with h' | h' | h'
  · exact absurd h' h
  · exact .inl h'
  · exact .inr h'

set_option maxRecDepth 100000 in
set_option maxHeartbeats 4000000 in
theorem refDone_any (l : List Vt) (n : List UInt8) (o : Int) (A : Option Addr) (c : Nat) (w : World) (hr : Rvt w w.heap.size A c l) (hn : ∀ v ∈ l, v.name.length ≤ 4000000000) :
    Calls Tryd.prog 30 #[.slice A l.length c, .string ⟨n.toArray⟩, .int .i64 o] w (VtsErr w (doneV l n o)) := by
  have HK := Lib.hid (fun wx (hb : Below w.heap.size w wx) => refCheckV_any l A c wx ((hr.below hb).more hb.size) hn)
  by_cases h0 : checkV l = 0
  case neg =>
    rcases ne_zero_cases h0 with h4 | h4
    all_goals
      have HE := Lib.hid h4
      have HQ := Lib.hid (doneV_bad (n := n) (o := o) h0)
      rw [h4] at HQ
      clear h0 h4 hr hn
      go_enter Tryd.func30, Tryd.ntmps30
      go_wp2_with fail
      refine (HK.out _ (Below.refl _ _)).mono ?_
      rintro e w1 ⟨rfl, hb⟩
      rw [HE.out]
      go_wp2_with fail
      go_ret2
      exact vtsErr_none HQ.out hb
  have hl : l.length ≤ 64 := (checkV_ok.1 h0).1
  have HE := Lib.hid h0
  have HR := Lib.hid hr
  have HA := Lib.hid (fun wx (hb : Below w.heap.size w wx) => refAt_any l n A c wx ((hr.below hb).more hb.size) (by omega))
  cases ha : atV l n with
  | none =>
    have HI := Lib.hid (show atI l n = -1 by unfold atI; rw [ha])
    have HQ := Lib.hid (doneV_none (o := o) h0 ha)
    clear h0 ha hr hn
    go_enter Tryd.func30, Tryd.ntmps30
    go_wp2_with fail
    refine (HK.out _ (Below.refl _ _)).mono ?_
    rintro e w1 ⟨rfl, hb⟩
    rw [HE.out]
    have HB := Lib.hid hb
    clear hb
    go_wp2_with fail
    refine (HA.out _ HB.out).mono ?_
    rintro e w2 ⟨rfl, rfl⟩
    rw [HI.out]
    go_wp2_with fail
    go_ret2
    exact vtsErr_none HQ.out HB.out
  | some i =>
    obtain ⟨hi, hnm, _⟩ := atV_some ha
    have HI := Lib.hid (show atI l n = (i : Int) by unfold atI; rw [ha])
    obtain ⟨x, hx⟩ : ∃ x, x = l[i] := ⟨_, rfl⟩
    have HSet := fun (a b : Nat) (hw : wasis o = (a, b)) (hs : x.state = a) => show doneV l n o = (l.set i { x with state := b }, 0) from by
      have := doneV_yes (o := o) h0 hi ha (by rw [← hx, hw]; exact hs)
      rw [this, hw, ← hx]
    have HSt := fun (a b : Nat) (hw : wasis o = (a, b)) (hs : x.state ≠ a) => show doneV l n o = ([], 241) from
      doneV_state h0 hi ha (by rw [← hx, hw]; exact hs)
    have hcell := fun (wx : World) (hb : Below w.heap.size w wx) => (hr.below hb).vt1 hi hx
    have HX := Lib.hid hx
    clear h0 ha hnm hx hr hn
    have h5 : o = 1 ∨ o = 2 ∨ o = 3 ∨ o = 4 ∨ (o ≠ 1 ∧ o ≠ 2 ∧ o ≠ 3 ∧ o ≠ 4) := by omega
    rcases h5 with rfl | rfl | rfl | rfl | ⟨n1, n2, n3, n4⟩
    · have HS := Lib.hid (HSet _ _ (show wasis 1 = (1, 2) from rfl))
      have HN := Lib.hid (HSt _ _ (show wasis 1 = (1, 2) from rfl))
      have HC := Lib.hid hcell
      clear HSet HSt hcell
      by_cases he : x.state = 1
      · have HQ := Lib.hid (HS.out he)
        have hei : (x.state : Int) = 1 := by omega
        clear he
        go_enter Tryd.func30, Tryd.ntmps30
        go_wp2_with fail
        refine (HK.out _ (Below.refl _ _)).mono ?_
        rintro e w1 ⟨rfl, hb⟩
        rw [HE.out]
        have HB := Lib.hid hb
        clear hb
        go_wp2_with fail
        refine (HA.out _ HB.out).mono ?_
        rintro e w2 ⟨rfl, rfl⟩
        rw [HI.out]
        obtain ⟨b, q, hA, hbb, f1, f2, f3⟩ := HC.out _ HB.out
        subst hA
        have hsz := HB.out.size
        obtain ⟨i0, hi0, hz0, hz1, hz2⟩ := info_parts vInfo
        rw [hei] at f3
        go_wp2_with (at_builtin; refine wpList_append_k _ vl_len vl_one rfl _ _ 22 rfl w.heap.size 30 32 i0 _ Tryd.underlying22 hi0 hz0 hz1 (by omega) hz2 (by omega) rfl ([] : List Vt) l rfl rfl (owk_zero _ _ _ hsz) ((HR.out.below (HB.out.trans ((below_new w2 _).mono hsz))).more (by omega)) (by simp; omega) (by simp; omega) ?_; intro A3 c3 w3 r3 hr3 ho3 hg3 hb3)
        obtain rfl : r3 = l := by rw [hr3.out, List.nil_append]
        have HB3 := Lib.hid ((HB.out.trans ((below_new w2 _).mono hsz)).trans (below_of_grown hg3 (by simp; omega) (by intro k hk; simp [blk] at hk; omega)))
        clear hr3 hg3 hb3
        have HO3 := Lib.hid ho3
        obtain ⟨g, rfl, hge, hgl, hlc, hcm⟩ : ∃ g, A3 = some ⟨g, 0, none⟩ ∧ w.heap.size ≤ g ∧ g < w3.heap.size ∧ r3.length ≤ c3 ∧ c3 ≤ maxLen := by
          rcases ho3.form with ⟨_, _, h⟩ | h
          · rw [h] at hi; simp at hi
          · exact h
        have hcs : w3.cell? ⟨g, i * 3 + 2, none⟩ = some (.int .u8 1) := by
          have := ho3.cell vl_len i hi 2 (by omega)
          rw [this, ← HX.out]
          simp [vl, hei]
        have hfz : w3.frozen? ⟨g, i * 3 + 2, none⟩ = false := ho3.frozen _
        have HST := Lib.hid (HO3.out.stored vl_len i hi 2 (by omega) { x with state := 2 } (.int .u8 2) (by rw [← HX.out]; rfl))
        clear ho3 HS HN HC HK HA HR
        go_wp2_with fail
        go_simp
        go_wp2_with fail
        go_ret2
        exact ⟨_, _, _, 0, by rw [List.length_set]; rfl, HQ.out.symm, HST.out.1, HB3.out.trans (below_of_grown HST.out.2 HB3.out.size (by intro k hk; simp at hk; omega))⟩
      · have HQ := Lib.hid (HN.out he)
        have hei : ¬ (x.state : Int) = 1 := by omega
        clear he
        go_enter Tryd.func30, Tryd.ntmps30
        go_wp2_with fail
        refine (HK.out _ (Below.refl _ _)).mono ?_
        rintro e w1 ⟨rfl, hb⟩
        rw [HE.out]
        have HB := Lib.hid hb
        clear hb
        go_wp2_with fail
        refine (HA.out _ HB.out).mono ?_
        rintro e w2 ⟨rfl, rfl⟩
        rw [HI.out]
        obtain ⟨b, q, hA, hbb, f1, f2, f3⟩ := HC.out _ HB.out
        subst hA
        have hsz := HB.out.size
        go_wp2_with fail
        go_ret2
        exact vtsErr_none HQ.out HB.out
    · have HS := Lib.hid (HSet _ _ (show wasis 2 = (2, 1) from rfl))
      have HN := Lib.hid (HSt _ _ (show wasis 2 = (2, 1) from rfl))
      have HC := Lib.hid hcell
      clear HSet HSt hcell
      by_cases he : x.state = 2
      · have HQ := Lib.hid (HS.out he)
        have hei : (x.state : Int) = 2 := by omega
        clear he
        go_enter Tryd.func30, Tryd.ntmps30
        go_wp2_with fail
        refine (HK.out _ (Below.refl _ _)).mono ?_
        rintro e w1 ⟨rfl, hb⟩
        rw [HE.out]
        have HB := Lib.hid hb
        clear hb
        go_wp2_with fail
        refine (HA.out _ HB.out).mono ?_
        rintro e w2 ⟨rfl, rfl⟩
        rw [HI.out]
        obtain ⟨b, q, hA, hbb, f1, f2, f3⟩ := HC.out _ HB.out
        subst hA
        have hsz := HB.out.size
        obtain ⟨i0, hi0, hz0, hz1, hz2⟩ := info_parts vInfo
        rw [hei] at f3
        go_wp2_with (at_builtin; refine wpList_append_k _ vl_len vl_one rfl _ _ 22 rfl w.heap.size 30 32 i0 _ Tryd.underlying22 hi0 hz0 hz1 (by omega) hz2 (by omega) rfl ([] : List Vt) l rfl rfl (owk_zero _ _ _ hsz) ((HR.out.below (HB.out.trans ((below_new w2 _).mono hsz))).more (by omega)) (by simp; omega) (by simp; omega) ?_; intro A3 c3 w3 r3 hr3 ho3 hg3 hb3)
        obtain rfl : r3 = l := by rw [hr3.out, List.nil_append]
        have HB3 := Lib.hid ((HB.out.trans ((below_new w2 _).mono hsz)).trans (below_of_grown hg3 (by simp; omega) (by intro k hk; simp [blk] at hk; omega)))
        clear hr3 hg3 hb3
        have HO3 := Lib.hid ho3
        obtain ⟨g, rfl, hge, hgl, hlc, hcm⟩ : ∃ g, A3 = some ⟨g, 0, none⟩ ∧ w.heap.size ≤ g ∧ g < w3.heap.size ∧ r3.length ≤ c3 ∧ c3 ≤ maxLen := by
          rcases ho3.form with ⟨_, _, h⟩ | h
          · rw [h] at hi; simp at hi
          · exact h
        have hcs : w3.cell? ⟨g, i * 3 + 2, none⟩ = some (.int .u8 2) := by
          have := ho3.cell vl_len i hi 2 (by omega)
          rw [this, ← HX.out]
          simp [vl, hei]
        have hfz : w3.frozen? ⟨g, i * 3 + 2, none⟩ = false := ho3.frozen _
        have HST := Lib.hid (HO3.out.stored vl_len i hi 2 (by omega) { x with state := 1 } (.int .u8 1) (by rw [← HX.out]; rfl))
        clear ho3 HS HN HC HK HA HR
        go_wp2_with fail
        go_simp
        go_wp2_with fail
        go_ret2
        exact ⟨_, _, _, 0, by rw [List.length_set]; rfl, HQ.out.symm, HST.out.1, HB3.out.trans (below_of_grown HST.out.2 HB3.out.size (by intro k hk; simp at hk; omega))⟩
      · have HQ := Lib.hid (HN.out he)
        have hei : ¬ (x.state : Int) = 2 := by omega
        clear he
        go_enter Tryd.func30, Tryd.ntmps30
        go_wp2_with fail
        refine (HK.out _ (Below.refl _ _)).mono ?_
        rintro e w1 ⟨rfl, hb⟩
        rw [HE.out]
        have HB := Lib.hid hb
        clear hb
        go_wp2_with fail
        refine (HA.out _ HB.out).mono ?_
        rintro e w2 ⟨rfl, rfl⟩
        rw [HI.out]
        obtain ⟨b, q, hA, hbb, f1, f2, f3⟩ := HC.out _ HB.out
        subst hA
        have hsz := HB.out.size
        go_wp2_with fail
        go_ret2
        exact vtsErr_none HQ.out HB.out
    · have HS := Lib.hid (HSet _ _ (show wasis 3 = (2, 3) from rfl))
      have HN := Lib.hid (HSt _ _ (show wasis 3 = (2, 3) from rfl))
      have HC := Lib.hid hcell
      clear HSet HSt hcell
      by_cases he : x.state = 2
      · have HQ := Lib.hid (HS.out he)
        have hei : (x.state : Int) = 2 := by omega
        clear he
        go_enter Tryd.func30, Tryd.ntmps30
        go_wp2_with fail
        refine (HK.out _ (Below.refl _ _)).mono ?_
        rintro e w1 ⟨rfl, hb⟩
        rw [HE.out]
        have HB := Lib.hid hb
        clear hb
        go_wp2_with fail
        refine (HA.out _ HB.out).mono ?_
        rintro e w2 ⟨rfl, rfl⟩
        rw [HI.out]
        obtain ⟨b, q, hA, hbb, f1, f2, f3⟩ := HC.out _ HB.out
        subst hA
        have hsz := HB.out.size
        obtain ⟨i0, hi0, hz0, hz1, hz2⟩ := info_parts vInfo
        rw [hei] at f3
        go_wp2_with (at_builtin; refine wpList_append_k _ vl_len vl_one rfl _ _ 22 rfl w.heap.size 30 32 i0 _ Tryd.underlying22 hi0 hz0 hz1 (by omega) hz2 (by omega) rfl ([] : List Vt) l rfl rfl (owk_zero _ _ _ hsz) ((HR.out.below (HB.out.trans ((below_new w2 _).mono hsz))).more (by omega)) (by simp; omega) (by simp; omega) ?_; intro A3 c3 w3 r3 hr3 ho3 hg3 hb3)
        obtain rfl : r3 = l := by rw [hr3.out, List.nil_append]
        have HB3 := Lib.hid ((HB.out.trans ((below_new w2 _).mono hsz)).trans (below_of_grown hg3 (by simp; omega) (by intro k hk; simp [blk] at hk; omega)))
        clear hr3 hg3 hb3
        have HO3 := Lib.hid ho3
        obtain ⟨g, rfl, hge, hgl, hlc, hcm⟩ : ∃ g, A3 = some ⟨g, 0, none⟩ ∧ w.heap.size ≤ g ∧ g < w3.heap.size ∧ r3.length ≤ c3 ∧ c3 ≤ maxLen := by
          rcases ho3.form with ⟨_, _, h⟩ | h
          · rw [h] at hi; simp at hi
          · exact h
        have hcs : w3.cell? ⟨g, i * 3 + 2, none⟩ = some (.int .u8 2) := by
          have := ho3.cell vl_len i hi 2 (by omega)
          rw [this, ← HX.out]
          simp [vl, hei]
        have hfz : w3.frozen? ⟨g, i * 3 + 2, none⟩ = false := ho3.frozen _
        have HST := Lib.hid (HO3.out.stored vl_len i hi 2 (by omega) { x with state := 3 } (.int .u8 3) (by rw [← HX.out]; rfl))
        clear ho3 HS HN HC HK HA HR
        go_wp2_with fail
        go_simp
        go_wp2_with fail
        go_ret2
        exact ⟨_, _, _, 0, by rw [List.length_set]; rfl, HQ.out.symm, HST.out.1, HB3.out.trans (below_of_grown HST.out.2 HB3.out.size (by intro k hk; simp at hk; omega))⟩
      · have HQ := Lib.hid (HN.out he)
        have hei : ¬ (x.state : Int) = 2 := by omega
        clear he
        go_enter Tryd.func30, Tryd.ntmps30
        go_wp2_with fail
        refine (HK.out _ (Below.refl _ _)).mono ?_
        rintro e w1 ⟨rfl, hb⟩
        rw [HE.out]
        have HB := Lib.hid hb
        clear hb
        go_wp2_with fail
        refine (HA.out _ HB.out).mono ?_
        rintro e w2 ⟨rfl, rfl⟩
        rw [HI.out]
        obtain ⟨b, q, hA, hbb, f1, f2, f3⟩ := HC.out _ HB.out
        subst hA
        have hsz := HB.out.size
        go_wp2_with fail
        go_ret2
        exact vtsErr_none HQ.out HB.out
    · have HS := Lib.hid (HSet _ _ (show wasis 4 = (1, 4) from rfl))
      have HN := Lib.hid (HSt _ _ (show wasis 4 = (1, 4) from rfl))
      have HC := Lib.hid hcell
      clear HSet HSt hcell
      by_cases he : x.state = 1
      · have HQ := Lib.hid (HS.out he)
        have hei : (x.state : Int) = 1 := by omega
        clear he
        go_enter Tryd.func30, Tryd.ntmps30
        go_wp2_with fail
        refine (HK.out _ (Below.refl _ _)).mono ?_
        rintro e w1 ⟨rfl, hb⟩
        rw [HE.out]
        have HB := Lib.hid hb
        clear hb
        go_wp2_with fail
        refine (HA.out _ HB.out).mono ?_
        rintro e w2 ⟨rfl, rfl⟩
        rw [HI.out]
        obtain ⟨b, q, hA, hbb, f1, f2, f3⟩ := HC.out _ HB.out
        subst hA
        have hsz := HB.out.size
        obtain ⟨i0, hi0, hz0, hz1, hz2⟩ := info_parts vInfo
        rw [hei] at f3
        go_wp2_with (at_builtin; refine wpList_append_k _ vl_len vl_one rfl _ _ 22 rfl w.heap.size 30 32 i0 _ Tryd.underlying22 hi0 hz0 hz1 (by omega) hz2 (by omega) rfl ([] : List Vt) l rfl rfl (owk_zero _ _ _ hsz) ((HR.out.below (HB.out.trans ((below_new w2 _).mono hsz))).more (by omega)) (by simp; omega) (by simp; omega) ?_; intro A3 c3 w3 r3 hr3 ho3 hg3 hb3)
        obtain rfl : r3 = l := by rw [hr3.out, List.nil_append]
        have HB3 := Lib.hid ((HB.out.trans ((below_new w2 _).mono hsz)).trans (below_of_grown hg3 (by simp; omega) (by intro k hk; simp [blk] at hk; omega)))
        clear hr3 hg3 hb3
        have HO3 := Lib.hid ho3
        obtain ⟨g, rfl, hge, hgl, hlc, hcm⟩ : ∃ g, A3 = some ⟨g, 0, none⟩ ∧ w.heap.size ≤ g ∧ g < w3.heap.size ∧ r3.length ≤ c3 ∧ c3 ≤ maxLen := by
          rcases ho3.form with ⟨_, _, h⟩ | h
          · rw [h] at hi; simp at hi
          · exact h
        have hcs : w3.cell? ⟨g, i * 3 + 2, none⟩ = some (.int .u8 1) := by
          have := ho3.cell vl_len i hi 2 (by omega)
          rw [this, ← HX.out]
          simp [vl, hei]
        have hfz : w3.frozen? ⟨g, i * 3 + 2, none⟩ = false := ho3.frozen _
        have HST := Lib.hid (HO3.out.stored vl_len i hi 2 (by omega) { x with state := 4 } (.int .u8 4) (by rw [← HX.out]; rfl))
        clear ho3 HS HN HC HK HA HR
        go_wp2_with fail
        go_simp
        go_wp2_with fail
        go_ret2
        exact ⟨_, _, _, 0, by rw [List.length_set]; rfl, HQ.out.symm, HST.out.1, HB3.out.trans (below_of_grown HST.out.2 HB3.out.size (by intro k hk; simp at hk; omega))⟩
      · have HQ := Lib.hid (HN.out he)
        have hei : ¬ (x.state : Int) = 1 := by omega
        clear he
        go_enter Tryd.func30, Tryd.ntmps30
        go_wp2_with fail
        refine (HK.out _ (Below.refl _ _)).mono ?_
        rintro e w1 ⟨rfl, hb⟩
        rw [HE.out]
        have HB := Lib.hid hb
        clear hb
        go_wp2_with fail
        refine (HA.out _ HB.out).mono ?_
        rintro e w2 ⟨rfl, rfl⟩
        rw [HI.out]
        obtain ⟨b, q, hA, hbb, f1, f2, f3⟩ := HC.out _ HB.out
        subst hA
        have hsz := HB.out.size
        go_wp2_with fail
        go_ret2
        exact vtsErr_none HQ.out HB.out
    · have HS := Lib.hid (HSet _ _ (show wasis o = (4, 1) from by unfold wasis; rw [if_neg n1, if_neg n2, if_neg n3, if_neg n4]))
      have HN := Lib.hid (HSt _ _ (show wasis o = (4, 1) from by unfold wasis; rw [if_neg n1, if_neg n2, if_neg n3, if_neg n4]))
      have HC := Lib.hid hcell
      clear HSet HSt hcell
      by_cases he : x.state = 4
      · have HQ := Lib.hid (HS.out he)
        have hei : (x.state : Int) = 4 := by omega
        clear he
        go_enter Tryd.func30, Tryd.ntmps30
        go_wp2_with fail
        refine (HK.out _ (Below.refl _ _)).mono ?_
        rintro e w1 ⟨rfl, hb⟩
        rw [HE.out]
        have HB := Lib.hid hb
        clear hb
        go_wp2_with fail
        refine (HA.out _ HB.out).mono ?_
        rintro e w2 ⟨rfl, rfl⟩
        rw [HI.out]
        obtain ⟨b, q, hA, hbb, f1, f2, f3⟩ := HC.out _ HB.out
        subst hA
        have hsz := HB.out.size
        obtain ⟨i0, hi0, hz0, hz1, hz2⟩ := info_parts vInfo
        rw [hei] at f3
        go_wp2_with (at_builtin; refine wpList_append_k _ vl_len vl_one rfl _ _ 22 rfl w.heap.size 30 32 i0 _ Tryd.underlying22 hi0 hz0 hz1 (by omega) hz2 (by omega) rfl ([] : List Vt) l rfl rfl (owk_zero _ _ _ hsz) ((HR.out.below (HB.out.trans ((below_new w2 _).mono hsz))).more (by omega)) (by simp; omega) (by simp; omega) ?_; intro A3 c3 w3 r3 hr3 ho3 hg3 hb3)
        obtain rfl : r3 = l := by rw [hr3.out, List.nil_append]
        have HB3 := Lib.hid ((HB.out.trans ((below_new w2 _).mono hsz)).trans (below_of_grown hg3 (by simp; omega) (by intro k hk; simp [blk] at hk; omega)))
        clear hr3 hg3 hb3
        have HO3 := Lib.hid ho3
        obtain ⟨g, rfl, hge, hgl, hlc, hcm⟩ : ∃ g, A3 = some ⟨g, 0, none⟩ ∧ w.heap.size ≤ g ∧ g < w3.heap.size ∧ r3.length ≤ c3 ∧ c3 ≤ maxLen := by
          rcases ho3.form with ⟨_, _, h⟩ | h
          · rw [h] at hi; simp at hi
          · exact h
        have hcs : w3.cell? ⟨g, i * 3 + 2, none⟩ = some (.int .u8 4) := by
          have := ho3.cell vl_len i hi 2 (by omega)
          rw [this, ← HX.out]
          simp [vl, hei]
        have hfz : w3.frozen? ⟨g, i * 3 + 2, none⟩ = false := ho3.frozen _
        have HST := Lib.hid (HO3.out.stored vl_len i hi 2 (by omega) { x with state := 1 } (.int .u8 1) (by rw [← HX.out]; rfl))
        clear ho3 HS HN HC HK HA HR
        go_wp2_with fail
        go_simp
        go_wp2_with fail
        go_ret2
        exact ⟨_, _, _, 0, by rw [List.length_set]; rfl, HQ.out.symm, HST.out.1, HB3.out.trans (below_of_grown HST.out.2 HB3.out.size (by intro k hk; simp at hk; omega))⟩
      · have HQ := Lib.hid (HN.out he)
        have hei : ¬ (x.state : Int) = 4 := by omega
        clear he
        go_enter Tryd.func30, Tryd.ntmps30
        go_wp2_with fail
        refine (HK.out _ (Below.refl _ _)).mono ?_
        rintro e w1 ⟨rfl, hb⟩
        rw [HE.out]
        have HB := Lib.hid hb
        clear hb
        go_wp2_with fail
        refine (HA.out _ HB.out).mono ?_
        rintro e w2 ⟨rfl, rfl⟩
        rw [HI.out]
        obtain ⟨b, q, hA, hbb, f1, f2, f3⟩ := HC.out _ HB.out
        subst hA
        have hsz := HB.out.size
        go_wp2_with fail
        go_ret2
        exact vtsErr_none HQ.out HB.out
end Go.Proofs.YtikhffdbjelanaaDoor
namespace Go.Proofs.YtikhffdbjelanaaDoor
open Go.RowKit
set_option linter.unusedVariables false

theorem grown_setRow24 (w : World) (g : Nat) (cs : Array Value) : w.grownBy (w.setRow g cs) (some g) :=
  ⟨rfl, rfl, rfl, by simp, fun k _ hk => setRow_other w g k cs (fun e => hk (by rw [e]))⟩
theorem size_vt : (Tryd.prog.info? 30).map (·.size) = some 3 := by kernel_rfl
theorem wpList_load_vt {w : World} {ops : Array Oper} {rest : List Oper} {o : Oper} {a : Act} {Q : Exit → Act → World → Prop} (hw : Region.wanted o (yielded ops a.tmps) = true) (y : Operand) (ho : o.op = .load 30 y)
    (g : Nat) (hx : a.eval y = .pointer (some ⟨g, 0, none⟩)) {x : Vt} (hB : Blk w g 30 (vvs x)) (h : wpList Tryd.prog ops Q rest (a.put o.dst (vv x)) w) : wpList Tryd.prog ops Q (o :: rest) a w :=
  BigFrame.wpList_want hw fun K hK => wp_load_row _ y ho g hx 30 _ _ _ hB Tryd.underlying30 rfl size_vt (hK _ _ h)
theorem wpList_store_vt {w : World} {ops : Array Oper} {rest : List Oper} {o : Oper} {a : Act} {Q : Exit → Act → World → Prop} (hgd : o.guard = none) (y z : Operand) (ho : o.op = .store 30 y z)
    (g : Nat) (hx : a.eval y = .pointer (some ⟨g, 0, none⟩)) {old : Array Value} (hB : Blk w g 30 old) (hold : old.size = 3) {x : Vt} (hy : a.eval z = vv x)
    (h : ∀ w', Blk w' g 30 (vvs x) → w.grownBy w' (some g) → wpList Tryd.prog ops Q rest (a.put o.dst undef) w') : wpList Tryd.prog ops Q (o :: rest) a w :=
  wpList_store_row hgd _ y z ho g (vvs x) hx hy 30 old hB size_vt hold (by simp [vvs, Value.oneCell']) (h _ (setRow_heap w g _ _ _ _ hB) (grown_setRow24 w g _))
/-- Two results, the first of them a voter in a cell. -/
theorem vt_ret2 {fn : Func} {p q : Tmp} (h : fn.results = #[.cell p 30, .tmp q]) {a : Act} {w : World} {g : Nat} {x : Vt} {Q : Ending → World → Prop}
    (hp : a.tmps.getD p undef = .pointer (some ⟨g, 0, none⟩)) (hB : Blk w g 30 (vvs x)) (hd : a.defers = []) (hQ : Q (.returned (.tuple #[vv x, a.tmps.getD q undef])) w) : bodyPost Tryd.prog fn Q .ret a w := by
  refine bodyPost_ret (v := .tuple #[vv x, a.tmps.getD q undef]) ?_ hd hQ
  have hld := run_loadVar_row w g 30 30 _ _ _ hB Tryd.underlying30 rfl size_vt
  have hp' : a.tmps[p]?.getD undef = .pointer (some ⟨g, 0, none⟩) := by simpa using hp
  simp [results, h, hp', asAddr, hld, Result.andThen, vv]
end Go.Proofs.YtikhffdbjelanaaDoor
namespace Go.Proofs.YtikhffdbjelanaaDoor
open Go.RowKit
set_option linter.unusedVariables false

theorem addV_bad {l : List Vt} {n : List UInt8} {p : Int} (h : checkV l ≠ 0) : addV l n p = ([], checkV l) := by unfold addV; rw [if_pos h]
theorem addV_arg {l : List Vt} {n : List UInt8} {p : Int} (h : checkV l = 0) (hm : mayV (newV n p) = false) : addV l n p = ([], 2) := by unfold addV; rw [if_neg (by simp [h]), if_pos hm]
theorem addV_again {l : List Vt} {n : List UInt8} {p : Int} (h : checkV l = 0) (hm : mayV (newV n p) = true) {i : Nat} (ha : atV l n = some i) : addV l n p = ([], 240) := by
  unfold addV; rw [if_neg (by simp [h]), if_neg (by simp [hm]), if_pos (by rw [ha]; rfl)]
theorem addV_full {l : List Vt} {n : List UInt8} {p : Int} (h : checkV l = 0) (hm : mayV (newV n p) = true) (ha : atV l n = none) (hl : 64 ≤ l.length) : addV l n p = ([], 9) := by
  unfold addV; rw [if_neg (by simp [h]), if_neg (by simp [hm]), if_neg (by rw [ha]; simp), if_pos hl]
theorem addV_yes {l : List Vt} {n : List UInt8} {p : Int} (h : checkV l = 0) (hm : mayV (newV n p) = true) (ha : atV l n = none) (hl : ¬ 64 ≤ l.length) : addV l n p = (insV l (newV n p), 0) := by
  unfold addV; rw [if_neg (by simp [h]), if_neg (by simp [hm]), if_neg (by rw [ha]; simp), if_neg hl]
/-- How far the insertion has come. -/
def Insd (l : List Vt) (v : Vt) (k : Nat) (put : Bool) (out : List Vt) : Prop :=
  if put then out ++ l.drop k = insV l v ∧ out.length = k + 1 else out = l.take k ∧ out ++ insV (l.drop k) v = insV l v
theorem insd_start (l : List Vt) (v : Vt) : Insd l v 0 false [] := ⟨rfl, rfl⟩
theorem insd_put {l : List Vt} {v : Vt} {k : Nat} {out : List Vt} (h : Insd l v k false out) (hk : k < l.length) (hlt : ltB v.name l[k].name = true) : Insd l v (k + 1) true (out ++ [v] ++ [l[k]]) := by
  obtain ⟨h1, h2⟩ := h
  have e : l.drop k = l[k] :: l.drop (k + 1) := List.drop_eq_getElem_cons hk
  refine ⟨?_, by simp [h1]; omega⟩
  rw [← h2, e, insV, if_pos hlt]
  simp
theorem insd_skip {l : List Vt} {v : Vt} {k : Nat} {out : List Vt} (h : Insd l v k false out) (hk : k < l.length) (hlt : ltB v.name l[k].name = false) : Insd l v (k + 1) false (out ++ [l[k]]) := by
  obtain ⟨h1, h2⟩ := h
  have e : l.drop k = l[k] :: l.drop (k + 1) := List.drop_eq_getElem_cons hk
  refine ⟨by rw [h1, List.take_succ_eq_append_getElem hk], ?_⟩
  rw [← h2, e, insV, if_neg (by simp [hlt])]
  simp
theorem insd_on {l : List Vt} {v : Vt} {k : Nat} {out : List Vt} (h : Insd l v k true out) (hk : k < l.length) : Insd l v (k + 1) true (out ++ [l[k]]) := by
  obtain ⟨h1, h2⟩ := h
  have e : l.drop k = l[k] :: l.drop (k + 1) := List.drop_eq_getElem_cons hk
  refine ⟨?_, by simp; omega⟩
  rw [← h1, e]
  simp
theorem insd_end {l : List Vt} {v : Vt} {out : List Vt} (h : Insd l v l.length true out) : out = insV l v := by
  obtain ⟨h1, h2⟩ := h
  simpa using h1
theorem insd_last {l : List Vt} {v : Vt} {out : List Vt} (h : Insd l v l.length false out) : out ++ [v] = insV l v := by
  obtain ⟨h1, h2⟩ := h
  simpa [insV] using h2
theorem insd_len {l : List Vt} {v : Vt} {k : Nat} {put : Bool} {out : List Vt} (h : Insd l v k put out) (hk : k ≤ l.length) : out.length ≤ k + 1 := by
  cases put with
  | true => exact Nat.le_of_eq h.2
  | false => rw [h.1]; simp; omega

set_option maxRecDepth 100000 in
set_option maxHeartbeats 4000000 in
theorem refAdd_any (l : List Vt) (n : List UInt8) (p : Int) (A : Option Addr) (c : Nat) (w : World) (hr : Rvt w w.heap.size A c l) (hn : ∀ v ∈ l, v.name.length ≤ 4000000000) (hnn : n.length ≤ 4000000000) :
    Calls Tryd.prog 27 #[.slice A l.length c, .string ⟨n.toArray⟩, .int .i64 p] w (VtsErr w (addV l n p)) := by
  have HK := Lib.hid (fun wx (hb : Below w.heap.size w wx) => refCheckV_any l A c wx ((hr.below hb).more hb.size) hn)
  have HV := Lib.hid (fun wx => refMayV_any (newV n p) wx hnn)
  have HB0 := Lib.hid (fun (wx : World) => (show Blk (wx.alloc (.cells (vvs (newV n p)) 30)) wx.heap.size 30 (vvs (newV n p)) from Blk.new wx _ _))
  have HV1 := Lib.hid (show ∀ wx, Calls Tryd.prog 48 #[.agg #[.string ⟨n.toArray⟩, .int .i64 p, .int .u8 1]] wx fun e w' => e = .returned (.bool (mayV (newV n p))) ∧ Below wx.heap.size wx w' from HV.out)
  have HB1 := Lib.hid (show ∀ wx : World, Blk (wx.alloc (.cells #[.string ⟨n.toArray⟩, .int .i64 p, .int .u8 1] 30)) wx.heap.size 30 #[.string ⟨n.toArray⟩, .int .i64 p, .int .u8 1] from HB0.out)
  clear HV HB0
  by_cases h0 : checkV l = 0
  case neg =>
    rcases ne_zero_cases h0 with h4 | h4
    all_goals
      have HE := Lib.hid h4
      have HQ := Lib.hid (addV_bad (n := n) (p := p) h0)
      rw [h4] at HQ
      clear h0 h4 hr hn
      go_enter Tryd.func27, Tryd.ntmps27
      go_wp2_with fail
      refine (HK.out _ (Below.refl _ _)).mono ?_
      rintro e w1 ⟨rfl, hb⟩
      rw [HE.out]
      have B1 := Lib.hid hb
      clear hb
      go_wp2_with fail
      go_ret2
      exact vtsErr_none HQ.out B1.out
  have hl : l.length ≤ 64 := (checkV_ok.1 h0).1
  have HE := Lib.hid h0
  have HR := Lib.hid hr
  have HA := Lib.hid (fun wx (hb : Below w.heap.size w wx) => refAt_any l n A c wx ((hr.below hb).more hb.size) (by omega))
  cases hm : mayV (newV n p) with
  | false =>
    have HM := Lib.hid hm
    have HQ := Lib.hid (addV_arg h0 hm)
    clear h0 hm hr hn
    go_enter Tryd.func27, Tryd.ntmps27
    go_wp2_with fail
    refine (HK.out _ (Below.refl _ _)).mono ?_
    rintro e w1 ⟨rfl, hb⟩
    rw [HE.out]
    have B1 := Lib.hid hb
    clear hb
    go_wp2_with fail
    refine (HV1.out _).mono ?_
    rintro e w2 ⟨rfl, hb⟩
    have HW := Lib.hid ((HB1.out w1).below hb (by simp))
    have B2 := Lib.hid ((B1.out.trans ((below_new w1 _).mono B1.out.size)).trans (hb.mono (by have := B1.out.size; simp; omega)))
    have hgw : w1.heap.size < w2.heap.size := by have := hb.size; simp at this; omega
    have hgb := B1.out.size
    clear hb
    rw [HM.out]
    go_wp2_with fail
    go_ret2
    exact vtsErr_none HQ.out B2.out
  | true =>
  have HM := Lib.hid hm
  cases ha : atV l n with
  | some i =>
    have HI := Lib.hid (show atI l n = (i : Int) by unfold atI; rw [ha])
    have HQ := Lib.hid (addV_again h0 hm ha)
    have hii : decide ((0 : Int) ≤ (i : Int)) = true := by simp
    clear h0 hm ha hr hn
    go_enter Tryd.func27, Tryd.ntmps27
    go_wp2_with fail
    refine (HK.out _ (Below.refl _ _)).mono ?_
    rintro e w1 ⟨rfl, hb⟩
    rw [HE.out]
    have B1 := Lib.hid hb
    clear hb
    go_wp2_with fail
    refine (HV1.out _).mono ?_
    rintro e w2 ⟨rfl, hb⟩
    have HW := Lib.hid ((HB1.out w1).below hb (by simp))
    have B2 := Lib.hid ((B1.out.trans ((below_new w1 _).mono B1.out.size)).trans (hb.mono (by have := B1.out.size; simp; omega)))
    have hgw : w1.heap.size < w2.heap.size := by have := hb.size; simp at this; omega
    have hgb := B1.out.size
    clear hb
    rw [HM.out]
    go_wp2_with fail
    refine (HA.out _ B2.out).mono ?_
    rintro e w3 ⟨rfl, rfl⟩
    rw [HI.out]
    go_wp2_with fail
    go_ret2
    exact vtsErr_none HQ.out B2.out
  | none =>
  have HI := Lib.hid (show atI l n = -1 by unfold atI; rw [ha])
  by_cases h64 : 64 ≤ l.length
  · have HQ := Lib.hid (addV_full h0 hm ha h64)
    have h64d : decide ((64 : Int) ≤ (l.length : Int)) = true := by simp; omega
    clear h0 hm ha hr hn h64
    go_enter Tryd.func27, Tryd.ntmps27
    go_wp2_with fail
    refine (HK.out _ (Below.refl _ _)).mono ?_
    rintro e w1 ⟨rfl, hb⟩
    rw [HE.out]
    have B1 := Lib.hid hb
    clear hb
    go_wp2_with fail
    refine (HV1.out _).mono ?_
    rintro e w2 ⟨rfl, hb⟩
    have HW := Lib.hid ((HB1.out w1).below hb (by simp))
    have B2 := Lib.hid ((B1.out.trans ((below_new w1 _).mono B1.out.size)).trans (hb.mono (by have := B1.out.size; simp; omega)))
    have hgw : w1.heap.size < w2.heap.size := by have := hb.size; simp at this; omega
    have hgb := B1.out.size
    clear hb
    rw [HM.out]
    go_wp2_with fail
    refine (HA.out _ B2.out).mono ?_
    rintro e w3 ⟨rfl, rfl⟩
    rw [HI.out]
    go_wp2_with fail
    go_ret2
    exact vtsErr_none HQ.out B2.out
  have HQ := Lib.hid (addV_yes h0 hm ha h64)
  have HNE := Lib.hid (atV_none.1 ha)
  have h64d : decide ((64 : Int) ≤ (l.length : Int)) = false := by simp; omega
  clear h0 hm ha hr hn h64
  go_enter Tryd.func27, Tryd.ntmps27
  go_wp2_with fail
  refine (HK.out _ (Below.refl _ _)).mono ?_
  rintro e w1 ⟨rfl, hb⟩
  rw [HE.out]
  have B1 := Lib.hid hb
  clear hb
  go_wp2_with fail
  refine (HV1.out _).mono ?_
  rintro e w2 ⟨rfl, hb⟩
  have HW := Lib.hid ((HB1.out w1).below hb (by simp))
  have B2 := Lib.hid ((B1.out.trans ((below_new w1 _).mono B1.out.size)).trans (hb.mono (by have := B1.out.size; simp; omega)))
  have hgw : w1.heap.size < w2.heap.size := by have := hb.size; simp at this; omega
  have hgb := B1.out.size
  clear hb
  rw [HM.out]
  go_wp2_with fail
  refine (HA.out _ B2.out).mono ?_
  rintro e w3 ⟨rfl, rfl⟩
  rw [HI.out]
  generalize w1.heap.size = gb at *
  obtain ⟨i0, hi0, hz0, hz1, hz2⟩ := info_parts vInfo
  go_wp2_with fail
  go_loopw [10, 11, 12] (fun s10 s11 s12 wr => ∃ (k : Nat) (put : Bool) (A1 : Option Addr) (c1 : Nat) (out : List Vt), k ≤ l.length ∧ s12 = .int .i64 k ∧ s11 = .bool put ∧ s10 = .slice A1 out.length c1 ∧ Hid (Insd l (newV n p) k put out) ∧ Hid (OwV wr w3.heap.size A1 c1 out) ∧ Hid (Below w3.heap.size w3 wr)) (fun _ _ s12 _ => l.length - (intOf s12).toNat)
  case atStart => exact ⟨0, false, none, 0, [], Nat.zero_le _, rfl, rfl, rfl, insd_start _ _, OwK.nil _ _ _, Below.refl _ _⟩
  case round =>
    obtain ⟨k, put, A1, c1, out, hk, rfl, rfl, rfl, hin, ho, hbw⟩ := hrel
    have hol := insd_len hin.out hk
    have hsz := hbw.out.size
    have HWR := Lib.hid (HW.out.below hbw.out hgw)
    have B4 := Lib.hid (B2.out.trans (hbw.out.mono B2.out.size))
    have hgs := B2.out.size
    have g0 : wr.cell? ⟨gb, 0, none⟩ = some (.string ⟨n.toArray⟩) := HWR.out.cell 0
    have g1 : wr.cell? ⟨gb, 1, none⟩ = some (.int .i64 p) := HWR.out.cell 1
    have g2 : wr.cell? ⟨gb, 2, none⟩ = some (.int .u8 1) := HWR.out.cell 2
    by_cases hlt : k < l.length
    · obtain ⟨x, hx⟩ : ∃ x, x = l[k] := ⟨_, rfl⟩
      obtain ⟨b, q, hA, hbb, f1, f2, f3⟩ := (HR.out.below B4.out).vt1 hlt hx
      obtain ⟨b', q', hA', _, f01, f02, f03⟩ := (HR.out.below B2.out).vt1 hlt hx
      subst hA
      obtain ⟨rfl, rfl⟩ : b = b' ∧ q = q' := by simpa using hA'
      have hwn := HNE.out x (by rw [hx]; exact List.getElem_mem hlt)
      cases put with
      | false =>
        cases hlx : ltB n x.name with
        | true =>
          have HIN := Lib.hid (insd_put hin.out hlt (by rw [← hx]; exact hlx))
          rw [← hx] at HIN
          have h1 : Op.bytesLess x.name n = false := ltB_asymm hlx
          have h2 : (x.name == n) = false := by simpa using hwn
          clear hwn hlx hx hA'
          go_wp2_with (first
            | (at_builtin; refine wpList_append_k _ vl_len vl_one rfl _ _ 22 rfl w3.heap.size 30 32 i0 _ Tryd.underlying22 hi0 hz0 hz1 (by omega) hz2 (by omega) rfl out [newV n p] rfl rfl (ho.out.alloc _) (rk_one _ vl_len (newV n p) _ rfl _) (by simp; omega) (by simp; omega) ?_; intro A4 c4 w4 r4 hr4 ho4 hg4 hb4; have BW4 := Lib.hid (below_app hbw.out hsz hg4 (fun k hk => (ho.out.blk_ge k hk).1)); have hf1 := (BW4.out.cell (p := ⟨b, q + k * 3, none⟩) (by simp; omega)).trans f01; have hf2 := (BW4.out.cell (p := ⟨b, q + k * 3 + 1, none⟩) (by simp; omega)).trans f02; have hf3 := (BW4.out.cell (p := ⟨b, q + k * 3 + 2, none⟩) (by simp; omega)).trans f03; have hsz4 := BW4.out.size; have hol4 : r4.length ≤ 100 := by rw [hr4.out]; simp; omega)
            | (at_builtin; refine wpList_append_k _ vl_len vl_one rfl _ _ 22 rfl w3.heap.size 30 32 i0 _ Tryd.underlying22 hi0 hz0 hz1 (by omega) hz2 (by omega) rfl r4 [x] rfl rfl (ho4.alloc _) (rk_one _ vl_len x _ rfl _) (by simp; omega) (by simp; omega) ?_; intro A5 c5 w5 r5 hr5 ho5 hg5 hb5))
          have HIN5 := Lib.hid (show Insd l (newV n p) (k + 1) true r5 by rw [hr5.out, hr4.out]; exact HIN.out)
          have BW5 := Lib.hid (below_app BW4.out hsz4 hg5 (fun k hk => (ho4.blk_ge k hk).1))
          go_roundw
          case rel => exact ⟨k + 1, true, A5, c5, r5, by omega, by go_num, rfl, rfl, HIN5, ho5, BW5⟩
          case measure => simp [intOf]; omega
        | false =>
          have HIN := Lib.hid (insd_skip hin.out hlt (by rw [← hx]; exact hlx))
          rw [← hx] at HIN
          have h1 : Op.bytesLess x.name n = true := by
            cases h : ltB x.name n with
            | true => exact h
            | false => exact absurd (ltB_tri h hlx) hwn
          clear hwn hlx hx hA'
          go_wp2_with (at_builtin; refine wpList_append_k _ vl_len vl_one rfl _ _ 22 rfl w3.heap.size 30 32 i0 _ Tryd.underlying22 hi0 hz0 hz1 (by omega) hz2 (by omega) rfl out [x] rfl rfl (ho.out.alloc _) (rk_one _ vl_len x _ rfl _) (by simp; omega) (by simp; omega) ?_; intro A5 c5 w5 r5 hr5 ho5 hg5 hb5)
          have HIN5 := Lib.hid (show Insd l (newV n p) (k + 1) false r5 by rw [hr5.out]; exact HIN.out)
          have BW5 := Lib.hid (below_app hbw.out hsz hg5 (fun k hk => (ho.out.blk_ge k hk).1))
          go_roundw
          case rel => exact ⟨k + 1, false, A5, c5, r5, by omega, by go_num, rfl, rfl, HIN5, ho5, BW5⟩
          case measure => simp [intOf]; omega
      | true =>
        have HIN := Lib.hid (insd_on hin.out hlt)
        rw [← hx] at HIN
        clear hwn hx hA'
        go_wp2_with (at_builtin; refine wpList_append_k _ vl_len vl_one rfl _ _ 22 rfl w3.heap.size 30 32 i0 _ Tryd.underlying22 hi0 hz0 hz1 (by omega) hz2 (by omega) rfl out [x] rfl rfl (ho.out.alloc _) (rk_one _ vl_len x _ rfl _) (by simp; omega) (by simp; omega) ?_; intro A5 c5 w5 r5 hr5 ho5 hg5 hb5)
        have HIN5 := Lib.hid (show Insd l (newV n p) (k + 1) true r5 by rw [hr5.out]; exact HIN.out)
        have BW5 := Lib.hid (below_app hbw.out hsz hg5 (fun k hk => (ho.out.blk_ge k hk).1))
        go_roundw
        case rel => exact ⟨k + 1, true, A5, c5, r5, by omega, by go_num, rfl, rfl, HIN5, ho5, BW5⟩
        case measure => simp [intOf]; omega
    · obtain rfl : k = l.length := by omega
      cases put with
      | true =>
        have HEND := Lib.hid (insd_end hin.out)
        go_wp2_with fail
        go_ret2
        exact ⟨A1, c1, out, 0, rfl, by rw [HQ.out, HEND.out], ho.out.lower B2.out.size, B4.out⟩
      | false =>
        have HEND := Lib.hid (insd_last hin.out)
        go_wp2_with (at_builtin; refine wpList_append_k _ vl_len vl_one rfl _ _ 22 rfl w3.heap.size 30 32 i0 _ Tryd.underlying22 hi0 hz0 hz1 (by omega) hz2 (by omega) rfl out [newV n p] rfl rfl (ho.out.alloc _) (rk_one _ vl_len (newV n p) _ rfl _) (by simp; omega) (by simp; omega) ?_; intro A5 c5 w5 r5 hr5 ho5 hg5 hb5)
        go_ret2
        exact ⟨A5, c5, r5, 0, rfl, by rw [HQ.out, hr5.out, HEND.out], ho5.lower B2.out.size, below_app B4.out B4.out.size hg5 (fun k hk => Nat.le_trans B2.out.size (ho.out.blk_ge k hk).1)⟩
end Go.Proofs.YtikhffdbjelanaaDoor
namespace Go.Proofs.YtikhffdbjelanaaDoor
open Go.RowKit
set_option linter.unusedVariables false

/-- A voter and an error. -/
def VtErr (w : World) (q : Vt × Int) (e : Ending) (w' : World) : Prop :=
  ∃ (x : Vt) (er : Int), e = .returned (.tuple #[vv x, .int .i64 er]) ∧ (x, er) = q ∧ Below w.heap.size w w'
theorem findV_bad {l : List Vt} {n : List UInt8} (h : checkV l ≠ 0) : findV l n = (zeroV, checkV l) := by unfold findV; rw [if_pos h]
theorem findV_none {l : List Vt} {n : List UInt8} (h : checkV l = 0) (ha : atV l n = none) : findV l n = (zeroV, 6) := by unfold findV; rw [if_neg (by simp [h]), ha]
theorem findV_yes {l : List Vt} {n : List UInt8} (h : checkV l = 0) {i : Nat} (hi : i < l.length) (ha : atV l n = some i) : findV l n = (l[i], 0) := by
  unfold findV; rw [if_neg (by simp [h]), ha]; simp [hi]

set_option maxRecDepth 100000 in
set_option maxHeartbeats 2000000 in
theorem refFind_any (l : List Vt) (n : List UInt8) (A : Option Addr) (c : Nat) (w : World) (hr : Rvt w w.heap.size A c l) (hn : ∀ v ∈ l, v.name.length ≤ 4000000000) :
    Calls Tryd.prog 25 #[.slice A l.length c, .string ⟨n.toArray⟩] w (VtErr w (findV l n)) := by
  have HB0 := Lib.hid (show Blk (w.alloc (.cells #[.string ⟨#[]⟩, .int .i64 0, .int .u8 0] 30)) w.heap.size 30 #[.string ⟨#[]⟩, .int .i64 0, .int .u8 0] from Blk.new w _ _)
  have B0 := Lib.hid (below_new w (.cells #[.string ⟨#[]⟩, .int .i64 0, .int .u8 0] 30))
  have HK := Lib.hid (fun wx (hb : Below w.heap.size w wx) => refCheckV_any l A c wx ((hr.below hb).more hb.size) hn)
  by_cases h0 : checkV l = 0
  case neg =>
    rcases ne_zero_cases h0 with h4 | h4
    all_goals
      have HE := Lib.hid h4
      have HQ := Lib.hid (findV_bad (n := n) h0)
      rw [h4] at HQ
      clear h0 h4 hr hn
      go_enter Tryd.func25, Tryd.ntmps25
      go_wp2_with fail
      refine (HK.out _ B0.out).mono ?_
      rintro e w1 ⟨rfl, hb⟩
      rw [HE.out]
      have B1 := Lib.hid (B0.out.trans (hb.mono B0.out.size))
      have HB1 := Lib.hid (HB0.out.below hb HB0.out.lt)
      clear hb
      go_wp2_with ((with_reducible refine wpList_store_vt rfl (.tmp 4) (.tmp 12) rfl w.heap.size rfl HB1.out rfl (x := zeroV) rfl ?_); intro w2 hb2 hg2)
      refine vt_ret2 (g := w.heap.size) rfl rfl hb2 rfl ⟨zeroV, _, rfl, HQ.out.symm, B1.out.grown hg2 B1.out.size (fun k e => by cases e; exact Nat.le_refl _)⟩
  have hl : l.length ≤ 64 := (checkV_ok.1 h0).1
  have HE := Lib.hid h0
  have HR := Lib.hid hr
  have HA := Lib.hid (fun wx (hb : Below w.heap.size w wx) => refAt_any l n A c wx ((hr.below hb).more hb.size) (by omega))
  cases ha : atV l n with
  | none =>
    have HI := Lib.hid (show atI l n = -1 by unfold atI; rw [ha])
    have HQ := Lib.hid (findV_none h0 ha)
    clear h0 ha hr hn
    go_enter Tryd.func25, Tryd.ntmps25
    go_wp2_with fail
    refine (HK.out _ B0.out).mono ?_
    rintro e w1 ⟨rfl, hb⟩
    rw [HE.out]
    have B1 := Lib.hid (B0.out.trans (hb.mono B0.out.size))
    have HB1 := Lib.hid (HB0.out.below hb HB0.out.lt)
    clear hb
    go_wp2_with fail
    refine (HA.out _ B1.out).mono ?_
    rintro e w2 ⟨rfl, rfl⟩
    rw [HI.out]
    go_wp2_with ((with_reducible refine wpList_store_vt rfl (.tmp 4) (.tmp 19) rfl w.heap.size rfl HB1.out rfl (x := zeroV) rfl ?_); intro w3 hb3 hg3)
    refine vt_ret2 (g := w.heap.size) rfl rfl hb3 rfl ⟨zeroV, _, rfl, HQ.out.symm, B1.out.grown hg3 B1.out.size (fun k e => by cases e; exact Nat.le_refl _)⟩
  | some i =>
    obtain ⟨hi, hnm, _⟩ := atV_some ha
    have HI := Lib.hid (show atI l n = (i : Int) by unfold atI; rw [ha])
    have HQ := Lib.hid (findV_yes h0 hi ha)
    obtain ⟨x, hx⟩ : ∃ x, x = l[i] := ⟨_, rfl⟩
    rw [← hx] at HQ
    have HC := Lib.hid (fun (wx : World) (hb : Below w.heap.size w wx) => (hr.below hb).vt1 hi hx)
    have hii : decide ((i : Int) < 0) = false := by simp
    clear h0 ha hnm hx hr hn
    go_enter Tryd.func25, Tryd.ntmps25
    go_wp2_with fail
    refine (HK.out _ B0.out).mono ?_
    rintro e w1 ⟨rfl, hb⟩
    rw [HE.out]
    have B1 := Lib.hid (B0.out.trans (hb.mono B0.out.size))
    have HB1 := Lib.hid (HB0.out.below hb HB0.out.lt)
    clear hb
    go_wp2_with fail
    refine (HA.out _ B1.out).mono ?_
    rintro e w2 ⟨rfl, rfl⟩
    rw [HI.out]
    obtain ⟨b, q, hA, hbb, f1, f2, f3⟩ := HC.out _ B1.out
    subst hA
    go_wp2_with ((with_reducible refine wpList_store_vt rfl (.tmp 4) (.tmp 23) rfl w.heap.size rfl HB1.out rfl (x := x) rfl ?_); intro w3 hb3 hg3)
    refine vt_ret2 (g := w.heap.size) rfl rfl hb3 rfl ⟨x, _, rfl, HQ.out.symm, B1.out.grown hg3 B1.out.size (fun k e => by cases e; exact Nat.le_refl _)⟩

/-! ### Turnouts -/
def tvs (t : To) : Array Value := #[.int .i64 t.free, .int .i64 t.holds, .int .i64 t.voted, .int .i64 t.struck]
def tov (t : To) : Value := .agg (tvs t)
theorem size_to : (Tryd.prog.info? 34).map (·.size) = some 4 := by kernel_rfl
theorem wpList_store_to {w : World} {ops : Array Oper} {rest : List Oper} {o : Oper} {a : Act} {Q : Exit → Act → World → Prop} (hgd : o.guard = none) (y z : Operand) (ho : o.op = .store 34 y z)
    (g : Nat) (hx : a.eval y = .pointer (some ⟨g, 0, none⟩)) {old : Array Value} (hB : Blk w g 34 old) (hold : old.size = 4) {x : To} (hy : a.eval z = tov x)
    (h : ∀ w', Blk w' g 34 (tvs x) → w.grownBy w' (some g) → wpList Tryd.prog ops Q rest (a.put o.dst undef) w') : wpList Tryd.prog ops Q (o :: rest) a w :=
  wpList_store_row hgd _ y z ho g (tvs x) hx hy 34 old hB size_to hold (by simp [tvs, Value.oneCell']) (h _ (setRow_heap w g _ _ _ _ hB) (grown_setRow24 w g _))
theorem to_ret2 {fn : Func} {p q : Tmp} (h : fn.results = #[.cell p 34, .tmp q]) {a : Act} {w : World} {g : Nat} {x : To} {Q : Ending → World → Prop}
    (hp : a.tmps.getD p undef = .pointer (some ⟨g, 0, none⟩)) (hB : Blk w g 34 (tvs x)) (hd : a.defers = []) (hQ : Q (.returned (.tuple #[tov x, a.tmps.getD q undef])) w) : bodyPost Tryd.prog fn Q .ret a w := by
  refine bodyPost_ret (v := .tuple #[tov x, a.tmps.getD q undef]) ?_ hd hQ
  have hld := run_loadVar_row w g 34 34 _ _ _ hB Tryd.underlying34 rfl size_to
  have hp' : a.tmps[p]?.getD undef = .pointer (some ⟨g, 0, none⟩) := by simpa using hp
  simp [results, h, hp', asAddr, hld, Result.andThen, tov]
/-- A turnout and an error. -/
def ToErr (w : World) (q : To × Int) (e : Ending) (w' : World) : Prop :=
  ∃ (x : To) (er : Int), e = .returned (.tuple #[tov x, .int .i64 er]) ∧ (x, er) = q ∧ Below w.heap.size w w'
theorem countV_bad {l : List Vt} {p : Int} (h : checkV l ≠ 0) : countV l p = (zeroT, checkV l) := by unfold countV; rw [if_pos h]
theorem countV_arg {l : List Vt} {p : Int} (h : checkV l = 0) (hp : p < -1 ∨ 8 ≤ p) : countV l p = (zeroT, 2) := by unfold countV; rw [if_neg (by simp [h]), if_pos hp]
theorem countV_yes {l : List Vt} {p : Int} (h : checkV l = 0) (hp : ¬ (p < -1 ∨ 8 ≤ p)) : countV l p = (toV l p, 0) := by unfold countV; rw [if_neg (by simp [h]), if_neg hp]

set_option maxRecDepth 100000 in
set_option maxHeartbeats 2000000 in
theorem refCount_any (l : List Vt) (p : Int) (A : Option Addr) (c : Nat) (w : World) (hr : Rvt w w.heap.size A c l) (hn : ∀ v ∈ l, v.name.length ≤ 4000000000) :
    Calls Tryd.prog 26 #[.slice A l.length c, .int .i64 p] w (ToErr w (countV l p)) := by
  have HB0 := Lib.hid (show Blk (w.alloc (.cells #[.int .i64 0, .int .i64 0, .int .i64 0, .int .i64 0] 34)) w.heap.size 34 #[.int .i64 0, .int .i64 0, .int .i64 0, .int .i64 0] from Blk.new w _ _)
  have B0 := Lib.hid (below_new w (.cells #[.int .i64 0, .int .i64 0, .int .i64 0, .int .i64 0] 34))
  have HK := Lib.hid (fun wx (hb : Below w.heap.size w wx) => refCheckV_any l A c wx ((hr.below hb).more hb.size) hn)
  by_cases h0 : checkV l = 0
  case neg =>
    rcases ne_zero_cases h0 with h4 | h4
    all_goals
      have HE := Lib.hid h4
      have HQ := Lib.hid (countV_bad (p := p) h0)
      rw [h4] at HQ
      clear h0 h4 hr hn
      go_enter Tryd.func26, Tryd.ntmps26
      go_wp2_with fail
      refine (HK.out _ B0.out).mono ?_
      rintro e w1 ⟨rfl, hb⟩
      rw [HE.out]
      have B1 := Lib.hid (B0.out.trans (hb.mono B0.out.size))
      have HB1 := Lib.hid (HB0.out.below hb HB0.out.lt)
      clear hb
      go_wp2_with ((with_reducible refine wpList_store_to rfl (.tmp 4) (.tmp 11) rfl w.heap.size rfl HB1.out rfl (x := zeroT) rfl ?_); intro w2 hb2 hg2)
      refine to_ret2 (g := w.heap.size) rfl rfl hb2 rfl ⟨zeroT, _, rfl, HQ.out.symm, B1.out.grown hg2 B1.out.size (fun k e => by cases e; exact Nat.le_refl _)⟩
  have hl : l.length ≤ 64 := (checkV_ok.1 h0).1
  have HE := Lib.hid h0
  have HM := Lib.hid (fun (s : Nat) wx (hb : Below w.heap.size w wx) => refMany_any l p s A c wx ((hr.below hb).more hb.size) (by omega))
  by_cases h1 : p < -1
  · have h1d : decide (p < -1) = true := by simpa using h1
    have HQ := Lib.hid (countV_arg h0 (.inl h1))
    clear h0 hr hn h1
    go_enter Tryd.func26, Tryd.ntmps26
    go_wp2_with fail
    refine (HK.out _ B0.out).mono ?_
    rintro e w1 ⟨rfl, hb⟩
    rw [HE.out]
    have B1 := Lib.hid (B0.out.trans (hb.mono B0.out.size))
    have HB1 := Lib.hid (HB0.out.below hb HB0.out.lt)
    clear hb
    go_wp2_with ((with_reducible refine wpList_store_to rfl (.tmp 4) (.tmp 19) rfl w.heap.size rfl HB1.out rfl (x := zeroT) rfl ?_); intro w3 hb3 hg3)
    refine to_ret2 (g := w.heap.size) rfl rfl hb3 rfl ⟨zeroT, _, rfl, HQ.out.symm, B1.out.grown hg3 B1.out.size (fun k e => by cases e; exact Nat.le_refl _)⟩
  have h1d : decide (p < -1) = false := by simpa using h1
  by_cases h2 : 8 ≤ p
  · have h2d : decide (8 ≤ p) = true := by simpa using h2
    have HQ := Lib.hid (countV_arg h0 (.inr h2))
    clear h0 hr hn h1 h2
    go_enter Tryd.func26, Tryd.ntmps26
    go_wp2_with fail
    refine (HK.out _ B0.out).mono ?_
    rintro e w1 ⟨rfl, hb⟩
    rw [HE.out]
    have B1 := Lib.hid (B0.out.trans (hb.mono B0.out.size))
    have HB1 := Lib.hid (HB0.out.below hb HB0.out.lt)
    clear hb
    go_wp2_with ((with_reducible refine wpList_store_to rfl (.tmp 4) (.tmp 19) rfl w.heap.size rfl HB1.out rfl (x := zeroT) rfl ?_); intro w3 hb3 hg3)
    refine to_ret2 (g := w.heap.size) rfl rfl hb3 rfl ⟨zeroT, _, rfl, HQ.out.symm, B1.out.grown hg3 B1.out.size (fun k e => by cases e; exact Nat.le_refl _)⟩
  have h2d : decide (8 ≤ p) = false := by simpa using h2
  have HQ := Lib.hid (countV_yes (p := p) h0 (by omega))
  clear h0 hr hn h1 h2
  go_enter Tryd.func26, Tryd.ntmps26
  go_wp2_with fail
  refine (HK.out _ B0.out).mono ?_
  rintro e w1 ⟨rfl, hb⟩
  rw [HE.out]
  have B1 := Lib.hid (B0.out.trans (hb.mono B0.out.size))
  have HB1 := Lib.hid (HB0.out.below hb HB0.out.lt)
  clear hb
  go_wp2_with fail
  refine (HM.out 1 _ B1.out).mono ?_
  rintro e w2 ⟨rfl, rfl⟩
  go_wp2_with fail
  refine (HM.out 2 _ B1.out).mono ?_
  rintro e w2 ⟨rfl, rfl⟩
  go_wp2_with fail
  refine (HM.out 3 _ B1.out).mono ?_
  rintro e w2 ⟨rfl, rfl⟩
  go_wp2_with fail
  refine (HM.out 4 _ B1.out).mono ?_
  rintro e w2 ⟨rfl, rfl⟩
  go_wp2_with ((with_reducible refine wpList_store_to rfl (.tmp 4) (.tmp 32) rfl w.heap.size rfl HB1.out rfl (x := toV l p) rfl ?_); intro w3 hb3 hg3)
  refine to_ret2 (g := w.heap.size) rfl rfl hb3 rfl ⟨toV l p, _, rfl, HQ.out.symm, B1.out.grown hg3 B1.out.size (fun k e => by cases e; exact Nat.le_refl _)⟩
end Go.Proofs.YtikhffdbjelanaaDoor
