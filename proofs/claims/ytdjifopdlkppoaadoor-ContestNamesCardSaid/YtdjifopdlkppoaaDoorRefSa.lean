/- The reference's Same. -/
import Derived.Test.YtdjifopdlkppoaaDoorRefPl
namespace Go.Proofs.YtdjifopdlkppoaaDoor
open Go.RowKit
set_option linter.unusedVariables false

theorem ct_ext {x y : Ct} (h1 : x.name = y.name) (h2 : x.cands = y.cands) (h3 : x.seats = y.seats) (h4 : x.rule = y.rule) : x = y := by
  cases x; cases y; simp_all

set_option maxRecDepth 100000 in
set_option maxHeartbeats 1000000 in
theorem refSame_any (x y : Ct) (A A2 : Option Addr) (c c2 : Nat) (w : World) (hr : Rf sv w w.heap.size A c x.cands) (hr2 : Rf sv w w.heap.size A2 c2 y.cands) (hl : x.cands.length ≤ 4000000000) :
    Calls Tryd.prog 32 #[cv A c x, cv A2 c2 y] w fun e w' => e = .returned (.bool (decide (x = y))) ∧ Below w.heap.size w w' := by
  have hbw := fun (o o2 : Obj) => (below_new w o).trans ((below_new (w.alloc o) o2).mono (by simp))
  have HN := Lib.hid (fun (h : x ≠ y) => show decide (x = y) = false by simpa using h)
  obtain ⟨n, l, s, r⟩ := x
  obtain ⟨n2, l2, s2, r2⟩ := y
  unfold cv cvs
  simp only at hr hr2 hl ⊢
  by_cases h1 : n = n2
  case neg =>
    have h1d : (n != n2) = true := by rw [bne_iff_ne]; first | exact h1 | omega
    have HB := Lib.hid (HN.out (fun e => h1 (Ct.mk.inj e).1))
    clear HN
    go_enter Tryd.func32, Tryd.ntmps32
    go_wp2_with fail
    go_ret
    exact ⟨by rw [HB.out] <;> rfl, hbw _ _⟩
  subst h1
  by_cases h2 : s = s2
  case neg =>
    have h2d : (s != s2) = true := by rw [bne_iff_ne]; first | exact h2 | omega
    have HB := Lib.hid (HN.out (fun e => h2 (Ct.mk.inj e).2.2.1))
    clear HN
    go_enter Tryd.func32, Tryd.ntmps32
    go_wp2_with fail
    go_ret
    exact ⟨by rw [HB.out] <;> rfl, hbw _ _⟩
  subst h2
  by_cases h3 : r = r2
  case neg =>
    have h3d : ((r : Int) != (r2 : Int)) = true := by rw [bne_iff_ne]; first | exact h3 | omega
    have HB := Lib.hid (HN.out (fun e => h3 (Ct.mk.inj e).2.2.2))
    have h3p : ¬ (r : Int) = (r2 : Int) := by omega
    clear h3 HN
    go_enter Tryd.func32, Tryd.ntmps32
    go_wp2_with fail
    go_ret
    exact ⟨by rw [HB.out] <;> rfl, hbw _ _⟩
  subst h3
  by_cases h4 : l.length = l2.length
  case neg =>
    have h4d : ((l.length : Int) != (l2.length : Int)) = true := by rw [bne_iff_ne]; first | exact h4 | omega
    have HB := Lib.hid (HN.out (fun e => h4 (by rw [(Ct.mk.inj e).2.1])))
    have h4p : ¬ (l.length : Int) = (l2.length : Int) := by omega
    clear h4 HN
    go_enter Tryd.func32, Tryd.ntmps32
    go_wp2_with fail
    go_ret
    exact ⟨by rw [HB.out] <;> rfl, hbw _ _⟩
  have h4d : ((l.length : Int) != (l2.length : Int)) = false := by rw [bne_eq_false_iff_eq]; first | exact h4 | omega
  have HE := Lib.hid (fun (h : l = l2) => show decide ((⟨n, l, s, r⟩ : Ct) = ⟨n, l2, s, r⟩) = true by rw [h]; exact decide_eq_true rfl)
  have HL := Lib.hid h4
  have HR := Lib.hid hr
  have HR2 := Lib.hid hr2
  clear h4 hr hr2
  go_enter Tryd.func32, Tryd.ntmps32
  go_wp2_with fail
  go_loopw [5] (fun i wr => ∃ k : Nat, k ≤ l.length ∧ i = .int .i64 k ∧ Hid (l.take k = l2.take k) ∧ ∃ q, wr = ((w.alloc (.cells #[.string ⟨n.toArray⟩, .slice A l.length c, .int .i64 s, .int .u8 r] 26)).alloc (.cells #[.string ⟨n.toArray⟩, .slice A2 l2.length c2, .int .i64 s, .int .u8 r] 26)).drewN q) (fun i _ => l.length - (intOf i).toNat)
  case atStart => exact ⟨0, Nat.zero_le _, rfl, by simp [Hid], 0, rfl⟩
  case round =>
    obtain ⟨k, hk, rfl, hpre, q, rfl⟩ := hrel
    by_cases hlt : k < l.length
    · have hlt2 : k < l2.length := by rw [← HL.out]; exact hlt
      obtain ⟨b, o, rfl, hb, hc⟩ := ((HR.out.alloc (Nat.le_refl _) (.cells #[.string ⟨n.toArray⟩, .slice A l.length c, .int .i64 s, .int .u8 r] 26)).alloc (by simp) (.cells #[.string ⟨n.toArray⟩, .slice A2 l2.length c2, .int .i64 s, .int .u8 r] 26)).at_ hlt
      obtain ⟨b2, o2, rfl, hb2, hc2⟩ := ((HR2.out.alloc (Nat.le_refl _) (.cells #[.string ⟨n.toArray⟩, .slice (some ⟨b, o, none⟩) l.length c, .int .i64 s, .int .u8 r] 26)).alloc (by simp) (.cells #[.string ⟨n.toArray⟩, .slice A2 l2.length c2, .int .i64 s, .int .u8 r] 26)).at_ hlt2
      have hcx := hc k hlt
      have hcy := hc2 k hlt2
      have tx := List.take_succ_eq_append_getElem hlt
      have ty := List.take_succ_eq_append_getElem hlt2
      obtain ⟨u, hxk⟩ : ∃ u, u = l[k] := ⟨_, rfl⟩
      obtain ⟨v, hyk⟩ : ∃ v, v = l2[k] := ⟨_, rfl⟩
      rw [← hxk] at hcx tx
      rw [← hyk] at hcy ty
      unfold sv at hcx hcy
      have TX := Lib.hid tx
      have TY := Lib.hid ty
      clear hc hc2 hxk hyk tx ty
      by_cases he : u = v
      · subst he
        go_wp2_with fail
        go_quiet (fail)
        go_wp2_with fail
        go_roundw
        case rel => exact ⟨k + 1, by omega, by go_num, by show _ = _; rw [TX.out, TY.out, hpre.out], q + nq, by first | rfl | rw [World.drewN_drewN]⟩
        case measure => simp [intOf]; omega
      · have hbe : (u == v) = false := by rw [beq_eq_false_iff_ne]; exact he
        have HD := Lib.hid (HN.out (fun e => by
          have h1 := TX.out
          rw [(Ct.mk.inj e).2.1, TY.out] at h1
          have := (List.append_inj' h1 rfl).2
          simp at this
          exact he this.symm))
        go_wp2_with fail
        go_quiet (fail)
        go_wp2_with fail
        go_ret
        refine ⟨by rw [HD.out] <;> rfl, ?_⟩
        first | exact (hbw _ _).trans (below_drewN _ _ _) | (rw [World.drewN_drewN]; exact (hbw _ _).trans (below_drewN _ _ _))
    · have HD := Lib.hid (HE.out (by
        have h1 := hpre.out
        have hl := HL.out
        rwa [List.take_of_length_le (by omega), List.take_of_length_le (by omega)] at h1))
      go_wp2_with fail
      go_ret
      exact ⟨by rw [HD.out] <;> rfl, (hbw _ _).trans (below_drewN _ _ _)⟩
end Go.Proofs.YtdjifopdlkppoaaDoor
