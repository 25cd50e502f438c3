/- The reference's May, Check. -/
import Derived.Test.YtdjifopdlkppoaaDoorRefC
namespace Go.Proofs.YtdjifopdlkppoaaDoor
open Go.RowKit
set_option linter.unusedVariables false

theorem nodup_snoc {l : List (List UInt8)} {k : Nat} (h : k < l.length) (hd : (l.take k).Nodup) (hn : ∀ j, j < k → l[j]? ≠ some l[k]) : (l.take (k + 1)).Nodup := by
  rw [List.take_succ_eq_append_getElem h]
  refine List.nodup_append.2 ⟨hd, by simp, ?_⟩
  intro a ha b hb e
  obtain rfl := List.mem_singleton.1 hb
  subst e
  obtain ⟨j, hj, e⟩ := List.getElem_of_mem ha
  have hj' : j < k := by simp at hj; omega
  refine hn j hj' ?_
  rw [List.getElem?_eq_getElem (by omega)]
  rw [List.getElem_take] at e
  rw [e]
theorem not_nodup {l : List (List UInt8)} {j k : Nat} (hj : j < k) (h : k < l.length) (e : l[j]? = some l[k]) : ¬ l.Nodup := by
  intro hd
  rw [List.getElem?_eq_getElem (by omega)] at e
  exact List.pairwise_iff_getElem.1 hd j k (by omega) h hj (Option.some.inj e)

set_option maxRecDepth 100000 in
set_option maxHeartbeats 1000000 in
theorem refMay_any (x : Ct) (A : Option Addr) (c : Nat) (w : World) (hr : Rf sv w w.heap.size A c x.cands) (hn : x.name.length ≤ 4000000000) (hl : ∀ y ∈ x.cands, y.length ≤ 4000000000) (hrule : x.rule ≤ 255) (hsl : -9223372036854775808 ≤ x.seats ∧ x.seats ≤ 9223372036854775807) :
    Calls Tryd.prog 48 #[cv A c x] w fun e w' => e = .returned (.bool (mayB x)) ∧ Below w.heap.size w w' := by
  have hg0 : ∀ b, b = mayB x → Hid (b = mayB x) := fun _ h => h
  have hf0 := fun (h : ¬ (nameB x.name = true ∧ 1 ≤ x.cands.length ∧ x.cands.length ≤ 10 ∧ ruleB x.rule = true ∧ 1 ≤ x.seats ∧ x.seats ≤ 10 ∧ (∀ y ∈ x.cands, nameB y = true) ∧ x.cands.Nodup ∧ seatsB x = true)) => hg0 false (Bool.eq_false_iff.2 fun e => h ((mayB_iff x).1 e)).symm
  have ht0 := fun (h : nameB x.name = true ∧ 1 ≤ x.cands.length ∧ x.cands.length ≤ 10 ∧ ruleB x.rule = true ∧ 1 ≤ x.seats ∧ x.seats ≤ 10 ∧ (∀ y ∈ x.cands, nameB y = true) ∧ x.cands.Nodup) => hg0 (seatsB x) (by
    obtain ⟨h1, h2, h3, h4, h5, h6, h7, h8⟩ := h
    cases hs : seatsB x with
    | true => exact ((mayB_iff x).2 ⟨h1, h2, h3, h4, h5, h6, h7, h8, hs⟩).symm
    | false => exact (Bool.eq_false_iff.2 fun e => by have := ((mayB_iff x).1 e).2.2.2.2.2.2.2.2; rw [hs] at this; cases this).symm)
  clear hg0
  obtain ⟨n, l, s, r⟩ := x
  unfold cv cvs
  have hbw := fun (o : Obj) => below_new w o
  simp only at hr hn hl hrule hsl hf0 ht0 ⊢
  have HF := Lib.hid hf0
  have HT := Lib.hid ht0
  have HL := Lib.hid hl
  clear hf0 ht0 hl
  cases hnm : nameB n with
  | false =>
    have HNM := Lib.hid hnm
    have HG := Lib.hid (HF.out (fun h => by rw [hnm] at h; exact absurd h.1 (by simp)))
    go_enter Tryd.func48, Tryd.ntmps48
    go_wp2_with fail
    refine (refName_any n _ hn).mono ?_
    rintro e w1 ⟨rfl, rfl⟩
    rw [HNM.out]
    go_wp2_with fail
    go_ret
    exact ⟨by rw [← HG.out.out] <;> rfl, hbw _⟩
  | true =>
    have HNM := Lib.hid hnm
    by_cases h1 : l.length < 1
    · have h1d : decide ((l.length : Int) < 1) = true := by simp; omega
      have HG := Lib.hid (HF.out (fun h => by have := h.2.1; omega))
      go_enter Tryd.func48, Tryd.ntmps48
      go_wp2_with fail
      refine (refName_any n _ hn).mono ?_
      rintro e w1 ⟨rfl, rfl⟩
      rw [HNM.out]
      go_wp2_with fail
      go_ret
      exact ⟨by rw [← HG.out.out] <;> rfl, hbw _⟩
    have h1d : decide ((l.length : Int) < 1) = false := by simp; omega
    by_cases h2 : 10 < l.length
    · have h2d : decide ((10 : Int) < (l.length : Int)) = true := by simp; omega
      have HG := Lib.hid (HF.out (fun h => by have := h.2.2.1; omega))
      go_enter Tryd.func48, Tryd.ntmps48
      go_wp2_with fail
      refine (refName_any n _ hn).mono ?_
      rintro e w1 ⟨rfl, rfl⟩
      rw [HNM.out]
      go_wp2_with fail
      go_ret
      exact ⟨by rw [← HG.out.out] <;> rfl, hbw _⟩
    have h2d : decide ((10 : Int) < (l.length : Int)) = false := by simp; omega
    cases hrb : ruleB r with
    | false =>
      have HRB := Lib.hid hrb
      have HG := Lib.hid (HF.out (fun h => by rw [hrb] at h; exact absurd h.2.2.2.1 (by simp)))
      go_enter Tryd.func48, Tryd.ntmps48
      go_wp2_with fail
      refine (refName_any n _ hn).mono ?_
      rintro e w1 ⟨rfl, rfl⟩
      rw [HNM.out]
      go_wp2_with fail
      refine (refIs_any r _ hrule).mono ?_
      rintro e w1 ⟨rfl, rfl⟩
      rw [HRB.out]
      go_wp2_with fail
      go_ret
      exact ⟨by rw [← HG.out.out] <;> rfl, hbw _⟩
    | true =>
      have HRB := Lib.hid hrb
      by_cases h3 : s < 1
      · have h3d : decide (s < 1) = true := by simp; omega
        have HG := Lib.hid (HF.out (fun h => by have := h.2.2.2.2.1; omega))
        go_enter Tryd.func48, Tryd.ntmps48
        go_wp2_with fail
        refine (refName_any n _ hn).mono ?_
        rintro e w1 ⟨rfl, rfl⟩
        rw [HNM.out]
        go_wp2_with fail
        refine (refIs_any r _ hrule).mono ?_
        rintro e w1 ⟨rfl, rfl⟩
        rw [HRB.out]
        go_wp2_with fail
        go_ret
        exact ⟨by rw [← HG.out.out] <;> rfl, hbw _⟩
      have h3d : decide (s < 1) = false := by simp; omega
      by_cases h4 : 10 < s
      · have h4d : decide (10 < s) = true := by simp; omega
        have HG := Lib.hid (HF.out (fun h => by have := h.2.2.2.2.2.1; omega))
        go_enter Tryd.func48, Tryd.ntmps48
        go_wp2_with fail
        refine (refName_any n _ hn).mono ?_
        rintro e w1 ⟨rfl, rfl⟩
        rw [HNM.out]
        go_wp2_with fail
        refine (refIs_any r _ hrule).mono ?_
        rintro e w1 ⟨rfl, rfl⟩
        rw [HRB.out]
        go_wp2_with fail
        go_ret
        exact ⟨by rw [← HG.out.out] <;> rfl, hbw _⟩
      have h4d : decide (10 < s) = false := by simp; omega
      have HT2 := Lib.hid (fun h7 h8 => HT.out ⟨hnm, by omega, by omega, hrb, by omega, by omega, h7, h8⟩)
      have HF7 := Lib.hid (fun (h7 : ¬ ∀ y ∈ l, nameB y = true) => HF.out (fun h => h7 h.2.2.2.2.2.2.1))
      have HF8 := Lib.hid (fun (h8 : ¬ l.Nodup) => HF.out (fun h => h8 h.2.2.2.2.2.2.2.1))
      have hll : l.length ≤ 10 := by omega
      clear HT HF hnm hrb h1 h2 h3 h4
      go_enter Tryd.func48, Tryd.ntmps48
      go_wp2_with fail
      refine (refName_any n _ hn).mono ?_
      rintro e w1 ⟨rfl, rfl⟩
      rw [HNM.out]
      go_wp2_with fail
      refine (refIs_any r _ hrule).mono ?_
      rintro e w1 ⟨rfl, rfl⟩
      rw [HRB.out]
      clear HNM HRB
      go_wp2_with fail
      go_loopw [3] (fun i wr => ∃ k : Nat, k ≤ l.length ∧ i = .int .i64 k ∧ Hid (∀ y ∈ l.take k, nameB y = true) ∧ Hid ((l.take k).Nodup) ∧ ∃ q, wr = (w.alloc (.cells #[.string ⟨n.toArray⟩, .slice A l.length c, .int .i64 s, .int .u8 r] 26)).drewN q) (fun i _ => l.length - (intOf i).toNat)
      case atStart => exact ⟨0, Nat.zero_le _, rfl, by simp [Hid], by simp [Hid], 0, rfl⟩
      case round =>
        obtain ⟨k, hk, rfl, hpre, hnd, q, rfl⟩ := hrel
        by_cases hlt : k < l.length
        · obtain ⟨b, o, rfl, hbb, hc⟩ := (hr.alloc (Nat.le_refl _) (.cells #[.string ⟨n.toArray⟩, .slice A l.length c, .int .i64 s, .int .u8 r] 26)).at_ hlt
          have hcx := hc k hlt
          have HC := Lib.hid hc
          have hm := List.getElem_mem hlt
          have hs := fun h => take_mem_succ (P := fun y => nameB y = true) l k hlt hpre.out h
          have HSN := Lib.hid (fun h => nodup_snoc hlt hnd.out h)
          have HNN := Lib.hid (fun j (hj : j < k) e => not_nodup hj hlt e)
          obtain ⟨x, hx⟩ : ∃ x, x = l[k] := ⟨_, rfl⟩
          rw [← hx] at hcx hm hs HSN HNN
          unfold sv at hcx
          have HS := Lib.hid hs
          have HM := Lib.hid hm
          have hxl := HL.out x hm
          clear hc hx hs hm
          cases hnb : nameB x with
          | false =>
            have HB := Lib.hid hnb
            have HG := Lib.hid (HF7.out (fun h => by have := h x HM.out; rw [hnb] at this; cases this))
            clear hnb
            go_wp2_with fail
            refine (refName_any x _ hxl).mono ?_
            rintro e w1 ⟨rfl, rfl⟩
            rw [HB.out]
            go_wp2_with fail
            go_ret
            exact ⟨by rw [← HG.out.out] <;> rfl, (hbw _).trans (below_drewN _ _ _)⟩
          | true =>
            have HB := Lib.hid hnb
            have HS2 := Lib.hid (HS.out hnb)
            clear hnb
            go_wp2_with fail
            refine (refName_any x _ hxl).mono ?_
            rintro e w1 ⟨rfl, rfl⟩
            rw [HB.out]
            go_wp2_with fail
            go_loopw [4] (fun i wr => ∃ j : Nat, j ≤ k ∧ i = .int .i64 j ∧ Hid (∀ t, t < j → l[t]? ≠ some x) ∧ ∃ q, wr = (w.alloc (.cells #[.string ⟨n.toArray⟩, .slice (some ⟨b, o, none⟩) l.length c, .int .i64 s, .int .u8 r] 26)).drewN q) (fun i _ => k - (intOf i).toNat)
            case atStart => exact ⟨0, Nat.zero_le _, rfl, fun t ht => absurd ht (Nat.not_lt_zero t), q, rfl⟩
            case round =>
              obtain ⟨j, hj, rfl, hpj, q2, rfl⟩ := hrel
              by_cases hjk : j < k
              · have hjl : j < l.length := by omega
                have hcy := HC.out j hjl
                obtain ⟨y, hy⟩ : ∃ y, y = l[j] := ⟨_, rfl⟩
                have HY := Lib.hid (show l[j]? = some y by rw [List.getElem?_eq_getElem hjl, hy])
                rw [← hy] at hcy
                unfold sv at hcy
                clear hy
                by_cases he : y = x
                · have hbe : (y == x) = true := by rw [beq_iff_eq]; exact he
                  have HG := Lib.hid (HF8.out (HNN.out j hjk (by rw [HY.out, he])))
                  clear he
                  go_wp2_with fail
                  go_quiet (fail)
                  go_wp2_with fail
                  go_ret
                  refine ⟨by rw [← HG.out.out] <;> rfl, ?_⟩
                  first | exact (hbw _).trans (below_drewN _ _ _) | (rw [World.drewN_drewN]; exact (hbw _).trans (below_drewN _ _ _))
                · have hbe : (y == x) = false := by rw [beq_eq_false_iff_ne]; exact he
                  have HN := Lib.hid (show ∀ t, t < j + 1 → l[t]? ≠ some x from fun t ht => by
                    by_cases e : t = j
                    · subst e; rw [HY.out]; intro e; exact he (Option.some.inj e)
                    · exact hpj.out t (by omega))
                  clear he
                  go_wp2_with fail
                  go_quiet (fail)
                  go_wp2_with fail
                  go_roundw
                  case rel => exact ⟨j + 1, by omega, by go_num, HN, q2 + nq, by first | rfl | rw [World.drewN_drewN]⟩
                  case measure => simp [intOf]; omega
              · obtain rfl : j = k := by omega
                have HN2 := Lib.hid (HSN.out hpj.out)
                go_wp2_with fail
                go_roundw
                case rel => exact ⟨j + 1, by omega, by go_num, HS2, HN2, q2, rfl⟩
                case measure => simp [intOf]; omega
        · obtain rfl : k = l.length := by omega
          have HG := Lib.hid (HT2.out (by have := hpre.out; rwa [List.take_of_length_le (Nat.le_refl _)] at this) (by have := hnd.out; rwa [List.take_of_length_le (Nat.le_refl _)] at this))
          cases ho : oneB r with
          | true =>
            have HO := Lib.hid ho
            have HE := Lib.hid (show seatsB ⟨n, l, s, r⟩ = decide (s = 1) by unfold seatsB; rw [ho]; rfl)
            clear ho
            go_wp2_with fail
            refine (refOne_any r _ hrule).mono ?_
            rintro e w1 ⟨rfl, rfl⟩
            rw [HO.out]
            go_wp2_with fail
            go_ret
            exact ⟨by rw [← HG.out.out, HE.out] <;> rfl, (hbw _).trans (below_drewN _ _ _)⟩
          | false =>
            have HO := Lib.hid ho
            cases hli : listsB r with
            | true =>
              have HI := Lib.hid hli
              have HE := Lib.hid (show seatsB ⟨n, l, s, r⟩ = true by unfold seatsB; rw [ho, hli]; rfl)
              clear ho hli
              go_wp2_with fail
              refine (refOne_any r _ hrule).mono ?_
              rintro e w1 ⟨rfl, rfl⟩
              rw [HO.out]
              go_wp2_with fail
              refine (refLists_any r _ hrule).mono ?_
              rintro e w1 ⟨rfl, rfl⟩
              rw [HI.out]
              go_wp2_with fail
              go_ret
              exact ⟨by rw [← HG.out.out, HE.out] <;> rfl, (hbw _).trans (below_drewN _ _ _)⟩
            | false =>
              have HI := Lib.hid hli
              have HE := Lib.hid (show seatsB ⟨n, l, s, r⟩ = decide (s ≤ (l.length : Int)) by unfold seatsB; rw [ho, hli]; rfl)
              clear ho hli
              go_wp2_with fail
              refine (refOne_any r _ hrule).mono ?_
              rintro e w1 ⟨rfl, rfl⟩
              rw [HO.out]
              go_wp2_with fail
              refine (refLists_any r _ hrule).mono ?_
              rintro e w1 ⟨rfl, rfl⟩
              rw [HI.out]
              go_wp2_with fail
              go_ret
              exact ⟨by rw [← HG.out.out, HE.out] <;> rfl, (hbw _).trans (below_drewN _ _ _)⟩
end Go.Proofs.YtdjifopdlkppoaaDoor
