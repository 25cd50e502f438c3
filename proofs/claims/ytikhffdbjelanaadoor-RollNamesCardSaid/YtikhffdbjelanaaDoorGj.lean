/- RollOthers. RollOnce, its plain part; make of []int. -/
import Derived.Test.YtikhffdbjelanaaDoorGi
namespace Go.Proofs.YtikhffdbjelanaaDoor
open Go.RowKit
set_option linter.unusedVariables false

theorem ins_get (l : List Vt) (v : Vt) : ∃ p, p ≤ l.length ∧ (∀ j (h : j < p) (h1 : j < (insV l v).length) (h2 : j < l.length), (insV l v)[j] = l[j]) ∧ (∀ h : p < (insV l v).length, (insV l v)[p] = v) ∧ (∀ j (h : p < j) (h1 : j < (insV l v).length) (h2 : j - 1 < l.length), (insV l v)[j] = l[j-1]) := by
  obtain ⟨p, hp, e⟩ := insV_split l v
  have hl : (l.take p).length = p := by simp; omega
  refine ⟨p, hp, fun j h h1 h2 => ?_, fun h => ?_, fun j h h1 h2 => ?_⟩
  · simp only [e]
    rw [List.getElem_append_left (by omega), List.getElem_take]
  · simp only [e]
    rw [List.getElem_append_right (by omega)]
    simp [hl]
  · simp only [e]
    rw [List.getElem_append_right (by omega)]
    have e1 : j - (l.take p).length = (j - 1 - p) + 1 := by omega
    simp only [e1, List.getElem_cons_succ, List.getElem_drop]
    congr 1
    omega

theorem drew_more (w : World) (m n : Nat) : ((w.drewN m).drew).drewN n = w.drewN (m + 1 + n) := by
  show (w.drewN (m + 1)).drewN n = _
  rw [World.drewN_drewN]

set_option maxRecDepth 100000 in
set_option maxHeartbeats 4000000 in
theorem rollOthers_any {T : World → Prop} (K : Con24 T) (l : List Vt) (A : Option Addr) (c : Nat) (n : List UInt8) (o p : Int) (w : World) (hr : Rvt w w.heap.size A c l) (hs : ∀ v ∈ l, v.state ≤ 255) (hp : ∀ v ∈ l, -9223372036854775808 ≤ v.pre ∧ v.pre ≤ 9223372036854775807) (hpp : -9223372036854775808 ≤ p ∧ p ≤ 9223372036854775807) (hT : T w) :
    Calls Tryd.prog 8 #[.slice A l.length c, .string ⟨n.toArray⟩, .int .i64 o, .int .i64 p] w fun e w' => e = .returned (.bool true) ∧ Below w.heap.size w w' := by
  have HK := Lib.hid K
  have HT := Lib.hid hT
  have HPP := Lib.hid hpp
  have HG := Lib.hid (fun wx (hb : Below w.heap.size w wx) => refGreat_any l A c wx ((hr.below hb).more hb.size))
  have M0 := Lib.hid (show MemV w w [(A, c, l)] [] from ⟨Below.refl _ _, by simp [hr], by simp⟩)
  have HA := Lib.hid (aliveV_any K w hT)
  clear K hT hr hpp
  cases hg : greatV l with
  | true =>
    have HGB := Lib.hid hg
    clear hg
    go_enter Tryd.func8, Tryd.ntmps8
    go_wp2_with fail
    refine HA.out.mono ?_
    rintro e w1 ⟨rfl, hb⟩
    have B1 := Lib.hid hb
    clear hb
    go_wp2_with fail
    refine (HG.out _ B1.out).mono ?_
    rintro e w2 ⟨rfl, hw⟩
    obtain rfl := hw.symm
    rw [HGB.out]
    go_wp2_with fail
    go_ret
    exact ⟨rfl, B1.out⟩
  | false =>
  have HGB := Lib.hid hg
  obtain ⟨h100, h1000⟩ := greatV_no hg
  have HOK := Lib.hid (show VtOk l from ⟨by omega, fun v hv => Nat.le_trans (h1000 v hv) (by decide), hs, hp⟩)
  clear hg hs hp h1000
  by_cases hbig : 1000 < n.length
  · have hbd : decide ((1000 : Int) < (n.length : Int)) = true := by simp; omega
    clear hbig
    go_enter Tryd.func8, Tryd.ntmps8
    go_wp2_with fail
    refine HA.out.mono ?_
    rintro e w1 ⟨rfl, hb⟩
    have B1 := Lib.hid hb
    clear hb
    go_wp2_with fail
    refine (HG.out _ B1.out).mono ?_
    rintro e w2 ⟨rfl, hw⟩
    obtain rfl := hw.symm
    rw [HGB.out]
    go_wp2_with fail
    go_ret
    exact ⟨rfl, B1.out⟩
  have hbd : decide ((1000 : Int) < (n.length : Int)) = false := by simp; omega
  have HNL := Lib.hid (show n.length ≤ 100000 by omega)
  clear hbig
  go_enter Tryd.func8, Tryd.ntmps8
  go_wp2_with fail
  refine HA.out.mono ?_
  rintro e w1 ⟨rfl, hb⟩
  have M1 := Lib.hid (M0.out.below hb)
  clear hb
  go_wp2_with fail
  refine (HG.out _ M1.out.bel).mono ?_
  rintro e w2 ⟨rfl, hw⟩
  obtain rfl := hw.symm
  rw [HGB.out]
  clear HA HG
  go_wp2_with fail
  refine (does_any HK.out l n o A c w1 (M1.out.vts (A, c, l) (by simp)) HOK.out HNL.out (HK.out.keep HT.out M1.out.bel)).mono ?_
  rintro e w3 ⟨A3, c3, x, ex, rfl, hq, ho, hb⟩
  have HQ := Lib.hid hq
  have M3 := Lib.hid ((M1.out.below hb).addV (ho.rd vl_len))
  clear hq ho hb
  by_cases he : (doneV l n o).2 = 0
  case neg =>
    have hx := doneV_err he
    rw [← HQ.out] at hx he
    have hx0 : x.length = 0 := by rw [show x = [] from hx]; rfl
    have hne : (ex != 0) = true := by rw [bne_iff_ne]; exact he
    have hne2 : ¬ ex = 0 := he
    clear hx he
    go_wp2_with fail
    go_loopw [12, 13] (fun s12 s13 wr => s12 = .int .i64 0 ∧ s13 = .int .i64 0 ∧ wr = w3) (fun _ _ _ => 0)
    case atStart => exact ⟨rfl, rfl, rfl⟩
    case round =>
      obtain ⟨rfl, rfl, rfl⟩ := hrel
      obtain ⟨wm, hwm⟩ : ∃ wm, wm = wr := ⟨_, rfl⟩
      subst hwm
      have MM := M3
      go_wp2_with fail
      refine (HK.out.add l n p A c wm (MM.out.vts (A, c, l) (by simp)) HOK.out HNL.out HPP.out (HK.out.keep HT.out MM.out.bel)).mono ?_
      rintro e w5 ⟨A5, c5, y, ey, rfl, hq, ho, hb⟩
      have HQY := Lib.hid hq
      have M5 := Lib.hid ((MM.out.below hb).addV (ho.rd vl_len))
      clear hq ho hb
      by_cases hey : (addV l n p).2 = 0
      case neg =>
        have hy := addV_err hey
        rw [← HQY.out] at hy hey
        have hy0 : y.length = 0 := by rw [show y = [] from hy]; rfl
        have hne : (ey != 0) = true := by rw [bne_iff_ne]; exact hey
        have hne2 : ¬ ey = 0 := hey
        clear hy hey
        go_wp2_with fail
        go_ret
        exact ⟨rfl, M5.out.bel⟩
      have hck := addV_check hey
      obtain ⟨a1, a2, a3, a4, a5⟩ := addV_ok hey
      obtain ⟨q, hq1, hq2, hq3, hq4⟩ := ins_get l (newV n p)
      have HNN := Lib.hid (atV_none.1 a3)
      rw [← a5] at hq2 hq3 hq4
      have hyl : (addV l n p).1.length = l.length + 1 := by rw [a5, insV_len]
      rw [← HQY.out] at hck hey hq2 hq3 hq4 hyl
      obtain rfl : ey = 0 := hey
      simp only at hck hq2 hq3 hq4 hyl
      have HCK := Lib.hid hck
      have HY := Lib.hid hyl
      have HE2 := Lib.hid hq2
      have HE3 := Lib.hid hq3
      have HE4 := Lib.hid hq4
      have hyi : (y.length : Int) = (l.length : Int) + 1 := by omega
      have hyd : ((y.length : Int) != (l.length : Int) + 1) = false := by simp; omega
      have hly : y.length ≤ 200 := by omega
      clear hck a1 a2 a3 a4 a5 hq2 hq3 hq4 hyl
      go_wp2_with fail
      refine (HK.out.check y A5 c5 w5 (M5.out.vts (A5, c5, y) (by simp)) (VtOk.roll HCK.out) (HK.out.keep HT.out M5.out.bel)).mono ?_
      rintro e w6 ⟨rfl, hb⟩
      rw [HCK.out]
      have M6 := Lib.hid (M5.out.below hb)
      have HRY := Lib.hid (M6.out.vts (A5, c5, y) (by simp))
      have HRL := Lib.hid (M6.out.vts (A, c, l) (by simp))
      clear hb hyi hyd
      go_wp2_with fail
      go_loopw [16, 17] (fun s16 s17 wr => ∃ (k : Nat), k ≤ y.length ∧ s17 = .int .i64 k ∧ s16 = .int .i64 ((if q < k then 1 else 0 : Nat) : Int) ∧ ∃ m, wr = w6.drewN m) (fun _ s17 _ => y.length - (intOf s17).toNat)
      case atStart => exact ⟨0, Nat.zero_le _, rfl, by simp, 0, rfl⟩
      case round =>
        obtain ⟨k, hk, rfl, rfl, m, rfl⟩ := hrel
        by_cases hlt : k < y.length
        · obtain ⟨b5, o5, rfl, hbb5, hc5⟩ := HRY.out.vt hlt
          obtain ⟨f1, f2, f3⟩ := hc5 k hlt
          have hyl := HY.out
          rcases Nat.lt_trichotomy k q with hkq | rfl | hkq
          · have hkl : k < l.length := by omega
            obtain ⟨b, o', rfl, hbb, hc⟩ := HRL.out.vt hkl
            obtain ⟨g1, g2, g3⟩ := hc k hkl
            rw [HE2.out k hkq hlt hkl] at f1 f2 f3
            have hne := HNN.out _ (List.getElem_mem hkl)
            obtain ⟨z, hz⟩ : ∃ z, z = l[k] := ⟨_, rfl⟩
            rw [← hz] at f1 f2 f3 g1 g2 g3 hne
            have hzd : (z.name == n) = false := by simpa using hne
            have hnk : ¬ q < k := by omega
            have hnk1 : ¬ q < k + 1 := by omega
            have hw0 : IntKind.i64.wrap ((k : Int) - 0) = (k : Int) := by rw [IntKind.wrap_i64]; omega
            have hw00 : IntKind.i64.wrap (k : Int) = (k : Int) := by rw [IntKind.wrap_i64]; omega
            have hge : decide (l.length ≤ k) = false := decide_eq_false (by omega)
            have HK1 := Lib.hid hnk1
            rw [if_neg hnk]
            rw [show ((0 : Nat) : Int) = 0 from rfl]
            clear hc hc5 hz hne hyl hnk hnk1
            go_wp2_with fail
            refine wp_region_any (by kernel_rfl) ?_
            change wpAny _ _ _ _ _ _ _ (World.drew _)
            refine wpAny_quiet_rest24 0 (by kernel_rfl) (by kernel_rfl) (by kernel_rfl) ?_
            simp only [List.drop_zero]
            repeat (go_big_quiet_step (fail))
            refine wpQuiet_nil ?_
            intro _ hw'
            obtain ⟨nq, hw''⟩ := hw'
            subst hw''
            go_wp2_with fail
            go_roundw
            case rel => exact ⟨k + 1, by omega, by go_num, by rw [if_neg HK1.out]; rfl, _, by first | rfl | exact drew_more _ _ _⟩
            case measure => simp [intOf]; omega
          · have hv := HE3.out hlt
            rw [hv] at f1 f2 f3
            unfold newV at f1 f2 f3
            simp only at f1 f2 f3
            have hnk : ¬ k < k := by omega
            have hnk1 : k < k + 1 := by omega
            have HK1 := Lib.hid hnk1
            rw [if_neg hnk]
            rw [show ((0 : Nat) : Int) = 0 from rfl]
            clear hc5 hv hyl hnk hnk1
            go_wp2_with fail
            go_roundw
            case rel => exact ⟨k + 1, by omega, by go_num, by rw [if_pos HK1.out]; rfl, _, by first | rfl | exact drew_more _ _ _⟩
            case measure => simp [intOf]; omega
          · have hkl : k - 1 < l.length := by omega
            obtain ⟨b, o', rfl, hbb, hc⟩ := HRL.out.vt hkl
            obtain ⟨g1, g2, g3⟩ := hc (k - 1) hkl
            rw [HE4.out k hkq hlt hkl] at f1 f2 f3
            obtain ⟨z, hz⟩ : ∃ z, z = l[k-1] := ⟨_, rfl⟩
            rw [← hz] at f1 f2 f3 g1 g2 g3
            have hnk1 : q < k + 1 := by omega
            have HK1 := Lib.hid hnk1
            rw [if_pos hkq]
            rw [show ((1 : Nat) : Int) = 1 from rfl]
            have hw1 : IntKind.i64.wrap ((k : Int) - 1) = ((k - 1 : Nat) : Int) := by rw [IntKind.wrap_i64]; omega
            obtain ⟨j, hj⟩ : ∃ j, j = k - 1 := ⟨_, rfl⟩
            rw [← hj] at g1 g2 g3 hw1 hkl
            have hge : decide (l.length ≤ j) = false := decide_eq_false (by omega)
            clear hc hc5 hz hyl hnk1 hj
            go_wp2_with fail
            refine wp_region_any (by kernel_rfl) ?_
            change wpAny _ _ _ _ _ _ _ (World.drew _)
            refine wpAny_quiet_rest24 0 (by kernel_rfl) (by kernel_rfl) (by kernel_rfl) ?_
            simp only [List.drop_zero]
            repeat (go_big_quiet_step (fail))
            refine wpQuiet_nil ?_
            intro _ hw'
            obtain ⟨nq, hw''⟩ := hw'
            subst hw''
            go_wp2_with fail
            go_roundw
            case rel => exact ⟨k + 1, by omega, by go_num, by rw [if_pos HK1.out]; rfl, _, by first | rfl | exact drew_more _ _ _⟩
            case measure => simp [intOf]; omega
        · obtain rfl : k = y.length := by omega
          have hqk : q < y.length := by have := HY.out; omega
          have HB := Lib.hid (M6.out.bel.trans (below_drewN _ w6 m))
          rw [if_pos hqk]
          rw [show ((1 : Nat) : Int) = 1 from rfl]
          clear hqk
          go_wp2_with fail
          go_ret
          exact ⟨rfl, HB.out⟩
  obtain ⟨hc0, i, hi, hat, hin, his, hxs⟩ := doneV_ok he
  have hws := wasis_may o
  have hxl : (doneV l n o).1.length = l.length := by rw [hxs, List.length_set]
  have hxi : ∀ h : i < (doneV l n o).1.length, (doneV l n o).1[i] = { l[i] with state := (wasis o).2 } := by
    rw [hxs]; intro h; simp
  have hxj : ∀ j (h : j < (doneV l n o).1.length) (h2 : j < l.length), j ≠ i → (doneV l n o).1[j] = l[j] := by
    rw [hxs]; intro j h h2 hj; rw [List.getElem_set_ne (by omega)]
  rw [← HQ.out] at he hxl hxi hxj
  obtain rfl : ex = 0 := he
  simp only at hxl hxi hxj
  have HXI := Lib.hid hxi
  have HXJ := Lib.hid hxj
  have HIN := Lib.hid hin
  have HXL := Lib.hid hxl
  have hst : ¬ (((wasis o).2 : Nat) : Int) = ((l[i].state : Nat) : Int) := by have := hws.2.2.2.2.2; omega
  have HST := Lib.hid hst
  have HRX := Lib.hid (M3.out.vts (A3, c3, x) (by simp))
  have HRL0 := Lib.hid (M3.out.vts (A, c, l) (by simp))
  have hxi2 : (x.length : Int) = (l.length : Int) := by omega
  have hxd : decide ((x.length : Int) = (l.length : Int)) = true := by simp; omega
  have hx100 : x.length ≤ 100 := by omega
  clear hc0 hat hin his hxs hws hxl hxi hxj hst
  go_wp2_with fail
  go_loopw [12, 13] (fun s12 s13 wr => ∃ (k : Nat), k ≤ x.length ∧ s13 = .int .i64 k ∧ s12 = .int .i64 ((if i < k then 1 else 0 : Nat) : Int) ∧ ∃ m, wr = w3.drewN m) (fun _ s13 _ => x.length - (intOf s13).toNat)
  case atStart => exact ⟨0, Nat.zero_le _, rfl, by simp, 0, rfl⟩
  case round =>
    obtain ⟨k, hk, rfl, rfl, m, rfl⟩ := hrel
    by_cases hlt : k < x.length
    · have hkl : k < l.length := by have := HXL.out; omega
      obtain ⟨b3, o3, rfl, hbb3, hc3⟩ := HRX.out.vt hlt
      obtain ⟨b, o', rfl, hbb, hc⟩ := HRL0.out.vt hkl
      obtain ⟨f1, f2, f3⟩ := hc3 k hlt
      obtain ⟨g1, g2, g3⟩ := hc k hkl
      by_cases hki : k = i
      · subst hki
        rw [HXI.out hlt] at f1 f2 f3
        simp only at f1 f2 f3
        have hst := HST.out
        obtain ⟨u, hu⟩ : ∃ u, u = (wasis o).2 := ⟨_, rfl⟩
        rw [← hu] at f3 hst
        have hnm := HIN.out
        obtain ⟨z, hz⟩ : ∃ z, z = l[k] := ⟨_, rfl⟩
        rw [← hz] at f1 f2 g1 g2 g3 hnm hst
        rw [hnm] at f1 g1
        have hnk : ¬ k < k := by omega
        have hnk1 : k < k + 1 := by omega
        have HK1 := Lib.hid hnk1
        rw [if_neg hnk]
        rw [show ((0 : Nat) : Int) = 0 from rfl]
        clear hc hc3 hz hnk hnk1 hu hnm hxi2 hxd
        go_wp2_with fail
        refine wp_region_any (by kernel_rfl) ?_
        change wpAny _ _ _ _ _ _ _ (World.drew _)
        refine wpAny_quiet_rest24 0 (by kernel_rfl) (by kernel_rfl) (by kernel_rfl) ?_
        simp only [List.drop_zero]
        repeat (go_big_quiet_step (fail))
        refine wpQuiet_nil ?_
        intro _ hw'
        obtain ⟨nq, hw''⟩ := hw'
        subst hw''
        go_wp2_with fail
        refine wp_region_any (by kernel_rfl) ?_
        change wpAny _ _ _ _ _ _ _ (World.drew _)
        refine wpAny_quiet_rest24 0 (by kernel_rfl) (by kernel_rfl) (by kernel_rfl) ?_
        simp only [List.drop_zero]
        repeat (go_big_quiet_step (fail))
        refine wpQuiet_nil ?_
        intro _ hw'
        obtain ⟨nq, hw''⟩ := hw'
        subst hw''
        go_wp2_with fail
        go_roundw
        case rel => exact ⟨k + 1, by omega, by go_num, by rw [if_pos HK1.out]; rfl, _, by first | rfl | exact drew_more _ _ _ | (rw [drew_more, drew_more])⟩
        case measure => simp [intOf]; omega
      · rw [HXJ.out k hlt hkl hki] at f1 f2 f3
        obtain ⟨z, hz⟩ : ∃ z, z = l[k] := ⟨_, rfl⟩
        rw [← hz] at f1 f2 f3 g1 g2 g3
        have HK1 := Lib.hid (show (if i < k + 1 then 1 else 0 : Nat) = (if i < k then 1 else 0 : Nat) by
          by_cases h : i < k
          · rw [if_pos h, if_pos (by omega)]
          · rw [if_neg h, if_neg (by omega)])
        obtain ⟨tn, htn⟩ : ∃ tn : Nat, tn = (if i < k then 1 else 0) := ⟨_, rfl⟩
        rw [← htn] at HK1 ⊢
        clear hc hc3 hz htn hxi2 hxd
        go_wp2_with fail
        refine wp_region_any (by kernel_rfl) ?_
        change wpAny _ _ _ _ _ _ _ (World.drew _)
        refine wpAny_quiet_rest24 0 (by kernel_rfl) (by kernel_rfl) (by kernel_rfl) ?_
        simp only [List.drop_zero]
        repeat (go_big_quiet_step (fail))
        refine wpQuiet_nil ?_
        intro _ hw'
        obtain ⟨nq, hw''⟩ := hw'
        subst hw''
        go_wp2_with fail
        go_roundw
        case rel => exact ⟨k + 1, by omega, by go_num, by rw [HK1.out], _, by first | rfl | exact drew_more _ _ _⟩
        case measure => simp [intOf]; omega
    · obtain rfl : k = x.length := by omega
      have hqk : i < x.length := by have := HXL.out; omega
      obtain ⟨wm, hwm⟩ : ∃ wm, wm = w3.drewN m := ⟨_, rfl⟩
      have MM := Lib.hid (show MemV w wm [(A3, c3, x), (A, c, l)] [] by rw [hwm]; exact M3.out.below (below_drewN _ w3 m))
      rw [← hwm]
      rw [if_pos hqk]
      rw [show ((1 : Nat) : Int) = 1 from rfl]
      clear hqk hwm
      go_wp2_with fail
      refine (HK.out.add l n p A c wm (MM.out.vts (A, c, l) (by simp)) HOK.out HNL.out HPP.out (HK.out.keep HT.out MM.out.bel)).mono ?_
      rintro e w5 ⟨A5, c5, y, ey, rfl, hq, ho, hb⟩
      have HQY := Lib.hid hq
      have M5 := Lib.hid ((MM.out.below hb).addV (ho.rd vl_len))
      clear hq ho hb
      by_cases hey : (addV l n p).2 = 0
      case neg =>
        have hy := addV_err hey
        rw [← HQY.out] at hy hey
        have hy0 : y.length = 0 := by rw [show y = [] from hy]; rfl
        have hne : (ey != 0) = true := by rw [bne_iff_ne]; exact hey
        have hne2 : ¬ ey = 0 := hey
        clear hy hey
        go_wp2_with fail
        go_ret
        exact ⟨rfl, M5.out.bel⟩
      have hck := addV_check hey
      obtain ⟨a1, a2, a3, a4, a5⟩ := addV_ok hey
      obtain ⟨q, hq1, hq2, hq3, hq4⟩ := ins_get l (newV n p)
      have HNN := Lib.hid (atV_none.1 a3)
      rw [← a5] at hq2 hq3 hq4
      have hyl : (addV l n p).1.length = l.length + 1 := by rw [a5, insV_len]
      rw [← HQY.out] at hck hey hq2 hq3 hq4 hyl
      obtain rfl : ey = 0 := hey
      simp only at hck hq2 hq3 hq4 hyl
      have HCK := Lib.hid hck
      have HY := Lib.hid hyl
      have HE2 := Lib.hid hq2
      have HE3 := Lib.hid hq3
      have HE4 := Lib.hid hq4
      have hyi : (y.length : Int) = (l.length : Int) + 1 := by omega
      have hyd : ((y.length : Int) != (l.length : Int) + 1) = false := by simp; omega
      have hly : y.length ≤ 200 := by omega
      clear hck a1 a2 a3 a4 a5 hq2 hq3 hq4 hyl
      go_wp2_with fail
      refine (HK.out.check y A5 c5 w5 (M5.out.vts (A5, c5, y) (by simp)) (VtOk.roll HCK.out) (HK.out.keep HT.out M5.out.bel)).mono ?_
      rintro e w6 ⟨rfl, hb⟩
      rw [HCK.out]
      have M6 := Lib.hid (M5.out.below hb)
      have HRY := Lib.hid (M6.out.vts (A5, c5, y) (by simp))
      have HRL := Lib.hid (M6.out.vts (A, c, l) (by simp))
      clear hb hyi hyd
      go_wp2_with fail
      go_loopw [16, 17] (fun s16 s17 wr => ∃ (k : Nat), k ≤ y.length ∧ s17 = .int .i64 k ∧ s16 = .int .i64 ((if q < k then 1 else 0 : Nat) : Int) ∧ ∃ m, wr = w6.drewN m) (fun _ s17 _ => y.length - (intOf s17).toNat)
      case atStart => exact ⟨0, Nat.zero_le _, rfl, by simp, 0, rfl⟩
      case round =>
        obtain ⟨k, hk, rfl, rfl, m, rfl⟩ := hrel
        by_cases hlt : k < y.length
        · obtain ⟨b5, o5, rfl, hbb5, hc5⟩ := HRY.out.vt hlt
          obtain ⟨f1, f2, f3⟩ := hc5 k hlt
          have hyl := HY.out
          rcases Nat.lt_trichotomy k q with hkq | rfl | hkq
          · have hkl : k < l.length := by omega
            obtain ⟨b, o', rfl, hbb, hc⟩ := HRL.out.vt hkl
            obtain ⟨g1, g2, g3⟩ := hc k hkl
            rw [HE2.out k hkq hlt hkl] at f1 f2 f3
            have hne := HNN.out _ (List.getElem_mem hkl)
            obtain ⟨z, hz⟩ : ∃ z, z = l[k] := ⟨_, rfl⟩
            rw [← hz] at f1 f2 f3 g1 g2 g3 hne
            have hzd : (z.name == n) = false := by simpa using hne
            have hnk : ¬ q < k := by omega
            have hnk1 : ¬ q < k + 1 := by omega
            have hw0 : IntKind.i64.wrap ((k : Int) - 0) = (k : Int) := by rw [IntKind.wrap_i64]; omega
            have hw00 : IntKind.i64.wrap (k : Int) = (k : Int) := by rw [IntKind.wrap_i64]; omega
            have hge : decide (l.length ≤ k) = false := decide_eq_false (by omega)
            have HK1 := Lib.hid hnk1
            rw [if_neg hnk]
            rw [show ((0 : Nat) : Int) = 0 from rfl]
            clear hc hc5 hz hne hyl hnk hnk1
            go_wp2_with fail
            refine wp_region_any (by kernel_rfl) ?_
            change wpAny _ _ _ _ _ _ _ (World.drew _)
            refine wpAny_quiet_rest24 0 (by kernel_rfl) (by kernel_rfl) (by kernel_rfl) ?_
            simp only [List.drop_zero]
            repeat (go_big_quiet_step (fail))
            refine wpQuiet_nil ?_
            intro _ hw'
            obtain ⟨nq, hw''⟩ := hw'
            subst hw''
            go_wp2_with fail
            go_roundw
            case rel => exact ⟨k + 1, by omega, by go_num, by rw [if_neg HK1.out]; rfl, _, by first | rfl | exact drew_more _ _ _⟩
            case measure => simp [intOf]; omega
          · have hv := HE3.out hlt
            rw [hv] at f1 f2 f3
            unfold newV at f1 f2 f3
            simp only at f1 f2 f3
            have hnk : ¬ k < k := by omega
            have hnk1 : k < k + 1 := by omega
            have HK1 := Lib.hid hnk1
            rw [if_neg hnk]
            rw [show ((0 : Nat) : Int) = 0 from rfl]
            clear hc5 hv hyl hnk hnk1
            go_wp2_with fail
            go_roundw
            case rel => exact ⟨k + 1, by omega, by go_num, by rw [if_pos HK1.out]; rfl, _, by first | rfl | exact drew_more _ _ _⟩
            case measure => simp [intOf]; omega
          · have hkl : k - 1 < l.length := by omega
            obtain ⟨b, o', rfl, hbb, hc⟩ := HRL.out.vt hkl
            obtain ⟨g1, g2, g3⟩ := hc (k - 1) hkl
            rw [HE4.out k hkq hlt hkl] at f1 f2 f3
            obtain ⟨z, hz⟩ : ∃ z, z = l[k-1] := ⟨_, rfl⟩
            rw [← hz] at f1 f2 f3 g1 g2 g3
            have hnk1 : q < k + 1 := by omega
            have HK1 := Lib.hid hnk1
            rw [if_pos hkq]
            rw [show ((1 : Nat) : Int) = 1 from rfl]
            have hw1 : IntKind.i64.wrap ((k : Int) - 1) = ((k - 1 : Nat) : Int) := by rw [IntKind.wrap_i64]; omega
            obtain ⟨j, hj⟩ : ∃ j, j = k - 1 := ⟨_, rfl⟩
            rw [← hj] at g1 g2 g3 hw1 hkl
            have hge : decide (l.length ≤ j) = false := decide_eq_false (by omega)
            clear hc hc5 hz hyl hnk1 hj
            go_wp2_with fail
            refine wp_region_any (by kernel_rfl) ?_
            change wpAny _ _ _ _ _ _ _ (World.drew _)
            refine wpAny_quiet_rest24 0 (by kernel_rfl) (by kernel_rfl) (by kernel_rfl) ?_
            simp only [List.drop_zero]
            repeat (go_big_quiet_step (fail))
            refine wpQuiet_nil ?_
            intro _ hw'
            obtain ⟨nq, hw''⟩ := hw'
            subst hw''
            go_wp2_with fail
            go_roundw
            case rel => exact ⟨k + 1, by omega, by go_num, by rw [if_pos HK1.out]; rfl, _, by first | rfl | exact drew_more _ _ _⟩
            case measure => simp [intOf]; omega
        · obtain rfl : k = y.length := by omega
          have hqk : q < y.length := by have := HY.out; omega
          have HB := Lib.hid (M6.out.bel.trans (below_drewN _ w6 m))
          rw [if_pos hqk]
          rw [show ((1 : Nat) : Int) = 1 from rfl]
          clear hqk
          go_wp2_with fail
          go_ret
          exact ⟨rfl, HB.out⟩
end Go.Proofs.YtikhffdbjelanaaDoor
namespace Go.Proofs.YtikhffdbjelanaaDoor
open Go.RowKit
set_option linter.unusedVariables false

def zv (m : Int) : Value := .int .i64 m
theorem iInfo24 : (Tryd.prog.info? 3).map (fun i => (i.zero, i.size, i.bytes)) = some (some (.int .i64 0), 1, 8) := by kernel_rfl
theorem made_iv (w : World) (n : Nat) : Hb zv (w.alloc (.cells (madeCells (Value.int .i64 0).cells (n * 1)) 3)) w.heap.size 3 (List.replicate n 0) := by
  unfold Hb
  have e : (List.map zv (List.replicate n (0 : Int))).toArray = madeCells (Value.int .i64 0).cells (n * 1) := by
    apply Array.toList_inj.1
    rw [show (Value.int .i64 0).cells = #[Value.int .i64 0] from rfl]
    rw [toList_madeCells_one, List.map_replicate, Nat.mul_one]
    rfl
  rw [e]
  exact Blk.new w _ _
theorem make_iv (w : World) {ops : Array Oper} {rest : List Oper} {o : Oper} {a : Act} {Q : Exit → Act → World → Prop}
    (hg : o.guard = none) (l c : Operand) (hop : o.op = Op.makeSlice 59 l c) (n : Nat) (hl : a.eval l = .int .i64 n) (hc : a.eval c = .int .i64 n) (hn : n ≤ 1000000)
    (hK : ∀ w', Hb zv w' w.heap.size 3 (List.replicate n 0) → Below w.heap.size w w' → w'.heap.size = w.heap.size + 1 → wpList Tryd.prog ops Q rest (a.put o.dst (.slice (some ⟨w.heap.size, 0, none⟩) n n)) w') :
    wpList Tryd.prog ops Q (o :: rest) a w := by
  obtain ⟨i, hi, hz0, hz1, hz2⟩ := info_parts iInfo24
  refine wpList_plain hg fun K hK' => ?_
  have hrun := run_make (P := Tryd.prog) w 59 3 i _ Tryd.underlying59 hi hz0 .i64 .i64 (n : Int) (n : Int) (by omega) (by omega) (by rw [hz2]; omega) (by omega)
  simp only [Int.toNat_natCast] at hrun
  rw [hz1] at hrun
  unfold Oper.wp
  simp [execOp, hop, hl, hc, hrun, Result.andThen]
  refine hK' _ _ (hK _ ?_ (below_new _ _) (by simp))
  have := made_iv w n
  rwa [Nat.mul_one] at this

def voted (v : Vt) : Int := if v.state = 3 then 1 else 0
theorem voted_le (v : Vt) : 0 ≤ voted v ∧ voted v ≤ 1 := by unfold voted; split <;> omega
/-- Where the laws' loop stands: l the roll, m the roll as it is now, vs the votes counted. -/
structure Once (l m : List Vt) (vs : List Int) : Prop where
  len : m.length = l.length
  vlen : vs.length = l.length
  name : ∀ j (h : j < m.length) (h' : j < l.length), m[j].name = l[j].name
  pre : ∀ j (h : j < m.length) (h' : j < l.length), m[j].pre = l[j].pre
  ok : checkV m = 0
  votes : ∀ j (h : j < m.length) (h' : j < l.length) (h2 : j < vs.length), vs[j] + voted l[j] = voted m[j]
theorem Once.start {l : List Vt} (h : checkV l = 0) : Once l l (List.replicate l.length 0) := ⟨rfl, by simp, fun _ _ _ => rfl, fun _ _ _ => rfl, h, by simp⟩
theorem Once.bound {l m : List Vt} {vs : List Int} (h : Once l m vs) {j : Nat} (hj : j < vs.length) : -1 ≤ vs[j] ∧ vs[j] ≤ 1 := by
  have h1 := h.votes j (by rw [h.len, ← h.vlen]; exact hj) (by rw [← h.vlen]; exact hj) hj
  have h2 := voted_le (l[j]'(by rw [← h.vlen]; exact hj))
  have h3 := voted_le (m[j]'(by rw [h.len, ← h.vlen]; exact hj))
  omega
/-- One operation that succeeds. -/
theorem Once.step {l m : List Vt} {vs : List Int} (h : Once l m vs) {i : Nat} (hi : i < l.length) {o : Int} (hd : (doneV m l[i].name o).2 = 0) :
    ∃ (x : List Vt) (hx : i < x.length) (hm : i < m.length) (hv : i < vs.length), (doneV m l[i].name o).1 = x ∧ x.length = l.length ∧ m[i].state ≠ 3 ∧ (x[i].state = 3 → Once l x (vs.set i (vs[i] + 1))) ∧ (x[i].state ≠ 3 → Once l x vs) := by
  obtain ⟨hc, j, hj, hat, hn, hs, hxe⟩ := doneV_ok hd
  obtain ⟨k1, k2, k3, k4⟩ := doneV_check hd
  have hm : i < m.length := by rw [h.len]; exact hi
  have hij : j = i := by
    have h1 := atV_self ((rowV_iff m).1 (checkV_ok.1 h.ok).2).2 i hm
    rw [h.name i hm hi, hat] at h1
    exact Option.some.inj h1
  subst hij
  have hw := wasis_may o
  have hv : j < vs.length := by rw [h.vlen]; exact hi
  have hx : j < (m.set j { m[j] with state := (wasis o).2 }).length := by simpa using hj
  have hmj : voted m[j] = 0 := by unfold voted; rw [if_neg (by omega)]
  refine ⟨_, hx, hm, hv, hxe, by rw [List.length_set]; exact h.len, by omega, fun h3 => ⟨?_, ?_, ?_, ?_, ?_, ?_⟩, fun h3 => ⟨?_, ?_, ?_, ?_, ?_, ?_⟩⟩
  · rw [List.length_set]; exact h.len
  · rw [List.length_set]; exact h.vlen
  · intro q hq hq'
    rw [List.getElem_set]
    split
    · rename_i e; subst e; exact h.name _ hm hi
    · exact h.name q (by simpa using hq) hq'
  · intro q hq hq'
    rw [List.getElem_set]
    split
    · rename_i e; subst e; exact h.pre _ hm hi
    · exact h.pre q (by simpa using hq) hq'
  · rw [← hxe]; exact k1
  · intro q hq hq' hq2
    have hqm : q < m.length := by simpa using hq
    have hqv : q < vs.length := by simpa using hq2
    have h1 := h.votes q hqm hq' hqv
    rw [List.getElem_set, List.getElem_set]
    split
    · rename_i e; subst e
      rw [hmj] at h1
      simp at h3
      unfold voted at h1 ⊢
      simp only [h3, if_true]
      omega
    · exact h1
  · rw [List.length_set]; exact h.len
  · exact h.vlen
  · intro q hq hq'
    rw [List.getElem_set]
    split
    · rename_i e; subst e; exact h.name _ hm hi
    · exact h.name q (by simpa using hq) hq'
  · intro q hq hq'
    rw [List.getElem_set]
    split
    · rename_i e; subst e; exact h.pre _ hm hi
    · exact h.pre q (by simpa using hq) hq'
  · rw [← hxe]; exact k1
  · intro q hq hq' hq2
    have hqm : q < m.length := by simpa using hq
    have h1 := h.votes q hqm hq' hq2
    rw [List.getElem_set]
    split
    · rename_i e; subst e
      rw [hmj] at h1
      simp at h3
      rw [h1]
      unfold voted
      rw [if_neg (by simpa using h3)]
    · exact h1
end Go.Proofs.YtikhffdbjelanaaDoor
