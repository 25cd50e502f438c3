/- RollOnce (the stage's theorem). RollCounts, its plain part. -/
import Derived.Test.YtikhffdbjelanaaDoorGj
namespace Go.Proofs.YtikhffdbjelanaaDoor
open Go.RowKit
set_option linter.unusedVariables false

set_option maxRecDepth 100000 in
set_option maxHeartbeats 4000000 in
theorem rollOnce_any {T : World → Prop} (K : Con24 T) (l : List Vt) (A : Option Addr) (c : Nat) (q r : List UInt8) (A2 : Option Addr) (c2 : Nat) (A3 : Option Addr) (c3 : Nat) (w : World) (hr : Rvt w w.heap.size A c l) (hs : ∀ v ∈ l, v.state ≤ 255) (hp : ∀ v ∈ l, -9223372036854775808 ≤ v.pre ∧ v.pre ≤ 9223372036854775807) (hq : Rf bv w w.heap.size A2 c2 q) (hr3 : Rf bv w w.heap.size A3 c3 r) (hT : T w) :
    Calls Tryd.prog 7 #[.slice A l.length c, .slice A2 q.length c2, .slice A3 r.length c3] w fun e w' => e = .returned (.bool true) ∧ Below w.heap.size w w' := by
  have HK := Lib.hid K
  have HT := Lib.hid hT
  have HG := Lib.hid (fun wx (hb : Below w.heap.size w wx) => refGreat_any l A c wx ((hr.below hb).more hb.size))
  have M0 := Lib.hid (show MemV w w [(A, c, l)] [(A2, c2, q), (A3, c3, r)] from ⟨Below.refl _ _, by simp [hr], by simp [hq, hr3]⟩)
  have HA := Lib.hid (aliveV_any K w hT)
  clear K hT hr hq hr3
  cases hg : greatV l with
  | true =>
    have HGB := Lib.hid hg
    clear hg
    go_enter Tryd.func7, Tryd.ntmps7
    go_wp2_with fail
    refine HA.out.mono ?_
    rintro e w1 ⟨rfl, hb⟩
    have M1 := Lib.hid (M0.out.below hb)
    clear hb
    go_wp2_with fail
    refine (HG.out _ M1.out.bel).mono ?_
    rintro e w2 ⟨rfl, hw⟩
    obtain rfl := hw.symm
    rw [HGB.out]
    go_wp2_with fail
    go_ret
    exact ⟨rfl, M1.out.bel⟩
  | false =>
  have HGB := Lib.hid hg
  obtain ⟨h100, h1000⟩ := greatV_no hg
  have HOK := Lib.hid (show VtOk l from ⟨by omega, fun v hv => Nat.le_trans (h1000 v hv) (by decide), hs, hp⟩)
  have HNM := Lib.hid (show ∀ v ∈ l, v.name.length ≤ 100000 from fun v hv => Nat.le_trans (h1000 v hv) (by decide))
  clear hg hs hp h1000
  by_cases hbig : 200 < q.length
  · have hbd : decide ((200 : Int) < (q.length : Int)) = true := by simp; omega
    clear hbig
    go_enter Tryd.func7, Tryd.ntmps7
    go_wp2_with fail
    refine HA.out.mono ?_
    rintro e w1 ⟨rfl, hb⟩
    have M1 := Lib.hid (M0.out.below hb)
    clear hb
    go_wp2_with fail
    refine (HG.out _ M1.out.bel).mono ?_
    rintro e w2 ⟨rfl, hw⟩
    obtain rfl := hw.symm
    rw [HGB.out]
    go_wp2_with fail
    go_ret
    exact ⟨rfl, M1.out.bel⟩
  have hbd : decide ((200 : Int) < (q.length : Int)) = false := by simp; omega
  have hq200 : q.length ≤ 200 := by omega
  clear hbig
  have hc := checkV_cases l
  by_cases h0 : checkV l = 0
  case neg =>
    rcases ne_zero_cases h0 with h4 | h4
    all_goals
      have HE := Lib.hid h4
      clear h0 h4 hc
      go_enter Tryd.func7, Tryd.ntmps7
      go_wp2_with fail
      refine HA.out.mono ?_
      rintro e w1 ⟨rfl, hb⟩
      have M1 := Lib.hid (M0.out.below hb)
      clear hb
      go_wp2_with fail
      refine (HG.out _ M1.out.bel).mono ?_
      rintro e w2 ⟨rfl, hw⟩
      obtain rfl := hw.symm
      rw [HGB.out]
      go_wp2_with fail
      refine (HK.out.check l A c w1 (M1.out.vts (A, c, l) (by simp)) HOK.out (HK.out.keep HT.out M1.out.bel)).mono ?_
      rintro e w3 ⟨rfl, hb⟩
      rw [HE.out]
      have M3 := Lib.hid (M1.out.below hb)
      clear hb
      go_wp2_with fail
      go_ret
      exact ⟨rfl, M3.out.bel⟩
  have HE := Lib.hid h0
  clear hc
  by_cases hz : l.length = 0
  · have hzb : ((l.length : Int) == 0) = true := by rw [beq_iff_eq]; omega
    clear h0 h100 hz
    go_enter Tryd.func7, Tryd.ntmps7
    go_wp2_with fail
    refine HA.out.mono ?_
    rintro e w1 ⟨rfl, hb⟩
    have M1 := Lib.hid (M0.out.below hb)
    clear hb
    go_wp2_with fail
    refine (HG.out _ M1.out.bel).mono ?_
    rintro e w2 ⟨rfl, hw⟩
    obtain rfl := hw.symm
    rw [HGB.out]
    go_wp2_with fail
    refine (HK.out.check l A c w1 (M1.out.vts (A, c, l) (by simp)) HOK.out (HK.out.keep HT.out M1.out.bel)).mono ?_
    rintro e w3 ⟨rfl, hb⟩
    rw [HE.out]
    have M3 := Lib.hid (M1.out.below hb)
    clear hb
    go_wp2_with fail
    go_ret
    exact ⟨rfl, M3.out.bel⟩
  have hzi : ¬ (l.length : Int) = 0 := by omega
  have hzn : ¬ l.length = 0 := hz
  have hlpos : 0 < l.length := by omega
  clear hz
  go_enter Tryd.func7, Tryd.ntmps7
  go_wp2_with fail
  refine HA.out.mono ?_
  rintro e w1 ⟨rfl, hb⟩
  have M1 := Lib.hid (M0.out.below hb)
  clear hb
  go_wp2_with fail
  refine (HG.out _ M1.out.bel).mono ?_
  rintro e w2 ⟨rfl, hw⟩
  obtain rfl := hw.symm
  rw [HGB.out]
  go_wp2_with fail
  refine (HK.out.check l A c w1 (M1.out.vts (A, c, l) (by simp)) HOK.out (HK.out.keep HT.out M1.out.bel)).mono ?_
  rintro e w3 ⟨rfl, hb⟩
  rw [HE.out]
  have M3 := Lib.hid (M1.out.below hb)
  clear hb
  go_wp2_with (refine make_iv _ rfl _ _ rfl l.length rfl rfl (by omega) ?_; intro w4 hh4 hb4 hs4)
  have B4 := Lib.hid hb4
  have M4 := Lib.hid (M3.out.below hb4)
  have HV4 := Lib.hid hh4
  have HS4 := Lib.hid hs4
  obtain ⟨gv, hgv⟩ : ∃ gv, gv = w3.heap.size := ⟨_, rfl⟩
  rw [← hgv] at HV4 HS4 ⊢
  have hgw : w.heap.size ≤ gv := by rw [hgv]; exact M3.out.bel.size
  have hgl : gv < w4.heap.size := by have := HS4.out; omega
  clear hh4 hb4 hs4 hgv
  refine (twin_any l A c w4 (M4.out.vts (A, c, l) (by simp)) (by omega)).mono ?_
  rintro e w5 ⟨A5, c5, rfl, ho, hb⟩
  have HV5 := Lib.hid (HV4.out.below hb hgl)
  have HO5 := Lib.hid (ho.lower (Nat.succ_le_of_lt hgl))
  have M5 := Lib.hid (M4.out.below hb)
  clear ho hb
  have HL := Lib.hid (M0.out.vts (A, c, l) (by simp))
  have HQ := Lib.hid (M0.out.bys (A2, c2, q) (by simp))
  have HR := Lib.hid (M0.out.bys (A3, c3, r) (by simp))
  have ON := Lib.hid (Once.start h0)
  go_wp2_with fail
  go_loopw [9, 10] (fun s9 s10 wr => ∃ (k : Nat) (m : List Vt) (vs : List Int) (Am : Option Addr) (cm : Nat), k ≤ q.length ∧ s10 = .int .i64 k ∧ s9 = .slice Am m.length cm ∧ Hid (Once l m vs) ∧ Hid (OwV wr (gv + 1) Am cm m) ∧ Hid (Hb zv wr gv 3 vs) ∧ Hid (Below w.heap.size w wr)) (fun _ s10 _ => q.length - (intOf s10).toNat)
  case atStart => exact ⟨0, l, _, A5, c5, Nat.zero_le _, rfl, rfl, ON.out, HO5.out, HV5.out, M5.out.bel⟩
  case round =>
    obtain ⟨k, m, vs, Am, cm, hk, rfl, rfl, hon, hom, hhv, hbw⟩ := hrel
    have hsz := hbw.out.size
    have hgr := hhv.out.lt
    by_cases hlt : k < q.length
    · by_cases hlr : k < r.length
      · obtain ⟨b2, o2, rfl, hbb2, hcq⟩ := (HQ.out.below hbw.out).at_ hlt
        obtain ⟨b3, o3, rfl, hbb3, hcr⟩ := (HR.out.below hbw.out).at_ hlr
        have hcq1 := hcq k hlt
        have hcr1 := hcr k hlr
        clear hcq hcr
        obtain ⟨x, hx⟩ : ∃ x, x = q[k] := ⟨_, rfl⟩
        obtain ⟨y, hy⟩ : ∃ y, y = r[k] := ⟨_, rfl⟩
        rw [← hx] at hcq1
        rw [← hy] at hcr1
        unfold bv at hcq1 hcr1
        have hxl := UInt8.toNat_lt x
        have hyl := UInt8.toNat_lt y
        clear hx hy
        go_wp2_with fail
        obtain ⟨i, hi⟩ : ∃ i, i = y.toNat % l.length := ⟨_, rfl⟩
        have hil : i < l.length := by rw [hi]; exact Nat.mod_lt _ hlpos
        rw [show ((y.toNat : Int) % (l.length : Int)) = (i : Int) by rw [hi]; exact (Int.natCast_emod _ _).symm]
        obtain ⟨z, hz⟩ : ∃ z, z = l[i] := ⟨_, rfl⟩
        obtain ⟨b, o, rfl, hbb, g1, g2, g3⟩ := (HL.out.below hbw.out).vt1 hil hz
        obtain ⟨d, hd⟩ : ∃ d, d = x.toNat % 5 := ⟨_, rfl⟩
        have hd5 : d < 5 := by rw [hd]; exact Nat.mod_lt _ (by decide)
        have htm : (x.toNat : Int).tmod 5 = (d : Int) := by
          rw [hd, Int.tmod_eq_emod_of_nonneg (by omega)]
          exact (Int.natCast_emod _ _).symm
        obtain ⟨ov, hov⟩ : ∃ ov : Int, ov = (d : Int) + 1 := ⟨_, rfl⟩
        have hwd : IntKind.i64.wrap ((d : Int) + 1) = ov := by rw [IntKind.wrap_i64]; omega
        have hwu : IntKind.u8.wrap (d : Int) = (d : Int) := by rw [IntKind.wrap_u8]; omega
        have hwi : IntKind.i64.wrap (d : Int) = (d : Int) := by rw [IntKind.wrap_i64]; omega
        have HST := Lib.hid (fun (h : (doneV m z.name ov).2 = 0) => hon.out.step hil (o := ov) (by rw [← hz]; exact h))
        have HCELL := Lib.hid (show ∀ wx : World, Below w.heap.size wr wx → (wx.cell? ⟨b, o + i * 3, none⟩ = some (.string ⟨z.name.toArray⟩) ∧ wx.cell? ⟨b2, o2 + k, none⟩ = some (.int .u8 (x.toNat : Int))) from fun wx hb => ⟨(hb.cell hbb).trans g1, (hb.cell hbb2).trans hcq1⟩)
        have hS0 := HCELL.out wr.drew (Below.refl _ wr).drew
        have HDO := Lib.hid (does_any HK.out m z.name ov Am cm wr.drew ((hom.out.rd vl_len).drew) (VtOk.roll hon.out.ok) (HNM.out z (by rw [hz]; exact List.getElem_mem hil)) (HK.out.keep HT.out hbw.out.drew))
        have HZ := Lib.hid hz
        clear hi hd hcr1 hov hz
        go_region_held3 (fun w' => (w'.cell? ⟨b, o + i * 3, none⟩ = some (.string ⟨z.name.toArray⟩) ∧ w'.cell? ⟨b2, o2 + k, none⟩ = some (.int .u8 (x.toNat : Int)))) (first | exact hS0 | exact hS4 | fail) (first
          | (go_simp; go_at_call 29; refine HDO.out.mono ?_; rintro e w4 ⟨A4, c4, x4, e4, rfl, hq4, ho4, hb4⟩; have BW4 := Lib.hid ((Below.refl _ wr).drew.trans (hb4.mono hsz)); have hS4 := HCELL.out _ BW4.out)
          | fail)
        have HQ4 := Lib.hid hq4
        have HO4 := Lib.hid (ho4.lower (Nat.succ_le_of_lt hgr))
        have HM4 := Lib.hid ((hom.out.drew).below (Nat.le_refl _) hb4)
        have HV4' := Lib.hid ((hhv.out.drew).below hb4 hgr)
        have B5 := Lib.hid (hbw.out.trans BW4.out)
        have hsz4 := B5.out.size
        clear hq4 ho4 hb4 hS0 hS4 g1 g2 g3 hcq1 htm hwd hwu hwi HDO HCELL
        by_cases he : (doneV m z.name ov).2 = 0
        case neg =>
          rw [← HQ4.out] at he
          have hne : (e4 != 0) = true := by rw [bne_iff_ne]; exact he
          have hne2 : ¬ e4 = 0 := he
          clear he
          go_wp2_with fail
          go_roundw
          case rel => exact ⟨k + 1, m, vs, Am, cm, by omega, by go_num, rfl, hon.out, HM4.out, HV4'.out, B5.out⟩
          case measure => simp [intOf]; omega
        obtain ⟨x, hxi, hmi, hvi, hxe, hxl4, hn3, hyes, hno⟩ := HST.out he
        rw [← HZ.out, ← HQ4.out] at hxe
        rw [← HQ4.out] at he
        obtain rfl : e4 = 0 := he
        obtain rfl : x4 = x := hxe
        have HYES := Lib.hid hyes
        have HNO := Lib.hid hno
        have HXL := Lib.hid hxl4
        obtain ⟨gm, rfl, hgm1, hgm2, hgm3, hgm4⟩ : ∃ g, Am = some ⟨g, 0, none⟩ ∧ gv + 1 ≤ g ∧ g < w4.heap.size ∧ m.length ≤ cm ∧ cm ≤ maxLen := by
          rcases HM4.out.form with ⟨_, _, h⟩ | h
          · rw [h] at hmi; simp at hmi
          · exact h
        obtain ⟨gx, rfl, hgx1, hgx2, hgx3, hgx4⟩ : ∃ g, A4 = some ⟨g, 0, none⟩ ∧ gv + 1 ≤ g ∧ g < w4.heap.size ∧ x4.length ≤ c4 ∧ c4 ≤ maxLen := by
          rcases HO4.out.form with ⟨_, _, h⟩ | h
          · rw [h] at hxi; simp at hxi
          · exact h
        have k1 := HM4.out.cell vl_len i hmi 2 (by omega)
        have k2 := HO4.out.cell vl_len i hxi 2 (by omega)
        have k3 := HV4'.out.cell hvi
        have k4 := HV4'.out.frozen i
        have hvb := hon.out.bound hvi
        unfold vl at k1 k2
        unfold zv at k3
        simp only [List.getElem?_cons_succ, List.getElem?_cons_zero] at k1 k2
        obtain ⟨sm, hsm⟩ : ∃ sm, sm = m[i].state := ⟨_, rfl⟩
        obtain ⟨sx, hsx⟩ : ∃ sx, sx = x4[i].state := ⟨_, rfl⟩
        obtain ⟨vi, hvi2⟩ : ∃ vi, vi = vs[i] := ⟨_, rfl⟩
        rw [← hsm] at k1 hn3
        rw [← hsx] at k2 HYES HNO
        rw [← hvi2] at k3 hvb HYES
        have hsm3 : ¬ (sm : Int) = 3 := by omega
        have hxl5 : (x4.length : Int) = (l.length : Int) := by omega
        have hixl : i < x4.length := hxi
        have him : i < m.length := hmi
        clear hyes hno hxl4 hsm hsx hvi2 hn3
        by_cases h3 : sx = 3
        · subst h3
          have HON := Lib.hid (HYES.out rfl)
          have hwv : IntKind.i64.wrap (vi + 1) = vi + 1 := by rw [IntKind.wrap_i64]; omega
          go_wp2_with fail
          go_roundw
          case rel => exact ⟨k + 1, x4, _, _, c4, by omega, by go_num, rfl, HON.out, HO4.out.kept (grown_set w4 ⟨gv, i, none⟩ _) (.inr (by simp [blk]; omega)), HV4'.out.set_ i (vi + 1) _ rfl, B5.out.grown (grown_set w4 ⟨gv, i, none⟩ _) hsz4 (fun j hj => by cases hj; exact hgw)⟩
          case measure => simp [intOf]; omega
        · have HON := Lib.hid (HNO.out h3)
          have h3i : ¬ (sx : Int) = 3 := by omega
          go_wp2_with fail
          go_roundw
          case rel => exact ⟨k + 1, x4, vs, _, c4, by omega, by go_num, by rw [HXL.out], HON.out, HO4.out, HV4'.out, B5.out⟩
          case measure => simp [intOf]; omega
      · have hlrd : decide (k < r.length) = false := decide_eq_false hlr
        have HRM := Lib.hid (hom.out.rd vl_len)
        have HRL := Lib.hid ((HL.out.below hbw.out).more hsz)
        obtain ⟨wo, hwo⟩ : ∃ wo, wo = wr := ⟨_, rfl⟩
        subst hwo
        go_wp2_with fail
        go_loopw [14] (fun s14 wr => ∃ (t : Nat), t ≤ l.length ∧ s14 = .int .i64 t ∧ ∃ n, wr = wo.drewN n) (fun s14 _ => l.length - (intOf s14).toNat)
        case atStart => exact ⟨0, Nat.zero_le _, rfl, 0, rfl⟩
        case round =>
          obtain ⟨t, ht, rfl, nn, rfl⟩ := hrel
          by_cases htl : t < l.length
          · have htm : t < m.length := by rw [hon.out.len]; exact htl
            have htv : t < vs.length := by rw [hon.out.vlen]; exact htl
            obtain ⟨bm, om, rfl, hbbm, hcm⟩ := HRM.out.vt htm
            obtain ⟨bl, ol, rfl, hbbl, hcl⟩ := HRL.out.vt htl
            obtain ⟨f1, f2, f3⟩ := hcm t htm
            obtain ⟨g1, g2, g3⟩ := hcl t htl
            rw [hon.out.name t htm htl] at f1
            rw [hon.out.pre t htm htl] at f2
            have k3 := hhv.out.cell htv
            have hve := hon.out.votes t htm htl htv
            unfold voted at hve
            unfold zv at k3
            obtain ⟨vk, hvk⟩ : ∃ vk, vk = vs[t] := ⟨_, rfl⟩
            obtain ⟨z, hz⟩ : ∃ z, z = l[t] := ⟨_, rfl⟩
            obtain ⟨sm, hsm⟩ : ∃ sm, sm = m[t].state := ⟨_, rfl⟩
            rw [← hvk] at k3 hve
            rw [← hz] at f1 f2 g1 g2 g3 hve
            rw [← hsm] at f3 hve
            obtain ⟨sl, hsl⟩ : ∃ sl, sl = z.state := ⟨_, rfl⟩
            rw [← hsl] at g3 hve
            clear hcm hcl hvk hz hsm hsl
            by_cases a3 : sl = 3
            · subst a3
              by_cases b3 : sm = 3
              · subst b3
                simp only [if_true] at hve
                obtain rfl : vk = 0 := by omega
                clear hve
                go_wp2_with fail
                refine wp_region_any (by kernel_rfl) ?_
                change wpAny _ _ _ _ _ _ _ (World.drew _)
                refine wpAny_quiet_rest24 0 (by kernel_rfl) (by kernel_rfl) (by kernel_rfl) ?_
                simp only [List.drop_zero]
                repeat (go_big_quiet_step (fail))
                refine wpQuiet_nil ?_
                intro _ hw'
                obtain ⟨nq, hw''⟩ := hw'
                subst hw''
                go_wp2_with fail
                go_roundw
                case rel => exact ⟨t + 1, by omega, by go_num, _, by first | rfl | exact drew_more _ _ _⟩
                case measure => simp [intOf]; omega
              · have b3i : ¬ (sm : Int) = 3 := by omega
                rw [if_pos rfl, if_neg b3] at hve
                obtain rfl : vk = -1 := by omega
                clear hve b3
                go_wp2_with fail
                refine wp_region_any (by kernel_rfl) ?_
                change wpAny _ _ _ _ _ _ _ (World.drew _)
                refine wpAny_quiet_rest24 0 (by kernel_rfl) (by kernel_rfl) (by kernel_rfl) ?_
                simp only [List.drop_zero]
                repeat (go_big_quiet_step (fail))
                refine wpQuiet_nil ?_
                intro _ hw'
                obtain ⟨nq, hw''⟩ := hw'
                subst hw''
                go_wp2_with fail
                go_roundw
                case rel => exact ⟨t + 1, by omega, by go_num, _, by first | rfl | exact drew_more _ _ _⟩
                case measure => simp [intOf]; omega
            · have a3i : ¬ (sl : Int) = 3 := by omega
              by_cases b3 : sm = 3
              · subst b3
                rw [if_neg a3, if_pos rfl] at hve
                obtain rfl : vk = 1 := by omega
                clear hve a3
                go_wp2_with fail
                refine wp_region_any (by kernel_rfl) ?_
                change wpAny _ _ _ _ _ _ _ (World.drew _)
                refine wpAny_quiet_rest24 0 (by kernel_rfl) (by kernel_rfl) (by kernel_rfl) ?_
                simp only [List.drop_zero]
                repeat (go_big_quiet_step (fail))
                refine wpQuiet_nil ?_
                intro _ hw'
                obtain ⟨nq, hw''⟩ := hw'
                subst hw''
                go_wp2_with fail
                go_roundw
                case rel => exact ⟨t + 1, by omega, by go_num, _, by first | rfl | exact drew_more _ _ _⟩
                case measure => simp [intOf]; omega
              · have b3i : ¬ (sm : Int) = 3 := by omega
                rw [if_neg a3, if_neg b3] at hve
                obtain rfl : vk = 0 := by omega
                clear hve a3 b3
                go_wp2_with fail
                refine wp_region_any (by kernel_rfl) ?_
                change wpAny _ _ _ _ _ _ _ (World.drew _)
                refine wpAny_quiet_rest24 0 (by kernel_rfl) (by kernel_rfl) (by kernel_rfl) ?_
                simp only [List.drop_zero]
                repeat (go_big_quiet_step (fail))
                refine wpQuiet_nil ?_
                intro _ hw'
                obtain ⟨nq, hw''⟩ := hw'
                subst hw''
                go_wp2_with fail
                go_roundw
                case rel => exact ⟨t + 1, by omega, by go_num, _, by first | rfl | exact drew_more _ _ _⟩
                case measure => simp [intOf]; omega
          · obtain rfl : t = l.length := by omega
            have HB := Lib.hid (hbw.out.trans (below_drewN _ wo nn))
            go_wp2_with fail
            go_ret
            exact ⟨rfl, HB.out⟩
    · have hltd : decide (k < q.length) = false := decide_eq_false hlt
      have HRM := Lib.hid (hom.out.rd vl_len)
      have HRL := Lib.hid ((HL.out.below hbw.out).more hsz)
      obtain ⟨wo, hwo⟩ : ∃ wo, wo = wr := ⟨_, rfl⟩
      subst hwo
      go_wp2_with fail
      go_loopw [14] (fun s14 wr => ∃ (t : Nat), t ≤ l.length ∧ s14 = .int .i64 t ∧ ∃ n, wr = wo.drewN n) (fun s14 _ => l.length - (intOf s14).toNat)
      case atStart => exact ⟨0, Nat.zero_le _, rfl, 0, rfl⟩
      case round =>
        obtain ⟨t, ht, rfl, nn, rfl⟩ := hrel
        by_cases htl : t < l.length
        · have htm : t < m.length := by rw [hon.out.len]; exact htl
          have htv : t < vs.length := by rw [hon.out.vlen]; exact htl
          obtain ⟨bm, om, rfl, hbbm, hcm⟩ := HRM.out.vt htm
          obtain ⟨bl, ol, rfl, hbbl, hcl⟩ := HRL.out.vt htl
          obtain ⟨f1, f2, f3⟩ := hcm t htm
          obtain ⟨g1, g2, g3⟩ := hcl t htl
          rw [hon.out.name t htm htl] at f1
          rw [hon.out.pre t htm htl] at f2
          have k3 := hhv.out.cell htv
          have hve := hon.out.votes t htm htl htv
          unfold voted at hve
          unfold zv at k3
          obtain ⟨vk, hvk⟩ : ∃ vk, vk = vs[t] := ⟨_, rfl⟩
          obtain ⟨z, hz⟩ : ∃ z, z = l[t] := ⟨_, rfl⟩
          obtain ⟨sm, hsm⟩ : ∃ sm, sm = m[t].state := ⟨_, rfl⟩
          rw [← hvk] at k3 hve
          rw [← hz] at f1 f2 g1 g2 g3 hve
          rw [← hsm] at f3 hve
          obtain ⟨sl, hsl⟩ : ∃ sl, sl = z.state := ⟨_, rfl⟩
          rw [← hsl] at g3 hve
          clear hcm hcl hvk hz hsm hsl
          by_cases a3 : sl = 3
          · subst a3
            by_cases b3 : sm = 3
            · subst b3
              simp only [if_true] at hve
              obtain rfl : vk = 0 := by omega
              clear hve
              go_wp2_with fail
              refine wp_region_any (by kernel_rfl) ?_
              change wpAny _ _ _ _ _ _ _ (World.drew _)
              refine wpAny_quiet_rest24 0 (by kernel_rfl) (by kernel_rfl) (by kernel_rfl) ?_
              simp only [List.drop_zero]
              repeat (go_big_quiet_step (fail))
              refine wpQuiet_nil ?_
              intro _ hw'
              obtain ⟨nq, hw''⟩ := hw'
              subst hw''
              go_wp2_with fail
              go_roundw
              case rel => exact ⟨t + 1, by omega, by go_num, _, by first | rfl | exact drew_more _ _ _⟩
              case measure => simp [intOf]; omega
            · have b3i : ¬ (sm : Int) = 3 := by omega
              rw [if_pos rfl, if_neg b3] at hve
              obtain rfl : vk = -1 := by omega
              clear hve b3
              go_wp2_with fail
              refine wp_region_any (by kernel_rfl) ?_
              change wpAny _ _ _ _ _ _ _ (World.drew _)
              refine wpAny_quiet_rest24 0 (by kernel_rfl) (by kernel_rfl) (by kernel_rfl) ?_
              simp only [List.drop_zero]
              repeat (go_big_quiet_step (fail))
              refine wpQuiet_nil ?_
              intro _ hw'
              obtain ⟨nq, hw''⟩ := hw'
              subst hw''
              go_wp2_with fail
              go_roundw
              case rel => exact ⟨t + 1, by omega, by go_num, _, by first | rfl | exact drew_more _ _ _⟩
              case measure => simp [intOf]; omega
          · have a3i : ¬ (sl : Int) = 3 := by omega
            by_cases b3 : sm = 3
            · subst b3
              rw [if_neg a3, if_pos rfl] at hve
              obtain rfl : vk = 1 := by omega
              clear hve a3
              go_wp2_with fail
              refine wp_region_any (by kernel_rfl) ?_
              change wpAny _ _ _ _ _ _ _ (World.drew _)
              refine wpAny_quiet_rest24 0 (by kernel_rfl) (by kernel_rfl) (by kernel_rfl) ?_
              simp only [List.drop_zero]
              repeat (go_big_quiet_step (fail))
              refine wpQuiet_nil ?_
              intro _ hw'
              obtain ⟨nq, hw''⟩ := hw'
              subst hw''
              go_wp2_with fail
              go_roundw
              case rel => exact ⟨t + 1, by omega, by go_num, _, by first | rfl | exact drew_more _ _ _⟩
              case measure => simp [intOf]; omega
            · have b3i : ¬ (sm : Int) = 3 := by omega
              rw [if_neg a3, if_neg b3] at hve
              obtain rfl : vk = 0 := by omega
              clear hve a3 b3
              go_wp2_with fail
              refine wp_region_any (by kernel_rfl) ?_
              change wpAny _ _ _ _ _ _ _ (World.drew _)
              refine wpAny_quiet_rest24 0 (by kernel_rfl) (by kernel_rfl) (by kernel_rfl) ?_
              simp only [List.drop_zero]
              repeat (go_big_quiet_step (fail))
              refine wpQuiet_nil ?_
              intro _ hw'
              obtain ⟨nq, hw''⟩ := hw'
              subst hw''
              go_wp2_with fail
              go_roundw
              case rel => exact ⟨t + 1, by omega, by go_num, _, by first | rfl | exact drew_more _ _ _⟩
              case measure => simp [intOf]; omega
        · obtain rfl : t = l.length := by omega
          have HB := Lib.hid (hbw.out.trans (below_drewN _ wo nn))
          go_wp2_with fail
          go_ret
          exact ⟨rfl, HB.out⟩
end Go.Proofs.YtikhffdbjelanaaDoor
namespace Go.Proofs.YtikhffdbjelanaaDoor
open Go.RowKit
set_option linter.unusedVariables false

theorem countP_or {α : Type} (p q : α → Bool) (l : List α) (h : ∀ x ∈ l, ¬ (p x = true ∧ q x = true)) : l.countP (fun x => p x || q x) = l.countP p + l.countP q := by
  induction l with
  | nil => rfl
  | cons x l ih =>
    have hx := h x (List.mem_cons_self ..)
    have ih := ih fun y hy => h y (List.mem_cons_of_mem _ hy)
    simp only [List.countP_cons, ih]
    cases hp : p x <;> cases hq : q x <;> simp_all <;> omega
/-- How many of the first n precincts' voters are in a state. -/
def sumV (l : List Vt) (s : Nat) : Nat → Nat
  | 0 => 0
  | n + 1 => sumV l s n + manyV l (n : Int) s
theorem sumV_eq (l : List Vt) (s : Nat) (hl : ∀ v ∈ l, 0 ≤ v.pre) : ∀ n, sumV l s n = l.countP fun v => decide (v.state = s) && decide (v.pre < (n : Int))
  | 0 => by
    rw [sumV]
    symm
    rw [List.countP_eq_zero]
    intro v hv
    have := hl v hv
    simp; omega
  | n + 1 => by
    rw [sumV, sumV_eq l s hl n]
    unfold manyV
    have h1 : (l.countP fun v => decide (v.state = s) && decide (v.pre < ((n + 1 : Nat) : Int))) = l.countP fun v => (decide (v.state = s) && decide (v.pre < (n : Int))) || (decide (v.state = s) && (decide ((n : Int) < 0) || decide (v.pre = (n : Int)))) := by
      apply List.countP_congr
      intro v hv
      have e : decide (v.pre < ((n + 1 : Nat) : Int)) = (decide (v.pre < (n : Int)) || (decide ((n : Int) < 0) || decide (v.pre = (n : Int)))) := by
        rw [Bool.eq_iff_iff]; simp; omega
      rw [e]
      cases decide (v.state = s) <;> simp
    rw [h1, countP_or]
    intro v hv
    simp
    omega
theorem sumV_all {l : List Vt} (h : ∀ v ∈ l, mayV v = true) (s : Nat) : sumV l s 8 = manyV l (-1) s := by
  rw [sumV_eq l s (fun v hv => ((mayV_iff v).1 (h v hv)).2.1)]
  unfold manyV
  apply List.countP_congr
  intro v hv
  have := (mayV_iff v).1 (h v hv)
  simp
  omega
theorem all_states {l : List Vt} (h : ∀ v ∈ l, mayV v = true) : manyV l (-1) 1 + manyV l (-1) 2 + manyV l (-1) 3 + manyV l (-1) 4 = l.length := by
  induction l with
  | nil => rfl
  | cons v l ih =>
    have ih := ih fun x hx => h x (List.mem_cons_of_mem _ hx)
    obtain ⟨_, _, _, h1, h4⟩ := (mayV_iff v).1 (h v (List.mem_cons_self ..))
    unfold manyV at ih ⊢
    simp only [List.countP_cons, List.length_cons]
    have : v.state = 1 ∨ v.state = 2 ∨ v.state = 3 ∨ v.state = 4 := by omega
    rcases this with e | e | e | e <;> simp [e] <;> simp at ih <;> omega
theorem manyV_set (l : List Vt) (i : Nat) (hi : i < l.length) (t s : Nat) : manyV (l.set i { l[i] with state := t }) (-1) s + (if l[i].state = s then 1 else 0) = manyV l (-1) s + (if t = s then 1 else 0) := by
  unfold manyV
  rw [List.countP_set hi]
  have hpos : l[i].state = s → 0 < l.countP (fun v => decide (v.state = s) && (decide ((-1 : Int) < 0) || decide (v.pre = -1))) := by
    intro e
    rw [List.countP_pos_iff]
    exact ⟨l[i], List.getElem_mem hi, by simp [e]⟩
  by_cases h1 : l[i].state = s
  · have := hpos h1
    generalize l.countP (fun v => decide (v.state = s) && (decide ((-1 : Int) < 0) || decide (v.pre = -1))) = C at this ⊢
    by_cases h2 : t = s <;> simp [h1, h2] <;> omega
  · by_cases h2 : t = s <;> simp [h1, h2]
/-- What one operation does to the counts. -/
theorem done_counts {l : List Vt} {n : List UInt8} {o : Int} (h : (doneV l n o).2 = 0) (s : Nat) : manyV (doneV l n o).1 (-1) s + (if (wasis o).1 = s then 1 else 0) = manyV l (-1) s + (if (wasis o).2 = s then 1 else 0) := by
  obtain ⟨hc, i, hi, hat, hn, hs, hx⟩ := doneV_ok h
  rw [hx, ← manyV_set l i hi (wasis o).2 s, hs]
theorem wasis_cases (o : Int) : wasis o = (1, 2) ∨ wasis o = (2, 1) ∨ wasis o = (2, 3) ∨ wasis o = (1, 4) ∨ wasis o = (4, 1) := by
  unfold wasis
  repeat' split
  all_goals simp
theorem countV_in {l : List Vt} (h : checkV l = 0) {p : Int} (hp : -1 ≤ p ∧ p < 8) : countV l p = (toV l p, 0) := by
  unfold countV
  rw [if_neg (by simp [h]), if_neg (by omega)]
end Go.Proofs.YtikhffdbjelanaaDoor
