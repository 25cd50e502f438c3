/- The reference's After. -/
import Derived.Test.YtipclieldokfnaaDoorAft
namespace Go.Proofs.YtipclieldokfnaaDoor
open Go.RowKit
set_option linter.unusedVariables false
attribute [local go_sem] w_add w_xor w_and w_or w_not w_shr3 w_shr10

theorem word_c (A : Option Addr) (c B n at_ : Nat) (i : Int) (l : List UInt8) (x : UInt32) (w : World) (hr : Rf bv w B A c l) (hn : Hid (l.length = n)) (hi : Hid (i = (at_ : Int))) (hl : at_ + 4 ≤ n) (hm : n ≤ 1000000) (hx : Hid (wordAt l at_ = x)) :
    Calls Tryd.prog 69 #[.slice A n c, .int .i64 i] w fun e w' => e = .returned (.int .u32 (x.toNat : Int)) ∧ ∃ q, w' = w.drewN q := by
  have h1 := hn.out
  have h2 := hx.out
  have h3 := hi.out
  subst h1 h2 h3
  exact word_any A c B at_ l w hr hl hm

/-- The words behind a turn as the reference reckons them. -/
theorem turn_or (a b c d e f g h kt wt : UInt32) : turn [a, b, c, d, e, f, g, h] (kt + wt) =
    [wadd (wadd (wadd (wadd (wadd h (wxor (wxor (rot e 6) (rot e 11)) (rot e 25))) (wor (wand e f) (wand (wnot e) g))) kt) wt) (wadd (wxor (wxor (rot a 2) (rot a 13)) (rot a 22)) (wor (wor (wand a b) (wand a c)) (wand b c))),
      a, b, c, wadd d (wadd (wadd (wadd (wadd h (wxor (wxor (rot e 6) (rot e 11)) (rot e 25))) (wor (wand e f) (wand (wnot e) g))) kt) wt), e, f, g] := by
  have e1 : wor (wand e f) (wand (wnot e) g) = chX e f g := ch_eq e f g
  have e2 : wor (wor (wand a b) (wand a c)) (wand b c) = mjX a b c := mj_eq a b c
  rw [e1, e2]
  unfold turn wadd
  rw [UInt32.add_assoc (h + wxor (wxor (rot e 6) (rot e 11)) (rot e 25) + chX e f g) kt wt]
  rfl
theorem hbD {w : World} {g t : Nat} {L : List UInt32} (h : Hb uv w g t L) {i : Nat} (hi : i < L.length) : w.cell? ⟨g, i, none⟩ = some (.int .u32 ((L.getD i 0).toNat : Int)) := by
  rw [h.cell hi]
  simp [uv, List.getD, hi]
theorem plus8 (a b c d e f g h a' b' c' d' e' f' g' h' : UInt32) : List.zipWith (· + ·) [a', b', c', d', e', f', g', h'] [a, b, c, d, e, f, g, h] = [wadd a a', wadd b b', wadd c c', wadd d d', wadd e e', wadd f f', wadd g g', wadd h h'] := by
  unfold wadd
  simp only [List.zipWith, UInt32.add_comm a, UInt32.add_comm b, UInt32.add_comm c, UInt32.add_comm d, UInt32.add_comm e, UInt32.add_comm f, UInt32.add_comm g, UInt32.add_comm h]
theorem cell_apart {W : World} {g i j : Nat} {v u : Value} (hij : i ≠ j) (h : W.cell? ⟨g, i, none⟩ = some u) : (W.setCell ⟨g, j, none⟩ v).cell? ⟨g, i, none⟩ = some u := by
  rw [World.cell?_setCell_other _ _ _ _ (by intro e; cases e; exact hij rfl)]
  exact h

set_option maxRecDepth 100000 in
set_option maxHeartbeats 2000000 in
theorem after_any (S : List UInt32) (A : Option Addr) (c B : Nat) (l : List UInt8) (w : World) (hS : S.length = 8) (hr : Rf bv w B A c l) (hB : B ≤ w.heap.size) (hl : l.length = 64) :
    Calls Tryd.prog 54 #[aw S, .slice A 64 c] w fun e w' => e = .returned (aw (comp S l)) ∧ Below w.heap.size w w' := by
  obtain ⟨a, b, c1, d, e, f, g, h, rfl⟩ := len8 hS
  have HSL := Lib.hid hS
  have HL := Lib.hid hl
  clear hS hl
  unfold aw
  simp only [List.map_cons, List.map_nil, uv]
  go_enter Tryd.func54, Tryd.ntmps54
  go_wp2_with fail
  go_loopw [6] (fun i wr => ∃ t : Nat, t ≤ 64 ∧ i = .int .i64 t ∧ Hid (Hb uv wr (w.heap.size + 1 + 1) 106 (sofar l t)) ∧ Hid (Hb uv wr w.heap.size 88 [a, b, c1, d, e, f, g, h]) ∧
    Hid (Hb uv wr (w.heap.size + 1) 88 [0, 0, 0, 0, 0, 0, 0, 0]) ∧ Hid (Below w.heap.size w wr)) (fun i _ => 64 - (intOf i).toNat)
  case atStart => exact ⟨0, by omega, rfl, Hb.new2 uv w _ _ _ (sofar l 0) _ zeros64, ((Hb.new uv w _ [a, b, c1, d, e, f, g, h] _ rfl).alloc _).alloc _, (Hb.new1 uv w _ _ [0, 0, 0, 0, 0, 0, 0, 0] _ rfl).alloc _, below_alloc3 w _ _ _⟩
  case round =>
    obtain ⟨t, ht, rfl, h1, hs, hz, hbw⟩ := hrel
    by_cases h64 : t = 64
    · have e64 : (t : Int) = 64 := by omega
      rw [h64, sofar_all] at h1
      rw [e64]
      clear e64 h64 ht t
      go_wp2_with fail
      refine (rk_any wr).mono ?_
      rintro e1 w1 ⟨rfl, hb1⟩
      obtain ⟨W, hW⟩ : ∃ W, W = sched l 64 := ⟨_, rfl⟩
      rw [← hW] at h1
      have HW := Lib.hid hW
      clear hW
      unfold aw
      obtain ⟨ck, hck⟩ : ∃ ck, (kk.map uv).toArray = ck := ⟨_, rfl⟩
      rw [hck]
      have hsz1 := hb1.size
      have h1b := (h1.out.below hb1 h1.out.lt)
      have hsb := (hs.out.below hb1 hs.out.lt)
      have hzb := (hz.out.below hb1 hz.out.lt)
      have hbwb := hbw.out.trans (hb1.mono hbw.out.size)
      have hlt1 := h1b.lt
      have HCK := Lib.hid hck
      clear hck h1 hs hz hbw hb1
      have H1B := Lib.hid h1b
      have HSB := Lib.hid hsb
      have HZB := Lib.hid hzb
      have HBB := Lib.hid hbwb
      clear h1b hsb hzb hbwb
      go_wp2_with ((with_reducible refine wpList_store_kk uv_one rfl _ (.tmp 9) (.tmp 70) rfl _ kk ck HCK.out rfl rfl (Hb.new uv w1 _ (List.replicate 64 0) _ zeros64) size64 (List.length_replicate ..) kk_len ?_); intro w2 h2 hg2)
      have hsz2 := hg2.size
      rw [World.size_alloc] at hsz2
      have H1C := Lib.hid ((H1B.out.alloc _).grown hg2 (by simp; omega))
      have HSC := Lib.hid ((HSB.out.alloc _).grown hg2 (by simp; omega))
      have HZC := Lib.hid ((HZB.out.alloc _).grown hg2 (by simp; omega))
      have HBC := Lib.hid ((HBB.out.alloc HBB.out.size _).grown hg2 (HBB.out.alloc HBB.out.size _).size (fun k e => by cases e; omega))
      have HKC := Lib.hid h2
      obtain ⟨s0, s1, s2, s3, s4, s5, s6, s7, sf⟩ := cells8 HSC.out
      clear H1B HSB HZB HBB h2 hg2
      dsimp only [Act.put]
      go_quiet (fail)
      go_wp2_with fail
      go_loopw [10, 11, 12, 13, 14, 15, 16, 17, 18] (fun q0 q1 q2 q3 q4 q5 q6 q7 i wr => ∃ (t : Nat) (va vb vc vd ve vf vg vh : UInt32), t ≤ 64 ∧ i = .int .i64 t ∧ q0 = .int .u32 (va.toNat : Int) ∧ q1 = .int .u32 (vb.toNat : Int) ∧ q2 = .int .u32 (vc.toNat : Int) ∧ q3 = .int .u32 (vd.toNat : Int) ∧
        q4 = .int .u32 (ve.toNat : Int) ∧ q5 = .int .u32 (vf.toNat : Int) ∧ q6 = .int .u32 (vg.toNat : Int) ∧ q7 = .int .u32 (vh.toNat : Int) ∧ Hid (turns W [a, b, c1, d, e, f, g, h] t = [va, vb, vc, vd, ve, vf, vg, vh]) ∧ Hid (∃ q, wr = w2.drewN q)) (fun _ _ _ _ _ _ _ _ i _ => 64 - (intOf i).toNat)
      case atStart => exact ⟨0, a, b, c1, d, e, f, g, h, by omega, rfl, rfl, rfl, rfl, rfl, rfl, rfl, rfl, rfl, rfl, nq, rfl⟩
      case round =>
        obtain ⟨t, va, vb, vc, vd, ve, vf, vg, vh, ht, rfl, rfl, rfl, rfl, rfl, rfl, rfl, rfl, rfl, hV, hwr⟩ := hrel
        by_cases h64 : t = 64
        · obtain ⟨q, rfl⟩ := hwr.out
          have e64 : (t : Int) = 64 := by omega
          rw [h64] at hV
          rw [e64]
          obtain ⟨z0, z1, z2, z3, z4, z5, z6, z7, zf⟩ := cells8 HZC.out
          have HCM := Lib.hid (show comp [a, b, c1, d, e, f, g, h] l = [wadd a va, wadd b vb, wadd c1 vc, wadd d vd, wadd e ve, wadd f vf, wadd g vg, wadd h vh] by
            unfold comp
            rw [← HW.out, hV.out, plus8])
          clear e64 h64 ht t hV
          go_wp2_with fail
          refine bodyPost_cell (f := uv) (g := w.heap.size + 1) (t := 88) (L := [wadd a va, wadd b vb, wadd c1 vc, wadd d vd, wadd e ve, wadd f vf, wadd g vg, wadd h vh]) rfl rfl (set8 (HZC.out.drewN q) rfl _ _ _ _ _ _ _ _) Tryd.underlying88 size8 rfl ⟨by rw [HCM.out], ?_⟩
          exact (HBC.out.trans (below_drewN _ _ q)).grown (grown8 _ _ _ _ _ _ _ _ _ _) (HBC.out.trans (below_drewN _ _ q)).size (fun k e => by cases e; omega)
        · have hkw : Hb uv wr w1.heap.size 106 kk ∧ Hb uv wr (w.heap.size + 1 + 1) 106 W := by
            obtain ⟨q, hq⟩ := hwr.out
            rw [hq]
            exact ⟨HKC.out.drewN q, H1C.out.drewN q⟩
          have hkc := hbD (i := t) hkw.1 (by rw [kk_len]; omega)
          have hwc := hbD (i := t) hkw.2 (by rw [HW.out, sched_len]; omega)
          clear hkw
          obtain ⟨kt, hkt⟩ : ∃ kt, kt = kk.getD t 0 := ⟨_, rfl⟩
          obtain ⟨wt, hwt⟩ : ∃ wt, wt = W.getD t 0 := ⟨_, rfl⟩
          rw [← hkt] at hkc
          rw [← hwt] at hwc
          have HTN := Lib.hid (show turns W [a, b, c1, d, e, f, g, h] (t + 1) = turn [va, vb, vc, vd, ve, vf, vg, vh] (kt + wt) by rw [turns, hV.out, hkt, hwt])
          have HOR := Lib.hid (turn_or va vb vc vd ve vf vg vh kt wt)
          clear hkt hwt
          have hsg : IntKind.u32.signed = false := rfl
          have i5 : (0 : Int) ≤ (t : Int) := by omega
          have i6 : (t : Int) < 64 := by omega
          go_wp2_with fail
          go_quiet ((go_at_call 70; exact Calls.quiet_of (turned_c _ _ _ (by decide))))
          go_wp2_with ((go_at_call 70; refine (turned_c _ _ _ (by decide)).mono ?_; rintro e1 w1 ⟨rfl, qq, rfl⟩))
          go_roundw
          case rel =>
            refine ⟨t + 1, _, _, _, _, _, _, _, _, by omega, by go_num, rfl, rfl, rfl, rfl, rfl, rfl, rfl, rfl, ?_, ?_⟩
            · exact HTN.out.trans HOR.out
            · obtain ⟨q, hq⟩ := hwr.out
              rw [hq]
              simp only [World.drewN_drewN]
              exact ⟨_, rfl⟩
          case measure => simp [intOf]; omega
    · have hct := h1.out.cell (i := t) (by rw [sofar_len _ ht]; omega)
      have hfr := h1.out.frozen t
      by_cases h16 : t < 16
      · obtain ⟨xw, hxw⟩ : ∃ xw, wordAt l (4 * t) = xw := ⟨_, rfl⟩
        have hx := Lib.hid hxw
        clear hxw
        go_wp2_with fail
        refine (word_c A c B 64 (4 * t) _ l xw wr (hr.below (hbw.out.mono hB)) HL (by show _ = _; omega) (by omega) (by omega) hx).mono ?_
        rintro e1 w1 ⟨rfl, q, rfl⟩
        go_wp2_with fail
        go_roundw
        case rel =>
          refine ⟨t + 1, by omega, by go_num, ?_, ?_, ?_, ?_⟩
          · have h := (h1.out.drewN q).set_ t xw _ rfl
            rw [sofar_step l (by omega) _ (by rw [if_pos (by omega)]; exact hx.out.symm)] at h
            exact h
          · exact (hs.out.drewN q).away (by show w.heap.size ≠ w.heap.size + 1 + 1; omega) _
          · exact (hz.out.drewN q).away (by show w.heap.size + 1 ≠ w.heap.size + 1 + 1; omega) _
          · exact (hbw.out.trans (below_drewN _ _ _)).setCell (p := ⟨w.heap.size + 1 + 1, t, none⟩) (by show _ ≤ w.heap.size + 1 + 1; omega) _
        case measure => simp [intOf]; omega
      · have h16' : 16 ≤ t := by omega
        have c15 := sofar_cell (i := t - 15) h1.out ht (by omega)
        have c2 := sofar_cell (i := t - 2) h1.out ht (by omega)
        have c16 := sofar_cell (i := t - 16) h1.out ht (by omega)
        have c7 := sofar_cell (i := t - 7) h1.out ht (by omega)
        obtain ⟨x15, hx15⟩ : ∃ x, x = (sched l t).getD (t - 15) 0 := ⟨_, rfl⟩
        obtain ⟨x2, hx2⟩ : ∃ x, x = (sched l t).getD (t - 2) 0 := ⟨_, rfl⟩
        obtain ⟨x16, hx16⟩ : ∃ x, x = (sched l t).getD (t - 16) 0 := ⟨_, rfl⟩
        obtain ⟨x7, hx7⟩ : ∃ x, x = (sched l t).getD (t - 7) 0 := ⟨_, rfl⟩
        rw [← hx15] at c15
        rw [← hx2] at c2
        rw [← hx16] at c16
        rw [← hx7] at c7
        have HNW := Lib.hid (show wadd (wadd (wadd x16 (wxor (wxor (rot x15 7) (rot x15 18)) (shr x15 3))) x7) (wxor (wxor (rot x2 17) (rot x2 19)) (shr x2 10)) = nextW (sched l t) t by rw [hx15, hx2, hx16, hx7]; rfl)
        clear hx15 hx2 hx16 hx7
        have i1 : (0 : Int) ≤ (t : Int) - 16 := by omega
        have i2 : (t : Int) - 16 < 64 := by omega
        have i3 : (0 : Int) ≤ (t : Int) - 7 := by omega
        have i4 : (t : Int) - 7 < 64 := by omega
        have i5 : (0 : Int) ≤ (t : Int) := by omega
        have i6 : (t : Int) < 64 := by omega
        have w1 : IntKind.i64.wrap ((t : Int) - 16) = (t : Int) - 16 := by rw [IntKind.wrap_i64]; omega
        have w2 : IntKind.i64.wrap ((t : Int) - 7) = (t : Int) - 7 := by rw [IntKind.wrap_i64]; omega
        have n1 : ((t : Int) - 16).toNat = t - 16 := by omega
        have n2 : ((t : Int) - 7).toNat = t - 7 := by omega
        go_wp2_with fail
        go_quiet (fail)
        go_wp2_with fail
        go_region_held (fun w' => w'.cell? ⟨w.heap.size + 1 + 1, t - 16, none⟩ = some (.int .u32 (x16.toNat : Int)) ∧ w'.cell? ⟨w.heap.size + 1 + 1, t - 7, none⟩ = some (.int .u32 (x7.toNat : Int))) (first | go_keep | exact ⟨cell_apart (by omega) c16, cell_apart (by omega) c7⟩)
          (first | (go_at_call 70; refine (turned_c _ _ _ (by decide)).mono ?_; rintro e1 w1 ⟨rfl, q, rfl⟩))
        all_goals
          go_wp2_with fail
          go_roundw
          case rel =>
            refine ⟨t + 1, by omega, by go_num, ?_, ?_, ?_, ?_⟩
            · rw [HNW.out]
              have hstep := sofar_step l (t := t) (by omega) _ (show nextW (sched l t) t = _ by rw [if_neg (by omega)])
              rw [← hstep]
              exact (h1.out.drewN _).set_ t (nextW (sched l t) t) _ rfl
            · exact (hs.out.drewN _).away (by show w.heap.size ≠ w.heap.size + 1 + 1; omega) _
            · exact (hz.out.drewN _).away (by show w.heap.size + 1 ≠ w.heap.size + 1 + 1; omega) _
            · exact (hbw.out.trans (below_drewN _ _ _)).setCell (p := ⟨w.heap.size + 1 + 1, t, none⟩) (by show _ ≤ w.heap.size + 1 + 1; omega) _
          case measure => simp [intOf]; omega
end Go.Proofs.YtipclieldokfnaaDoor
