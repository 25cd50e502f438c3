/- DigestResumes. -/
import Derived.Test.YtgglnbjioobebaaDoorEq
namespace Go.Proofs.YtgglnbjioobebaaDoor
open Go.RowKit
set_option linter.unusedVariables false

theorem padB_front' (f m : List UInt8) : ∃ q, padB (f ++ m) = f ++ q := ⟨m ++ (128 :: (List.replicate (zlen (f ++ m).length) 0 ++ beN 8 (8 * (f ++ m).length))), by unfold padB; rw [List.append_assoc]⟩

set_option maxHeartbeats 2000000 in
theorem digestResumes_any (A : Option Addr) (c : Nat) (l : List UInt8) (A2 : Option Addr) (c2 : Nat) (m : List UInt8) (w : World) (hr : Rf bv w w.heap.size A c l) (hr2 : Rf bv w w.heap.size A2 c2 m) (hT : Tab w) :
    Calls Tryd.prog 11 #[.slice A l.length c, .slice A2 m.length c2] w fun e w' => e = .returned (.bool true) ∧ Below w.heap.size w w' := by
  have HT := Lib.hid hT
  clear hT
  by_cases hbig : 3840 < l.length
  · have hbd : (3840 : Int) < (l.length : Int) := by omega
    go_enter Tryd.func11, Tryd.ntmps11
    go_wp2_with fail
    refine (alive_any w HT.out).mono ?_
    rintro e w1 ⟨rfl, hb1⟩
    go_wp2_with fail
    go_ret
    exact ⟨rfl, hb1⟩
  by_cases hbig2 : 4000 < m.length
  · have hbd0 : decide ((3840 : Int) < (l.length : Int)) = false := by simp; omega
    have hbd : (4000 : Int) < (m.length : Int) := by omega
    go_enter Tryd.func11, Tryd.ntmps11
    go_wp2_with fail
    refine (alive_any w HT.out).mono ?_
    rintro e w1 ⟨rfl, hb1⟩
    go_wp2_with fail
    go_ret
    exact ⟨rfl, hb1⟩
  have hbd0 : decide ((3840 : Int) < (l.length : Int)) = false := by simp; omega
  have hbd1 : decide ((4000 : Int) < (m.length : Int)) = false := by simp; omega
  obtain ⟨bi, hbi, hz0, hz1, hz2⟩ := info_parts bInfo
  have HBI := Lib.hid hbi
  have HZ0 := Lib.hid hz0
  have HZ1 := Lib.hid hz1
  have HZ2 := Lib.hid hz2
  clear hbi hz0 hz1 hz2
  obtain ⟨k, hk⟩ : ∃ k, k = l.length / 64 := ⟨_, rfl⟩
  have hkl : 64 * k ≤ l.length := by omega
  have hk60 : k ≤ 60 := by omega
  have hcap := hr.cap
  have hcm := hr.capm
  unfold maxLen at hcm
  obtain ⟨f, hf⟩ : ∃ f, f = l.take (64 * k) := ⟨_, rfl⟩
  have hfl : f.length = 64 * k := by rw [hf, List.length_take]; omega
  have hrf : Rf bv w w.heap.size A c f := by
    rw [hf]
    refine ⟨by rw [List.length_take]; omega, hr.capm, hr.nil, fun ad e j hj => ?_⟩
    rw [List.length_take] at hj
    have := hr.cell ad e j (by omega)
    rw [List.getElem_take]
    exact this
  have hq1 : ((l.length : Int)).tdiv 64 = (k : Int) := by rw [Int.tdiv_eq_ediv_of_nonneg (by omega)]; omega
  have hq2 : (l.length : Int) / 64 = (k : Int) := by omega
  have HF64 := Lib.hid (show f.length = 64 * k from hfl)
  have hw1 : IntKind.i64.wrap ((k : Int) * 64) = (k : Int) * 64 := by rw [IntKind.wrap_i64]; omega
  have hc0 : (k : Int) * 64 ≤ (c : Int) := by omega
  have hc1 : ((k : Int) * 64).toNat = f.length := by omega
  have hc2 : (0 : Int) ≤ (k : Int) * 64 := by omega
  have hA : (if c = 0 then A else Option.map (fun x : Addr => x.add 0) A) = A := by
    split
    · rfl
    · cases A with
      | none => rfl
      | some ad => obtain ⟨b, o, s⟩ := ad; simp [Addr.add]
  clear hk hf hfl
  go_enter Tryd.func11, Tryd.ntmps11
  go_wp2_with fail
  refine (alive_any w HT.out).mono ?_
  rintro e w1 ⟨rfl, hb1⟩
  go_wp2_with (at_builtin; first
    | (refine wpList_append_f _ bv_one rfl (.tmp 35) (.tmp 36) 26 rfl w.heap.size 5 1 bi _ Tryd.underlying26 HBI.out HZ0.out HZ1.out HZ2.out (by omega) rfl [] f rfl rfl (ow_zero w1 _ _ hb1.size) ((hrf.below hb1).alloc hb1.size _) (by simp; have := HF64.out; omega) (by simp; have := hb1.size; omega) ?_; intro A3 c3 w3 r3 hr3 hown3 hg3 hb3; have hrl3 : r3.length ≤ 3840 := (by rw [hr3.out]; simp; have := HF64.out; omega); have hbw3 : Below w.heap.size w w3 := (hb1.alloc hb1.size _).grown hg3 (hb1.alloc hb1.size _).size (fun k e => by cases e; exact hb1.size))
    | (refine wpList_append_f _ bv_one rfl (.tmp 37) (.tmp 38) 26 rfl w.heap.size 5 1 bi _ Tryd.underlying26 HBI.out HZ0.out HZ1.out HZ2.out (by omega) rfl r3 m rfl rfl hown3 (hr2.below hbw3) (by omega) (hbw3.size) ?_; intro A4 c4 w4 r4 hr4 hown4 hg4 hb4))
  have HM := Lib.hid (padB_front' f m)
  have hre4 : r4 = f ++ m := by rw [hr4.out, hr3.out]; rfl
  have hrl4 : r4.length ≤ 7840 := by rw [hre4, List.length_append]; have := HF64.out; omega
  have hbw4 : Below w.heap.size w w4 := hbw3.grown hg4 hbw3.size (fun k e => (hown3.blk_ge k e).1)
  have HMP := Lib.hid (show padM r4 = (padB (f ++ m), 0) by unfold padM; rw [if_neg (by omega), hre4])
  have HPL := Lib.hid (show (padB (f ++ m)).length = ((f ++ m).length + 72) / 64 * 64 from padB_len _)
  have HPZ := Lib.hid (show r4.length = (f ++ m).length by rw [hre4])
  clear hr3 hr4 hown3 hg3 hb3 hg4 hb4 hbw3 hb1 hre4
  refine (padX_any A4 c4 w4.heap.size r4 w4 hown4.rd (Nat.le_refl _) (by omega)).mono ?_
  rintro e w5 ⟨A5, c5, rfl, hp5, hb5⟩
  rw [HMP.out] at hp5 ⊢
  have hbw5 := hbw4.trans (hb5.mono hbw4.size)
  clear hb5 hbw4 hown4
  obtain ⟨q, hq⟩ := HM.out
  obtain ⟨p, hpe⟩ : ∃ p, p = padB (f ++ m) := ⟨_, rfl⟩
  simp only [← hpe] at hp5 hq HPL ⊢
  obtain ⟨N, hN⟩ : ∃ N, p.length = 64 * N := ⟨((f ++ m).length + 72) / 64, by rw [HPL.out]; omega⟩
  have hf9 : f.length + 9 ≤ p.length := by have := HPL.out; rw [List.length_append] at this; omega
  have hN1 : 1 ≤ N := by have := HPL.out; omega
  have hN2 : 64 * N ≤ 7912 := by have := HPL.out; have := HPZ.out; omega
  have hfp : f.length ≤ p.length := by rw [hq, List.length_append]; omega
  have hqp : q.length = 64 * (N - k) := by have h := congrArg List.length hq; rw [List.length_append, hN, HF64.out] at h; omega
  have hkN : k ≤ N := by have := HF64.out; omega
  have HQ := Lib.hid hq
  have HN := Lib.hid hN
  have HQL := Lib.hid hqp
  have HFS := Lib.hid (show seg p 0 f.length = f by rw [hq]; unfold seg; simp)
  have HQS := Lib.hid (show seg p f.length q.length = q by rw [hq]; unfold seg; simp)
  have hfq : f.length + q.length = p.length := by rw [hq, List.length_append]
  have HE := Lib.hid (show stA start p (p.length / 64) = stA (stA start f (f.length / 64)) q (q.length / 64) by
    have e1 : p.length / 64 = k + (N - k) := by omega
    have e2 : f.length / 64 = k := by have := HF64.out; omega
    have e3 : q.length / 64 = N - k := by omega
    rw [e1, e2, e3, hq, stA_rest start f q k HF64.out])
  clear hpe hq hN hqp HPL HPZ HMP HM
  obtain ⟨b, o, rfl, hbb, _⟩ := hp5.at_ (k := 0) (by have := HN.out; omega)
  have hcp := hp5.cap
  have hcpm := hp5.capm
  unfold maxLen at hcpm
  have hp8 : p.length ≤ 8000 := by have := HN.out; omega
  have hfr := hp5.piece 0 f.length (by omega)
  have hqr := hp5.piece f.length q.length (by omega)
  rw [HFS.out, Nat.add_zero, Nat.sub_zero] at hfr
  rw [HQS.out] at hqr
  have hrf5 := hrf.below hbw5
  have hk1 : ∀ n, (convert 26 9 (.slice (some ⟨b, o, none⟩) f.length c5)).run Tryd.prog (w5.drewN n) = .ok (.string ⟨f.toArray⟩) (w5.drewN n) := fun n => run_string_f (P := Tryd.prog) (w5.drewN n) 26 9 5 Tryd.underlying26 Tryd.underlying5 Tryd.underlying9 (hfr.drewN n)
  have hk2 : ∀ n, (convert 26 9 (.slice A f.length c)).run Tryd.prog (w5.drewN n) = .ok (.string ⟨f.toArray⟩) (w5.drewN n) := fun n => run_string_f (P := Tryd.prog) (w5.drewN n) 26 9 5 Tryd.underlying26 Tryd.underlying5 Tryd.underlying9 (hrf5.drewN n)
  have hd1 : decide ((p.length : Int) < (f.length : Int)) = false := by simp; omega
  have hfc : (f.length : Int) ≤ (c5 : Int) := by omega
  have hf0 : (0 : Int) ≤ (f.length : Int) := by omega
  have HP5 := Lib.hid hp5
  have HQR := Lib.hid hqr
  clear hp5 hqr hfr
  go_wp2_with fail
  go_quiet (fail)
  go_wp2_with fail
  refine (first_any _).mono ?_
  rintro e w6 ⟨rfl, hb6⟩
  have hbw6 := (hbw5.trans (below_drewN _ _ _)).trans (hb6.mono (hbw5.trans (below_drewN _ _ _)).size)
  have hs6 : w5.heap.size ≤ w6.heap.size := hb6.size
  have HP6 := Lib.hid ((HP5.out.drewN _).below hb6)
  have HQ6 := Lib.hid ((HQR.out.drewN _).below hb6)
  go_wp2_with fail
  refine (folded_any start A c w.heap.size f w6 start_len (hrf.below hbw6) hbw6.size (by have := HF64.out; omega) (HT.out.below hbw6)).mono ?_
  rintro e w7 ⟨rfl, hb7⟩
  have hbw7 := hbw6.trans (hb7.mono hbw6.size)
  have hs7 : w5.heap.size ≤ w7.heap.size := Nat.le_trans hs6 hb7.size
  have HP7 := Lib.hid (HP6.out.below (hb7.mono hs6))
  have HQ7 := Lib.hid (HQ6.out.below (hb7.mono hs6))
  clear hb6 hb7 hbw6 hk1 hk2 hrf5
  obtain ⟨S1, hS1⟩ : ∃ S1, S1 = stA start f (f.length / 64) := ⟨_, rfl⟩
  have hS1l : S1.length = 8 := by rw [hS1]; exact stA_len _ start_len _
  rw [← hS1] at HE ⊢
  clear hS1
  obtain ⟨S2, hS2⟩ : ∃ S2, S2 = stA start p (p.length / 64) := ⟨_, rfl⟩
  have hS2l : S2.length = 8 := by rw [hS2]; exact stA_len _ start_len _
  rw [← hS2] at HE
  have HS2 := Lib.hid hS2
  have HS2L := Lib.hid hS2l
  obtain ⟨va, vb, vc, vd, ve, vf, vg, vh, rfl⟩ := len8 hS1l
  obtain ⟨va', vb', vc', vd', ve', vf', vg', vh', hV'⟩ := len8 hS2l
  have HV' := Lib.hid hV'
  clear hS2 hS2l hV' hS1l
  unfold aw
  simp only [List.map_cons, List.map_nil, uv]
  go_wp2_with ((with_reducible refine wpList_store8 rfl _ (.tmp 9) (.tmp 68) rfl _ va vb vc vd ve vf vg vh rfl rfl (Hb.new uv w7 _ [0, 0, 0, 0, 0, 0, 0, 0] _ rfl) size8 ?_); intro w8 h8 hg8; have hbw8 : Below w.heap.size w w8 := (hbw7.alloc hbw7.size _).grown hg8 (hbw7.alloc hbw7.size _).size (fun k e => by cases e; exact hbw7.size))
  have hs8 := hg8.size
  simp only [World.size_alloc] at hs8
  have HP8 : Hid (Rf bv w8 w5.heap.size (some ⟨b, o, none⟩) c5 p) := (HP7.out.alloc hs7 _).grown hg8 (by simp; omega) (HP7.out.ne hs7)
  have HQ8 : Hid (Rf bv w8 w5.heap.size (some ⟨b, o + f.length, none⟩) (c5 - f.length) q) := (HQ7.out.alloc hs7 _).grown hg8 (by simp; omega) (HQ7.out.ne hs7)
  clear hg8 hbw7
  obtain ⟨g0, g1, g2, g3, g4, g5, g6, g7, gf⟩ := cells8 h8
  have HB8 := Lib.hid hbw8
  have H8 := Lib.hid h8
  have hlt8 := h8.lt
  have hq5 : p.length - f.length = q.length := by omega
  have hcf : ¬ c5 = f.length := by omega
  have hfp5 : (f.length : Int) ≤ (p.length : Int) := by omega
  have HC : Hid (∀ wx : World, Below w8.heap.size w8 wx → Calls Tryd.prog 24 #[.agg #[.int .u32 (va.toNat : Int), .int .u32 (vb.toNat : Int), .int .u32 (vc.toNat : Int), .int .u32 (vd.toNat : Int), .int .u32 (ve.toNat : Int), .int .u32 (vf.toNat : Int), .int .u32 (vg.toNat : Int), .int .u32 (vh.toNat : Int)], .slice (some ⟨b, o + f.length, none⟩) q.length (c5 - f.length)] wx fun e w' =>
      e = .returned (.tuple #[.agg #[.int .u32 (va'.toNat : Int), .int .u32 (vb'.toNat : Int), .int .u32 (vc'.toNat : Int), .int .u32 (vd'.toNat : Int), .int .u32 (ve'.toNat : Int), .int .u32 (vf'.toNat : Int), .int .u32 (vg'.toNat : Int), .int .u32 (vh'.toNat : Int)], .bool true]) ∧ Below w8.heap.size w8 w' ∧ w8.heap.size ≤ w'.heap.size ∧ Below wx.heap.size wx w') := by
    intro wx hbx
    have h := folded_any [va, vb, vc, vd, ve, vf, vg, vh] _ _ w5.heap.size q wx rfl (HQ8.out.below (hbx.mono (by omega))) (by have := hbx.size; omega) (by omega) (HT.out.below (HB8.out.trans (hbx.mono HB8.out.size)))
    rw [← HE.out, HV'.out] at h
    unfold aw at h
    simp only [List.map_cons, List.map_nil, uv] at h
    exact h.mono fun e w' ⟨he, hb⟩ => ⟨he, hbx.trans (hb.mono hbx.size), Nat.le_trans hbx.size hb.size, hb⟩
  clear h8 hbw8
  go_wp2_with fail
  go_region_law (go_simp; go_at_call 24; refine (HC.out _ (by first | exact (Below.refl _ w8).drew | exact ((Below.refl _ w8).alloc (Nat.le_refl _) _).drew)).mono ?_; rintro e3 w10 ⟨rfl, hb83, hs83, hb3⟩; try (have hx3 : Hb uv w10 w8.heap.size 30 [0, 0, 0, 0, 0, 0, 0, 0] := Hb.below (Hb.new uv w8 30 [0, 0, 0, 0, 0, 0, 0, 0] _ rfl).drew hb3 (by simp); obtain ⟨x0, x1, x2, x3, x4, x5, x6, x7, xf⟩ := cells8 hx3))
  all_goals
    have hbw10 := HB8.out.trans (hb83.mono HB8.out.size)
    have HP10 := Lib.hid (HP8.out.below (hb83.mono (show w5.heap.size ≤ w8.heap.size by omega)))
    have hw8 : w.heap.size ≤ w8.heap.size := HB8.out.size
    first
      | (obtain ⟨w11, hw11⟩ : ∃ w11, w11 = w10.alloc (.cells #[.int .u32 (va'.toNat : Int), .int .u32 (vb'.toNat : Int), .int .u32 (vc'.toNat : Int), .int .u32 (vd'.toNat : Int), .int .u32 (ve'.toNat : Int), .int .u32 (vf'.toNat : Int), .int .u32 (vg'.toNat : Int), .int .u32 (vh'.toNat : Int)] 30) := ⟨_, rfl⟩
         rw [← hw11]
         have hx11 : Hb uv w11 w10.heap.size 30 [va', vb', vc', vd', ve', vf', vg', vh'] := by rw [hw11]; exact Hb.new uv w10 _ _ _ rfl
         have hbw11 : Below w.heap.size w w11 := by rw [hw11]; exact hbw10.alloc hbw10.size _
         have hs11 : w5.heap.size ≤ w11.heap.size := by rw [hw11]; simp; omega
         have HP11 : Rf bv w11 w5.heap.size (some ⟨b, o, none⟩) c5 p := by rw [hw11]; exact HP10.out.alloc (by omega) _)
      | (obtain ⟨w11, hw11⟩ : ∃ w11, w11 = ((((((((w10.setCell ⟨w8.heap.size, 0, none⟩ (.int .u32 (va'.toNat : Int))).setCell ⟨w8.heap.size, 1, none⟩ (.int .u32 (vb'.toNat : Int))).setCell ⟨w8.heap.size, 2, none⟩ (.int .u32 (vc'.toNat : Int))).setCell ⟨w8.heap.size, 3, none⟩ (.int .u32 (vd'.toNat : Int))).setCell ⟨w8.heap.size, 4, none⟩ (.int .u32 (ve'.toNat : Int))).setCell ⟨w8.heap.size, 5, none⟩ (.int .u32 (vf'.toNat : Int))).setCell ⟨w8.heap.size, 6, none⟩ (.int .u32 (vg'.toNat : Int))).setCell ⟨w8.heap.size, 7, none⟩ (.int .u32 (vh'.toNat : Int))) := ⟨_, rfl⟩
         rw [← hw11]
         have hx11 : Hb uv w11 w8.heap.size 30 [va', vb', vc', vd', ve', vf', vg', vh'] := by rw [hw11]; exact set8 hx3 rfl _ _ _ _ _ _ _ _
         have hbw11 : Below w.heap.size w w11 := by rw [hw11]; exact hbw10.grown (grown8 _ _ _ _ _ _ _ _ _ _) hbw10.size (fun k e => by cases e; omega)
         have hs11 : w5.heap.size ≤ w11.heap.size := by rw [hw11]; exact Nat.le_trans (show w5.heap.size ≤ w10.heap.size by omega) (grown8 w10 w8.heap.size _ _ _ _ _ _ _ _).size
         have HP11 : Rf bv w11 w5.heap.size (some ⟨b, o, none⟩) c5 p := by rw [hw11]; exact HP10.out.grown (grown8 _ _ _ _ _ _ _ _ _ _) (by omega) (HP10.out.ne (by omega)))
    rw [← HV'.out] at hx11
    have HP11' := Lib.hid HP11
    clear hw11 HP11
    go_wp2_with fail
    refine (first_any w11).mono ?_
    rintro e w12 ⟨rfl, hb12⟩
    have h12 := hx11.below hb12 hx11.lt
    have hbw12 := hbw11.trans (hb12.mono hbw11.size)
    have hs12 := hb12.size
    have HP12 := Lib.hid (HP11'.out.below (hb12.mono hs11))
    clear hx11 hb12 hbw11
    go_wp2_with fail
    refine (folded_any start (some ⟨b, o, none⟩) c5 w5.heap.size p w12 start_len HP12.out (by omega) (by omega) (HT.out.below hbw12)).mono ?_
    rintro e w13 ⟨rfl, hb13⟩
    rw [← HS2.out]
    have h13 := h12.below hb13 h12.lt
    have hbw13 := hbw12.trans (hb13.mono hbw12.size)
    clear h12 hb13 hbw12
    obtain ⟨ss, hss⟩ : ∃ ss, (S2.map uv).toArray = ss := ⟨_, rfl⟩
    have hE := eqi_aw S2 HS2L.out ss hss
    have hGD := gd_aw
    have HSS := Lib.hid hss
    rw [show aw S2 = .agg ss from by unfold aw; rw [hss]]
    clear hss
    go_wp2_with (first
      | ((with_reducible refine wpList_store_cs uv_one rfl _ (.tmp 13) (.tmp 83) rfl _ S2 _ HSS.out rfl rfl (Hb.new uv w13 _ (List.replicate 8 0) _ z8) size8 (List.length_replicate ..) HS2L.out ?_); intro w14 h14 hg14; have hbw14 : Below w.heap.size w w14 := (hbw13.alloc hbw13.size _).grown hg14 (hbw13.alloc hbw13.size _).size (fun k e => by cases e; exact hbw13.size); have h1314 := (h13.alloc _).grown hg14 (by have := h13.lt; simp; omega))
      | ((with_reducible refine wpList_load_g (by kernel_rfl) _ (.tmp 11) rfl _ rfl h1314 Tryd.underlying30 (by rw [HS2L.out]; exact size8) ?_); rw [HSS.out])
      | ((with_reducible refine wpList_load_g (by kernel_rfl) _ (.tmp 13) rfl _ rfl h14 Tryd.underlying30 (by rw [HS2L.out]; exact size8) ?_); rw [HSS.out]))
    go_ret
    exact ⟨rfl, hbw14⟩
end Go.Proofs.YtgglnbjioobebaaDoor
