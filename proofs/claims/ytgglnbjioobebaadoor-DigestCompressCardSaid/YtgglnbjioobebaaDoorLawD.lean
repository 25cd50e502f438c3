/- DigestCompress. -/
import Derived.Test.YtgglnbjioobebaaDoorLawC
namespace Go.Proofs.YtgglnbjioobebaaDoor
open Go.RowKit
set_option linter.unusedVariables false

set_option maxHeartbeats 1000000 in
theorem digestCompress_any (A : Option Addr) (c : Nat) (l : List UInt8) (S : List UInt32) (A2 : Option Addr) (c2 : Nat) (m : List UInt8) (w : World) (hr : Rf bv w w.heap.size A c l) (hS : S.length = 8) (hr2 : Rf bv w w.heap.size A2 c2 m) (hT : Tab w) :
    Calls Tryd.prog 5 #[.slice A l.length c, aw S, .slice A2 m.length c2] w fun e w' => e = .returned (.bool true) ∧ Below w.heap.size w w' := by
  have HT := Lib.hid hT
  obtain ⟨cs, hcs⟩ : ∃ cs, (S.map uv).toArray = cs := ⟨_, rfl⟩
  have HCS := Lib.hid hcs
  have HSL := Lib.hid hS
  unfold aw
  rw [hcs]
  have HB0 := Lib.hid (below_new w (.cells cs 30))
  have H0 := Lib.hid (Hb.new uv w 30 S cs hcs)
  clear hT hcs hS
  by_cases hbig : 8292 < l.length
  · have hbd : (8292 : Int) < (l.length : Int) := by omega
    go_enter Tryd.func5, Tryd.ntmps5
    go_wp2_with fail
    refine (greatX_any A c l _).mono ?_
    rintro e w1 ⟨rfl, rfl⟩
    go_wp2_with fail
    go_ret
    exact ⟨rfl, HB0.out⟩
  by_cases hbig2 : 8292 < m.length
  · have hbd0 : decide ((8292 : Int) < (l.length : Int)) = false := by simp; omega
    have hbd : (8292 : Int) < (m.length : Int) := by omega
    go_enter Tryd.func5, Tryd.ntmps5
    go_wp2_with fail
    refine (greatX_any A c l _).mono ?_
    rintro e w1 ⟨rfl, rfl⟩
    go_wp2_with fail
    refine (greatX_any A2 c2 m _).mono ?_
    rintro e w1 ⟨rfl, rfl⟩
    go_wp2_with fail
    go_ret
    exact ⟨rfl, HB0.out⟩
  have hbd0 : decide ((8292 : Int) < (l.length : Int)) = false := by simp; omega
  have hbd1 : decide ((8292 : Int) < (m.length : Int)) = false := by simp; omega
  obtain ⟨p, e1, hp⟩ : ∃ s e, padM l = (s, e) := ⟨_, _, rfl⟩
  obtain ⟨s4, e4, h4⟩ : ∃ s e, compM S m = (s, e) := ⟨_, _, rfl⟩
  have l4 : s4.length = 8 := by have := compM_len S m HSL.out; rw [h4] at this; exact this
  obtain ⟨cx, hcx⟩ : ∃ cx, (s4.map uv).toArray = cx := ⟨_, rfl⟩
  have HP := Lib.hid hp
  have L4 := Lib.hid l4
  have HCX := Lib.hid hcx
  have hE := eqi_aw s4 l4 cx hcx
  have hGD := gd_aw
  have HC1 : Hid (∀ wx : World, Below w.heap.size w wx → Calls Tryd.prog 14 #[.agg cs, .slice A2 m.length c2] wx fun e w' => e = .returned (.tuple #[.agg cx, .int .i64 e4]) ∧ Below wx.heap.size wx w') := fun wx hb => by
    have := compX_any S A2 c2 w.heap.size m wx HSL.out (hr2.below hb) hb.size (by omega) (HT.out.below hb)
    rw [h4] at this
    unfold aw at this
    rwa [HCS.out, hcx] at this
  have HC2 : Hid (∀ wx : World, Below w.heap.size w wx → Calls Tryd.prog 20 #[.agg cs, .slice A2 m.length c2] wx fun e w' => e = .returned (.tuple #[.agg cx, .int .i64 e4]) ∧ Below wx.heap.size wx w') := fun wx hb => by
    have := refComp_any S A2 c2 w.heap.size m wx HSL.out (hr2.below hb) hb.size (by omega)
    rw [h4] at this
    unfold aw at this
    rwa [HCS.out, hcx] at this
  clear hp h4 l4 hcx
  go_enter Tryd.func5, Tryd.ntmps5
  go_wp2_with fail
  refine (greatX_any A c l _).mono ?_
  rintro e w1 ⟨rfl, rfl⟩
  go_wp2_with fail
  refine (greatX_any A2 c2 m _).mono ?_
  rintro e w1 ⟨rfl, rfl⟩
  go_wp2_with fail
  refine (padX_any A c w.heap.size l _ (hr.below HB0.out) HB0.out.size (by omega)).mono ?_
  rintro e w1 ⟨A1, c1, rfl, hp1, hb1⟩
  rw [HP.out] at hp1 ⊢
  have hbw1 := HB0.out.trans (hb1.mono HB0.out.size)
  have h1 := H0.out.below hb1 H0.out.lt
  clear hb1 H0
  go_wp2_with fail
  refine (refPad_any A c w.heap.size l w1 (hr.below hbw1) hbw1.size (by omega)).mono ?_
  rintro e w2 ⟨A3, c3, rfl, hp3, hb2⟩
  rw [HP.out] at hp3 ⊢
  have hp2 := hp1.below hb2
  have hs2 := hb2.size
  have hbw2 := hbw1.trans (hb2.mono hbw1.size)
  have h2 := h1.below hb2 h1.lt
  clear hb2 hp1 h1 hbw1
  go_wp2_with ((with_reducible refine wpList_load_hb rfl _ (.tmp 4) rfl _ rfl h2 Tryd.underlying30 (by rw [HSL.out]; exact size8) ?_); rw [HCS.out])
  refine (HC1.out w2 hbw2).mono ?_
  rintro e w3 ⟨rfl, hb3⟩
  have hp33 := hp3.below hb3
  have hp23 := hp2.below (hb3.mono hs2)
  have hs3 := hb3.size
  have hbw3 := hbw2.trans (hb3.mono hbw2.size)
  have h3 := h2.below hb3 h2.lt
  clear hb3 hp3 hp2 hbw2 h2
  go_wp2_with (first
    | ((with_reducible refine wpList_store_cs uv_one rfl _ (.tmp 11) (.tmp 35) rfl _ s4 _ HCX.out rfl rfl (Hb.new uv w3 _ (List.replicate 8 0) _ z8) size8 (List.length_replicate ..) L4.out ?_); intro w4 h4 hg4; have hbw4 : Below w.heap.size w w4 := (hbw3.alloc hbw3.size _).grown hg4 (hbw3.alloc hbw3.size _).size (fun k e => by cases e; exact hbw3.size); have h34 := (h3.alloc _).grown hg4 (by have := h3.lt; simp; omega))
    | ((with_reducible refine wpList_load_hb rfl _ (.tmp 4) rfl _ rfl h34 Tryd.underlying30 (by rw [HSL.out]; exact size8) ?_); rw [HCS.out]))
  have hp34 := (hp33.alloc hs3 _).grown hg4 (by simp; omega) (hp33.ne hs3)
  have hp24 := (hp23.alloc (Nat.le_trans hs2 hs3) _).grown hg4 (by simp; omega) (hp23.ne (Nat.le_trans hs2 hs3))
  have hs4 := hg4.size
  simp only [World.size_alloc] at hs4
  clear hg4 hp33 hp23 hbw3 h3
  refine (HC2.out w4 hbw4).mono ?_
  rintro e w5 ⟨rfl, hb5⟩
  have hp35 := hp34.below (hb5.mono (show w2.heap.size ≤ w4.heap.size by omega))
  have hp25 := hp24.below (hb5.mono (show w1.heap.size ≤ w4.heap.size by omega))
  have hs5 := hb5.size
  have hbw5 := hbw4.trans (hb5.mono hbw4.size)
  have h45 := h4.below hb5 h4.lt
  clear hb5 hp34 hp24 hbw4 h34
  go_wp2_with (first
    | ((with_reducible refine wpList_store_cs uv_one rfl _ (.tmp 13) (.tmp 41) rfl _ s4 _ HCX.out rfl rfl (Hb.new uv w5 _ (List.replicate 8 0) _ z8) size8 (List.length_replicate ..) L4.out ?_); intro w6 h6 hg6; have hbw6 : Below w.heap.size w w6 := (hbw5.alloc hbw5.size _).grown hg6 (hbw5.alloc hbw5.size _).size (fun k e => by cases e; exact hbw5.size); have h46 := (h45.alloc _).grown hg6 (by have := h45.lt; simp; omega); have hk1 := run_string_f (P := Tryd.prog) w6 26 9 5 Tryd.underlying26 Tryd.underlying5 Tryd.underlying9 ((hp35.alloc (by omega) _).grown hg6 (by simp; omega) (hp35.ne (by omega))); have hk2 := run_string_f (P := Tryd.prog) w6 26 9 5 Tryd.underlying26 Tryd.underlying5 Tryd.underlying9 ((hp25.alloc (by omega) _).grown hg6 (by simp; omega) (hp25.ne (by omega))))
    | ((with_reducible refine wpList_load_g (by kernel_rfl) _ (.tmp 11) rfl _ rfl h46 Tryd.underlying30 (by rw [L4.out]; exact size8) ?_); rw [HCX.out])
    | ((with_reducible refine wpList_load_g (by kernel_rfl) _ (.tmp 13) rfl _ rfl h6 Tryd.underlying30 (by rw [L4.out]; exact size8) ?_); rw [HCX.out]))
  go_ret
  exact ⟨rfl, hbw6⟩
end Go.Proofs.YtgglnbjioobebaaDoor
