/- DrawMixes. -/
import Derived.Test.YtipclieldokfnaaDoorMix
import Derived.Test.YtipclieldokfnaaDoorEq
namespace Go.Proofs.YtipclieldokfnaaDoor
open Go.RowKit
set_option linter.unusedVariables false

theorem oc_apart {A : Option Addr} {g : Nat} (h : ∀ k, Oc.blk A = some k → k < g) : Oc.blk A = none ∨ Oc.blk A ≠ some g := by
  cases e : Oc.blk A with
  | none => exact .inl rfl
  | some k =>
    refine .inr fun e2 => ?_
    have := h k e
    have := Option.some.inj e2
    omega

set_option maxRecDepth 100000 in
set_option maxHeartbeats 2000000 in
theorem drawMixes_any (A : Option Addr) (c : Nat) (xs : List Oc.El) (w : World) (hr : Oc.RdL w w.heap.size A c xs) (hT : Tab w) :
    Calls Tryd.prog 7 #[.slice A xs.length c] w fun e w' => e = .returned (.bool true) ∧ Below w.heap.size w w' := by
  have HT := Lib.hid hT
  have hcap := hr.cap
  have hcm := hr.capm
  unfold maxLen at hcm
  have hGD := gd_ab
  clear hT
  by_cases hbig : 300 < xs.length
  · have hi : (300 : Int) < xs.length := by omega
    go_enter Tryd.func7, Tryd.ntmps7
    go_wp2_with fail
    go_ret
    exact ⟨rfl, Below.refl _ _⟩
  have hi : ¬ (300 : Int) < xs.length := by omega
  have hd : decide ((300 : Int) < xs.length) = false := by simp; omega
  have hd' : decide (300 < xs.length) = false := by simp; omega
  go_enter Tryd.func7, Tryd.ntmps7
  go_wp2_with fail
  go_loopw [3, 4] (fun v i wr => ∃ k : Nat, ∃ A' c' ts, k ≤ xs.length ∧ i = .int .i64 k ∧ v = .slice A' ts.length c' ∧ Hid (Oc.byts ts = (Oc.byts xs).take k) ∧ ts.length ≤ 300 ∧ Oc.OwnL wr w.heap.size A' c' ts ∧ Below w.heap.size w wr ∧ Hid (∀ j (h : j < xs.length), j < k → xs[j].l.length ≤ 70000)) (fun _ i _ => xs.length - (intOf i).toNat)
  case atStart => exact ⟨0, none, 0, [], Nat.zero_le _, rfl, rfl, rfl, by simp, Oc.OwnL.nil _ _, Below.refl _ _, fun j h h0 => by omega⟩
  case round =>
    obtain ⟨k, A1, c1, ts, hk, rfl, rfl, hts, htl, hown1, hb1, hall⟩ := hrel
    have s1 := hb1.size
    by_cases hlt : k < xs.length
    · obtain ⟨bb, o, rfl, hbb, hc⟩ := hr.at_ hlt
      have hck := (hb1.cell (p := ⟨bb, o + k, none⟩) hbb).trans (hc k hlt)
      have rx := (hr.el xs[k] (List.getElem_mem _)).below hb1
      have hxc := rx.cap
      have hxm := rx.capm
      have htk := Oc.byts_take xs k hlt
      unfold maxLen at hxm
      obtain ⟨x, hxk⟩ : ∃ x, x = xs[k] := ⟨_, rfl⟩
      rw [← hxk] at hck hxc hxm rx htk
      unfold Oc.El.v at hck
      have HX := Lib.hid hxk
      have HTK := Lib.hid htk
      clear hc hxk htk
      by_cases hlong : 70000 < x.l.length
      · have hli : (70000 : Int) < x.l.length := by omega
        go_wp2_with fail
        go_ret
        exact ⟨rfl, hb1⟩
      · have hli : ¬ (70000 : Int) < x.l.length := by omega
        have hall' : Hid (∀ j (h : j < xs.length), j < k + 1 → xs[j].l.length ≤ 70000) := fun j h hj => by
          rcases Nat.lt_or_ge j k with h1 | h1
          · exact hall.out j h h1
          · obtain rfl : j = k := by omega
            rw [← HX.out]; omega
        have htl' : ts.length ≤ k := by
          have := congrArg List.length hts.out
          rw [Oc.byts_len, List.length_take] at this
          omega
        go_wp2_with fail
        refine (Oc.twin_any x.A x.c x.l _ (rx.more s1) (by omega)).mono ?_
        rintro e w2 ⟨A2', c2', rfl, hown2, hb2⟩
        have s2 := hb2.size
        have hown1' := hown1.below (Nat.le_refl _) hb2
        have hx2 := hown2.lower s1
        go_wp2_with (at_builtin; refine Oc.wpList_append_el w2 rfl _ _ rfl w.heap.size ts ⟨A2', c2', x.l⟩ rfl rfl hown1' hx2 (by omega) (by omega) ?_; intro A3 c3 w3 zs hzs hown3 hg3 hb3)
        have hzs' : Hid (Oc.byts zs = (Oc.byts xs).take (k + 1)) := by
          show _ = _
          rw [hzs.out, Oc.byts_app, hts.out, HTK.out]
          rfl
        have hzl : zs.length ≤ 300 := by rw [hzs.out, List.length_append]; simp; omega
        have hbn : Below w.heap.size w w3 := ((hb1.trans (hb2.mono s1)).alloc (by omega) _).trans (below_of_grown hg3 (by simp; omega) (fun g hg => (hown1.blk_ge g hg).1))
        go_roundw
        case rel => exact ⟨k + 1, A3, c3, zs, by omega, by go_num, rfl, hzs', hzl, hown3, hbn, hall'⟩
        case measure => simp [intOf]; omega
    · have hke : k = xs.length := by omega
      have htx : Oc.byts ts = Oc.byts xs := by rw [hts.out, List.take_of_length_le (by rw [Oc.byts_len]; omega)]
      have hel : ∀ x ∈ xs, x.l.length ≤ 100000 := fun x hx => by
        obtain ⟨j, hj, rfl⟩ := List.getElem_of_mem hx
        have := hall.out j hj (by omega)
        omega
      have helt : ∀ x ∈ ts, x.l.length ≤ 100000 := fun x hx => by
        have hm : x.l ∈ Oc.byts xs := by rw [← htx]; exact List.mem_map.2 ⟨x, hx, rfl⟩
        obtain ⟨y, hy, hyl⟩ := List.mem_map.1 hm
        rw [← hyl]; exact hel y hy
      obtain ⟨d, er, hde⟩ : ∃ d er, mixM (Oc.byts xs) = (d, er) := ⟨_, _, rfl⟩
      have HD := Lib.hid hde
      have HDL := Lib.hid (show d.length = 32 by have := mixM_len (Oc.byts xs); rw [hde] at this; exact this)
      obtain ⟨cs, hcs⟩ : ∃ cs, (d.map bv).toArray = cs := ⟨_, rfl⟩
      have HCS := Lib.hid hcs
      have hE := eqi_ab d HDL.out cs hcs
      have HTX := Lib.hid htx
      have HEL := Lib.hid hel
      have HELT := Lib.hid helt
      have HO1 := Lib.hid hown1
      have HB1 := Lib.hid hb1
      have HRX := Lib.hid hr
      clear hke htx hel helt hts hde hcs hown1 hr
      go_wp2_with fail
      refine (mix_any A1 c1 ts wr HO1.out.rd (by omega) HELT.out (HT.out.below HB1.out)).mono ?_
      rintro e w2 ⟨rfl, hb2⟩
      rw [HTX.out, HD.out]
      unfold ab
      rw [HCS.out]
      have HO2 := Lib.hid (HO1.out.below (Nat.le_refl _) hb2)
      have HB2 := Lib.hid (HB1.out.trans (hb2.mono s1))
      clear hb2 hb1
      go_wp2_with ((with_reducible refine wpList_store_cs bv_one rfl _ (.tmp 5) (.tmp 35) rfl _ d _ HCS.out rfl rfl (Hb.new bv w2 _ (List.replicate 32 0) _ z32) size32 (List.length_replicate ..) HDL.out ?_); intro w3 h3 hg3)
      have hb3 : Below w.heap.size w w3 := (HB2.out.alloc HB2.out.size _).grown hg3 (HB2.out.alloc HB2.out.size _).size (fun k e => by cases e; exact HB2.out.size)
      have HB3 := Lib.hid hb3
      have HH3 := Lib.hid h3
      have HO3 := Lib.hid ((HO2.out.alloc _).kept hg3 (oc_apart fun k hk => (HO2.out.blk_ge k hk).2) (fun x hx => oc_apart fun k hk => ((HO2.out.2 x hx).blk_ge k hk).2))
      have hs3 := hg3.size
      simp only [World.size_alloc] at hs3
      clear hb3 h3 hg3
      refine (refMix_any A c xs w3 ((HRX.out.below HB3.out).more HB3.out.size) (by omega) HEL.out).mono ?_
      rintro e w4 ⟨rfl, hb4⟩
      rw [HD.out]
      unfold ab
      rw [HCS.out]
      have HO4 := Lib.hid (HO3.out.below (Nat.le_refl _) hb4)
      have HB4 := Lib.hid (HB3.out.trans (hb4.mono HB3.out.size))
      have HH4 := Lib.hid (HH3.out.below hb4 HH3.out.lt)
      have hs4 := hb4.size
      clear hb4
      go_wp2_with (first
        | ((with_reducible refine wpList_store_cs bv_one rfl _ (.tmp 7) (.tmp 40) rfl _ d _ HCS.out rfl rfl (Hb.new bv w4 _ (List.replicate 32 0) _ z32) size32 (List.length_replicate ..) HDL.out ?_); intro w5 h5 hg5; have HB5 := Lib.hid ((HB4.out.alloc HB4.out.size _).grown hg5 (HB4.out.alloc HB4.out.size _).size (fun k e => by cases e; exact HB4.out.size)); have h45 := (HH4.out.alloc _).grown hg5 (by simp; omega))
        | ((with_reducible refine wpList_load_g (by kernel_rfl) _ (.tmp 5) rfl _ rfl h45 Tryd.underlying22 (by rw [HDL.out]; exact size32) ?_); rw [HCS.out])
        | ((with_reducible refine wpList_load_g (by kernel_rfl) _ (.tmp 7) rfl _ rfl h5 Tryd.underlying22 (by rw [HDL.out]; exact size32) ?_); rw [HCS.out]))
      have HO5 := Lib.hid ((HO4.out.alloc _).kept hg5 (oc_apart fun k hk => (HO4.out.blk_ge k hk).2) (fun x hx => oc_apart fun k hk => ((HO4.out.2 x hx).blk_ge k hk).2))
      have hsm := Oc.same_any A1 A c1 c _ _ ts xs w5 HO5.out.rd ((HRX.out.below HB5.out).more HB5.out.size) (by omega) (by omega)
      refine hsm.mono ?_
      clear hsm
      rintro e w6 ⟨rfl, n6, rfl⟩
      rw [show decide (Oc.byts ts = Oc.byts xs) = true by simp [HTX.out]]
      go_wp2_with fail
      go_ret
      exact ⟨rfl, HB5.out.trans (below_drewN _ _ n6)⟩
end Go.Proofs.YtipclieldokfnaaDoor
