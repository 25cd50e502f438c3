/- quota's Billionths. Written by tools/bill17.py. -/
import Derived.Test.YtefoccjphbbmhaaQd
import Derived.StillTailTactics
import Derived.Deep.RegionWith
import Derived.Deep.CutBlock
namespace Go.Proofs.Ytefoccjphbbmhaa
open Go.RowKit
set_option linter.unusedVariables false
set_option linter.unusedSimpArgs false

theorem quo_same {a b g : Nat} (hg : 0 < g) (ha : g ∣ a) (hb : g ∣ b) : a / g / (b / g) = a / b := by
  obtain ⟨p, rfl⟩ := ha
  obtain ⟨q, rfl⟩ := hb
  rw [Nat.mul_div_cancel_left _ hg, Nat.mul_div_cancel_left _ hg, Nat.mul_div_mul_left _ _ hg]
theorem limbs_billion : (limbs 1000000000).length ≤ 1 := by rw [limbs_len_le]; decide
theorem ok_whole {n : Nat} (h : n < 18446744073709551616) : okR (wholeR (n : Int)) := by
  have h0 : decide ((n : Int) < 0) = false := decide_eq_false (by omega)
  rw [wholeR_is, h0, Int.natAbs_natCast]
  have h1 : (limbs 1).length ≤ 96 := by rw [limbs_one]; decide
  have h2 := chk_limbs h1
  rw [limbs_one] at h2
  refine ⟨chk2_ok (chk_limbs (limbs_few h)) h2, ?_, fun _ => rfl, ?_⟩
  · show val [1] ≠ 0
    decide
  · show Nat.gcd (val (limbs n)) (val [1]) = 1
    rw [show val [1] = 1 from rfl, Nat.gcd_one_right]
/-- x times 10^9, and its floor. -/
theorem bill_scaled {x : Rq} (h : okR x) (hn : x.neg = false) (h1 : x.num.length ≤ 90) (h2 : x.den.length ≤ 90) :
    ∃ y, mulR x (wholeR 1000000000) = (y, 0) ∧ floorR y = intM false (val x.num * 1000000000 / val x.den) := by
  have hw : okR (wholeR 1000000000) := ok_whole (n := 1000000000) (by decide)
  have hnn := (chk_zero (chk2_zero h.1).1).2
  have hdd := (chk_zero (chk2_zero h.1).2).2
  have hd0 := h.2.1
  have e1 : (wholeR 1000000000).num = limbs 1000000000 := by rw [wholeR_is]; rfl
  have e2 : (wholeR 1000000000).den = [1] := by rw [wholeR_is]
  have e3 : (wholeR 1000000000).neg = false := by rw [wholeR_is]; rfl
  generalize wholeR 1000000000 = W at *
  have f1 : fits (val x.num * val W.num) := by
    rw [e1, val_limbs]
    have := len_mul (m := val x.num) (n := 1000000000) (j := 90) (k := 1) (by rw [hnn]; exact h1) limbs_billion
    unfold fits; omega
  have f2 : fits (val x.den * val W.den) := by
    rw [e2, show val [1] = 1 from rfl, Nat.mul_one]
    exact fits_den h
  have hm := mulR_some h hw f1 f2
  refine ⟨_, hm, ?_⟩
  have hok : okR (low (x.neg != W.neg) (val x.num * val W.num) (val x.den * val W.den)) := by
    rw [← low_enc _ (Nat.mul_ne_zero h.2.1 hw.2.1), ← rat_mul]
    refine enc_ok ?_ ?_
    all_goals
      have := mkRat_few (n := sgn (x.neg != W.neg) (val x.num * val W.num)) (d := val x.den * val W.den) (k := 96) (l := 96) (Nat.mul_ne_zero h.2.1 hw.2.1) (by rw [sgn_abs]; exact f1) f2
      rw [← rat_mul] at this
    · exact this.1
    · exact this.2
  rw [floorR_int hok, hn, e3]
  unfold low
  simp only [val_limbs, e1, e2, show val [1] = 1 from rfl, Nat.mul_one]
  congr 1
  unfold flr
  rw [if_neg (by simp)]
  exact quo_same (Nat.gcd_pos_of_pos_right _ (by omega)) (Nat.gcd_dvd_left _ _) (Nat.gcd_dvd_right _ _)

/-- What the region leaves: the scaled number in a block of the call's own. -/
def BillP (w : World) (y : Rq) (s4 s5 : Value) (wx : World) : Prop := ∃ g A c B d, s4 = .pointer (some ⟨g, 0, none⟩) ∧ s5 = .int .i64 0 ∧ RqS wx A c B d y ∧ Blk wx g 27 (rqs A c B d y) ∧ Below w.heap.size w wx
theorem BillP.of {w wx wy : World} {A B : Option Addr} {c d : Nat} {y : Rq} {g : Nat} {t : TypeId} {bs : List (Nat × TypeId × Array Value)} (hs : RqS wx A c B d y) (hk : Kp w ((g, t, #[.bool false, .slice none 0 0, .slice none 0 0]) :: bs) wx)
    (hb : Blk wy g 27 (rqs A c B d y)) (hg : wx.grownBy wy (some g)) (hl : w.heap.size ≤ g) : BillP w y (.pointer (some ⟨g, 0, none⟩)) (.int .i64 0) wy :=
  ⟨g, A, c, B, d, rfl, rfl, hs.off hk.blk0 (noU_rq _ _ _ _ _ _ _) hg, hb, below_own hk.1 hg hl⟩

set_option maxRecDepth 100000 in
set_option maxHeartbeats 4000000 in
theorem bill_mid (x y : Rq) (A1 A2 : Option Addr) (c1 c2 k1 k2 : Nat) (v er fl fe : Int) (w : World) (hr : RqS w A1 c1 A2 c2 x) (e1 : x.neg = false) (h1 : x.num.length = k1) (h2 : x.den.length = k2) (l1 : k1 ≤ 90) (l2 : k2 ≤ 90) (ho : okR x)
    (hY : mulR x (wholeR 1000000000) = (y, 0)) (hF : floorR y = (fl, fe)) (hR : Hid ((if fe = 0 then (if inQ fl = true then (fl, 0) else (0, 30)) else (0, 30)) = (v, er))) :
    Calls Try.prog 23 #[.agg #[.bool false, .slice A1 k1 c1, .slice A2 k2 c2]] w fun e w' => e = .returned (.tuple #[.int .i64 v, .int .i64 er]) ∧ Below w.heap.size w w' := by
  have HC := Lib.hid (fun wx bs (hk : Kp w bs wx) => qCheck_any x A1 A2 c1 c2 k1 k2 0 wx (hr.to hk.1) h1 h2 (chkR_ok ho))
  rw [e1] at HC
  have HW := Lib.hid (fun wx => qWhole_any 1000000000 _ (by omega) (by omega) rfl wx)
  have HMU := Lib.hid (fun wx bs (hk : Kp w bs wx) A3 c3 A4 c4 (hs : RqS wx A3 c3 A4 c4 (wholeR 1000000000)) => qMul_any x (wholeR 1000000000) y 0 A1 A2 A3 A4 c1 c2 c3 c4 k1 k2 _ _ false _ wx (hr.to hk.1) hs e1 rfl h1 h2 rfl rfl hY)
  have HFL := Lib.hid (fun wx A c B d (hs : RqS wx A c B d y) => qFloor_any y A B c d _ _ fl fe wx hs rfl rfl hF)
  unfold RqR rqv rqs at HW
  unfold RqE rqv rqs at HMU
  generalize wholeR 1000000000 = W at HW HMU hY
  have d1 : decide (90 < k1) = false := decide_eq_false (by omega)
  have d2 : decide (90 < k2) = false := decide_eq_false (by omega)
  have d3 : decide (90 < (k1 : Int)) = false := decide_eq_false (by omega)
  have d4 : decide (90 < (k2 : Int)) = false := decide_eq_false (by omega)
  have hK := (Kp.refl w).alloc #[.bool false, .slice A1 k1 c1, .slice A2 k2 c2] 27 _ rfl
  have HK := Lib.hid hK
  clear hK hr e1 h1 h2 ho hY hF
  go_enter Try.func23, Try.ntmps23
  go_wp2_with fail
  refine (HC.out _ _ HK.out).mono ?_
  rintro e w1 ⟨rfl, hb1⟩
  have HKI := Lib.hid (HK.out.next hb1)
  have x0 := HKI.out.blk0.at_ 0 rfl
  have x1 := HKI.out.blk0.at_ 1 rfl
  have x2 := HKI.out.blk0.at_ 2 rfl
  clear hb1
  go_wp2_with fail
  go_cut [4, 5] from 25 to 30 (fun s4 s5 wx => BillP w y s4 s5 wx)
  case first =>
      clear x0 x1 x2
      have HKD := Lib.hid (HKI.out.drewN 1)
      refine wp_region_held_drew (S := Kp w [(w.heap.size, 27, #[.bool false, .slice A1 k1 c1, .slice A2 k2 c2])]) (by kernel_rfl) HKD.out ?_
      intro hHeld
      try simp only [Act.put, List.setIfInBounds_toArray, List.set_cons_zero, List.set_cons_succ]
      refine wpAnyH_take (i := 0) (oi := { dst := some 26, op := Op.load 27 (Operand.tmp 1), type := 27, pos := "quota.go:94", after := #[], guard := none }) (v := .agg #[.bool false, .slice A1 k1 c1, .slice A2 k2 c2]) rfl (by kernel_rfl) (by kernel_rfl) (by kernel_rfl) (fun _ _ _ h => h) (yieldsIf_load_mid (by rfl) 27 (.tmp 1) rfl w.heap.size 0 rfl [.bool false, .slice A1 k1 c1, .slice A2 k2 c2] _ (fun wq hq => World.rangeAt_of_block hq.blk0 0 3) Try.underlying27 rfl size_rq) hHeld ?_
      try simp only [Act.put, List.setIfInBounds_toArray, List.set_cons_zero, List.set_cons_succ]
      refine wpAnyH_ready (rs := [1, 6]) (by kernel_rfl) (by simp) ?_
      refine AllReadyH.cons (o := { dst := some 27, op := Op.call { callee := Callee.value (Operand.func 42), args := #[Operand.const (Value.int IntKind.i64 1000000000)], argTypes := #[3] }, type := 27, pos := "quota.go:94", after := #[], guard := none }) rfl (fun K hK => ?_) (AllReadyH.cons (o := { dst := some 4, op := Op.alloc 27, type := 0, pos := "quota.go:94", after := #[], guard := none }) rfl (fun K hK => ?_) AllReadyH.nil)
      · go_simp
        go_at_call 42
        refine (HW.out _).mono ?_
        rintro e w1 ⟨A3, c3, A4, c4, rfl, hs1, hb1⟩
        have HK1 := Lib.hid (HKD.out.next hb1)
        have HS3 := Lib.hid hs1
        clear hb1 hs1
        try go_simp
        refine hK.out _ _ HK1.out (fun hHeld => ?_)
        clear hK K
        try simp only [Act.put, List.setIfInBounds_toArray, List.set_cons_zero, List.set_cons_succ]
        refine wpAnyH_ready (rs := [2, 6]) (by kernel_rfl) (by simp) ?_
        refine AllReadyH.cons (o := { dst := some 28, op := Op.call { callee := Callee.value (Operand.func 26), args := #[Operand.tmp 26, Operand.tmp 27], argTypes := #[27, 27] }, type := 28, pos := "quota.go:94", after := #[{ on := 0, ground := Ground.data }, { on := 1, ground := Ground.data }, { on := 1, ground := Ground.chain }], guard := none }) rfl (fun K hK => ?_) (AllReadyH.cons (o := { dst := some 4, op := Op.alloc 27, type := 0, pos := "quota.go:94", after := #[], guard := none }) rfl (fun K hK => ?_) AllReadyH.nil)
        · go_simp
          go_at_call 26
          refine (HMU.out _ _ HK1.out _ _ _ _ (by first | exact HS3.out | exact HS3.out.to (below_new _ _))).mono ?_
          rintro e w2 ⟨A5, c5, A6, c6, rfl, hs2, hb2⟩
          have HK2 := Lib.hid (HK1.out.next hb2)
          have HS5 := Lib.hid hs2
          clear hb2 hs2
          try go_simp
          refine hK.out _ _ HK2.out (fun hHeld => ?_)
          clear hK K
          try simp only [Act.put, List.setIfInBounds_toArray, List.set_cons_zero, List.set_cons_succ]
          refine wpAnyH_take (i := 3) (oi := { dst := some 25, op := Op.move (Operand.tmp 28), type := 28, pos := "quota.go:94", after := #[{ on := 2, ground := Ground.data }], guard := none }) (v := ?vt3) rfl (by kernel_rfl) (by kernel_rfl) (by kernel_rfl) (fun _ _ _ h => h) (Or.inl ⟨by rfl, ?yt3⟩) hHeld ?rt3
          case yt3 => intro wq hSw; go_simp; try (with_reducible rfl)
          try simp only [Act.put, List.setIfInBounds_toArray, List.set_cons_zero, List.set_cons_succ]
          refine wpAnyH_take (i := 4) (oi := { dst := some 29, op := Op.extract (Operand.tmp 25) 0, type := 27, pos := "quota.go:94", after := #[{ on := 3, ground := Ground.data }], guard := none }) (v := ?vt4) rfl (by kernel_rfl) (by kernel_rfl) (by kernel_rfl) (fun _ _ _ h => h) (Or.inl ⟨by rfl, ?yt4⟩) hHeld ?rt4
          case yt4 => intro wq hSw; go_simp; try (with_reducible rfl)
          try simp only [Act.put, List.setIfInBounds_toArray, List.set_cons_zero, List.set_cons_succ]
          refine wpAnyH_take (i := 5) (oi := { dst := some 30, op := Op.extract (Operand.tmp 25) 1, type := 22, pos := "quota.go:94", after := #[{ on := 3, ground := Ground.data }, { on := 7, ground := Ground.gcOnly Departure.lateStores }], guard := none }) (v := ?vt5) rfl (by kernel_rfl) (by kernel_rfl) (by kernel_rfl) (fun _ _ _ h => h) (Or.inl ⟨by rfl, ?yt5⟩) hHeld ?rt5
          case yt5 => intro wq hSw; go_simp; try (with_reducible rfl)
          try simp only [Act.put, List.setIfInBounds_toArray, List.set_cons_zero, List.set_cons_succ]
          refine wpAnyH_ready (rs := [6]) (by kernel_rfl) (by simp) ?_
          refine AllReadyH.cons (o := { dst := some 4, op := Op.alloc 27, type := 0, pos := "quota.go:94", after := #[], guard := none }) rfl (fun K hK => ?_) AllReadyH.nil
          rw [if_pos (by rfl)]
          have hkn := HK2.out.alloc #[.bool false, .slice none 0 0, .slice none 0 0] 27 _ rfl
          try simp only [World.size_alloc, World.size_drew] at hkn
          have HK6 := Lib.hid hkn
          have hlt := HK2.out.1.size
          have hlt2 := HK2.out.blk0.lt
          have hlt3 := HKI.out.blk0.lt
          clear hkn
          go_step
          refine hK.out _ _ HK6.out.tail (fun hHeld => ?_)
          clear hK K
          try simp only [Act.put, List.setIfInBounds_toArray, List.set_cons_zero, List.set_cons_succ]
          refine wpAnyH_ready (rs := [7]) (by kernel_rfl) (by simp) ?_
          refine AllReadyH.cons (o := { dst := none, op := Op.store 27 (Operand.tmp 4) (Operand.tmp 29), type := 0, pos := "quota.go:94", after := #[{ on := 6, ground := Ground.data }, { on := 4, ground := Ground.data }, { on := 2, ground := Ground.chain }, { on := 0, ground := Ground.phase }, { on := 1, ground := Ground.phase }, { on := 2, ground := Ground.phase }, { on := 3, ground := Ground.phase }, { on := 4, ground := Ground.phase }, { on := 5, ground := Ground.textOnly Departure.lateStores }, { on := 6, ground := Ground.phase }], guard := none }) rfl (fun K hK => ?_) AllReadyH.nil
          rw [if_pos (by rfl)]
          have HB0 := Lib.hid HK6.out.blk0
          refine wp_store_row 27 (.tmp 4) (.tmp 29) rfl _ (rqs A5 c5 A6 c6 y) rfl rfl 27 _ HB0.out size_rq rfl (by simp [rqs, Value.oneCell']) ?_
          have HF := Lib.hid (BillP.of (y := y) (by first | exact HS5.out | exact HS5.out.to (below_new _ _)) HK6.out (setRow_heap _ _ _ _ _ _ HB0.out) (grown_setRow' _ _ _) (by omega))
          refine hK.out _ _ (HK6.out.tail.put (grown_setRow' _ _ _) (by omega) (fun b hb => by have := List.mem_singleton.1 hb; subst this; simp only; omega)) (fun hHeld => ?_)
          clear hK K
          try simp only [Act.put, List.setIfInBounds_toArray, List.set_cons_zero, List.set_cons_succ]
          refine wpAnyH_take (i := 8) (oi := { dst := some 5, op := Op.assign (Operand.tmp 30), type := 22, pos := "quota.go:94", after := #[{ on := 5, ground := Ground.data }, { on := 7, ground := Ground.chain }, { on := 0, ground := Ground.phase }, { on := 1, ground := Ground.phase }, { on := 2, ground := Ground.phase }, { on := 3, ground := Ground.phase }, { on := 4, ground := Ground.phase }, { on := 5, ground := Ground.phase }, { on := 6, ground := Ground.phase }, { on := 7, ground := Ground.phase }], guard := none }) (v := ?vt8) rfl (by kernel_rfl) (by kernel_rfl) (by kernel_rfl) (fun _ _ _ h => h) (Or.inl ⟨by rfl, ?yt8⟩) hHeld ?rt8
          case yt8 => intro wq hSw; go_simp; try (with_reducible rfl)
          try simp only [Act.put, List.setIfInBounds_toArray, List.set_cons_zero, List.set_cons_succ]
          refine wpAnyH_done (by kernel_rfl) ?_ _
          go_wp2_with fail
          go_meet
          exact HF.out
        · rw [if_pos (by rfl)]
          have hkn := HK1.out.alloc #[.bool false, .slice none 0 0, .slice none 0 0] 27 _ rfl
          try simp only [World.size_alloc, World.size_drew] at hkn
          have HK9 := Lib.hid hkn
          have hlt := HK1.out.1.size
          have hlt2 := HK1.out.blk0.lt
          have hlt3 := HKI.out.blk0.lt
          clear hkn
          go_step
          refine hK.out _ _ HK9.out.tail (fun hHeld => ?_)
          clear hK K
          try simp only [Act.put, List.setIfInBounds_toArray, List.set_cons_zero, List.set_cons_succ]
          refine wpAnyH_ready (rs := [2]) (by kernel_rfl) (by simp) ?_
          refine AllReadyH.cons (o := { dst := some 28, op := Op.call { callee := Callee.value (Operand.func 26), args := #[Operand.tmp 26, Operand.tmp 27], argTypes := #[27, 27] }, type := 28, pos := "quota.go:94", after := #[{ on := 0, ground := Ground.data }, { on := 1, ground := Ground.data }, { on := 1, ground := Ground.chain }], guard := none }) rfl (fun K hK => ?_) AllReadyH.nil
          go_simp
          go_at_call 26
          refine (HMU.out _ _ HK9.out _ _ _ _ (by first | exact HS3.out | exact HS3.out.to (below_new _ _))).mono ?_
          rintro e w10 ⟨A5, c5, A6, c6, rfl, hs10, hb10⟩
          have HK10 := Lib.hid (HK9.out.next hb10)
          have HS5 := Lib.hid hs10
          clear hb10 hs10
          try go_simp
          refine hK.out _ _ HK10.out.tail (fun hHeld => ?_)
          clear hK K
          try simp only [Act.put, List.setIfInBounds_toArray, List.set_cons_zero, List.set_cons_succ]
          refine wpAnyH_take (i := 3) (oi := { dst := some 25, op := Op.move (Operand.tmp 28), type := 28, pos := "quota.go:94", after := #[{ on := 2, ground := Ground.data }], guard := none }) (v := ?vt11) rfl (by kernel_rfl) (by kernel_rfl) (by kernel_rfl) (fun _ _ _ h => h) (Or.inl ⟨by rfl, ?yt11⟩) hHeld ?rt11
          case yt11 => intro wq hSw; go_simp; try (with_reducible rfl)
          try simp only [Act.put, List.setIfInBounds_toArray, List.set_cons_zero, List.set_cons_succ]
          refine wpAnyH_take (i := 4) (oi := { dst := some 29, op := Op.extract (Operand.tmp 25) 0, type := 27, pos := "quota.go:94", after := #[{ on := 3, ground := Ground.data }], guard := none }) (v := ?vt12) rfl (by kernel_rfl) (by kernel_rfl) (by kernel_rfl) (fun _ _ _ h => h) (Or.inl ⟨by rfl, ?yt12⟩) hHeld ?rt12
          case yt12 => intro wq hSw; go_simp; try (with_reducible rfl)
          try simp only [Act.put, List.setIfInBounds_toArray, List.set_cons_zero, List.set_cons_succ]
          refine wpAnyH_take (i := 5) (oi := { dst := some 30, op := Op.extract (Operand.tmp 25) 1, type := 22, pos := "quota.go:94", after := #[{ on := 3, ground := Ground.data }, { on := 7, ground := Ground.gcOnly Departure.lateStores }], guard := none }) (v := ?vt13) rfl (by kernel_rfl) (by kernel_rfl) (by kernel_rfl) (fun _ _ _ h => h) (Or.inl ⟨by rfl, ?yt13⟩) hHeld ?rt13
          case yt13 => intro wq hSw; go_simp; try (with_reducible rfl)
          try simp only [Act.put, List.setIfInBounds_toArray, List.set_cons_zero, List.set_cons_succ]
          refine wpAnyH_ready (rs := [7]) (by kernel_rfl) (by simp) ?_
          refine AllReadyH.cons (o := { dst := none, op := Op.store 27 (Operand.tmp 4) (Operand.tmp 29), type := 0, pos := "quota.go:94", after := #[{ on := 6, ground := Ground.data }, { on := 4, ground := Ground.data }, { on := 2, ground := Ground.chain }, { on := 0, ground := Ground.phase }, { on := 1, ground := Ground.phase }, { on := 2, ground := Ground.phase }, { on := 3, ground := Ground.phase }, { on := 4, ground := Ground.phase }, { on := 5, ground := Ground.textOnly Departure.lateStores }, { on := 6, ground := Ground.phase }], guard := none }) rfl (fun K hK => ?_) AllReadyH.nil
          rw [if_pos (by rfl)]
          have HB0 := Lib.hid HK10.out.blk0
          refine wp_store_row 27 (.tmp 4) (.tmp 29) rfl _ (rqs A5 c5 A6 c6 y) rfl rfl 27 _ HB0.out size_rq rfl (by simp [rqs, Value.oneCell']) ?_
          have HF := Lib.hid (BillP.of (y := y) (by first | exact HS5.out | exact HS5.out.to (below_new _ _)) HK10.out (setRow_heap _ _ _ _ _ _ HB0.out) (grown_setRow' _ _ _) (by omega))
          refine hK.out _ _ (HK10.out.tail.put (grown_setRow' _ _ _) (by omega) (fun b hb => by have := List.mem_singleton.1 hb; subst this; simp only; omega)) (fun hHeld => ?_)
          clear hK K
          try simp only [Act.put, List.setIfInBounds_toArray, List.set_cons_zero, List.set_cons_succ]
          refine wpAnyH_take (i := 8) (oi := { dst := some 5, op := Op.assign (Operand.tmp 30), type := 22, pos := "quota.go:94", after := #[{ on := 5, ground := Ground.data }, { on := 7, ground := Ground.chain }, { on := 0, ground := Ground.phase }, { on := 1, ground := Ground.phase }, { on := 2, ground := Ground.phase }, { on := 3, ground := Ground.phase }, { on := 4, ground := Ground.phase }, { on := 5, ground := Ground.phase }, { on := 6, ground := Ground.phase }, { on := 7, ground := Ground.phase }], guard := none }) (v := ?vt15) rfl (by kernel_rfl) (by kernel_rfl) (by kernel_rfl) (fun _ _ _ h => h) (Or.inl ⟨by rfl, ?yt15⟩) hHeld ?rt15
          case yt15 => intro wq hSw; go_simp; try (with_reducible rfl)
          try simp only [Act.put, List.setIfInBounds_toArray, List.set_cons_zero, List.set_cons_succ]
          refine wpAnyH_done (by kernel_rfl) ?_ _
          go_wp2_with fail
          go_meet
          exact HF.out
      · rw [if_pos (by rfl)]
        have hkn := HKD.out.alloc #[.bool false, .slice none 0 0, .slice none 0 0] 27 _ rfl
        try simp only [World.size_alloc, World.size_drew] at hkn
        have HK16 := Lib.hid hkn
        have hlt := HKD.out.1.size
        have hlt2 := HKD.out.blk0.lt
        have hlt3 := HKI.out.blk0.lt
        clear hkn
        go_step
        refine hK.out _ _ HK16.out.tail (fun hHeld => ?_)
        clear hK K
        try simp only [Act.put, List.setIfInBounds_toArray, List.set_cons_zero, List.set_cons_succ]
        refine wpAnyH_ready (rs := [1]) (by kernel_rfl) (by simp) ?_
        refine AllReadyH.cons (o := { dst := some 27, op := Op.call { callee := Callee.value (Operand.func 42), args := #[Operand.const (Value.int IntKind.i64 1000000000)], argTypes := #[3] }, type := 27, pos := "quota.go:94", after := #[], guard := none }) rfl (fun K hK => ?_) AllReadyH.nil
        go_simp
        go_at_call 42
        refine (HW.out _).mono ?_
        rintro e w17 ⟨A3, c3, A4, c4, rfl, hs17, hb17⟩
        have HK17 := Lib.hid (HK16.out.next hb17)
        have HS3 := Lib.hid hs17
        clear hb17 hs17
        try go_simp
        refine hK.out _ _ HK17.out.tail (fun hHeld => ?_)
        clear hK K
        try simp only [Act.put, List.setIfInBounds_toArray, List.set_cons_zero, List.set_cons_succ]
        refine wpAnyH_ready (rs := [2]) (by kernel_rfl) (by simp) ?_
        refine AllReadyH.cons (o := { dst := some 28, op := Op.call { callee := Callee.value (Operand.func 26), args := #[Operand.tmp 26, Operand.tmp 27], argTypes := #[27, 27] }, type := 28, pos := "quota.go:94", after := #[{ on := 0, ground := Ground.data }, { on := 1, ground := Ground.data }, { on := 1, ground := Ground.chain }], guard := none }) rfl (fun K hK => ?_) AllReadyH.nil
        go_simp
        go_at_call 26
        refine (HMU.out _ _ HK17.out _ _ _ _ (by first | exact HS3.out | exact HS3.out.to (below_new _ _))).mono ?_
        rintro e w18 ⟨A5, c5, A6, c6, rfl, hs18, hb18⟩
        have HK18 := Lib.hid (HK17.out.next hb18)
        have HS5 := Lib.hid hs18
        clear hb18 hs18
        try go_simp
        refine hK.out _ _ HK18.out.tail (fun hHeld => ?_)
        clear hK K
        try simp only [Act.put, List.setIfInBounds_toArray, List.set_cons_zero, List.set_cons_succ]
        refine wpAnyH_take (i := 3) (oi := { dst := some 25, op := Op.move (Operand.tmp 28), type := 28, pos := "quota.go:94", after := #[{ on := 2, ground := Ground.data }], guard := none }) (v := ?vt19) rfl (by kernel_rfl) (by kernel_rfl) (by kernel_rfl) (fun _ _ _ h => h) (Or.inl ⟨by rfl, ?yt19⟩) hHeld ?rt19
        case yt19 => intro wq hSw; go_simp; try (with_reducible rfl)
        try simp only [Act.put, List.setIfInBounds_toArray, List.set_cons_zero, List.set_cons_succ]
        refine wpAnyH_take (i := 4) (oi := { dst := some 29, op := Op.extract (Operand.tmp 25) 0, type := 27, pos := "quota.go:94", after := #[{ on := 3, ground := Ground.data }], guard := none }) (v := ?vt20) rfl (by kernel_rfl) (by kernel_rfl) (by kernel_rfl) (fun _ _ _ h => h) (Or.inl ⟨by rfl, ?yt20⟩) hHeld ?rt20
        case yt20 => intro wq hSw; go_simp; try (with_reducible rfl)
        try simp only [Act.put, List.setIfInBounds_toArray, List.set_cons_zero, List.set_cons_succ]
        refine wpAnyH_take (i := 5) (oi := { dst := some 30, op := Op.extract (Operand.tmp 25) 1, type := 22, pos := "quota.go:94", after := #[{ on := 3, ground := Ground.data }, { on := 7, ground := Ground.gcOnly Departure.lateStores }], guard := none }) (v := ?vt21) rfl (by kernel_rfl) (by kernel_rfl) (by kernel_rfl) (fun _ _ _ h => h) (Or.inl ⟨by rfl, ?yt21⟩) hHeld ?rt21
        case yt21 => intro wq hSw; go_simp; try (with_reducible rfl)
        try simp only [Act.put, List.setIfInBounds_toArray, List.set_cons_zero, List.set_cons_succ]
        refine wpAnyH_ready (rs := [7]) (by kernel_rfl) (by simp) ?_
        refine AllReadyH.cons (o := { dst := none, op := Op.store 27 (Operand.tmp 4) (Operand.tmp 29), type := 0, pos := "quota.go:94", after := #[{ on := 6, ground := Ground.data }, { on := 4, ground := Ground.data }, { on := 2, ground := Ground.chain }, { on := 0, ground := Ground.phase }, { on := 1, ground := Ground.phase }, { on := 2, ground := Ground.phase }, { on := 3, ground := Ground.phase }, { on := 4, ground := Ground.phase }, { on := 5, ground := Ground.textOnly Departure.lateStores }, { on := 6, ground := Ground.phase }], guard := none }) rfl (fun K hK => ?_) AllReadyH.nil
        rw [if_pos (by rfl)]
        have HB0 := Lib.hid HK18.out.blk0
        refine wp_store_row 27 (.tmp 4) (.tmp 29) rfl _ (rqs A5 c5 A6 c6 y) rfl rfl 27 _ HB0.out size_rq rfl (by simp [rqs, Value.oneCell']) ?_
        have HF := Lib.hid (BillP.of (y := y) (by first | exact HS5.out | exact HS5.out.to (below_new _ _)) HK18.out (setRow_heap _ _ _ _ _ _ HB0.out) (grown_setRow' _ _ _) (by omega))
        refine hK.out _ _ (HK18.out.tail.put (grown_setRow' _ _ _) (by omega) (fun b hb => by have := List.mem_singleton.1 hb; subst this; simp only; omega)) (fun hHeld => ?_)
        clear hK K
        try simp only [Act.put, List.setIfInBounds_toArray, List.set_cons_zero, List.set_cons_succ]
        refine wpAnyH_take (i := 8) (oi := { dst := some 5, op := Op.assign (Operand.tmp 30), type := 22, pos := "quota.go:94", after := #[{ on := 5, ground := Ground.data }, { on := 7, ground := Ground.chain }, { on := 0, ground := Ground.phase }, { on := 1, ground := Ground.phase }, { on := 2, ground := Ground.phase }, { on := 3, ground := Ground.phase }, { on := 4, ground := Ground.phase }, { on := 5, ground := Ground.phase }, { on := 6, ground := Ground.phase }, { on := 7, ground := Ground.phase }], guard := none }) (v := ?vt23) rfl (by kernel_rfl) (by kernel_rfl) (by kernel_rfl) (fun _ _ _ h => h) (Or.inl ⟨by rfl, ?yt23⟩) hHeld ?rt23
        case yt23 => intro wq hSw; go_simp; try (with_reducible rfl)
        try simp only [Act.put, List.setIfInBounds_toArray, List.set_cons_zero, List.set_cons_succ]
        refine wpAnyH_done (by kernel_rfl) ?_ _
        go_wp2_with fail
        go_meet
        exact HF.out
  case rest =>
    clear x0 x1 x2
    obtain ⟨g, A, c, B, d, rfl, rfl, hs, hb, hbw⟩ := hcut
    have HBW := Lib.hid hbw
    have HS := Lib.hid hs
    have HB := Lib.hid hb
    clear hs hb hbw
    go_wp2_with (first | (with_reducible refine wpList_load_rq (by kernel_rfl) (.tmp 4) rfl g rfl HB.out rfl ?_))
    unfold rqs
    refine (HFL.out _ _ _ _ _ HS.out).mono ?_
    rintro e w2 ⟨rfl, hb2⟩
    have HB2 := Lib.hid (HBW.out.trans (hb2.mono HBW.out.size))
    clear hb2
    by_cases hfe : fe = 0
    · subst hfe
      have hR2 : (if inQ fl = true then (fl, (0 : Int)) else (0, 30)) = (v, er) := by have := hR.out; rw [if_pos rfl] at this; exact this
      have HX := Lib.hid (fixed1 fl w2)
      cases hin : inQ fl with
      | true =>
        rw [hin] at HX
        obtain ⟨rfl, rfl⟩ : fl = v ∧ 0 = er := by rw [hin, if_pos rfl] at hR2; simpa using hR2
        clear hR hR2 hin
        go_wp2_with fail
        refine HX.out.mono ?_
        rintro e w3 ⟨rfl, rfl⟩
        go_wp2_with fail
        go_ret2
        exact ⟨rfl, HB2.out.trans ((below_new _ _).mono HB2.out.size)⟩
      | false =>
        rw [hin] at HX
        obtain ⟨rfl, rfl⟩ : 0 = v ∧ 30 = er := by rw [hin, if_neg (by decide)] at hR2; simpa using hR2
        clear hR hR2 hin
        go_wp2_with fail
        refine HX.out.mono ?_
        rintro e w3 ⟨rfl, rfl⟩
        go_wp2_with fail
        go_ret2
        exact ⟨rfl, HB2.out.trans ((below_new _ _).mono HB2.out.size)⟩
    · obtain ⟨rfl, rfl⟩ : 0 = v ∧ 30 = er := by have := hR.out; rw [if_neg hfe] at this; simpa using this
      have hfe2 : (fe != 0) = true := by simpa using hfe
      clear hR hfe
      go_wp2_with fail
      go_ret2
      exact ⟨rfl, HB2.out⟩

set_option maxRecDepth 100000 in
set_option maxHeartbeats 4000000 in
theorem bill_long (x : Rq) (A1 A2 : Option Addr) (c1 c2 k1 k2 : Nat) (w : World) (hr : RqS w A1 c1 A2 c2 x) (e1 : x.neg = false) (h1 : x.num.length = k1) (h2 : x.den.length = k2) (l : ¬ (k1 ≤ 90 ∧ k2 ≤ 90)) (ho : okR x) :
    Calls Try.prog 23 #[.agg #[.bool false, .slice A1 k1 c1, .slice A2 k2 c2]] w fun e w' => e = .returned (.tuple #[.int .i64 0, .int .i64 30]) ∧ Below w.heap.size w w' := by
  have HC := Lib.hid (fun wx bs (hk : Kp w bs wx) => qCheck_any x A1 A2 c1 c2 k1 k2 0 wx (hr.to hk.1) h1 h2 (chkR_ok ho))
  rw [e1] at HC
  have hK := (Kp.refl w).alloc #[.bool false, .slice A1 k1 c1, .slice A2 k2 c2] 27 _ rfl
  have HK := Lib.hid hK
  clear hK hr e1 h1 h2 ho
  by_cases l1 : 90 < k1
  · have d1 : decide (90 < k1) = true := decide_eq_true (by omega)
    have d3 : decide (90 < (k1 : Int)) = true := decide_eq_true (by omega)
    go_enter Try.func23, Try.ntmps23
    go_wp2_with fail
    refine (HC.out _ _ HK.out).mono ?_
    rintro e w1 ⟨rfl, hb1⟩
    have HK1 := Lib.hid (HK.out.next hb1)
    have x0 := HK1.out.blk0.at_ 0 rfl
    have x1 := HK1.out.blk0.at_ 1 rfl
    have x2 := HK1.out.blk0.at_ 2 rfl
    clear hb1
    go_wp2_with fail
    go_ret2
    exact ⟨rfl, HK1.out.1⟩
  · have d1 : decide (90 < k1) = false := decide_eq_false (by omega)
    have d2 : decide (90 < k2) = true := decide_eq_true (by omega)
    have d3 : decide (90 < (k1 : Int)) = false := decide_eq_false (by omega)
    have d4 : decide (90 < (k2 : Int)) = true := decide_eq_true (by omega)
    go_enter Try.func23, Try.ntmps23
    go_wp2_with fail
    refine (HC.out _ _ HK.out).mono ?_
    rintro e w1 ⟨rfl, hb1⟩
    have HK1 := Lib.hid (HK.out.next hb1)
    have x0 := HK1.out.blk0.at_ 0 rfl
    have x1 := HK1.out.blk0.at_ 1 rfl
    have x2 := HK1.out.blk0.at_ 2 rfl
    clear hb1
    go_wp2_with fail
    go_ret2
    exact ⟨rfl, HK1.out.1⟩

set_option maxRecDepth 100000 in
set_option maxHeartbeats 4000000 in
theorem bill_bad (x : Rq) (A1 A2 : Option Addr) (c1 c2 k1 k2 : Nat) (w : World) (hr : RqS w A1 c1 A2 c2 x) (h1 : x.num.length = k1) (h2 : x.den.length = k2) (ho : ¬ (okR x ∧ x.neg = false)) :
    Calls Try.prog 23 #[.agg #[.bool x.neg, .slice A1 k1 c1, .slice A2 k2 c2]] w fun e w' => e = .returned (.tuple #[.int .i64 0, .int .i64 2]) ∧ Below w.heap.size w w' := by
  have HC := Lib.hid (fun wx bs (hk : Kp w bs wx) u (hu : chkR x = u) => qCheck_any x A1 A2 c1 c2 k1 k2 u wx (hr.to hk.1) h1 h2 hu)
  by_cases hk : okR x
  · have HOK := Lib.hid (chkR_ok hk)
    have hn : x.neg = true := by
      cases h : x.neg with
      | true => rfl
      | false => exact absurd ⟨hk, h⟩ ho
    rw [hn] at HC ⊢
    have HK := Lib.hid ((Kp.refl w).alloc #[.bool true, .slice A1 k1 c1, .slice A2 k2 c2] 27 _ rfl)
    clear hr h1 h2 ho hk hn
    go_enter Try.func23, Try.ntmps23
    go_wp2_with fail
    refine (HC.out _ _ HK.out 0 HOK.out).mono ?_
    rintro e w1 ⟨rfl, hb1⟩
    have HK1 := Lib.hid (HK.out.next hb1)
    have x0 := HK1.out.blk0.at_ 0 rfl
    clear hb1
    go_wp2_with fail
    go_ret2
    exact ⟨rfl, HK1.out.1⟩
  · have HOK := Lib.hid (chkR_no hk)
    obtain ⟨n, hn⟩ : ∃ n, x.neg = n := ⟨_, rfl⟩
    rw [hn] at HC ⊢
    have HK := Lib.hid ((Kp.refl w).alloc #[.bool n, .slice A1 k1 c1, .slice A2 k2 c2] 27 _ rfl)
    clear hr h1 h2 ho hk hn
    go_enter Try.func23, Try.ntmps23
    go_wp2_with fail
    refine (HC.out _ _ HK.out 8 HOK.out).mono ?_
    rintro e w1 ⟨rfl, hb1⟩
    have HK1 := Lib.hid (HK.out.next hb1)
    clear hb1
    go_wp2_with fail
    go_ret2
    exact ⟨rfl, HK1.out.1⟩

theorem fix_floor (q : Nat) : ∃ fl fe : Int, intM false q = (fl, fe) ∧ (if fe = 0 then (if inQ fl = true then (fl, (0 : Int)) else (0, 30)) else (0, 30)) = fixQ q := by
  by_cases h : q ≤ 9223372036854775807
  · refine ⟨(q : Int), 0, (intM_f q).trans (if_pos h), (if_pos rfl).trans ?_⟩
    by_cases h2 : q ≤ 1000000000000000
    · exact (if_pos (inQ_of h2)).trans (fixQ_ok h2).symm
    · exact (if_neg (fun e => h2 (by have := (inQ_yes e).2; omega))).trans (fixQ_great h2).symm
  · exact ⟨0, 30, (intM_f q).trans (if_neg h), (if_neg (by omega)).trans (fixQ_great (by omega)).symm⟩
theorem bill_any (x : Rq) (A1 A2 : Option Addr) (c1 c2 k1 k2 : Nat) (v er : Int) (w : World) (hr : RqS w A1 c1 A2 c2 x) (h1 : x.num.length = k1) (h2 : x.den.length = k2) (hM : Hid (billM x = (v, er))) :
    Calls Try.prog 23 #[.agg #[.bool x.neg, .slice A1 k1 c1, .slice A2 k2 c2]] w fun e w' => e = .returned (.tuple #[.int .i64 v, .int .i64 er]) ∧ Below w.heap.size w w' := by
  by_cases ho : okR x ∧ x.neg = false
  · by_cases hl : k1 ≤ 90 ∧ k2 ≤ 90
    · have hl' : x.num.length ≤ 90 ∧ x.den.length ≤ 90 := by rw [h1, h2]; exact hl
      obtain ⟨y, hy1, hy2⟩ := bill_scaled ho.1 ho.2 hl'.1 hl'.2
      have hq := hM.out
      obtain ⟨fl, fe, hf1, hf2⟩ := fix_floor (val x.num * 1000000000 / val x.den)
      rw [billM_ok ho hl', ← hf2] at hq
      rw [ho.2]
      exact bill_mid x y A1 A2 c1 c2 k1 k2 v er fl fe w hr ho.2 h1 h2 hl.1 hl.2 ho.1 hy1 (hy2.trans hf1) hq
    · have hq := hM.out
      rw [billM_long ho (by rw [h1, h2]; exact hl)] at hq
      obtain ⟨rfl, rfl⟩ : 0 = v ∧ 30 = er := by simpa using hq
      rw [ho.2]
      exact bill_long x A1 A2 c1 c2 k1 k2 w hr ho.2 h1 h2 hl ho.1
  · have hq := hM.out
    rw [billM_arg ho] at hq
    obtain ⟨rfl, rfl⟩ : 0 = v ∧ 2 = er := by simpa using hq
    exact bill_bad x A1 A2 c1 c2 k1 k2 w hr h1 h2 ho
end Go.Proofs.Ytefoccjphbbmhaa
