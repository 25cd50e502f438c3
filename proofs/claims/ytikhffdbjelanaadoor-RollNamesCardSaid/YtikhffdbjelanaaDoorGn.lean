/- roll's isPrecinct, isState, isName, isVoter. roll's Check. strings.Clone; roll's nameOf, twin. roll's position, place. -/
import Derived.Test.YtikhffdbjelanaaDoorGh
import Derived.Test.YtikhffdbjelanaaDoorGd
import Derived.Test.YtikhffdbjelanaaDoorGe
import Derived.Deep.RegionHeld3
import Derived.Test.YtikhffdbjelanaaDoorShelf
namespace Go.Proofs.YtikhffdbjelanaaDoor
open Go.RowKit
set_option linter.unusedVariables false

def preB (p : Int) : Bool := decide (0 ≤ p) && decide (p < 8)
def stB (s : Nat) : Bool := decide (1 ≤ s) && decide (s ≤ 4)
theorem mayV_parts (v : Vt) : mayV v = (nameB v.name && (preB v.pre && stB v.state)) := by
  simp [mayV, preB, stB, Bool.and_assoc]

theorem isPrecinct_any (p : Int) (w : World) : Calls Tryd.prog 44 #[.int .i64 p] w fun e w' => e = .returned (.bool (preB p)) ∧ w' = w := by
  by_cases h0 : 0 ≤ p
  · have h0d : decide ((0 : Int) ≤ p) = true := by simpa using h0
    have HB := Lib.hid (show preB p = decide (p < 8) by unfold preB; rw [h0d]; rfl)
    clear h0
    go_enter Tryd.func44, Tryd.ntmps44
    go_wp2_with fail
    go_ret
    exact ⟨by rw [HB.out] <;> rfl, rfl⟩
  · have h0d : decide ((0 : Int) ≤ p) = false := by simpa using h0
    have HB := Lib.hid (show preB p = false by unfold preB; rw [h0d]; rfl)
    clear h0
    go_enter Tryd.func44, Tryd.ntmps44
    go_wp2_with fail
    go_ret
    exact ⟨by rw [HB.out] <;> rfl, rfl⟩

theorem isState_any (s : Nat) (w : World) : Calls Tryd.prog 53 #[.int .u8 (s : Nat)] w fun e w' => e = .returned (.bool (stB s)) ∧ w' = w := by
  by_cases h0 : 1 ≤ s
  · have h0d : decide ((1 : Int) ≤ (s : Int)) = true := by simp; omega
    have HB := Lib.hid (show stB s = decide ((s : Int) ≤ 4) by unfold stB; rw [decide_eq_true h0]; simp; omega)
    clear h0
    go_enter Tryd.func53, Tryd.ntmps53
    go_wp2_with fail
    go_ret
    exact ⟨by rw [HB.out] <;> rfl, rfl⟩
  · have h0d : decide ((1 : Int) ≤ (s : Int)) = false := by simp; omega
    have HB := Lib.hid (show stB s = false by unfold stB; rw [decide_eq_false h0]; rfl)
    clear h0
    go_enter Tryd.func53, Tryd.ntmps53
    go_wp2_with fail
    go_ret
    exact ⟨by rw [HB.out] <;> rfl, rfl⟩

/-- The contest in which nothing but the name can be wrong. -/
def nameCt (n : List UInt8) : Ct := ⟨n, [[120]], 1, 1⟩
theorem nameCt_check (n : List UInt8) : checkM (nameCt n) = if nameB n then 0 else 8 := by
  have h : mayB (nameCt n) = nameB n := by
    have : mayB (nameCt n) = (nameB n && true) := rfl
    rw [this, Bool.and_true]
  unfold checkM
  rw [if_neg (by simp [nameCt]), h]
theorem nameCt_ok (n : List UInt8) (hn : n.length ≤ 4000000000) (w : World) : CtOk (w.alloc (.cells #[.string ⟨#[120]⟩] 9)) (some ⟨w.heap.size, 0, none⟩) 1 (nameCt n) := by
  refine ⟨?_, ?_, ?_, ?_, ?_⟩
  · have := rf_lit (f := sv) w [[120]] #[.string ⟨#[120]⟩] rfl (by simp) 9
    exact this.more (by simp)
  · exact Nat.le_trans hn (by decide)
  · intro y hy
    simp [nameCt] at hy
    subst hy
    simp
  · simp [nameCt]
  · simp [nameCt]

set_option maxRecDepth 100000 in
set_option maxHeartbeats 400000 in
theorem isName_any (n : List UInt8) (w : World) (hn : n.length ≤ 4000000000) (hT : Tab w) :
    Calls Tryd.prog 52 #[.string ⟨n.toArray⟩] w fun e w' => e = .returned (.bool (nameB n)) ∧ Below w.heap.size w w' := by
  have B0 := Lib.hid (below_new w (.cells #[.string ⟨#[120]⟩] 9))
  have HC := Lib.hid (check_any (nameCt n) _ _ _ (nameCt_ok n hn w) (hT.below (Nat.le_refl _) B0.out))
  unfold cv cvs at HC
  have HM := Lib.hid (nameCt_check n)
  clear hT
  cases hb : nameB n with
  | false =>
    have HB := Lib.hid (show checkM (nameCt n) = 8 by rw [HM.out, hb]; rfl)
    clear hb HM
    go_enter Tryd.func52, Tryd.ntmps52
    go_wp2_with fail
    refine HC.out.mono ?_
    rintro e w1 ⟨rfl, hb1⟩
    rw [HB.out]
    go_wp2_with fail
    go_ret
    exact ⟨rfl, B0.out.trans (hb1.mono B0.out.size)⟩
  | true =>
    have HB := Lib.hid (show checkM (nameCt n) = 0 by rw [HM.out, hb]; rfl)
    clear hb HM
    go_enter Tryd.func52, Tryd.ntmps52
    go_wp2_with fail
    refine HC.out.mono ?_
    rintro e w1 ⟨rfl, hb1⟩
    rw [HB.out]
    go_wp2_with fail
    go_ret
    exact ⟨rfl, B0.out.trans (hb1.mono B0.out.size)⟩

set_option maxRecDepth 100000 in
set_option maxHeartbeats 1000000 in
theorem isVoter_any (v : Vt) (w : World) (hn : v.name.length ≤ 4000000000) (hT : Tab w) :
    Calls Tryd.prog 35 #[vv v] w fun e w' => e = .returned (.bool (mayV v)) ∧ Below w.heap.size w w' := by
  obtain ⟨n, p, s⟩ := v
  have HM := Lib.hid (mayV_parts ⟨n, p, s⟩)
  simp only at hn HM
  have B0 := Lib.hid (below_new w (.cells (vvs ⟨n, p, s⟩) 30))
  have HBL := Lib.hid (Blk.new w 30 (vvs ⟨n, p, s⟩))
  have HN := Lib.hid (isName_any n _ hn (hT.below (Nat.le_refl _) B0.out))
  clear hT
  unfold vvs at B0 HBL HN
  unfold vv vvs
  cases h1 : nameB n with
  | false =>
    have HX := Lib.hid (show mayV ⟨n, p, s⟩ = false by rw [HM.out, h1]; rfl)
    have H1 := Lib.hid h1
    clear h1 HM
    go_enter Tryd.func35, Tryd.ntmps35
    go_wp2_with fail
    refine HN.out.mono ?_
    rintro e w1 ⟨rfl, hb1⟩
    rw [H1.out]
    go_wp2_with fail
    go_ret
    exact ⟨by rw [HX.out] <;> rfl, B0.out.trans (hb1.mono B0.out.size)⟩
  | true =>
    have H1 := Lib.hid h1
    cases h2 : preB p with
    | false =>
      have HX := Lib.hid (show mayV ⟨n, p, s⟩ = false by rw [HM.out, h1, h2]; rfl)
      have H2 := Lib.hid h2
      clear h1 h2 HM
      go_enter Tryd.func35, Tryd.ntmps35
      go_wp2_with fail
      refine HN.out.mono ?_
      rintro e w1 ⟨rfl, hb1⟩
      rw [H1.out]
      have B1 := Lib.hid hb1
      have c1 : w1.cell? ⟨w.heap.size, 1, none⟩ = some (.int .i64 p) := (HBL.out.below hb1 (by simp)).cell 1
      have c2 : w1.cell? ⟨w.heap.size, 2, none⟩ = some (.int .u8 (s : Nat)) := (HBL.out.below hb1 (by simp)).cell 2
      clear hb1
      go_wp2_with fail
      refine (isPrecinct_any p _).mono ?_
      rintro e w2 ⟨rfl, rfl⟩
      rw [H2.out]
      go_wp2_with fail
      go_ret
      exact ⟨by rw [HX.out] <;> rfl, B0.out.trans (B1.out.mono B0.out.size)⟩
    | true =>
      have HX := Lib.hid (show mayV ⟨n, p, s⟩ = stB s by rw [HM.out, h1, h2]; rfl)
      have H2 := Lib.hid h2
      clear h1 h2 HM
      go_enter Tryd.func35, Tryd.ntmps35
      go_wp2_with fail
      refine HN.out.mono ?_
      rintro e w1 ⟨rfl, hb1⟩
      rw [H1.out]
      have B1 := Lib.hid hb1
      have c1 : w1.cell? ⟨w.heap.size, 1, none⟩ = some (.int .i64 p) := (HBL.out.below hb1 (by simp)).cell 1
      have c2 : w1.cell? ⟨w.heap.size, 2, none⟩ = some (.int .u8 (s : Nat)) := (HBL.out.below hb1 (by simp)).cell 2
      clear hb1
      go_wp2_with fail
      refine (isPrecinct_any p _).mono ?_
      rintro e w2 ⟨rfl, rfl⟩
      rw [H2.out]
      go_wp2_with fail
      refine (isState_any s _).mono ?_
      rintro e w3 ⟨rfl, rfl⟩
      go_wp2_with fail
      go_ret
      exact ⟨by rw [HX.out] <;> rfl, B0.out.trans (B1.out.mono B0.out.size)⟩
end Go.Proofs.YtikhffdbjelanaaDoor
namespace Go.Proofs.YtikhffdbjelanaaDoor
open Go.RowKit
set_option linter.unusedVariables false

/-- The cells of a voter in a block of its own. -/
theorem vt_cells {w : World} {g : Nat} {x : Vt} (h : Blk w g 30 (vvs x)) : w.cell? ⟨g, 0, none⟩ = some (.string ⟨x.name.toArray⟩) ∧ w.cell? ⟨g, 1, none⟩ = some (.int .i64 x.pre) ∧ w.cell? ⟨g, 2, none⟩ = some (.int .u8 (x.state : Nat)) :=
  ⟨h.cell 0, h.cell 1, h.cell 2⟩

set_option maxRecDepth 100000 in
set_option maxHeartbeats 4000000 in
theorem checkV_any (l : List Vt) (A : Option Addr) (c : Nat) (w : World) (hr : Rvt w w.heap.size A c l) (hn : ∀ v ∈ l, v.name.length ≤ 4000000000) (hT : Tab w) :
    Calls Tryd.prog 22 #[.slice A l.length c] w fun e w' => e = .returned (.int .i64 (checkV l)) ∧ Below w.heap.size w w' := by
  by_cases h1 : 64 < l.length
  · have HG := Lib.hid (checkV_big h1)
    have h1d : decide ((64 : Int) < (l.length : Int)) = true := by simp; omega
    clear h1
    go_enter Tryd.func22, Tryd.ntmps22
    go_wp2_with fail
    go_ret
    exact ⟨by rw [HG.out] <;> rfl, Below.refl _ _⟩
  have h1d : decide ((64 : Int) < (l.length : Int)) = false := by simp; omega
  have hl : l.length ≤ 64 := by omega
  have HR := Lib.hid hr
  have HM := Lib.hid (fun (v : Vt) (wx : World) (h : v ∈ l) (hb : Below w.heap.size w wx) => isVoter_any v wx (hn v h) (hT.below (Nat.le_refl _) hb))
  have HBAD := Lib.hid (fun (i : Nat) (hi : i < l.length) => checkV_bad h1 hi)
  clear h1 hr hn hT
  go_enter Tryd.func22, Tryd.ntmps22
  go_wp2_with fail
  go_loopw [10] (fun i wr => ∃ k : Nat, k ≤ l.length ∧ i = .int .i64 k ∧ Hid (∀ j (h : j < l.length), j < k → mayV l[j] = true ∧ (0 < j → ltB (l[j-1]'(by omega)).name l[j].name = true)) ∧ Hid (Below w.heap.size w wr)) (fun i _ => l.length - (intOf i).toNat)
  case atStart => exact ⟨0, Nat.zero_le _, rfl, (fun j h hj => absurd hj (Nat.not_lt_zero j)), Below.refl _ _⟩
  case round =>
    obtain ⟨k, hk, rfl, hpre, hbw⟩ := hrel
    have hsz := hbw.out.size
    by_cases hlt : k < l.length
    · obtain ⟨b, o, rfl, hbb, hc⟩ := (HR.out.below hbw.out).vt hlt
      obtain ⟨f1, f2, f3⟩ := hc k hlt
      have hm := List.getElem_mem hlt
      have hbad := HBAD.out k hlt
      have hs := fun (h : mayV l[k] = true ∧ (0 < k → ltB (l[k-1]'(by omega)).name l[k].name = true)) => show ∀ j (h : j < l.length), j < k + 1 → mayV l[j] = true ∧ (0 < j → ltB (l[j-1]'(by omega)).name l[j].name = true) from fun j hj hjk => by
        by_cases e : j = k
        · subst e; exact h
        · exact hpre.out j hj (by omega)
      have HBN := Lib.hid (Blk.new wr 30 #[.string ⟨#[]⟩, .int .i64 0, .int .u8 0])
      by_cases h0 : 0 < k
      · have h0d : decide ((0 : Int) < (k : Int)) = true := by simp; omega
        have hk1 : k - 1 < l.length := by omega
        have g1 := (hc (k - 1) hk1).1
        have ek : (k : Int) - 1 = ((k - 1 : Nat) : Int) := by omega
        obtain ⟨p, hp⟩ : ∃ p, p = k - 1 := ⟨_, rfl⟩
        obtain ⟨x, hx⟩ : ∃ x, x = l[k] := ⟨_, rfl⟩
        obtain ⟨y, hy⟩ : ∃ y, y = l[k-1]'hk1 := ⟨_, rfl⟩
        rw [← hx] at f1 f2 f3 hm hbad hs
        rw [← hy] at g1 hbad hs
        rw [← hp] at g1 ek
        have HM1 := Lib.hid (fun wx => HM.out x wx hm)
        unfold vv vvs at HM1
        cases hmx : mayV x with
        | false =>
          have HMX := Lib.hid hmx
          have HC := Lib.hid (hbad (.inl hmx))
          clear hs hbad hmx hc hx hy hp
          go_wp2_with ((with_reducible refine wpList_store_vt rfl (.tmp 4) (.tmp 14) rfl wr.heap.size rfl HBN.out rfl (x := x) rfl ?_); intro w2 hb2 hg2)
          have B2 := Lib.hid ((hbw.out.alloc hsz (.cells #[.string ⟨#[]⟩, .int .i64 0, .int .u8 0] 30)).grown hg2 (by simp; omega) (fun k e => by cases e; exact hsz))
          have HB2 := Lib.hid hb2
          have g2 : w2.cell? ⟨b, o + p * 3, none⟩ = some (.string ⟨y.name.toArray⟩) := (World.cell?_of_block (hg2.block b (by simp; omega) (by simp; omega))).trans ((World.cell?_alloc_lt wr _ _ (by simp; omega)).trans g1)
          have hl2 : wr.heap.size < w2.heap.size := hb2.lt
          have HS2 := Lib.hid (show ∀ wx, Below w2.heap.size w2 wx → (wx.cell? ⟨wr.heap.size, 0, none⟩ = some (.string ⟨x.name.toArray⟩) ∧ wx.cell? ⟨wr.heap.size, 1, none⟩ = some (.int .i64 x.pre) ∧ wx.cell? ⟨wr.heap.size, 2, none⟩ = some (.int .u8 (x.state : Nat)) ∧ wx.cell? ⟨b, o + p * 3, none⟩ = some (.string ⟨y.name.toArray⟩)) from fun wx hb => by
            obtain ⟨e1, e2, e3⟩ := vt_cells (HB2.out.below hb hl2)
            exact ⟨e1, e2, e3, (hb.cell (by simp; omega)).trans g2⟩)
          clear hb2 hg2 g2
          have hS2 := HS2.out _ (Below.refl _ _).drew
          go_wp2_with fail
          refine wp_region_any (by kernel_rfl) ?_
          change wpAny _ _ _ _ _ _ _ (World.drew _)
          refine wpAny_ready (rs := [0]) (by decide +kernel) (by simp) (AllReady.cons rfl (fun K hK => ?_) AllReady.nil)
          go_simp
          refine hK _ _ ?_
          clear hK K
          refine wpAny_ready (rs := [1]) (by kernel_rfl) (by simp) (AllReady.cons rfl (fun K hK => ?_) AllReady.nil)
          go_simp
          go_at_call 35
          refine (HM1.out _ (B2.out.trans ((Below.refl _ _).drew.mono B2.out.size))).mono ?_
          rintro e w3 ⟨rfl, hb3⟩
          rw [HMX.out]
          have B3 := Lib.hid ((Below.refl w2.heap.size w2).drew.trans hb3)
          have hS3 := HS2.out _ B3.out
          clear hb3
          refine hK _ _ ?_
          clear hK K
          refine wpAny_quiet_rest24 2 (by kernel_rfl) (by kernel_rfl) (by kernel_rfl) ?_
          simp only [List.drop_succ_cons, List.drop_zero]
          repeat (go_big_quiet_step (fail))
          refine wpQuiet_nil ?_
          intro _ hw'
          obtain ⟨nq, hw''⟩ := hw'
          subst hw''
          have BE := Lib.hid (B2.out.trans ((B3.out.trans (below_drewN _ _ nq)).mono B2.out.size))
          go_wp2_with fail
          go_ret
          exact ⟨by rw [HC.out] <;> rfl, BE.out⟩
        | true =>
          cases hlx : ltB y.name x.name with
          | false =>
            have hq : (ltB x.name y.name = true ∧ (x.name == y.name) = false) ∨ (ltB x.name y.name = false ∧ (x.name == y.name) = true) := by
              cases hk : ltB x.name y.name with
              | true => exact .inl ⟨rfl, by rw [beq_eq_false_iff_ne]; intro e; rw [e, ltB_irrefl] at hk; cases hk⟩
              | false => exact .inr ⟨rfl, by rw [beq_iff_eq]; exact ltB_tri hk hlx⟩
            rcases hq with ⟨hlx0, hlx1⟩ | ⟨hlx0, hlx1⟩
            all_goals
              have HMX := Lib.hid hmx
              have HC := Lib.hid (hbad (.inr ⟨h0, hlx⟩))
              clear hs hbad hmx hc hx hy hp
              have hxl := hlx0
              have hxe := hlx1
              unfold ltB at hlx hxl
              clear hlx0 hlx1
              go_wp2_with ((with_reducible refine wpList_store_vt rfl (.tmp 4) (.tmp 14) rfl wr.heap.size rfl HBN.out rfl (x := x) rfl ?_); intro w2 hb2 hg2)
              have B2 := Lib.hid ((hbw.out.alloc hsz (.cells #[.string ⟨#[]⟩, .int .i64 0, .int .u8 0] 30)).grown hg2 (by simp; omega) (fun k e => by cases e; exact hsz))
              have HB2 := Lib.hid hb2
              have g2 : w2.cell? ⟨b, o + p * 3, none⟩ = some (.string ⟨y.name.toArray⟩) := (World.cell?_of_block (hg2.block b (by simp; omega) (by simp; omega))).trans ((World.cell?_alloc_lt wr _ _ (by simp; omega)).trans g1)
              have hl2 : wr.heap.size < w2.heap.size := hb2.lt
              have HS2 := Lib.hid (show ∀ wx, Below w2.heap.size w2 wx → (wx.cell? ⟨wr.heap.size, 0, none⟩ = some (.string ⟨x.name.toArray⟩) ∧ wx.cell? ⟨wr.heap.size, 1, none⟩ = some (.int .i64 x.pre) ∧ wx.cell? ⟨wr.heap.size, 2, none⟩ = some (.int .u8 (x.state : Nat)) ∧ wx.cell? ⟨b, o + p * 3, none⟩ = some (.string ⟨y.name.toArray⟩)) from fun wx hb => by
                obtain ⟨e1, e2, e3⟩ := vt_cells (HB2.out.below hb hl2)
                exact ⟨e1, e2, e3, (hb.cell (by simp; omega)).trans g2⟩)
              clear hb2 hg2 g2
              have hS2 := HS2.out _ (Below.refl _ _).drew
              go_wp2_with fail
              refine wp_region_any (by kernel_rfl) ?_
              change wpAny _ _ _ _ _ _ _ (World.drew _)
              refine wpAny_ready (rs := [0]) (by decide +kernel) (by simp) (AllReady.cons rfl (fun K hK => ?_) AllReady.nil)
              go_simp
              refine hK _ _ ?_
              clear hK K
              refine wpAny_ready (rs := [1]) (by kernel_rfl) (by simp) (AllReady.cons rfl (fun K hK => ?_) AllReady.nil)
              go_simp
              go_at_call 35
              refine (HM1.out _ (B2.out.trans ((Below.refl _ _).drew.mono B2.out.size))).mono ?_
              rintro e w3 ⟨rfl, hb3⟩
              rw [HMX.out]
              have B3 := Lib.hid ((Below.refl w2.heap.size w2).drew.trans hb3)
              have hS3 := HS2.out _ B3.out
              clear hb3
              refine hK _ _ ?_
              clear hK K
              refine wpAny_quiet_rest24 2 (by kernel_rfl) (by kernel_rfl) (by kernel_rfl) ?_
              simp only [List.drop_succ_cons, List.drop_zero]
              repeat (go_big_quiet_step (fail))
              refine wpQuiet_nil ?_
              intro _ hw'
              obtain ⟨nq, hw''⟩ := hw'
              subst hw''
              have BE := Lib.hid (B2.out.trans ((B3.out.trans (below_drewN _ _ nq)).mono B2.out.size))
              go_wp2_with fail
              go_ret
              exact ⟨by rw [HC.out] <;> rfl, BE.out⟩
          | true =>
            have HMX := Lib.hid hmx
            have HN := Lib.hid (hs ⟨hmx, fun _ => hlx⟩)
            clear hs hbad hmx hc hx hy hp
            have hxl := ltB_asymm hlx
            have hxe : (x.name == y.name) = false := by rw [beq_eq_false_iff_ne]; intro e; rw [e, ltB_irrefl] at hlx; cases hlx
            unfold ltB at hlx hxl
            go_wp2_with ((with_reducible refine wpList_store_vt rfl (.tmp 4) (.tmp 14) rfl wr.heap.size rfl HBN.out rfl (x := x) rfl ?_); intro w2 hb2 hg2)
            have B2 := Lib.hid ((hbw.out.alloc hsz (.cells #[.string ⟨#[]⟩, .int .i64 0, .int .u8 0] 30)).grown hg2 (by simp; omega) (fun k e => by cases e; exact hsz))
            have HB2 := Lib.hid hb2
            have g2 : w2.cell? ⟨b, o + p * 3, none⟩ = some (.string ⟨y.name.toArray⟩) := (World.cell?_of_block (hg2.block b (by simp; omega) (by simp; omega))).trans ((World.cell?_alloc_lt wr _ _ (by simp; omega)).trans g1)
            have hl2 : wr.heap.size < w2.heap.size := hb2.lt
            have HS2 := Lib.hid (show ∀ wx, Below w2.heap.size w2 wx → (wx.cell? ⟨wr.heap.size, 0, none⟩ = some (.string ⟨x.name.toArray⟩) ∧ wx.cell? ⟨wr.heap.size, 1, none⟩ = some (.int .i64 x.pre) ∧ wx.cell? ⟨wr.heap.size, 2, none⟩ = some (.int .u8 (x.state : Nat)) ∧ wx.cell? ⟨b, o + p * 3, none⟩ = some (.string ⟨y.name.toArray⟩)) from fun wx hb => by
              obtain ⟨e1, e2, e3⟩ := vt_cells (HB2.out.below hb hl2)
              exact ⟨e1, e2, e3, (hb.cell (by simp; omega)).trans g2⟩)
            clear hb2 hg2 g2
            have hS2 := HS2.out _ (Below.refl _ _).drew
            go_wp2_with fail
            refine wp_region_any (by kernel_rfl) ?_
            change wpAny _ _ _ _ _ _ _ (World.drew _)
            refine wpAny_ready (rs := [0]) (by decide +kernel) (by simp) (AllReady.cons rfl (fun K hK => ?_) AllReady.nil)
            go_simp
            refine hK _ _ ?_
            clear hK K
            refine wpAny_ready (rs := [1]) (by kernel_rfl) (by simp) (AllReady.cons rfl (fun K hK => ?_) AllReady.nil)
            go_simp
            go_at_call 35
            refine (HM1.out _ (B2.out.trans ((Below.refl _ _).drew.mono B2.out.size))).mono ?_
            rintro e w3 ⟨rfl, hb3⟩
            rw [HMX.out]
            have B3 := Lib.hid ((Below.refl w2.heap.size w2).drew.trans hb3)
            have hS3 := HS2.out _ B3.out
            clear hb3
            refine hK _ _ ?_
            clear hK K
            refine wpAny_quiet_rest24 2 (by kernel_rfl) (by kernel_rfl) (by kernel_rfl) ?_
            simp only [List.drop_succ_cons, List.drop_zero]
            repeat (go_big_quiet_step (fail))
            refine wpQuiet_nil ?_
            intro _ hw'
            obtain ⟨nq, hw''⟩ := hw'
            subst hw''
            have BE := Lib.hid (B2.out.trans ((B3.out.trans (below_drewN _ _ nq)).mono B2.out.size))
            go_wp2_with fail
            go_roundw
            case rel => exact ⟨k + 1, by omega, by go_num, HN, BE.out⟩
            case measure => simp [intOf]; omega
      · have h0d : decide ((0 : Int) < (k : Int)) = false := by simp; omega
        obtain ⟨x, hx⟩ : ∃ x, x = l[k] := ⟨_, rfl⟩
        have hs2 := fun (h : mayV x = true) => hs ⟨by rw [← hx]; exact h, fun h => absurd h h0⟩
        rw [← hx] at f1 f2 f3 hm hbad
        have HM1 := Lib.hid (fun wx => HM.out x wx hm)
        unfold vv vvs at HM1
        cases hmx : mayV x with
        | false =>
          have HMX := Lib.hid hmx
          have HC := Lib.hid (hbad (.inl hmx))
          clear hs hs2 hbad hmx hc hx 
          go_wp2_with ((with_reducible refine wpList_store_vt rfl (.tmp 4) (.tmp 14) rfl wr.heap.size rfl HBN.out rfl (x := x) rfl ?_); intro w2 hb2 hg2)
          have B2 := Lib.hid ((hbw.out.alloc hsz (.cells #[.string ⟨#[]⟩, .int .i64 0, .int .u8 0] 30)).grown hg2 (by simp; omega) (fun k e => by cases e; exact hsz))
          have HB2 := Lib.hid hb2
          have hl2 : wr.heap.size < w2.heap.size := hb2.lt
          have HS2 := Lib.hid (show ∀ wx, Below w2.heap.size w2 wx → (wx.cell? ⟨wr.heap.size, 0, none⟩ = some (.string ⟨x.name.toArray⟩) ∧ wx.cell? ⟨wr.heap.size, 1, none⟩ = some (.int .i64 x.pre) ∧ wx.cell? ⟨wr.heap.size, 2, none⟩ = some (.int .u8 (x.state : Nat))) from fun wx hb => by
            obtain ⟨e1, e2, e3⟩ := vt_cells (HB2.out.below hb hl2)
            exact ⟨e1, e2, e3⟩)
          clear hb2 hg2
          have hS2 := HS2.out _ (Below.refl _ _).drew
          go_wp2_with fail
          refine wp_region_any (by kernel_rfl) ?_
          change wpAny _ _ _ _ _ _ _ (World.drew _)
          refine wpAny_ready (rs := [0]) (by decide +kernel) (by simp) (AllReady.cons rfl (fun K hK => ?_) AllReady.nil)
          go_simp
          refine hK _ _ ?_
          clear hK K
          refine wpAny_ready (rs := [1]) (by kernel_rfl) (by simp) (AllReady.cons rfl (fun K hK => ?_) AllReady.nil)
          go_simp
          go_at_call 35
          refine (HM1.out _ (B2.out.trans ((Below.refl _ _).drew.mono B2.out.size))).mono ?_
          rintro e w3 ⟨rfl, hb3⟩
          rw [HMX.out]
          have B3 := Lib.hid ((Below.refl w2.heap.size w2).drew.trans hb3)
          have hS3 := HS2.out _ B3.out
          clear hb3
          refine hK _ _ ?_
          clear hK K
          refine wpAny_quiet_rest24 2 (by kernel_rfl) (by kernel_rfl) (by kernel_rfl) ?_
          simp only [List.drop_succ_cons, List.drop_zero]
          repeat (go_big_quiet_step (fail))
          refine wpQuiet_nil ?_
          intro _ hw'
          obtain ⟨nq, hw''⟩ := hw'
          subst hw''
          have BE := Lib.hid (B2.out.trans ((B3.out.trans (below_drewN _ _ nq)).mono B2.out.size))
          go_wp2_with fail
          go_ret
          exact ⟨by rw [HC.out] <;> rfl, BE.out⟩
        | true =>
          have HMX := Lib.hid hmx
          have HN := Lib.hid (hs2 hmx)
          clear hs hs2 hbad hmx hc hx 
          go_wp2_with ((with_reducible refine wpList_store_vt rfl (.tmp 4) (.tmp 14) rfl wr.heap.size rfl HBN.out rfl (x := x) rfl ?_); intro w2 hb2 hg2)
          have B2 := Lib.hid ((hbw.out.alloc hsz (.cells #[.string ⟨#[]⟩, .int .i64 0, .int .u8 0] 30)).grown hg2 (by simp; omega) (fun k e => by cases e; exact hsz))
          have HB2 := Lib.hid hb2
          have hl2 : wr.heap.size < w2.heap.size := hb2.lt
          have HS2 := Lib.hid (show ∀ wx, Below w2.heap.size w2 wx → (wx.cell? ⟨wr.heap.size, 0, none⟩ = some (.string ⟨x.name.toArray⟩) ∧ wx.cell? ⟨wr.heap.size, 1, none⟩ = some (.int .i64 x.pre) ∧ wx.cell? ⟨wr.heap.size, 2, none⟩ = some (.int .u8 (x.state : Nat))) from fun wx hb => by
            obtain ⟨e1, e2, e3⟩ := vt_cells (HB2.out.below hb hl2)
            exact ⟨e1, e2, e3⟩)
          clear hb2 hg2
          have hS2 := HS2.out _ (Below.refl _ _).drew
          go_wp2_with fail
          refine wp_region_any (by kernel_rfl) ?_
          change wpAny _ _ _ _ _ _ _ (World.drew _)
          refine wpAny_ready (rs := [0]) (by decide +kernel) (by simp) (AllReady.cons rfl (fun K hK => ?_) AllReady.nil)
          go_simp
          refine hK _ _ ?_
          clear hK K
          refine wpAny_ready (rs := [1]) (by kernel_rfl) (by simp) (AllReady.cons rfl (fun K hK => ?_) AllReady.nil)
          go_simp
          go_at_call 35
          refine (HM1.out _ (B2.out.trans ((Below.refl _ _).drew.mono B2.out.size))).mono ?_
          rintro e w3 ⟨rfl, hb3⟩
          rw [HMX.out]
          have B3 := Lib.hid ((Below.refl w2.heap.size w2).drew.trans hb3)
          have hS3 := HS2.out _ B3.out
          clear hb3
          refine hK _ _ ?_
          clear hK K
          refine wpAny_quiet_rest24 2 (by kernel_rfl) (by kernel_rfl) (by kernel_rfl) ?_
          simp only [List.drop_succ_cons, List.drop_zero]
          repeat (go_big_quiet_step (fail))
          refine wpQuiet_nil ?_
          intro _ hw'
          obtain ⟨nq, hw''⟩ := hw'
          subst hw''
          have BE := Lib.hid (B2.out.trans ((B3.out.trans (below_drewN _ _ nq)).mono B2.out.size))
          go_wp2_with fail
          go_roundw
          case rel => exact ⟨k + 1, by omega, by go_num, HN, BE.out⟩
          case measure => simp [intOf]; omega
    · have HB := Lib.hid (show checkV l = 0 from checkV_ok.2 ⟨hl, (rowV_at l).2 fun i hi => hpre.out i hi (by omega)⟩)
      obtain rfl : k = l.length := by omega
      go_wp2_with fail
      go_ret
      exact ⟨by rw [HB.out] <;> rfl, hbw.out⟩
end Go.Proofs.YtikhffdbjelanaaDoor
namespace Go.Proofs.YtikhffdbjelanaaDoor
open Go.RowKit
set_option linter.unusedVariables false

theorem cloneV_any (l : List UInt8) (w : World) (hl : l.length ≤ 140737488351232) :
    Calls Tryd.prog 56 #[.string ⟨l.toArray⟩] w fun e w' => e = .returned (.string ⟨l.toArray⟩) ∧ Below w.heap.size w w' := by
  go_enter Tryd.func56, Tryd.ntmps56
  go_wp2_with fail
  refine (Tryd.stringslite_Clone ⟨l.toArray⟩ _ (by simp [ByteArray.size]; omega)).mono ?_
  rintro e w' ⟨rfl, hb⟩
  go_wp2_with fail
  go_ret
  exact ⟨rfl, hb⟩

theorem nameOf_any (v : Vt) (w : World) : Calls Tryd.prog 37 #[vv v] w fun e w' => e = .returned (.string ⟨v.name.toArray⟩) ∧ Below w.heap.size w w' := by
  have B0 := below_new w (.cells (vvs v) 30)
  unfold vvs at B0
  unfold vv vvs
  go_enter Tryd.func37, Tryd.ntmps37
  go_wp2_with fail
  go_ret
  exact ⟨rfl, B0⟩

/-- A result that is a voter in a cell. -/
theorem vt_ret {fn : Func} {p : Tmp} (h : fn.results = #[.cell p 30]) {a : Act} {w : World} {g : Nat} {x : Vt} {Q : Ending → World → Prop}
    (hp : a.tmps.getD p undef = .pointer (some ⟨g, 0, none⟩)) (hB : Blk w g 30 (vvs x)) (hd : a.defers = []) (hQ : Q (.returned (vv x)) w) : bodyPost Tryd.prog fn Q .ret a w := by
  refine bodyPost_ret (v := vv x) ?_ hd hQ
  have hld := run_loadVar_row w g 30 30 _ _ _ hB Tryd.underlying30 rfl size_vt
  have hp' : a.tmps[p]?.getD undef = .pointer (some ⟨g, 0, none⟩) := by simpa using hp
  simp [results, h, hp', asAddr, hld, vv]

/-- A store of a voter as one step of a region that draws. -/
theorem step_store_vt {ops : Array Oper} {o : Oper} {a : Act} {w : World} {K : Act → World → Prop} {Q : Exit → Act → World → Prop} {E : Prop}
    (hgd : o.guard = none) (y z : Operand) (ho : o.op = .store 30 y z) (g : Nat) (hx : a.eval y = .pointer (some ⟨g, 0, none⟩)) {old : Array Value} (hB : Blk w g 30 old) (hold : old.size = 3) {x : Vt} (hy : a.eval z = vv x)
    (h : ∀ w', Blk w' g 30 (vvs x) → w.grownBy w' (some g) → K (a.put o.dst undef) w') :
    if Region.wanted o (yielded ops a.tmps) = true then Oper.wp Tryd.prog o a w K Q else E := by
  have hw : Region.wanted o (yielded ops a.tmps) = true := by simp [Region.wanted, hgd]
  rw [if_pos hw]
  exact wp_store_row _ y z ho g (vvs x) hx hy 30 old hB size_vt hold (by simp [vvs, Value.oneCell']) (h _ (setRow_heap w g _ _ _ _ hB) (grown_setRow24 w g _))

set_option maxRecDepth 100000 in
set_option maxHeartbeats 1000000 in
theorem rtwin_any (v : Vt) (w : World) (hn : v.name.length ≤ 4000000000) : Calls Tryd.prog 40 #[vv v] w fun e w' => e = .returned (vv v) ∧ Below w.heap.size w w' := by
  obtain ⟨wA, hwA⟩ : ∃ wA, wA = (w.alloc (.cells (vvs v) 30)).alloc (.cells #[.string ⟨#[]⟩, .int .i64 0, .int .u8 0] 30) := ⟨_, rfl⟩
  have B0 := Lib.hid (show Below w.heap.size w wA from by rw [hwA]; exact (below_new w _).alloc (by simp) _)
  have H0 := Lib.hid (show Blk wA w.heap.size 30 (vvs v) from by rw [hwA]; exact (Blk.new w _ _).alloc _)
  have H1 := Lib.hid (show Blk wA (w.heap.size + 1) 30 #[.string ⟨#[]⟩, .int .i64 0, .int .u8 0] from by
    have h := Blk.new (w.alloc (.cells (vvs v) 30)) 30 #[.string ⟨#[]⟩, .int .i64 0, .int .u8 0]
    rw [World.size_alloc] at h
    rw [hwA]; exact h)
  have HC := Lib.hid (fun wx => cloneV_any v.name wx (Nat.le_trans hn (by decide)))
  have HS := Lib.hid (show ∀ wx, Blk wx w.heap.size 30 (vvs v) → (wx.cell? ⟨w.heap.size, 0, none⟩ = some (.string ⟨v.name.toArray⟩) ∧ wx.cell? ⟨w.heap.size, 1, none⟩ = some (.int .i64 v.pre) ∧ wx.cell? ⟨w.heap.size, 2, none⟩ = some (.int .u8 (v.state : Nat))) from fun wx h => vt_cells h)
  have HSZ := Lib.hid (show w.heap.size + 1 < wA.heap.size from by rw [hwA]; simp)
  have hS0 := HS.out wA.drew H0.out
  clear hn
  unfold vv vvs
  unfold vvs at hwA
  go_enter Tryd.func40, Tryd.ntmps40
  go_wp2_with fail
  rw [← hwA]
  clear hwA
  go_region_held3 (fun w' => (w'.cell? ⟨w.heap.size, 0, none⟩ = some (.string ⟨v.name.toArray⟩) ∧ w'.cell? ⟨w.heap.size, 1, none⟩ = some (.int .i64 v.pre) ∧ w'.cell? ⟨w.heap.size, 2, none⟩ = some (.int .u8 (v.state : Nat)))) (first | exact hS0 | exact hS3 | exact HS.out _ (((H03.out.far (by simp) _).far (by simp) _).far (by simp) _)) (first
    | (go_simp; go_at_call 56; refine (HC.out _).mono ?_; rintro e w3 ⟨rfl, hb3⟩; have H03 := Lib.hid (show Blk w3 w.heap.size 30 (vvs v) from Blk.below (w := wA.drew) H0.out hb3 (by have := HSZ.out; simp; omega)); have H13 := Lib.hid (show Blk w3 (w.heap.size + 1) 30 #[.string ⟨#[]⟩, .int .i64 0, .int .u8 0] from Blk.below (w := wA.drew) H1.out hb3 (by have := HSZ.out; simp; omega)); have hS3 := HS.out _ H03.out; have B3 := Lib.hid (show Below w.heap.size w w3 from B0.out.drew.trans (hb3.mono (by have := HSZ.out; simp; omega))); clear hb3; have t0 : w3.cell? ⟨w.heap.size + 1, 0, none⟩ = some (.string ⟨#[]⟩) := H13.out.cell 0; have t1 : w3.cell? ⟨w.heap.size + 1, 1, none⟩ = some (.int .i64 0) := H13.out.cell 1; have t2 : w3.cell? ⟨w.heap.size + 1, 2, none⟩ = some (.int .u8 0) := H13.out.cell 2; have r0 := H13.out.frozen 0; have r1 := H13.out.frozen 1; have r2 := H13.out.frozen 2))
  have HB4 := Lib.hid (show Blk _ (w.heap.size + 1) 30 (vvs v) from ((H13.out.set_ 0 (.string ⟨v.name.toArray⟩)).set_ 1 (.int .i64 v.pre)).set_ 2 (.int .u8 (v.state : Nat)))
  have B4 := Lib.hid (((B3.out.setCell (p := ⟨w.heap.size + 1, 0, none⟩) (by simp) (.string ⟨v.name.toArray⟩)).setCell (p := ⟨w.heap.size + 1, 1, none⟩) (by simp) (.int .i64 v.pre)).setCell (p := ⟨w.heap.size + 1, 2, none⟩) (by simp) (.int .u8 (v.state : Nat)))
  go_wp2_with fail
  exact vt_ret (g := w.heap.size + 1) rfl rfl HB4.out rfl ⟨rfl, B4.out⟩
end Go.Proofs.YtikhffdbjelanaaDoor
namespace Go.Proofs.YtikhffdbjelanaaDoor
open Go.RowKit
set_option linter.unusedVariables false

/-- How many names at the front come before n. -/
def posV : List Vt → List UInt8 → Nat
  | [], _ => 0
  | x :: l, n => if ltB x.name n then posV l n + 1 else 0
theorem posV_le : ∀ (l : List Vt) (n : List UInt8), posV l n ≤ l.length
  | [], n => Nat.le_refl _
  | x :: l, n => by
    unfold posV
    split
    · have := posV_le l n; simp; omega
    · simp
theorem posV_mk : ∀ {l : List Vt} {n : List UInt8} {k : Nat}, k ≤ l.length → (∀ j (h : j < l.length), j < k → ltB l[j].name n = true) → (∀ h : k < l.length, ltB l[k].name n = false) → posV l n = k
  | [], n, k, hk, _, _ => by simp at hk; rw [hk]; rfl
  | x :: l, n, 0, _, _, h => by
    unfold posV
    rw [if_neg]
    have := h (by simp)
    simp at this
    simp [this]
  | x :: l, n, k + 1, hk, hp, h => by
    unfold posV
    have h0 := hp 0 (by simp) (by omega)
    rw [if_pos (by simpa using h0), posV_mk (l := l) (k := k) (by simpa using hk) (fun j hj hjk => by
      have := hp (j + 1) (by simpa using hj) (by omega)
      simpa using this) (fun hk' => by
      have := h (by simpa using hk')
      simpa using this)]
theorem posV_pre : ∀ {l : List Vt} {n : List UInt8} (j : Nat) (h : j < l.length), j < posV l n → ltB l[j].name n = true
  | [], n, j, h, _ => by simp at h
  | x :: l, n, j, h, hj => by
    unfold posV at hj
    split at hj
    · rename_i h0
      cases j with
      | zero => simpa using h0
      | succ j => exact posV_pre (l := l) j (by simpa using h) (by omega)
    · omega
theorem posV_at : ∀ {l : List Vt} {n : List UInt8} (h : posV l n < l.length), ltB l[posV l n].name n = false
  | [], n, h => by simp at h
  | x :: l, n, h => by
    by_cases h0 : ltB x.name n = true
    · have e : posV (x :: l) n = posV l n + 1 := by rw [posV, if_pos h0]
      have := posV_at (l := l) (n := n) (by rw [e] at h; simpa using h)
      simp only [e, List.getElem_cons_succ]
      exact this
    · have e : posV (x :: l) n = 0 := by rw [posV, if_neg h0]
      simp only [e, List.getElem_cons_zero]
      simpa using h0
/-- Whether the name stands there. -/
def foundV (l : List Vt) (n : List UInt8) : Bool := match l[posV l n]? with | some x => x.name == n | none => false
theorem foundV_some {l : List Vt} {n : List UInt8} (ha : ascV l = true) (hf : foundV l n = true) : atV l n = some (posV l n) ∧ posV l n < l.length := by
  unfold foundV at hf
  cases hq : l[posV l n]? with
  | none => rw [hq] at hf; cases hf
  | some x =>
    rw [hq] at hf
    obtain ⟨h, hx⟩ := List.getElem?_eq_some_iff.1 hq
    refine ⟨atV_mk h (by rw [hx]; simpa using hf) fun j hj e => ?_, h⟩
    have := posV_pre j (by omega) hj
    rw [e, ltB_irrefl] at this
    cases this
theorem foundV_none {l : List Vt} {n : List UInt8} (ha : ascV l = true) (hf : foundV l n = false) : atV l n = none := by
  refine atV_none.2 fun v hv e => ?_
  obtain ⟨j, hj, rfl⟩ := List.getElem_of_mem hv
  rcases Nat.lt_trichotomy j (posV l n) with h | h | h
  · have := posV_pre j hj h
    rw [e, ltB_irrefl] at this
    cases this
  · unfold foundV at hf
    rw [← h, List.getElem?_eq_getElem hj] at hf
    simp [e] at hf
  · have hp : posV l n < l.length := by omega
    have h1 := ascV_lt ha j (posV l n) hj h
    have h2 := posV_at hp
    rw [e] at h1
    rw [h2] at h1
    cases h1
theorem insV_pos : ∀ {l : List Vt} {v : Vt}, ascV l = true → foundV l v.name = false → insV l v = l.take (posV l v.name) ++ v :: l.drop (posV l v.name)
  | [], v, _, _ => rfl
  | x :: l, v, ha, hf => by
    by_cases h0 : ltB x.name v.name = true
    · have e : posV (x :: l) v.name = posV l v.name + 1 := by rw [posV, if_pos h0]
      have hf' : foundV l v.name = false := by
        unfold foundV at hf ⊢
        rw [e, List.getElem?_cons_succ] at hf
        exact hf
      have ha' : ascV l = true := by
        cases l with
        | nil => rfl
        | cons y l => rw [ascV, Bool.and_eq_true] at ha; exact ha.2
      rw [e, insV, if_neg (by rw [ltB_asymm h0]; simp), insV_pos ha' hf']
      rfl
    · have e : posV (x :: l) v.name = 0 := by rw [posV, if_neg h0]
      have hx : x.name ≠ v.name := by
        unfold foundV at hf
        rw [e] at hf
        simpa using hf
      have h1 : ltB v.name x.name = true := by
        cases hc : ltB v.name x.name with
        | true => rfl
        | false => exact absurd (ltB_tri (by simpa using h0) hc) hx
      rw [e, insV, if_pos h1]
      rfl

set_option maxRecDepth 100000 in
set_option maxHeartbeats 2000000 in
theorem position_any (l : List Vt) (n : List UInt8) (A : Option Addr) (c : Nat) (w : World) (hr : Rvt w w.heap.size A c l) (hl : l.length ≤ 1000000) :
    Calls Tryd.prog 36 #[.slice A l.length c, .string ⟨n.toArray⟩, .func (.func 37) #[] #[]] w fun e w' => e = .returned (.tuple #[.int .i64 (posV l n : Nat), .bool (foundV l n)]) ∧ Below w.heap.size w w' := by
  have HR := Lib.hid hr
  clear hr
  go_enter Tryd.func36, Tryd.ntmps36
  go_wp2_with fail
  go_loopw [6] (fun i wr => ∃ k : Nat, k ≤ l.length ∧ i = .int .i64 k ∧ Hid (∀ j (h : j < l.length), j < k → ltB l[j].name n = true) ∧ Hid (Below w.heap.size w wr)) (fun i _ => l.length - (intOf i).toNat)
  case atStart => exact ⟨0, Nat.zero_le _, rfl, (fun j h hj => absurd hj (Nat.not_lt_zero j)), Below.refl _ _⟩
  case round =>
    obtain ⟨k, hk, rfl, hpre, hbw⟩ := hrel
    by_cases hlt : k < l.length
    · obtain ⟨b, o, rfl, hbb, hc⟩ := (HR.out.below hbw.out).vt hlt
      obtain ⟨f1, f2, f3⟩ := hc k hlt
      obtain ⟨x, hx⟩ : ∃ x, x = l[k] := ⟨_, rfl⟩
      rw [← hx] at f1 f2 f3
      have HN := Lib.hid (fun wx => nameOf_any x wx)
      unfold vv vvs at HN
      cases hlx : ltB x.name n with
      | true =>
        have HP := Lib.hid (show ∀ j (h : j < l.length), j < k + 1 → ltB l[j].name n = true from fun j h hj => by
          by_cases e : j = k
          · subst e; rw [← hx]; exact hlx
          · exact hpre.out j h (by omega))
        unfold ltB at hlx
        clear hx hc
        go_wp2_with fail
        refine (HN.out _).mono ?_
        rintro e w1 ⟨rfl, hb1⟩
        have B1 := Lib.hid (hbw.out.trans (hb1.mono hbw.out.size))
        clear hb1
        go_wp2_with fail
        go_roundw
        case rel => exact ⟨k + 1, by omega, by go_num, HP, B1⟩
        case measure => simp [intOf]; omega
      | false =>
        have HQ := Lib.hid (show posV l n = k from posV_mk hk (fun j h hj => hpre.out j h hj) (fun h => by rw [← hx]; exact hlx))
        have HF := Lib.hid (show foundV l n = (x.name == n) by unfold foundV; rw [HQ.out, List.getElem?_eq_getElem hlt, ← hx])
        unfold ltB at hlx
        clear hx hc
        go_wp2_with fail
        refine (HN.out _).mono ?_
        rintro e w1 ⟨rfl, hb1⟩
        have B1 := Lib.hid (hbw.out.trans (hb1.mono hbw.out.size))
        have f1A := (hb1.cell (p := ⟨b, o + k * 3, none⟩) (by have := hbw.out.size; simp; omega)).trans f1
        have f2A := (hb1.cell (p := ⟨b, o + k * 3 + 1, none⟩) (by have := hbw.out.size; simp; omega)).trans f2
        have f3A := (hb1.cell (p := ⟨b, o + k * 3 + 2, none⟩) (by have := hbw.out.size; simp; omega)).trans f3
        clear hb1
        go_wp2_with fail
        refine (HN.out _).mono ?_
        rintro e w2 ⟨rfl, hb2⟩
        have B2 := Lib.hid (B1.out.trans (hb2.mono B1.out.size))
        clear hb2
        cases hxe : (x.name == n) with
        | true =>
          go_wp2_with fail
          go_ret2
          exact ⟨by rw [HQ.out, HF.out, hxe] <;> rfl, B2.out⟩
        | false =>
          go_wp2_with fail
          go_ret2
          exact ⟨by rw [HQ.out, HF.out, hxe] <;> rfl, B2.out⟩
    · obtain rfl : k = l.length := by omega
      have HQ := Lib.hid (show posV l n = l.length from posV_mk (Nat.le_refl _) (fun j h hj => hpre.out j h hj) (fun h => absurd h (Nat.lt_irrefl _)))
      have HF := Lib.hid (show foundV l n = false by unfold foundV; rw [HQ.out, List.getElem?_eq_none (Nat.le_refl _)])
      go_wp2_with fail
      go_ret2
      exact ⟨by rw [HQ.out, HF.out] <;> rfl, hbw.out⟩

/-- The place of a name: the index, or an error. -/
def placeV (l : List Vt) (n : List UInt8) : Int × Int := if checkV l ≠ 0 then (0, checkV l) else match atV l n with | some i => ((i : Nat), 0) | none => (0, 6)
theorem checkV_asc {l : List Vt} (h : checkV l = 0) : ascV l = true := ((rowV_iff l).1 (checkV_ok.1 h).2).2

set_option maxRecDepth 100000 in
set_option maxHeartbeats 1000000 in
theorem place_v (l : List Vt) (n : List UInt8) (A : Option Addr) (c : Nat) (w : World) (hr : Rvt w w.heap.size A c l) (hn : ∀ v ∈ l, v.name.length ≤ 4000000000) (hT : Tab w) :
    Calls Tryd.prog 43 #[.slice A l.length c, .string ⟨n.toArray⟩] w fun e w' => e = .returned (.tuple #[.int .i64 (placeV l n).1, .int .i64 (placeV l n).2]) ∧ Below w.heap.size w w' := by
  have HK := Lib.hid (checkV_any l A c w hr hn hT)
  by_cases h0 : checkV l = 0
  · have hl := (checkV_ok.1 h0).1
    have HE := Lib.hid h0
    have HP := Lib.hid (fun wx (hb : Below w.heap.size w wx) => position_any l n A c wx ((hr.below hb).more hb.size) (by omega))
    cases hf : foundV l n with
    | true =>
      have ⟨h1, h2⟩ := foundV_some (checkV_asc h0) hf
      have HQ := Lib.hid (show placeV l n = (((posV l n : Nat) : Int), (0 : Int)) by unfold placeV; rw [if_neg (by omega), h1])
      have HF := Lib.hid hf
      clear h0 hr hn hT h1 h2 hf hl
      go_enter Tryd.func43, Tryd.ntmps43
      go_wp2_with fail
      refine HK.out.mono ?_
      rintro e w1 ⟨rfl, hb⟩
      rw [HE.out]
      have B1 := Lib.hid hb
      clear hb
      go_wp2_with fail
      refine (HP.out _ B1.out).mono ?_
      rintro e w2 ⟨rfl, hb2⟩
      rw [HF.out]
      have B2 := Lib.hid (B1.out.trans (hb2.mono B1.out.size))
      clear hb2
      go_wp2_with fail
      go_ret2
      exact ⟨by rw [HQ.out] <;> rfl, B2.out⟩
    | false =>
      have h1 := foundV_none (checkV_asc h0) hf
      have HQ := Lib.hid (show placeV l n = (0, 6) by unfold placeV; rw [if_neg (by omega), h1])
      have HF := Lib.hid hf
      clear h0 hr hn hT h1 hf hl
      go_enter Tryd.func43, Tryd.ntmps43
      go_wp2_with fail
      refine HK.out.mono ?_
      rintro e w1 ⟨rfl, hb⟩
      rw [HE.out]
      have B1 := Lib.hid hb
      clear hb
      go_wp2_with fail
      refine (HP.out _ B1.out).mono ?_
      rintro e w2 ⟨rfl, hb2⟩
      rw [HF.out]
      have B2 := Lib.hid (B1.out.trans (hb2.mono B1.out.size))
      clear hb2
      go_wp2_with fail
      go_ret2
      exact ⟨by rw [HQ.out] <;> rfl, B2.out⟩
  · rcases ne_zero_cases h0 with h4 | h4
    all_goals
      have HE := Lib.hid h4
      have HQ := Lib.hid (show placeV l n = (0, checkV l) by unfold placeV; rw [if_pos h0])
      rw [h4] at HQ
      clear h0 h4 hr hn hT
      go_enter Tryd.func43, Tryd.ntmps43
      go_wp2_with fail
      refine HK.out.mono ?_
      rintro e w1 ⟨rfl, hb⟩
      rw [HE.out]
      go_wp2_with fail
      go_ret2
      exact ⟨by rw [HQ.out] <;> rfl, hb⟩
end Go.Proofs.YtikhffdbjelanaaDoor
