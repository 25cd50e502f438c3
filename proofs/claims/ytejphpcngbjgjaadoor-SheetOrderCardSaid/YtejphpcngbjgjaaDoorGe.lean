/- Sheets, policies, decisions as values; the reference's Wide, Boxes. The reference's Check, MayPolicy, Doubt, decided, in. The reference's column. -/
import Derived.Test.YtejphpcngbjgjaaDoorGb
import Derived.Test.YtejphpcngbjgjaaDoorGc
import Derived.Test.YtejphpcngbjgjaaDoorGd
import Derived.Deep.RegionHeld3
import Derived.BigQuiet
namespace Go.Proofs.YtejphpcngbjgjaaDoor
open Go.RowKit
set_option linter.unusedVariables false

/-- A sheet, a policy as values; the cells of a decision. -/
def shv (A : Option Addr) (c : Nat) (s : List UInt8) : Value := .agg #[.slice A s.length c]
def pov (p : Po) : Value := .agg #[.int .u8 (p.low : Nat), .int .u8 (p.high : Nat), .int .i64 p.skips]
def dl (d : De) : List Value := [.int .i64 d.box, .bool d.marked]
theorem dl_len (d : De) : (dl d).length = 2 := rfl
theorem dl_pos (d : De) : 0 < (dl d).length := by rw [dl_len]; omega
theorem dl_one (d : De) : ∀ u ∈ dl d, u.oneCell' = true := by
  intro u hu
  simp [dl] at hu
  rcases hu with rfl | rfl <;> rfl
abbrev Rde (w : World) (B : Nat) (A : Option Addr) (c : Nat) (l : List De) : Prop := Rk 2 dl w B A c l
theorem Rk.de {w : World} {B c : Nat} {A : Option Addr} {l : List De} (h : Rde w B A c l) {k : Nat} (hk : k < l.length) :
    ∃ b o, A = some ⟨b, o, none⟩ ∧ b < B ∧ ∀ j (hj : j < l.length), w.cell? ⟨b, o + j * 2, none⟩ = some (.int .i64 l[j].box) ∧ w.cell? ⟨b, o + j * 2 + 1, none⟩ = some (.bool l[j].marked) := by
  obtain ⟨b, o, hA, hb, hc⟩ := Rk.at_ h dl_pos hk
  refine ⟨b, o, hA, hb, fun j hj => ⟨hc j hj 0 _ rfl, ?_⟩⟩
  have := hc j hj 1 _ rfl
  rwa [← Nat.add_assoc] at this

theorem wideS_rank {c : Ct} (h : kindM c.rule = 1) : wideS c = c.cands.length := by unfold wideS; rw [if_pos h]
theorem wideS_score {c : Ct} (h1 : ¬ kindM c.rule = 1) (h : kindM c.rule = 3) : wideS c = 11 := by unfold wideS; rw [if_neg h1, if_pos h]
theorem wideS_mark {c : Ct} (h1 : ¬ kindM c.rule = 1) (h : ¬ kindM c.rule = 3) : wideS c = 1 := by unfold wideS; rw [if_neg h1, if_neg h]

set_option maxRecDepth 100000 in
set_option maxHeartbeats 1000000 in
theorem refWide_any (x : Ct) (A : Option Addr) (c : Nat) (w : World) (hrule : x.rule ≤ 255) :
    Calls Tryd.prog 20 #[cv A c x] w fun e w' => e = .returned (.int .i64 (wideS x : Nat)) ∧ Below w.heap.size w w' := by
  have B0 := Lib.hid (below_new w (.cells (cvs A c x) 24))
  have HK := Lib.hid (fun wx => refKindOf_any x.rule wx hrule)
  unfold cvs at B0
  unfold cv cvs
  by_cases h1 : kindM x.rule = 1
  · have HE := Lib.hid h1
    have HQ := Lib.hid (wideS_rank h1)
    clear h1
    go_enter Tryd.func20, Tryd.ntmps20
    go_wp2_with fail
    refine (HK.out _).mono ?_
    rintro e w1 ⟨rfl, rfl⟩
    rw [HE.out]
    go_wp2_with fail
    go_ret
    exact ⟨by rw [HQ.out] <;> rfl, B0.out⟩
  by_cases h3 : kindM x.rule = 3
  · have HE := Lib.hid h3
    have HQ := Lib.hid (wideS_score h1 h3)
    clear h1 h3
    go_enter Tryd.func20, Tryd.ntmps20
    go_wp2_with fail
    refine (HK.out _).mono ?_
    rintro e w1 ⟨rfl, rfl⟩
    rw [HE.out]
    go_wp2_with fail
    go_ret
    exact ⟨by rw [HQ.out] <;> rfl, B0.out⟩
  · have HQ := Lib.hid (wideS_mark h1 h3)
    have e1 : (((kindM x.rule : Nat) : Int) == 1) = false := by rw [beq_eq_false_iff_ne]; omega
    have e3 : (((kindM x.rule : Nat) : Int) == 3) = false := by rw [beq_eq_false_iff_ne]; omega
    have d1 : ¬ ((kindM x.rule : Nat) : Int) = 1 := by omega
    have d3 : ¬ ((kindM x.rule : Nat) : Int) = 3 := by omega
    obtain ⟨K, hK⟩ : ∃ K, K = kindM x.rule := ⟨_, rfl⟩
    rw [← hK] at HK e1 e3 d1 d3
    clear h1 h3 hK
    go_enter Tryd.func20, Tryd.ntmps20
    go_wp2_with fail
    refine (HK.out _).mono ?_
    rintro e w1 ⟨rfl, rfl⟩
    go_wp2_with fail
    go_ret
    exact ⟨by rw [HQ.out] <;> rfl, B0.out⟩

/-- What is asked of a contest that a call is given. -/
theorem CtOk.box {w : World} {A : Option Addr} {c : Nat} {x : Ct} (h : CtOk w A c x) (o : Obj) : CtOk (w.alloc o) A c x := h.below (below_new w o)
theorem checkCt_any (x : Ct) (A : Option Addr) (c : Nat) (w : World) (h : CtOk w A c x) (hn : x.name.length ≤ 4000000000) (hl : ∀ y ∈ x.cands, y.length ≤ 4000000000) :
    Calls Tryd.prog 19 #[cv A c x] w fun e w' => e = .returned (.int .i64 (checkM x)) ∧ Below w.heap.size w w' := refCheck_any x A c w h.rd hn hl h.rule h.seats
theorem checkM_few {c : Ct} (h : checkM c = 0) : 1 ≤ c.cands.length ∧ c.cands.length ≤ 10 ∧ 1 ≤ c.rule ∧ c.rule ≤ 16 := by
  have h1 := (mayB_iff c).1 (checkM_ok.1 h)
  have h2 := h1.2.2.2.1
  simp [ruleB] at h2
  exact ⟨h1.2.1, h1.2.2.1, h2.1, h2.2⟩
theorem wideS_le {c : Ct} (h : checkM c = 0) : wideS c ≤ 11 := by
  have := checkM_few h
  unfold wideS
  split
  · omega
  · split <;> omega

set_option maxRecDepth 100000 in
set_option maxHeartbeats 1000000 in
theorem refBoxes_any (x : Ct) (A : Option Addr) (c : Nat) (w : World) (h : CtOk w A c x) (hn : x.name.length ≤ 4000000000) (hl : ∀ y ∈ x.cands, y.length ≤ 4000000000) :
    Calls Tryd.prog 9 #[cv A c x] w fun e w' => e = .returned (.tuple #[.int .i64 (boxesS x).1, .int .i64 (boxesS x).2]) ∧ Below w.heap.size w w' := by
  have B0 := Lib.hid (below_new w (.cells (cvs A c x) 24))
  have H0 := Lib.hid (Blk.new w 24 (cvs A c x))
  have HC := Lib.hid (checkCt_any x A c _ (h.box (.cells (cvs A c x) 24)) hn hl)
  have HW := Lib.hid (fun wx => refWide_any x A c wx h.rule)
  clear h hn hl
  unfold cv at HW
  unfold cv at HC
  unfold cvs at B0 HC HW H0
  unfold cv cvs
  by_cases h0 : checkM x = 0
  case neg =>
    have HQ := Lib.hid (show boxesS x = (0, checkM x) by unfold boxesS; rw [if_pos h0])
    rcases checkM_cases x with h4 | h4 | h4
    · exact absurd h4 h0
    all_goals
      have HE := Lib.hid h4
      rw [h4] at HQ
      clear h0 h4
      go_enter Tryd.func9, Tryd.ntmps9
      go_wp2_with fail
      refine HC.out.mono ?_
      rintro e w1 ⟨rfl, hb⟩
      rw [HE.out]
      go_wp2_with fail
      go_ret2
      exact ⟨by rw [HQ.out] <;> rfl, B0.out.trans (hb.mono B0.out.size)⟩
  have HE := Lib.hid h0
  have HQ := Lib.hid (show boxesS x = (((x.cands.length * wideS x : Nat) : Int), (0 : Int)) by unfold boxesS manyS; rw [if_neg (by omega)])
  have hw := wideS_le h0
  have hcl := (checkM_few h0).2.1
  obtain ⟨W, hW⟩ : ∃ W, W = wideS x := ⟨_, rfl⟩
  rw [← hW] at HW hw HQ
  have hmul : (x.cands.length : Int) * (W : Int) = ((x.cands.length * W : Nat) : Int) := by simp
  have hsm : x.cands.length * W ≤ 110 := Nat.le_trans (Nat.mul_le_mul hcl hw) (by decide)
  have hwr : IntKind.i64.wrap ((x.cands.length : Int) * (W : Int)) = ((x.cands.length * W : Nat) : Int) := by rw [hmul, IntKind.wrap_i64]; omega
  clear h0 hW hmul
  go_enter Tryd.func9, Tryd.ntmps9
  go_wp2_with fail
  refine HC.out.mono ?_
  rintro e w1 ⟨rfl, hb⟩
  rw [HE.out]
  have B1 := Lib.hid (B0.out.trans (hb.mono B0.out.size))
  have H1 := Lib.hid (H0.out.below hb (by simp))
  clear hb
  have HS := Lib.hid (show ∀ wx, Below w1.heap.size w1 wx → (wx.cell? ⟨w.heap.size, 0, none⟩ = some (.string ⟨x.name.toArray⟩) ∧ wx.cell? ⟨w.heap.size, 1, none⟩ = some (.slice A x.cands.length c) ∧ wx.cell? ⟨w.heap.size, 2, none⟩ = some (.int .i64 x.seats) ∧ wx.cell? ⟨w.heap.size, 3, none⟩ = some (.int .u8 x.rule)) from fun wx hb => by
    have h := H1.out.below hb H1.out.lt
    exact ⟨h.cell 0, h.cell 1, h.cell 2, h.cell 3⟩)
  have hS1 := HS.out _ (Below.refl _ w1).drew
  go_wp2_with fail
  go_region_held3 (fun w' => (w'.cell? ⟨w.heap.size, 0, none⟩ = some (.string ⟨x.name.toArray⟩) ∧ w'.cell? ⟨w.heap.size, 1, none⟩ = some (.slice A x.cands.length c) ∧ w'.cell? ⟨w.heap.size, 2, none⟩ = some (.int .i64 x.seats) ∧ w'.cell? ⟨w.heap.size, 3, none⟩ = some (.int .u8 x.rule))) (first | exact hS1 | exact hS2) (first
    | (go_simp; go_at_call 20; refine (HW.out _).mono ?_; rintro e w2 ⟨rfl, hb2⟩; have BB := Lib.hid ((Below.refl w1.heap.size w1).drew.trans hb2); have hS2 := HS.out _ BB.out; clear hb2))
  go_wp2_with fail
  go_ret2
  exact ⟨by rw [HQ.out] <;> rfl, B1.out.trans (BB.out.mono B1.out.size)⟩
end Go.Proofs.YtejphpcngbjgjaaDoor
namespace Go.Proofs.YtejphpcngbjgjaaDoor
open Go.RowKit
set_option linter.unusedVariables false

theorem checkM_three (c : Ct) (h : checkM c ≠ 0) : checkM c = 4 ∨ checkM c = 8 := by
  rcases checkM_cases c with h1 | h1 | h1
  · exact absurd h1 h
  · exact .inl h1
  · exact .inr h1

set_option maxRecDepth 100000 in
set_option maxHeartbeats 1000000 in
theorem refCheckS_any (x : Ct) (A : Option Addr) (c : Nat) (s : List UInt8) (As : Option Addr) (cs : Nat) (w : World) (h : CtOk w A c x) (hn : x.name.length ≤ 4000000000) (hl : ∀ y ∈ x.cands, y.length ≤ 4000000000) (hs : Rf bv w w.heap.size As cs s) :
    Calls Tryd.prog 11 #[cv A c x, shv As cs s] w fun e w' => e = .returned (.int .i64 (checkS x s)) ∧ Below w.heap.size w w' := by
  obtain ⟨wA, hwA⟩ : ∃ wA, wA = (w.alloc (.cells (cvs A c x) 24)).alloc (.cells #[.slice As s.length cs] 27) := ⟨_, rfl⟩
  have B0 := Lib.hid (show Below w.heap.size w wA from by rw [hwA]; exact (below_new w _).alloc (by simp) _)
  have H0 := Lib.hid (show Blk wA (w.heap.size + 1) 27 #[.slice As s.length cs] from by
    have h := Blk.new (w.alloc (.cells (cvs A c x) 24)) 27 #[.slice As s.length cs]
    rw [World.size_alloc] at h
    rw [hwA]; exact h)
  have HB := Lib.hid (refBoxes_any x A c wA (h.below B0.out) hn hl)
  have HSR := Lib.hid hs
  clear h hn hl hs
  unfold cv cvs at HB
  unfold cvs at hwA
  unfold cv cvs shv
  by_cases h0 : checkM x = 0
  case neg =>
    have HQ := Lib.hid (show checkS x s = checkM x by unfold checkS; rw [if_pos h0])
    have HX := Lib.hid (show boxesS x = (0, checkM x) by unfold boxesS; rw [if_pos h0])
    rcases checkM_three x h0 with h4 | h4
    all_goals
      rw [h4] at HQ HX
      clear h0 h4
      go_enter Tryd.func11, Tryd.ntmps11
      go_wp2_with fail
      rw [← hwA]
      refine HB.out.mono ?_
      rintro e w1 ⟨rfl, hb⟩
      rw [HX.out]
      go_wp2_with fail
      go_ret
      exact ⟨by rw [HQ.out] <;> rfl, B0.out.trans (hb.mono B0.out.size)⟩
  have HX := Lib.hid (show boxesS x = (((manyS x : Nat) : Int), (0 : Int)) by unfold boxesS; rw [if_neg (by omega)])
  have hm110 : manyS x ≤ 110 := Nat.le_trans (Nat.mul_le_mul (checkM_few h0).2.1 (wideS_le h0)) (by decide)
  by_cases hlen : s.length = manyS x
  case neg =>
    have HQ := Lib.hid (show checkS x s = 8 by unfold checkS; rw [if_neg (by omega), if_pos hlen])
    have hne : ((s.length : Int) != ((manyS x : Nat) : Int)) = true := by rw [bne_iff_ne]; omega
    have hne2 : ¬ (s.length : Int) = ((manyS x : Nat) : Int) := by omega
    obtain ⟨M, hM⟩ : ∃ M, M = manyS x := ⟨_, rfl⟩
    rw [← hM] at HX hne hne2
    clear h0 hlen hM hm110
    go_enter Tryd.func11, Tryd.ntmps11
    go_wp2_with fail
    rw [← hwA]
    refine HB.out.mono ?_
    rintro e w1 ⟨rfl, hb⟩
    rw [HX.out]
    have H1 := Lib.hid (H0.out.below hb H0.out.lt)
    have c1 : w1.cell? ⟨w.heap.size + 1, 0, none⟩ = some (.slice As s.length cs) := H1.out.cell 0
    have B1 := Lib.hid (B0.out.trans (hb.mono B0.out.size))
    clear hb
    go_wp2_with fail
    go_ret
    exact ⟨by rw [HQ.out] <;> rfl, B1.out⟩
  have HD := Lib.hid (show checkS x s = if darkS s then 0 else 8 by unfold checkS; rw [if_neg (by omega), if_neg (by omega)])
  rw [← hlen] at HX hm110
  clear h0 hlen
  go_enter Tryd.func11, Tryd.ntmps11
  go_wp2_with fail
  rw [← hwA]
  refine HB.out.mono ?_
  rintro e w1 ⟨rfl, hb⟩
  rw [HX.out]
  have H1 := Lib.hid (H0.out.below hb H0.out.lt)
  have c1 : w1.cell? ⟨w.heap.size + 1, 0, none⟩ = some (.slice As s.length cs) := H1.out.cell 0
  have B1 := Lib.hid (B0.out.trans (hb.mono B0.out.size))
  clear hb hwA
  go_wp2_with fail
  go_loop [7] (fun i => ∃ k : Nat, k ≤ s.length ∧ i = .int .i64 k ∧ Hid (∀ j (h : j < s.length), j < k → s[j].toNat ≤ 100)) (fun i => s.length - (intOf i).toNat)
  case atStart => exact ⟨0, Nat.zero_le _, rfl, fun j h hj => absurd hj (Nat.not_lt_zero j)⟩
  case round =>
    obtain ⟨k, hk, rfl, hpre⟩ := hrel
    by_cases hlt : k < s.length
    · obtain ⟨b, o, rfl, hbb, hcc⟩ := (HSR.out.below B1.out).at_ hlt
      have hcx := hcc k hlt
      obtain ⟨z, hz⟩ : ∃ z, z = s[k] := ⟨_, rfl⟩
      rw [← hz] at hcx
      unfold bv at hcx
      clear hcc
      by_cases he : z.toNat ≤ 100
      · have hd : decide ((100 : Int) < (z.toNat : Int)) = false := by simp; omega
        have HN := Lib.hid (show ∀ j (h : j < s.length), j < k + 1 → s[j].toNat ≤ 100 from fun j h hj => by
          by_cases e : j = k
          · subst e; rw [← hz]; exact he
          · exact hpre.out j h (by omega))
        clear hz he
        go_wp2_with fail
        go_round
        case rel => exact ⟨k + 1, by omega, by go_num, HN⟩
        case measure => simp [intOf]; omega
      · have hd : decide ((100 : Int) < (z.toNat : Int)) = true := by simp; omega
        have HQ := Lib.hid (show checkS x s = 8 by
          rw [HD.out, if_neg]
          intro e
          unfold darkS at e
          have h := List.all_eq_true.1 e _ (List.getElem_mem hlt)
          rw [← hz] at h
          simp at h
          omega)
        clear hz he
        go_wp2_with fail
        go_ret
        exact ⟨by rw [HQ.out] <;> rfl, B1.out⟩
    · obtain rfl : k = s.length := by omega
      have HQ := Lib.hid (show checkS x s = 0 by
        rw [HD.out, if_pos]
        unfold darkS
        rw [List.all_eq_true]
        intro b hb
        obtain ⟨j, hj, rfl⟩ := List.getElem_of_mem hb
        simpa using hpre.out j hj hj)
      go_wp2_with fail
      go_ret
      exact ⟨by rw [HQ.out] <;> rfl, B1.out⟩

set_option maxRecDepth 100000 in
set_option maxHeartbeats 1000000 in
theorem refMayPolicy_any (p : Po) (w : World) : Calls Tryd.prog 27 #[pov p] w fun e w' => e = .returned (.bool (mayP p)) ∧ Below w.heap.size w w' := by
  obtain ⟨a, b, s⟩ := p
  have B0 := Lib.hid (below_new w (.cells #[.int .u8 (a : Nat), .int .u8 (b : Nat), .int .i64 s] 38))
  have hm : mayP ⟨a, b, s⟩ = (decide (1 ≤ a) && (decide (a ≤ b) && (decide (b ≤ 100) && (decide (0 ≤ s) && decide (s ≤ 10))))) := rfl
  unfold pov
  by_cases h1 : 1 ≤ a
  case neg =>
    have d1 : decide ((1 : Int) ≤ (a : Int)) = false := by simp; omega
    have HQ := Lib.hid (show mayP ⟨a, b, s⟩ = false by rw [hm, decide_eq_false h1]; rfl)
    clear hm h1
    go_enter Tryd.func27, Tryd.ntmps27
    go_wp2_with fail
    go_ret
    exact ⟨by rw [HQ.out] <;> rfl, B0.out⟩
  have d1 : decide ((1 : Int) ≤ (a : Int)) = true := by simp; omega
  by_cases h2 : a ≤ b
  case neg =>
    have d2 : decide ((a : Int) ≤ (b : Int)) = false := by simp; omega
    have HQ := Lib.hid (show mayP ⟨a, b, s⟩ = false by rw [hm, decide_eq_false h2]; simp)
    clear hm h1
    go_enter Tryd.func27, Tryd.ntmps27
    go_wp2_with fail
    go_ret
    exact ⟨by rw [HQ.out] <;> rfl, B0.out⟩
  have d2 : decide ((a : Int) ≤ (b : Int)) = true := by simp; omega
  by_cases h3 : b ≤ 100
  case neg =>
    have d3 : decide ((b : Int) ≤ 100) = false := by simp; omega
    have HQ := Lib.hid (show mayP ⟨a, b, s⟩ = false by rw [hm, decide_eq_false h3]; simp)
    clear hm h1 h3
    go_enter Tryd.func27, Tryd.ntmps27
    go_wp2_with fail
    go_ret
    exact ⟨by rw [HQ.out] <;> rfl, B0.out⟩
  have d3 : decide ((b : Int) ≤ 100) = true := by simp; omega
  by_cases h4 : 0 ≤ s
  case neg =>
    have d4 : decide ((0 : Int) ≤ s) = false := by simpa using h4
    have HQ := Lib.hid (show mayP ⟨a, b, s⟩ = false by rw [hm, decide_eq_false h4]; simp)
    clear hm h1 h3 h4
    go_enter Tryd.func27, Tryd.ntmps27
    go_wp2_with fail
    go_ret
    exact ⟨by rw [HQ.out] <;> rfl, B0.out⟩
  have d4 : decide ((0 : Int) ≤ s) = true := by simpa using h4
  have HQ := Lib.hid (show mayP ⟨a, b, s⟩ = decide (s ≤ 10) by rw [hm, decide_eq_true h1, decide_eq_true h2, decide_eq_true h3, decide_eq_true h4]; rfl)
  clear hm h1 h3 h4
  go_enter Tryd.func27, Tryd.ntmps27
  go_wp2_with fail
  go_ret
  exact ⟨by rw [HQ.out] <;> rfl, B0.out⟩

set_option maxRecDepth 100000 in
set_option maxHeartbeats 1000000 in
theorem refDoubt_any (p : Po) (b : UInt8) (w : World) : Calls Tryd.prog 28 #[pov p, .int .u8 b.toNat] w fun e w' => e = .returned (.bool (doubtP p b)) ∧ Below w.heap.size w w' := by
  obtain ⟨a, h, s⟩ := p
  have B0 := Lib.hid (below_new w (.cells #[.int .u8 (a : Nat), .int .u8 (h : Nat), .int .i64 s] 38))
  have hm : doubtP ⟨a, h, s⟩ b = (decide (a ≤ b.toNat) && decide (b.toNat < h)) := rfl
  obtain ⟨n, hn⟩ : ∃ n, n = b.toNat := ⟨_, rfl⟩
  rw [← hn] at hm
  rw [← hn]
  unfold pov
  by_cases h1 : a ≤ n
  case neg =>
    have d1 : decide ((a : Int) ≤ (n : Int)) = false := by simp; omega
    have HQ := Lib.hid (show doubtP ⟨a, h, s⟩ b = false by rw [hm, decide_eq_false h1]; rfl)
    clear hm hn
    go_enter Tryd.func28, Tryd.ntmps28
    go_wp2_with fail
    go_ret
    exact ⟨by rw [HQ.out] <;> rfl, B0.out⟩
  have d1 : decide ((a : Int) ≤ (n : Int)) = true := by simp; omega
  have HQ := Lib.hid (show doubtP ⟨a, h, s⟩ b = decide (n < h) by rw [hm, decide_eq_true h1]; rfl)
  clear hm hn
  go_enter Tryd.func28, Tryd.ntmps28
  go_wp2_with fail
  go_ret
  exact ⟨by rw [HQ.out] <;> rfl, B0.out⟩

set_option maxRecDepth 100000 in
set_option maxHeartbeats 1000000 in
theorem refDecided_any (l : List De) (i : Int) (A : Option Addr) (c : Nat) (w : World) (hr : Rde w w.heap.size A c l) (hl : l.length ≤ 1000000) :
    Calls Tryd.prog 45 #[.slice A l.length c, .int .i64 i] w fun e w' => e = .returned (.tuple #[.bool ((decidedS l i).getD false), .bool (decidedS l i).isSome]) ∧ w' = w := by
  have hdrop : ∀ (l : List De) (k : Nat) (h : k < l.length), (∀ j (h : j < l.length), j < k → l[j].box ≠ i) → l[k].box = i → decidedS l i = some l[k].marked := by
    intro l
    induction l with
    | nil => intro k h; simp at h
    | cons d l ih =>
      intro k h hp he
      unfold decidedS
      cases k with
      | zero => rw [if_pos (by simpa using he)]; rfl
      | succ k =>
        have h0 := hp 0 (by simp) (by omega)
        rw [if_neg (by simpa using h0), ih k (by simpa using h) (fun j hj hjk => by
          have := hp (j + 1) (by simpa using hj) (by omega)
          simpa using this) (by simpa using he)]
        simp
  have HDR := Lib.hid (hdrop l)
  clear hdrop
  go_enter Tryd.func45, Tryd.ntmps45
  go_wp2_with fail
  go_loop [6] (fun i' => ∃ k : Nat, k ≤ l.length ∧ i' = .int .i64 k ∧ Hid (∀ j (h : j < l.length), j < k → l[j].box ≠ i)) (fun i' => l.length - (intOf i').toNat)
  case atStart => exact ⟨0, Nat.zero_le _, rfl, fun j h hj => absurd hj (Nat.not_lt_zero j)⟩
  case round =>
    obtain ⟨k, hk, rfl, hpre⟩ := hrel
    by_cases hlt : k < l.length
    · obtain ⟨b, o, rfl, hbb, hc⟩ := hr.de hlt
      obtain ⟨f1, f2⟩ := hc k hlt
      obtain ⟨x, hx⟩ : ∃ x, x = l[k] := ⟨_, rfl⟩
      rw [← hx] at f1 f2
      by_cases he : x.box = i
      · have hbe : (x.box == i) = true := by simpa using he
        have HA := Lib.hid (show decidedS l i = some x.marked by rw [hx]; exact HDR.out k hlt hpre.out (by rw [← hx]; exact he))
        clear hc hx
        go_wp2_with fail
        go_ret2
        exact ⟨by rw [HA.out] <;> rfl, rfl⟩
      · have HN := Lib.hid (show ∀ j (h : j < l.length), j < k + 1 → l[j].box ≠ i from fun j h hj => by
          by_cases e : j = k
          · subst e; rw [← hx]; exact he
          · exact hpre.out j h (by omega))
        have hbe : (x.box == i) = false := by simpa using he
        clear hc hx
        go_wp2_with fail
        go_round
        case rel => exact ⟨k + 1, by omega, by go_num, HN⟩
        case measure => simp [intOf]; omega
    · have HA := Lib.hid (show decidedS l i = none by
        rw [decidedS_none]
        intro d hd
        obtain ⟨j, hj, rfl⟩ := List.getElem_of_mem hd
        exact hpre.out j hj (by omega))
      obtain rfl : k = l.length := by omega
      go_wp2_with fail
      go_ret2
      exact ⟨by rw [HA.out] <;> rfl, rfl⟩

set_option maxRecDepth 100000 in
set_option maxHeartbeats 1000000 in
theorem refIn_any (l : List Int) (n : Int) (A : Option Addr) (c : Nat) (w : World) (hr : Rf zv w w.heap.size A c l) (hl : l.length ≤ 1000000) :
    Calls Tryd.prog 47 #[.slice A l.length c, .int .i64 n] w fun e w' => e = .returned (.bool (decide (n ∈ l))) ∧ w' = w := by
  go_enter Tryd.func47, Tryd.ntmps47
  go_wp2_with fail
  go_loop [5] (fun i' => ∃ k : Nat, k ≤ l.length ∧ i' = .int .i64 k ∧ Hid (∀ j (h : j < l.length), j < k → l[j] ≠ n)) (fun i' => l.length - (intOf i').toNat)
  case atStart => exact ⟨0, Nat.zero_le _, rfl, fun j h hj => absurd hj (Nat.not_lt_zero j)⟩
  case round =>
    obtain ⟨k, hk, rfl, hpre⟩ := hrel
    by_cases hlt : k < l.length
    · obtain ⟨b, o, rfl, hbb, hc⟩ := hr.at_ hlt
      have f1 := hc k hlt
      obtain ⟨x, hx⟩ : ∃ x, x = l[k] := ⟨_, rfl⟩
      rw [← hx] at f1
      unfold zv at f1
      by_cases he : x = n
      · have hbe : (x == n) = true := by simpa using he
        have HA := Lib.hid (show decide (n ∈ l) = true by rw [decide_eq_true_iff, ← he, hx]; exact List.getElem_mem hlt)
        clear hc hx
        go_wp2_with fail
        go_ret
        exact ⟨by rw [HA.out] <;> rfl, rfl⟩
      · have HN := Lib.hid (show ∀ j (h : j < l.length), j < k + 1 → l[j] ≠ n from fun j h hj => by
          by_cases e : j = k
          · subst e; rw [← hx]; exact he
          · exact hpre.out j h (by omega))
        have hbe : (x == n) = false := by simpa using he
        clear hc hx
        go_wp2_with fail
        go_round
        case rel => exact ⟨k + 1, by omega, by go_num, HN⟩
        case measure => simp [intOf]; omega
    · have HA := Lib.hid (show decide (n ∈ l) = false by
        rw [decide_eq_false_iff_not]
        intro hd
        obtain ⟨j, hj, e⟩ := List.getElem_of_mem hd
        exact hpre.out j hj (by omega) e)
      obtain rfl : k = l.length := by omega
      go_wp2_with fail
      go_ret
      exact ⟨by rw [HA.out] <;> rfl, rfl⟩
end Go.Proofs.YtejphpcngbjgjaaDoor
namespace Go.Proofs.YtejphpcngbjgjaaDoor
open Go.RowKit
set_option linter.unusedVariables false

theorem zInfo : (Tryd.prog.info? 3).map (fun i => (i.zero, i.size, i.bytes)) = some (some (.int .i64 0), 1, 8) := by kernel_rfl
theorem tInfo : (Tryd.prog.info? 4).map (fun i => (i.zero, i.size, i.bytes)) = some (some (.bool false), 1, 1) := by kernel_rfl
theorem colS_succ (m : List Bool) (n wide j : Nat) : colS m (n + 1) wide j = colS m n wide j ++ if m.getD (n * wide + j) false then [((n : Nat) : Int)] else [] := by
  unfold colS
  rw [List.range_succ, List.filter_append, List.map_append]
  congr 1
  by_cases h : m.getD (n * wide + j) false = true
  · rw [if_pos h, List.filter_cons, if_pos h]; rfl
  · rw [if_neg h, List.filter_cons, if_neg h]; rfl
theorem colS_len (m : List Bool) (n wide j : Nat) : (colS m n wide j).length ≤ n := by
  unfold colS
  rw [List.length_map]
  have := List.length_filter_le (fun i => m.getD (i * wide + j) false) (List.range n)
  simpa using this

set_option maxRecDepth 100000 in
set_option maxHeartbeats 2000000 in
theorem refColumn_any (m : List Bool) (n wide j : Nat) (A : Option Addr) (c : Nat) (w : World) (hr : Rf tv w w.heap.size A c m) (hb : ∀ i, i < n → i * wide + j < m.length) (hm : m.length ≤ 1000000) (hn : n ≤ 1000000) :
    Calls Tryd.prog 46 #[.slice A m.length c, .int .i64 (n : Nat), .int .i64 (wide : Nat), .int .i64 (j : Nat)] w fun e w' => ∃ A' c' r, e = .returned (.slice A' r.length c') ∧ r = colS m n wide j ∧ Ow zv w' w.heap.size 3 A' c' r ∧ Below w.heap.size w w' := by
  obtain ⟨i0, hi0, hz0, hz1, hz2⟩ := info_parts zInfo
  have HR := Lib.hid hr
  have HB := Lib.hid hb
  clear hr hb
  go_enter Tryd.func46, Tryd.ntmps46
  go_wp2_with fail
  go_loopw [9, 10] (fun f i wr => ∃ (k : Nat) (A' : Option Addr) (c' : Nat) (out : List Int), k ≤ n ∧ f = .slice A' out.length c' ∧ i = .int .i64 k ∧ out.length ≤ k ∧ Hid (out = colS m k wide j) ∧ Hid (Ow zv wr w.heap.size 3 A' c' out) ∧ Hid (Below w.heap.size w wr)) (fun _ i _ => n - (intOf i).toNat)
  case atStart => exact ⟨0, none, 0, [], Nat.zero_le _, rfl, rfl, by simp, rfl, Ow.nil _ _ _, Below.refl _ _⟩
  case round =>
    obtain ⟨k, A1, c1, out, hk, rfl, rfl, hol, hout, ho, hbw⟩ := hrel
    have hsz := hbw.out.size
    by_cases hlt : k < n
    · have hlti : (k : Int) < (n : Int) := by omega
      have hbk := HB.out k hlt
      have hcs := colS_succ m k wide j
      obtain ⟨b, o, rfl, hbb, hcc⟩ := (HR.out.below hbw.out).at_ hbk
      have hcx := hcc _ hbk
      have hgd : m.getD (k * wide + j) false = m[k * wide + j] := by simp [List.getD, hbk]
      rw [hgd] at hcs
      obtain ⟨x, hx⟩ : ∃ x, x = m[k * wide + j] := ⟨_, rfl⟩
      rw [← hx] at hcx hcs
      unfold tv at hcx
      obtain ⟨P, hP⟩ : ∃ P, P = k * wide := ⟨_, rfl⟩
      have hw1 : IntKind.i64.wrap ((k : Int) * (wide : Int)) = ((P : Nat) : Int) := by
        rw [show (k : Int) * (wide : Int) = ((P : Nat) : Int) by rw [hP]; simp, IntKind.wrap_i64]
        rw [← hP] at hbk
        omega
      rw [← hP] at hbk hcx
      have HCS := Lib.hid hcs
      have hPj : (P : Int) + (j : Int) < (m.length : Int) := by omega
      clear hcc hx hgd hcs hP
      cases x with
      | true =>
        have HOA := Lib.hid (ho.out.alloc (.cells #[.int .i64 (k : Nat)] 3))
        have HRF := Lib.hid (show Rf zv (wr.alloc (.cells #[.int .i64 (k : Nat)] 3)) (wr.heap.size + 1) (some ⟨wr.heap.size, 0, none⟩) 1 [((k : Nat) : Int)] from rf_one (f := zv) (w := wr) ((k : Nat) : Int) 3)
        go_wp2_with (at_builtin; refine wpList_append_f _ zv_one rfl (.tmp 24) (.tmp 26) 40 rfl w.heap.size 3 8 i0 _ Tryd.underlying40 hi0 hz0 hz1 hz2 (by omega) rfl out [((k : Nat) : Int)] rfl rfl HOA.out HRF.out (by simp; omega) (by simp; omega) ?_; intro A8 c8 w8 r8 hr8 ho8 hg8 hb8)
        have B8 := Lib.hid ((hbw.out.alloc hsz (.cells #[.int .i64 (k : Nat)] 3)).grown hg8 (by simp; omega) (fun j hj => (ho.out.blk_ge j hj).1))
        have HO8 := Lib.hid (show r8 = colS m (k + 1) wide j by rw [hr8.out, HCS.out, hout.out]; rfl)
        have HL8 : r8.length ≤ k + 1 := by rw [hr8.out, List.length_append]; simp; omega
        go_wp2_with fail
        go_roundw
        case rel => exact ⟨k + 1, A8, c8, r8, by omega, rfl, by go_num, HL8, HO8, ho8, B8⟩
        case measure => simp [intOf]; omega
      | false =>
        have HO8 := Lib.hid (show out = colS m (k + 1) wide j by rw [HCS.out, hout.out]; simp)
        go_wp2_with fail
        go_roundw
        case rel => exact ⟨k + 1, A1, c1, out, by omega, rfl, by go_num, by omega, HO8, ho, hbw⟩
        case measure => simp [intOf]; omega
    · have hlti : ¬ (k : Int) < (n : Int) := by omega
      obtain rfl : k = n := by omega
      go_wp2_with fail
      go_ret
      exact ⟨A1, c1, out, rfl, hout.out, ho.out, hbw.out⟩
end Go.Proofs.YtejphpcngbjgjaaDoor
