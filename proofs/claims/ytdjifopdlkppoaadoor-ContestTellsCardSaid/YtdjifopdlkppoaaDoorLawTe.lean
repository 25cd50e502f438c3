/- ContestTells. -/
import Derived.Test.YtdjifopdlkppoaaDoorCon
import Derived.Test.YtdjifopdlkppoaaDoorCell
import Derived.Test.YtdjifopdlkppoaaDoorRefPl
import Derived.Test.YtdjifopdlkppoaaDoorRefSa
import Derived.Deep.RegionHeld
namespace Go.Proofs.YtdjifopdlkppoaaDoor
open Go.RowKit
set_option linter.unusedVariables false
set_option linter.unusedSimpArgs false

theorem yieldsIf_load_ct {ops : Array Oper} {S : World → Prop} {o : Oper} {a : Act} (hw : Region.wanted o (yielded ops a.tmps) = true) (y : Operand) (ho : o.op = .load 26 y) (g : Nat) (hx : a.eval y = .pointer (some ⟨g, 0, none⟩))
    {A : Option Addr} {c : Nat} {x : Ct} (hS : ∀ wq, S wq → Blk wq g 26 (cvs A c x)) : YieldsIf Tryd.prog ops S o (cv A c x) a := by
  refine Or.inl ⟨hw, fun wq h => ?_⟩
  have hld := run_loadVar_row wq g 26 26 _ _ _ (hS wq h) Tryd.underlying26 rfl size_ct
  simp only [execOp, ho, hx, Instr.loadAt, Instr.sureAddr, Sem.run_bind, Sem.run_pure, Result.andThen_ok, hld]
  rfl
theorem CtOk.of_ow {w w' : World} {A A' : Option Addr} {c c' : Nat} {x : Ct} (h : CtOk w A c x) (hr : Rf sv w' w'.heap.size A' c' x.cands) : CtOk w' A' c' x := ⟨hr, h.name, h.cands, h.rule, h.seats⟩

set_option maxRecDepth 100000 in
set_option maxHeartbeats 4000000 in
theorem contestTells_any {T : World → Prop} (K : Con T) (x : Ct) (A : Option Addr) (c : Nat) (x2 : Ct) (A2 : Option Addr) (c2 : Nat) (y : List UInt8) (w : World) (hc : CtOk w A c x) (hc2 : CtOk w A2 c2 x2) (hy : y.length ≤ 140737488351232) (hT : T w) :
    Calls Tryd.prog 4 #[cv A c x, cv A2 c2 x2, .string ⟨y.toArray⟩] w fun e w' => e = .returned (.bool true) ∧ Below w.heap.size w w' := by
  have HK := Lib.hid K
  have HT := Lib.hid hT
  have HC := Lib.hid hc
  have HC2 := Lib.hid hc2
  have HG := Lib.hid (fun wx (hb : Below w.heap.size w wx) => great_any x A c wx ((hc.below hb).rd))
  have HG2 := Lib.hid (fun wx (hb : Below w.heap.size w wx) => great_any x2 A2 c2 wx ((hc2.below hb).rd))
  have HB0 := Lib.hid (show Blk ((w.alloc (.cells (cvs A c x) 26)).alloc (.cells (cvs A2 c2 x2) 26)) w.heap.size 26 (cvs A c x) from (Blk.new w _ _).alloc _)
  have HBo := Lib.hid (show Blk ((w.alloc (.cells (cvs A c x) 26)).alloc (.cells (cvs A2 c2 x2) 26)) (w.heap.size + 1) 26 (cvs A2 c2 x2) by
    have h := Blk.new (w.alloc (.cells (cvs A c x) 26)) 26 (cvs A2 c2 x2)
    rwa [World.size_alloc] at h)
  have B0 := Lib.hid (show Below w.heap.size w ((w.alloc (.cells (cvs A c x) 26)).alloc (.cells (cvs A2 c2 x2) 26)) from (below_new w _).trans ((below_new (w.alloc (.cells (cvs A c x) 26)) _).mono (by simp)))
  clear K hT hc hc2
  unfold cv
  unfold cvs at B0 ⊢
  cases hg : greatM x with
  | true =>
    have HGB := Lib.hid hg
    clear hg
    go_enter Tryd.func4, Tryd.ntmps4
    go_wp2_with fail
    refine (HG.out _ B0.out).mono ?_
    rintro e w1 ⟨rfl, hb⟩
    rw [HGB.out]
    go_wp2_with fail
    go_ret
    exact ⟨rfl, B0.out.trans (hb.mono B0.out.size)⟩
  | false =>
  have HGB := Lib.hid hg
  have HGN := Lib.hid (greatM_no hg)
  clear hg
  cases hg2 : greatM x2 with
  | true =>
    have HGB2 := Lib.hid hg2
    clear hg2
    go_enter Tryd.func4, Tryd.ntmps4
    go_wp2_with fail
    refine (HG.out _ B0.out).mono ?_
    rintro e w1 ⟨rfl, hb⟩
    rw [HGB.out]
    have B1 := Lib.hid (B0.out.trans (hb.mono B0.out.size))
    have HBo1 := Lib.hid (HBo.out.below hb HBo.out.lt)
    clear hb
    go_wp2_with (with_reducible refine wpList_load_ct (by kernel_rfl) (.tmp 4) rfl (w.heap.size + 1) rfl (A := A2) (c := c2) (x := x2) HBo1.out ?_)
    refine (HG2.out _ B1.out).mono ?_
    rintro e w2 ⟨rfl, hb⟩
    rw [HGB2.out]
    go_wp2_with fail
    go_ret
    exact ⟨rfl, B1.out.trans (hb.mono B1.out.size)⟩
  | false =>
  have HGB2 := Lib.hid hg2
  have HGN2 := Lib.hid (greatM_no hg2)
  clear hg2
  by_cases hbig : 1000 < y.length
  · have hbd : decide ((1000 : Int) < (y.length : Int)) = true := by simp; omega
    clear hbig
    go_enter Tryd.func4, Tryd.ntmps4
    go_wp2_with fail
    refine (HG.out _ B0.out).mono ?_
    rintro e w1 ⟨rfl, hb⟩
    rw [HGB.out]
    have B1 := Lib.hid (B0.out.trans (hb.mono B0.out.size))
    have HBo1 := Lib.hid (HBo.out.below hb HBo.out.lt)
    clear hb
    go_wp2_with (with_reducible refine wpList_load_ct (by kernel_rfl) (.tmp 4) rfl (w.heap.size + 1) rfl (A := A2) (c := c2) (x := x2) HBo1.out ?_)
    refine (HG2.out _ B1.out).mono ?_
    rintro e w2 ⟨rfl, hb⟩
    rw [HGB2.out]
    go_wp2_with fail
    go_ret
    exact ⟨rfl, B1.out.trans (hb.mono B1.out.size)⟩
  have hbd : decide ((1000 : Int) < (y.length : Int)) = false := by simp; omega
  have HYL := Lib.hid hy
  clear hbig hy
  go_enter Tryd.func4, Tryd.ntmps4
  go_wp2_with fail
  refine (HG.out _ B0.out).mono ?_
  rintro e w1 ⟨rfl, hb⟩
  rw [HGB.out]
  have B1 := Lib.hid (B0.out.trans (hb.mono B0.out.size))
  have HB01 := Lib.hid (HB0.out.below hb HB0.out.lt)
  have HBo1 := Lib.hid (HBo.out.below hb HBo.out.lt)
  clear hb
  go_wp2_with (with_reducible refine wpList_load_ct (by kernel_rfl) (.tmp 4) rfl (w.heap.size + 1) rfl (A := A2) (c := c2) (x := x2) HBo1.out ?_)
  refine (HG2.out _ B1.out).mono ?_
  rintro e w2 ⟨rfl, hb⟩
  rw [HGB2.out]
  have B2 := Lib.hid (B1.out.trans (hb.mono B1.out.size))
  have HB02 := Lib.hid (HB01.out.below hb HB01.out.lt)
  have HBo2 := Lib.hid (HBo1.out.below hb HBo1.out.lt)
  clear hb
  go_wp2_with (with_reducible refine wpList_load_ct (by kernel_rfl) (.tmp 3) rfl w.heap.size rfl (A := A) (c := c) (x := x) HB02.out ?_)
  refine (refTwin_any x A c w2 (HC.out.below B2.out).rd (by have := HGN.out.1; omega)).mono ?_
  rintro e w3 ⟨A3, c3, rfl, ho3, hb⟩
  have B3 := Lib.hid (B2.out.trans (hb.mono B2.out.size))
  have HB03 := Lib.hid (HB02.out.below hb HB02.out.lt)
  have HBo3 := Lib.hid (HBo2.out.below hb HBo2.out.lt)
  have HR3 := Lib.hid ho3.rd
  have HZ3 := Lib.hid (Blk.new w3 26 #[.string ⟨#[]⟩, .slice none 0 0, .int .i64 0, .int .u8 0])
  have BN3 := Lib.hid (below_new w3 (.cells #[.string ⟨#[]⟩, .slice none 0 0, .int .i64 0, .int .u8 0] 26))
  clear hb ho3
  go_wp2_with (first
    | ((with_reducible refine wpList_store_ct rfl (.tmp 7) (.tmp 27) rfl w3.heap.size rfl HZ3.out rfl (A := A3) (c := c3) (x := x) rfl ?_); intro w4 hb4 hg4; have HBW4 := Lib.hid (show Below w3.heap.size w3 w4 from BN3.out.grown hg4 BN3.out.size (fun k e => by cases e; exact Nat.le_refl _)); have HB74 := Lib.hid hb4)
    | (with_reducible refine wpList_load_ct (by kernel_rfl) (.tmp 7) rfl w3.heap.size rfl (A := A3) (c := c3) (x := x) HB74.out ?_))
  have B4 := Lib.hid (B3.out.trans (HBW4.out.mono B3.out.size))
  have HB04 := Lib.hid (HB03.out.below HBW4.out HB03.out.lt)
  have HBo4 := Lib.hid (HBo3.out.below HBW4.out HBo3.out.lt)
  have HR4 := Lib.hid ((HR3.out.below HBW4.out).more HBW4.out.size)
  clear hb4 hg4
  obtain ⟨pn, pe, hp⟩ : ∃ pn pe, placeM x y = (pn, pe) := ⟨_, _, rfl⟩
  have HP := Lib.hid hp
  clear hp
  refine (HK.out.place x y A3 c3 w4 (HC.out.of_ow HR4.out) HYL.out (HK.out.keep HT.out B4.out)).mono ?_
  rintro e w5 ⟨rfl, hb⟩
  rw [HP.out]
  have B5 := Lib.hid (B4.out.trans (hb.mono B4.out.size))
  have HB05 := Lib.hid (HB04.out.below hb HB04.out.lt)
  have HBo5 := Lib.hid (HBo4.out.below hb HBo4.out.lt)
  have HB75 := Lib.hid (HB74.out.below hb HB74.out.lt)
  have HR5 := Lib.hid ((HR4.out.below hb).more hb.size)
  clear hb
  go_wp2_with (with_reducible refine wpList_load_ct (by kernel_rfl) (.tmp 3) rfl w.heap.size rfl (A := A) (c := c) (x := x) HB05.out ?_)
  refine (refPlace_any x y A c w5 (HC.out.below B5.out).rd (by have := HGN.out.2.1; omega) (fun y hy => by have := HGN.out.2.2 y hy; omega) HC.out.rule HC.out.seats).mono ?_
  rintro e w6 ⟨rfl, hb⟩
  rw [HP.out]
  have B6 := Lib.hid (B5.out.trans (hb.mono B5.out.size))
  have HB06 := Lib.hid (HB05.out.below hb HB05.out.lt)
  have HBo6 := Lib.hid (HBo5.out.below hb HBo5.out.lt)
  have HB76 := Lib.hid (HB75.out.below hb HB75.out.lt)
  have HR6 := Lib.hid ((HR5.out.below hb).more hb.size)
  clear hb
  go_wp2_with (with_reducible refine wpList_load_ct (by kernel_rfl) (.tmp 7) rfl w3.heap.size rfl (A := A3) (c := c3) (x := x) HB76.out ?_)
  refine (HK.out.twin x A3 c3 w6 (HC.out.of_ow HR6.out) (by have := HGN.out.1; omega) (HK.out.keep HT.out B6.out)).mono ?_
  rintro e w7 ⟨A7, c7, rfl, ho7, hb⟩
  have B7 := Lib.hid (B6.out.trans (hb.mono B6.out.size))
  have HB07 := Lib.hid (HB06.out.below hb HB06.out.lt)
  have HBo7 := Lib.hid (HBo6.out.below hb HBo6.out.lt)
  have HB77 := Lib.hid (HB76.out.below hb HB76.out.lt)
  have HR7 := Lib.hid (HR6.out.below hb)
  have HO7 := Lib.hid ho7
  have HS7 := Lib.hid hb.size
  have HZ7 := Lib.hid (Blk.new w7 26 #[.string ⟨#[]⟩, .slice none 0 0, .int .i64 0, .int .u8 0])
  have BN7 := Lib.hid (below_new w7 (.cells #[.string ⟨#[]⟩, .slice none 0 0, .int .i64 0, .int .u8 0] 26))
  clear hb ho7
  go_wp2_with ((with_reducible refine wpList_store_ct rfl (.tmp 12) (.tmp 41) rfl w7.heap.size rfl HZ7.out rfl (A := A7) (c := c7) (x := x) rfl ?_); intro w8 hb8 hg8; have HBW8 := Lib.hid (show Below w7.heap.size w7 w8 from BN7.out.grown hg8 BN7.out.size (fun k e => by cases e; exact Nat.le_refl _)); have HB128 := Lib.hid hb8)
  -- REGION
  have B8 := Lib.hid (B7.out.trans (HBW8.out.mono B7.out.size))
  have HB08 := Lib.hid (HB07.out.below HBW8.out HB07.out.lt)
  have HBo8 := Lib.hid (HBo7.out.below HBW8.out HBo7.out.lt)
  have HB78 := Lib.hid (HB77.out.below HBW8.out HB77.out.lt)
  have HR8 := Lib.hid (HR7.out.below (HBW8.out.mono HS7.out))
  have HO8 := Lib.hid (HO7.out.below (Nat.le_refl _) HBW8.out)
  have HS8 := Lib.hid (Nat.le_trans HS7.out HBW8.out.size)
  have HL6 := Lib.hid (show w3.heap.size < w6.heap.size from HB76.out.lt)
  have HL7 := Lib.hid (show ∀ k, blk A7 = some k → w6.heap.size ≤ k ∧ k < w7.heap.size from fun k e => HO7.out.blk_ge k e)
  clear hb8 hg8
  obtain ⟨Inv, hInv⟩ : ∃ Inv : World → Prop, Inv = fun w' => (Blk w' w.heap.size 26 (cvs A c x) ∧ Blk w' (w.heap.size + 1) 26 (cvs A2 c2 x2) ∧ Blk w' w3.heap.size 26 (cvs A3 c3 x) ∧ Blk w' w7.heap.size 26 (cvs A7 c7 x)) ∧ (Rf sv w' w6.heap.size A3 c3 x.cands ∧ Ow sv w' w6.heap.size 9 A7 c7 x.cands) ∧ Below w.heap.size w w' ∧ w6.heap.size ≤ w'.heap.size := ⟨_, rfl⟩
  have HS0 := Lib.hid (show Inv w8.drew by rw [hInv]; exact ⟨⟨HB08.out, HBo8.out, HB78.out, HB128.out⟩, ⟨HR8.out.drew, HO8.out.drew⟩, B8.out.drew, HS8.out⟩)
  have HSB := Lib.hid (show ∀ wa wb, Inv wa → Below wa.heap.size wa wb → Inv wb from fun wa wb h hb => by
    rw [hInv] at h ⊢
    obtain ⟨⟨h1, h2, h3, h4⟩, ⟨h5, h6⟩, h7, h8⟩ := h
    exact ⟨⟨h1.below hb h1.lt, h2.below hb h2.lt, h3.below hb h3.lt, h4.below hb h4.lt⟩, ⟨h5.below (hb.mono h8), h6.below (Nat.le_refl _) hb⟩, h7.trans (hb.mono h7.size), Nat.le_trans h8 hb.size⟩)
  have HSW := Lib.hid (show ∀ w', Inv w' → (Blk w' w.heap.size 26 (cvs A c x) ∧ Blk w' (w.heap.size + 1) 26 (cvs A2 c2 x2) ∧ Blk w' w3.heap.size 26 (cvs A3 c3 x) ∧ Blk w' w7.heap.size 26 (cvs A7 c7 x)) ∧ (Rf sv w' w6.heap.size A3 c3 x.cands ∧ Ow sv w' w6.heap.size 9 A7 c7 x.cands) ∧ Below w.heap.size w w' ∧ w6.heap.size ≤ w'.heap.size from fun w' h => by rw [hInv] at h; exact h)
  clear hInv
  have HR3F := Lib.hid (fun w' (h : Inv w') => (HSW.out w' h).2.1.1.more (HSW.out w' h).2.2.2)
  obtain ⟨ck, hck⟩ : ∃ ck, checkM x = ck := ⟨_, rfl⟩
  obtain ⟨sb, hsb⟩ : ∃ sb, decide (x = x2) = sb := ⟨_, rfl⟩
  have F1 := Lib.hid (show ∀ w', Inv w' → Calls Tryd.prog 12 #[cv A3 c3 x] w' fun e w'' => e = .returned (.int .i64 ck) ∧ Below w'.heap.size w' w'' from fun w' h => by
    rw [← hck]; exact HK.out.check x A3 c3 w' (HC.out.of_ow (HR3F.out w' h)) (HK.out.keep HT.out (HSW.out w' h).2.2.1))
  have F3 := Lib.hid (show ∀ w', Inv w' → Calls Tryd.prog 30 #[cv A c x] w' fun e w'' => e = .returned (.int .i64 ck) ∧ Below w'.heap.size w' w'' from fun w' h => by
    rw [← hck]; exact refCheck_any x A c w' (HC.out.below (HSW.out w' h).2.2.1).rd (by have := HGN.out.2.1; omega) (fun y hy => by have := HGN.out.2.2 y hy; omega) HC.out.rule HC.out.seats)
  have F18 := Lib.hid (show ∀ w', Inv w' → Calls Tryd.prog 31 #[cv A3 c3 x, cv A2 c2 x2] w' fun e w'' => e = .returned (.bool sb) ∧ Below w'.heap.size w' w'' from fun w' h => by
    rw [← hsb]; exact HK.out.same x x2 A3 A2 c3 c2 w' (HC.out.of_ow (HR3F.out w' h)) (HC2.out.below (HSW.out w' h).2.2.1) (HK.out.keep HT.out (HSW.out w' h).2.2.1))
  have F21 := Lib.hid (show ∀ w', Inv w' → Calls Tryd.prog 32 #[cv A c x, cv A2 c2 x2] w' fun e w'' => e = .returned (.bool sb) ∧ Below w'.heap.size w' w'' from fun w' h => by
    rw [← hsb]; exact refSame_any x x2 A A2 c c2 w' (HC.out.below (HSW.out w' h).2.2.1).rd (HC2.out.below (HSW.out w' h).2.2.1).rd (by have := HGN.out.1; omega))
  have F27 := Lib.hid (show ∀ w', Inv w' → Calls Tryd.prog 31 #[cv A3 c3 x, cv A c x] w' fun e w'' => e = .returned (.bool true) ∧ Below w'.heap.size w' w'' from fun w' h => by
    have h1 := HK.out.same x x A3 A c3 c w' (HC.out.of_ow (HR3F.out w' h)) (HC.out.below (HSW.out w' h).2.2.1) (HK.out.keep HT.out (HSW.out w' h).2.2.1)
    rwa [show decide (x = x) = true from decide_eq_true rfl] at h1)
  have F32 := Lib.hid (show ∀ w', Inv w' → Calls Tryd.prog 32 #[cv A7 c7 x, cv A c x] w' fun e w'' => e = .returned (.bool true) ∧ Below w'.heap.size w' w'' from fun w' h => by
    have h1 := refSame_any x x A7 A c7 c w' (HSW.out w' h).2.1.2.rd (HC.out.below (HSW.out w' h).2.2.1).rd (by have := HGN.out.1; omega)
    rwa [show decide (x = x) = true from decide_eq_true rfl] at h1)
  have FE := Lib.hid (show ∀ w', Rf sv w' w'.heap.size A3 c3 x.cands → Below w.heap.size w w' → Calls Tryd.prog 32 #[cv A3 c3 x, cv A c x] w' fun e w'' => e = .returned (.bool true) ∧ Below w'.heap.size w' w'' from fun w' h hb => by
    have h1 := refSame_any x x A3 A c3 c w' h (HC.out.below hb).rd (by have := HGN.out.1; omega)
    rwa [show decide (x = x) = true from decide_eq_true rfl] at h1)
  clear hck hsb
  refine wp_region_held_drew (S := Inv) (by kernel_rfl) HS0.out ?_
  intro hHeld
  try simp only [Act.put, List.setIfInBounds_toArray, List.set_cons_zero, List.set_cons_succ]
  refine wpAnyH_take (i := 0) (oi := { dst := some 42, op := Op.load 26 (Operand.tmp 7), type := 26, pos := "law.go:19", after := #[], guard := none }) (v := cv A3 c3 x) rfl (by kernel_rfl) (by kernel_rfl) (by kernel_rfl) (fun _ _ _ h => h) (yieldsIf_load_ct (by rfl) (.tmp 7) rfl w3.heap.size rfl (A := A3) (c := c3) (x := x) (fun wq hq => by have h := HSW.out _ hq; exact h.1.2.2.1)) hHeld ?_
  try simp only [Act.put, List.setIfInBounds_toArray, List.set_cons_zero, List.set_cons_succ]
  refine wpAnyH_take (i := 2) (oi := { dst := some 44, op := Op.load 26 (Operand.tmp 3), type := 26, pos := "law.go:19", after := #[], guard := none }) (v := cv A c x) rfl (by kernel_rfl) (by kernel_rfl) (by kernel_rfl) (fun _ _ _ h => h) (yieldsIf_load_ct (by rfl) (.tmp 3) rfl w.heap.size rfl (A := A) (c := c) (x := x) (fun wq hq => by have h := HSW.out _ hq; exact h.1.1)) hHeld ?_
  try simp only [Act.put, List.setIfInBounds_toArray, List.set_cons_zero, List.set_cons_succ]
  refine wpAnyH_ready (rs := [1]) (by kernel_rfl) (by simp) ?_
  refine AllReadyH.cons (o := { dst := some 43, op := Op.call { callee := Callee.value (Operand.func 12), args := #[Operand.tmp 42], argTypes := #[26] }, type := 23, pos := "law.go:19", after := #[{ on := 0, ground := Ground.data }], guard := none }) rfl (fun K hK => ?_) AllReadyH.nil
  go_simp
  go_at_call 12
  refine (F1.out _ HS0.out).mono ?_
  rintro e w101 ⟨rfl, hb1⟩
  have HS1 := Lib.hid (HSB.out _ _ HS0.out hb1)
  clear hb1
  try go_simp
  refine hK.out _ _ HS1.out (fun hHeld => ?_)
  clear hK K
  try simp only [Act.put, List.setIfInBounds_toArray, List.set_cons_zero, List.set_cons_succ]
  refine wpAnyH_ready (rs := [3]) (by kernel_rfl) (by simp) ?_
  refine AllReadyH.cons (o := { dst := some 45, op := Op.call { callee := Callee.value (Operand.func 30), args := #[Operand.tmp 44], argTypes := #[26] }, type := 3, pos := "law.go:19", after := #[{ on := 2, ground := Ground.data }, { on := 1, ground := Ground.chain }], guard := none }) rfl (fun K hK => ?_) AllReadyH.nil
  go_simp
  go_at_call 30
  refine (F3.out _ HS1.out).mono ?_
  rintro e w103 ⟨rfl, hb1⟩
  have HS3 := Lib.hid (HSB.out _ _ HS1.out hb1)
  clear hb1
  try go_simp
  refine hK.out _ _ HS3.out (fun hHeld => ?_)
  clear hK K
  try simp only [Act.put, List.setIfInBounds_toArray, List.set_cons_zero, List.set_cons_succ]
  refine wpAnyH_take (i := 4) (oi := { dst := some 46, op := Op.binOp BinOp.eql 3 (Operand.tmp 43) (Operand.tmp 45) 3, type := 4, pos := "law.go:19", after := #[{ on := 1, ground := Ground.data }, { on := 3, ground := Ground.data }], guard := none }) (v := ?v4) rfl (by kernel_rfl) (by kernel_rfl) (by kernel_rfl) (fun _ _ _ h => h) (Or.inl ⟨by rfl, ?y4⟩) hHeld ?r4
  case y4 => intro wq hSw; skip; go_simp; try (with_reducible rfl)
  try simp only [Act.put, List.setIfInBounds_toArray, List.set_cons_zero, List.set_cons_succ]
  refine wpAnyH_take (i := 5) (oi := { dst := some 47, op := Op.move (Operand.tmp 46), type := 4, pos := "law.go:19", after := #[{ on := 4, ground := Ground.data }, { on := 3, ground := Ground.chain }], guard := none }) (v := ?v5) rfl (by kernel_rfl) (by kernel_rfl) (by kernel_rfl) (fun _ _ _ h => h) (Or.inl ⟨by rfl, ?y5⟩) hHeld ?r5
  case y5 => intro wq hSw; skip; go_simp; try (with_reducible rfl)
  try simp only [Act.put, List.setIfInBounds_toArray, List.set_cons_zero, List.set_cons_succ]
  refine wpAnyH_take (i := 6) (oi := { dst := some 48, op := Op.move (Operand.tmp 8), type := 3, pos := "law.go:19", after := #[{ on := 5, ground := Ground.guard }], guard := some (5, true) }) (v := ?v6) rfl (by kernel_rfl) (by kernel_rfl) (by kernel_rfl) (fun _ _ _ h => h) (Or.inl ⟨by rfl, ?y6⟩) hHeld ?r6
  case y6 => intro wq hSw; skip; go_simp; try (with_reducible rfl)
  try simp only [Act.put, List.setIfInBounds_toArray, List.set_cons_zero, List.set_cons_succ]
  refine wpAnyH_take (i := 7) (oi := { dst := some 49, op := Op.move (Operand.tmp 10), type := 3, pos := "law.go:19", after := #[{ on := 5, ground := Ground.guard }], guard := some (5, true) }) (v := ?v7) rfl (by kernel_rfl) (by kernel_rfl) (by kernel_rfl) (fun _ _ _ h => h) (Or.inl ⟨by rfl, ?y7⟩) hHeld ?r7
  case y7 => intro wq hSw; skip; go_simp; try (with_reducible rfl)
  try simp only [Act.put, List.setIfInBounds_toArray, List.set_cons_zero, List.set_cons_succ]
  refine wpAnyH_take (i := 8) (oi := { dst := some 50, op := Op.binOp BinOp.eql 3 (Operand.tmp 48) (Operand.tmp 49) 3, type := 4, pos := "law.go:19", after := #[{ on := 6, ground := Ground.data }, { on := 7, ground := Ground.data }, { on := 5, ground := Ground.guard }], guard := some (5, true) }) (v := ?v8) rfl (by kernel_rfl) (by kernel_rfl) (by kernel_rfl) (fun _ _ _ h => h) (Or.inl ⟨by rfl, ?y8⟩) hHeld ?r8
  case y8 => intro wq hSw; skip; go_simp; try (with_reducible rfl)
  try simp only [Act.put, List.setIfInBounds_toArray, List.set_cons_zero, List.set_cons_succ]
  refine wpAnyH_take (i := 9) (oi := { dst := some 51, op := Op.pick (Operand.tmp 47) (Operand.tmp 50) (Operand.const (Value.bool false)), type := 4, pos := "law.go:19", after := #[{ on := 5, ground := Ground.data }, { on := 8, ground := Ground.data }], guard := none }) (v := ?v9) rfl (by kernel_rfl) (by kernel_rfl) (by kernel_rfl) (fun _ _ _ h => h) (Or.inl ⟨by rfl, ?y9⟩) hHeld ?r9
  case y9 => intro wq hSw; skip; go_simp; try (with_reducible rfl)
  try simp only [Act.put, List.setIfInBounds_toArray, List.set_cons_zero, List.set_cons_succ]
  refine wpAnyH_take (i := 10) (oi := { dst := some 52, op := Op.move (Operand.tmp 51), type := 4, pos := "law.go:19", after := #[{ on := 9, ground := Ground.data }, { on := 5, ground := Ground.chain }], guard := none }) (v := ?v10) rfl (by kernel_rfl) (by kernel_rfl) (by kernel_rfl) (fun _ _ _ h => h) (Or.inl ⟨by rfl, ?y10⟩) hHeld ?r10
  case y10 => intro wq hSw; skip; go_simp; try (with_reducible rfl)
  try simp only [Act.put, List.setIfInBounds_toArray, List.set_cons_zero, List.set_cons_succ]
  refine wpAnyH_take (i := 11) (oi := { dst := some 53, op := Op.move (Operand.tmp 9), type := 23, pos := "law.go:19", after := #[{ on := 10, ground := Ground.guard }], guard := some (10, true) }) (v := ?v11) rfl (by kernel_rfl) (by kernel_rfl) (by kernel_rfl) (fun _ _ _ h => h) (Or.inl ⟨by rfl, ?y11⟩) hHeld ?r11
  case y11 => intro wq hSw; skip; go_simp; try (with_reducible rfl)
  try simp only [Act.put, List.setIfInBounds_toArray, List.set_cons_zero, List.set_cons_succ]
  refine wpAnyH_take (i := 12) (oi := { dst := some 54, op := Op.move (Operand.tmp 11), type := 3, pos := "law.go:19", after := #[{ on := 10, ground := Ground.guard }], guard := some (10, true) }) (v := ?v12) rfl (by kernel_rfl) (by kernel_rfl) (by kernel_rfl) (fun _ _ _ h => h) (Or.inl ⟨by rfl, ?y12⟩) hHeld ?r12
  case y12 => intro wq hSw; skip; go_simp; try (with_reducible rfl)
  try simp only [Act.put, List.setIfInBounds_toArray, List.set_cons_zero, List.set_cons_succ]
  refine wpAnyH_take (i := 13) (oi := { dst := some 55, op := Op.binOp BinOp.eql 3 (Operand.tmp 53) (Operand.tmp 54) 3, type := 4, pos := "law.go:19", after := #[{ on := 11, ground := Ground.data }, { on := 12, ground := Ground.data }, { on := 10, ground := Ground.guard }], guard := some (10, true) }) (v := ?v13) rfl (by kernel_rfl) (by kernel_rfl) (by kernel_rfl) (fun _ _ _ h => h) (Or.inl ⟨by rfl, ?y13⟩) hHeld ?r13
  case y13 => intro wq hSw; skip; go_simp; try (with_reducible rfl)
  try simp only [Act.put, List.setIfInBounds_toArray, List.set_cons_zero, List.set_cons_succ]
  refine wpAnyH_take (i := 14) (oi := { dst := some 56, op := Op.pick (Operand.tmp 52) (Operand.tmp 55) (Operand.const (Value.bool false)), type := 4, pos := "law.go:19", after := #[{ on := 10, ground := Ground.data }, { on := 13, ground := Ground.data }], guard := none }) (v := ?v14) rfl (by kernel_rfl) (by kernel_rfl) (by kernel_rfl) (fun _ _ _ h => h) (Or.inl ⟨by rfl, ?y14⟩) hHeld ?r14
  case y14 => intro wq hSw; skip; go_simp; try (with_reducible rfl)
  try simp only [Act.put, List.setIfInBounds_toArray, List.set_cons_zero, List.set_cons_succ]
  refine wpAnyH_take (i := 15) (oi := { dst := some 57, op := Op.move (Operand.tmp 56), type := 4, pos := "law.go:19", after := #[{ on := 14, ground := Ground.data }, { on := 10, ground := Ground.chain }], guard := none }) (v := ?v15) rfl (by kernel_rfl) (by kernel_rfl) (by kernel_rfl) (fun _ _ _ h => h) (Or.inl ⟨by rfl, ?y15⟩) hHeld ?r15
  case y15 => intro wq hSw; skip; go_simp; try (with_reducible rfl)
  try simp only [Act.put, List.setIfInBounds_toArray, List.set_cons_zero, List.set_cons_succ]
  refine wpAnyH_take (i := 16) (oi := { dst := some 58, op := Op.load 26 (Operand.tmp 7), type := 26, pos := "law.go:19", after := #[{ on := 15, ground := Ground.guard }], guard := some (15, true) }) (v := cv A3 c3 x) rfl (by kernel_rfl) (by kernel_rfl) (by kernel_rfl) (fun _ _ _ h => h) (yieldsIf_load_ct (by rfl) (.tmp 7) rfl w3.heap.size rfl (A := A3) (c := c3) (x := x) (fun wq hq => by have h := HSW.out _ hq; exact h.1.2.2.1)) hHeld ?_
  try simp only [Act.put, List.setIfInBounds_toArray, List.set_cons_zero, List.set_cons_succ]
  refine wpAnyH_take (i := 17) (oi := { dst := some 59, op := Op.load 26 (Operand.tmp 4), type := 26, pos := "law.go:19", after := #[{ on := 15, ground := Ground.guard }], guard := some (15, true) }) (v := cv A2 c2 x2) rfl (by kernel_rfl) (by kernel_rfl) (by kernel_rfl) (fun _ _ _ h => h) (yieldsIf_load_ct (by rfl) (.tmp 4) rfl (w.heap.size + 1) rfl (A := A2) (c := c2) (x := x2) (fun wq hq => by have h := HSW.out _ hq; exact h.1.2.1)) hHeld ?_
  try simp only [Act.put, List.setIfInBounds_toArray, List.set_cons_zero, List.set_cons_succ]
  refine wpAnyH_take (i := 19) (oi := { dst := some 61, op := Op.load 26 (Operand.tmp 3), type := 26, pos := "law.go:19", after := #[{ on := 15, ground := Ground.guard }], guard := some (15, true) }) (v := cv A c x) rfl (by kernel_rfl) (by kernel_rfl) (by kernel_rfl) (fun _ _ _ h => h) (yieldsIf_load_ct (by rfl) (.tmp 3) rfl w.heap.size rfl (A := A) (c := c) (x := x) (fun wq hq => by have h := HSW.out _ hq; exact h.1.1)) hHeld ?_
  try simp only [Act.put, List.setIfInBounds_toArray, List.set_cons_zero, List.set_cons_succ]
  refine wpAnyH_take (i := 20) (oi := { dst := some 62, op := Op.load 26 (Operand.tmp 4), type := 26, pos := "law.go:19", after := #[{ on := 15, ground := Ground.guard }], guard := some (15, true) }) (v := cv A2 c2 x2) rfl (by kernel_rfl) (by kernel_rfl) (by kernel_rfl) (fun _ _ _ h => h) (yieldsIf_load_ct (by rfl) (.tmp 4) rfl (w.heap.size + 1) rfl (A := A2) (c := c2) (x := x2) (fun wq hq => by have h := HSW.out _ hq; exact h.1.2.1)) hHeld ?_
  try simp only [Act.put, List.setIfInBounds_toArray, List.set_cons_zero, List.set_cons_succ]
  refine wpAnyH_ready (rs := [18]) (by kernel_rfl) (by simp) ?_
  refine AllReadyH.cons (o := { dst := some 60, op := Op.call { callee := Callee.value (Operand.func 31), args := #[Operand.tmp 58, Operand.tmp 59], argTypes := #[26, 26] }, type := 4, pos := "law.go:19", after := #[{ on := 16, ground := Ground.data }, { on := 17, ground := Ground.data }, { on := 15, ground := Ground.chain }, { on := 15, ground := Ground.guard }], guard := some (15, true) }) rfl (fun K hK => ?_) AllReadyH.nil
  go_simp
  go_at_call 31
  refine (F18.out _ HS3.out).mono ?_
  rintro e w118 ⟨rfl, hb1⟩
  have HS18 := Lib.hid (HSB.out _ _ HS3.out hb1)
  clear hb1
  try go_simp
  refine hK.out _ _ HS18.out (fun hHeld => ?_)
  clear hK K
  try simp only [Act.put, List.setIfInBounds_toArray, List.set_cons_zero, List.set_cons_succ]
  refine wpAnyH_ready (rs := [21]) (by kernel_rfl) (by simp) ?_
  refine AllReadyH.cons (o := { dst := some 63, op := Op.call { callee := Callee.value (Operand.func 32), args := #[Operand.tmp 61, Operand.tmp 62], argTypes := #[26, 26] }, type := 4, pos := "law.go:19", after := #[{ on := 19, ground := Ground.data }, { on := 20, ground := Ground.data }, { on := 18, ground := Ground.chain }, { on := 15, ground := Ground.guard }], guard := some (15, true) }) rfl (fun K hK => ?_) AllReadyH.nil
  go_simp
  go_at_call 32
  refine (F21.out _ HS18.out).mono ?_
  rintro e w121 ⟨rfl, hb1⟩
  have HS21 := Lib.hid (HSB.out _ _ HS18.out hb1)
  clear hb1
  try go_simp
  refine hK.out _ _ HS21.out (fun hHeld => ?_)
  clear hK K
  try simp only [Act.put, List.setIfInBounds_toArray, List.set_cons_zero, List.set_cons_succ]
  refine wpAnyH_take (i := 22) (oi := { dst := some 64, op := Op.binOp BinOp.eql 4 (Operand.tmp 60) (Operand.tmp 63) 4, type := 4, pos := "law.go:19", after := #[{ on := 18, ground := Ground.data }, { on := 21, ground := Ground.data }, { on := 15, ground := Ground.guard }], guard := some (15, true) }) (v := ?v22) rfl (by kernel_rfl) (by kernel_rfl) (by kernel_rfl) (fun _ _ _ h => h) (Or.inl ⟨by rfl, ?y22⟩) hHeld ?r22
  case y22 => intro wq hSw; skip; go_simp; try (with_reducible rfl)
  try simp only [Act.put, List.setIfInBounds_toArray, List.set_cons_zero, List.set_cons_succ]
  refine wpAnyH_take (i := 23) (oi := { dst := some 65, op := Op.pick (Operand.tmp 57) (Operand.tmp 64) (Operand.const (Value.bool false)), type := 4, pos := "law.go:19", after := #[{ on := 15, ground := Ground.data }, { on := 22, ground := Ground.data }], guard := none }) (v := ?v23) rfl (by kernel_rfl) (by kernel_rfl) (by kernel_rfl) (fun _ _ _ h => h) (Or.inl ⟨by rfl, ?y23⟩) hHeld ?r23
  case y23 => intro wq hSw; skip; go_simp; try (with_reducible rfl)
  try simp only [Act.put, List.setIfInBounds_toArray, List.set_cons_zero, List.set_cons_succ]
  refine wpAnyH_take (i := 24) (oi := { dst := some 66, op := Op.move (Operand.tmp 65), type := 4, pos := "law.go:19", after := #[{ on := 23, ground := Ground.data }, { on := 21, ground := Ground.chain }], guard := none }) (v := ?v24) rfl (by kernel_rfl) (by kernel_rfl) (by kernel_rfl) (fun _ _ _ h => h) (Or.inl ⟨by rfl, ?y24⟩) hHeld ?r24
  case y24 => intro wq hSw; skip; go_simp; try (with_reducible rfl)
  try simp only [Act.put, List.setIfInBounds_toArray, List.set_cons_zero, List.set_cons_succ]
  refine wpAnyH_take (i := 25) (oi := { dst := some 67, op := Op.load 26 (Operand.tmp 7), type := 26, pos := "law.go:19", after := #[{ on := 24, ground := Ground.guard }], guard := some (24, true) }) (v := cv A3 c3 x) rfl (by kernel_rfl) (by kernel_rfl) (by kernel_rfl) (fun _ _ _ h => h) (yieldsIf_load_ct (by rfl) (.tmp 7) rfl w3.heap.size rfl (A := A3) (c := c3) (x := x) (fun wq hq => by have h := HSW.out _ hq; exact h.1.2.2.1)) hHeld ?_
  try simp only [Act.put, List.setIfInBounds_toArray, List.set_cons_zero, List.set_cons_succ]
  refine wpAnyH_take (i := 26) (oi := { dst := some 68, op := Op.load 26 (Operand.tmp 3), type := 26, pos := "law.go:19", after := #[{ on := 24, ground := Ground.guard }], guard := some (24, true) }) (v := cv A c x) rfl (by kernel_rfl) (by kernel_rfl) (by kernel_rfl) (fun _ _ _ h => h) (yieldsIf_load_ct (by rfl) (.tmp 3) rfl w.heap.size rfl (A := A) (c := c) (x := x) (fun wq hq => by have h := HSW.out _ hq; exact h.1.1)) hHeld ?_
  try simp only [Act.put, List.setIfInBounds_toArray, List.set_cons_zero, List.set_cons_succ]
  refine wpAnyH_ready (rs := [27]) (by kernel_rfl) (by simp) ?_
  refine AllReadyH.cons (o := { dst := some 69, op := Op.call { callee := Callee.value (Operand.func 31), args := #[Operand.tmp 67, Operand.tmp 68], argTypes := #[26, 26] }, type := 4, pos := "law.go:19", after := #[{ on := 25, ground := Ground.data }, { on := 26, ground := Ground.data }, { on := 24, ground := Ground.chain }, { on := 24, ground := Ground.guard }], guard := some (24, true) }) rfl (fun K hK => ?_) AllReadyH.nil
  go_simp
  go_at_call 31
  refine (F27.out _ HS21.out).mono ?_
  rintro e w127 ⟨rfl, hb1⟩
  have HS27 := Lib.hid (HSB.out _ _ HS21.out hb1)
  clear hb1
  try go_simp
  refine hK.out _ _ HS27.out (fun hHeld => ?_)
  clear hK K
  try simp only [Act.put, List.setIfInBounds_toArray, List.set_cons_zero, List.set_cons_succ]
  refine wpAnyH_take (i := 28) (oi := { dst := some 70, op := Op.pick (Operand.tmp 66) (Operand.tmp 69) (Operand.const (Value.bool false)), type := 4, pos := "law.go:19", after := #[{ on := 24, ground := Ground.data }, { on := 27, ground := Ground.data }], guard := none }) (v := ?v28) rfl (by kernel_rfl) (by kernel_rfl) (by kernel_rfl) (fun _ _ _ h => h) (Or.inl ⟨by rfl, ?y28⟩) hHeld ?r28
  case y28 => intro wq hSw; skip; go_simp; try (with_reducible rfl)
  try simp only [Act.put, List.setIfInBounds_toArray, List.set_cons_zero, List.set_cons_succ]
  refine wpAnyH_take (i := 29) (oi := { dst := some 71, op := Op.move (Operand.tmp 70), type := 4, pos := "law.go:19", after := #[{ on := 28, ground := Ground.data }, { on := 27, ground := Ground.chain }], guard := none }) (v := ?v29) rfl (by kernel_rfl) (by kernel_rfl) (by kernel_rfl) (fun _ _ _ h => h) (Or.inl ⟨by rfl, ?y29⟩) hHeld ?r29
  case y29 => intro wq hSw; skip; go_simp; try (with_reducible rfl)
  try simp only [Act.put, List.setIfInBounds_toArray, List.set_cons_zero, List.set_cons_succ]
  refine wpAnyH_take (i := 30) (oi := { dst := some 72, op := Op.load 26 (Operand.tmp 12), type := 26, pos := "law.go:19", after := #[{ on := 29, ground := Ground.guard }], guard := some (29, true) }) (v := cv A7 c7 x) rfl (by kernel_rfl) (by kernel_rfl) (by kernel_rfl) (fun _ _ _ h => h) (yieldsIf_load_ct (by rfl) (.tmp 12) rfl w7.heap.size rfl (A := A7) (c := c7) (x := x) (fun wq hq => by have h := HSW.out _ hq; exact h.1.2.2.2)) hHeld ?_
  try simp only [Act.put, List.setIfInBounds_toArray, List.set_cons_zero, List.set_cons_succ]
  refine wpAnyH_take (i := 31) (oi := { dst := some 73, op := Op.load 26 (Operand.tmp 3), type := 26, pos := "law.go:19", after := #[{ on := 29, ground := Ground.guard }], guard := some (29, true) }) (v := cv A c x) rfl (by kernel_rfl) (by kernel_rfl) (by kernel_rfl) (fun _ _ _ h => h) (yieldsIf_load_ct (by rfl) (.tmp 3) rfl w.heap.size rfl (A := A) (c := c) (x := x) (fun wq hq => by have h := HSW.out _ hq; exact h.1.1)) hHeld ?_
  try simp only [Act.put, List.setIfInBounds_toArray, List.set_cons_zero, List.set_cons_succ]
  refine wpAnyH_ready (rs := [32]) (by kernel_rfl) (by simp) ?_
  refine AllReadyH.cons (o := { dst := some 74, op := Op.call { callee := Callee.value (Operand.func 32), args := #[Operand.tmp 72, Operand.tmp 73], argTypes := #[26, 26] }, type := 4, pos := "law.go:19", after := #[{ on := 30, ground := Ground.data }, { on := 31, ground := Ground.data }, { on := 29, ground := Ground.chain }, { on := 29, ground := Ground.guard }], guard := some (29, true) }) rfl (fun K hK => ?_) AllReadyH.nil
  go_simp
  go_at_call 32
  refine (F32.out _ HS27.out).mono ?_
  rintro e w132 ⟨rfl, hb1⟩
  have HS32 := Lib.hid (HSB.out _ _ HS27.out hb1)
  clear hb1
  try go_simp
  refine hK.out _ _ HS32.out (fun hHeld => ?_)
  clear hK K
  try simp only [Act.put, List.setIfInBounds_toArray, List.set_cons_zero, List.set_cons_succ]
  refine wpAnyH_take (i := 33) (oi := { dst := some 75, op := Op.pick (Operand.tmp 71) (Operand.tmp 74) (Operand.const (Value.bool false)), type := 4, pos := "law.go:19", after := #[{ on := 29, ground := Ground.data }, { on := 32, ground := Ground.data }], guard := none }) (v := ?v33) rfl (by kernel_rfl) (by kernel_rfl) (by kernel_rfl) (fun _ _ _ h => h) (Or.inl ⟨by rfl, ?y33⟩) hHeld ?r33
  case y33 => intro wq hSw; skip; go_simp; try (with_reducible rfl)
  try simp only [Act.put, List.setIfInBounds_toArray, List.set_cons_zero, List.set_cons_succ]
  refine wpAnyH_take (i := 34) (oi := { dst := some 13, op := Op.assign (Operand.tmp 75), type := 4, pos := "law.go:19", after := #[{ on := 33, ground := Ground.data }, { on := 32, ground := Ground.chain }, { on := 0, ground := Ground.phase }, { on := 1, ground := Ground.phase }, { on := 2, ground := Ground.phase }, { on := 3, ground := Ground.phase }, { on := 4, ground := Ground.phase }, { on := 5, ground := Ground.phase }, { on := 6, ground := Ground.phase }, { on := 7, ground := Ground.phase }, { on := 8, ground := Ground.phase }, { on := 9, ground := Ground.phase }, { on := 10, ground := Ground.phase }, { on := 11, ground := Ground.phase }, { on := 12, ground := Ground.phase }, { on := 13, ground := Ground.phase }, { on := 14, ground := Ground.phase }, { on := 15, ground := Ground.phase }, { on := 16, ground := Ground.phase }, { on := 17, ground := Ground.phase }, { on := 18, ground := Ground.phase }, { on := 19, ground := Ground.phase }, { on := 20, ground := Ground.phase }, { on := 21, ground := Ground.phase }, { on := 22, ground := Ground.phase }, { on := 23, ground := Ground.phase }, { on := 24, ground := Ground.phase }, { on := 25, ground := Ground.phase }, { on := 26, ground := Ground.phase }, { on := 27, ground := Ground.phase }, { on := 28, ground := Ground.phase }, { on := 29, ground := Ground.phase }, { on := 30, ground := Ground.phase }, { on := 31, ground := Ground.phase }, { on := 32, ground := Ground.phase }, { on := 33, ground := Ground.phase }], guard := none }) (v := ?v34) rfl (by kernel_rfl) (by kernel_rfl) (by kernel_rfl) (fun _ _ _ h => h) (Or.inl ⟨by rfl, ?y34⟩) hHeld ?r34
  case y34 => intro wq hSw; skip; go_simp; try (with_reducible rfl)
  try simp only [Act.put, List.setIfInBounds_toArray, List.set_cons_zero, List.set_cons_succ]
  refine wpAnyH_done (by kernel_rfl) ?_ _
  have HI := Lib.hid (HSW.out _ HS32.out)
  clear hHeld
  have hc12 : w132.cell? ⟨w7.heap.size, 1, none⟩ = some (.slice A7 x.cands.length c7) := HI.out.1.2.2.2.cell 1
  have HJ0 := Lib.hid (show ∀ k, k < x.cands.length → ∃ g cur, A7 = some ⟨g, 0, none⟩ ∧ w6.heap.size ≤ g ∧ g < w7.heap.size ∧ Blk w132 g 9 cur ∧ x.cands.length ≤ cur.size from fun k hk => by
    rcases HI.out.2.1.2.2 with ⟨hv, hn⟩ | ⟨g, cap, cur, hv, hb, hg, hnc, hcm, hsz, _⟩
    · omega
    · simp only [Value.slice.injEq] at hv
      obtain ⟨rfl, _, rfl⟩ := hv
      have := HL7.out g rfl
      exact ⟨g, cur, rfl, this.1, this.2, hg, by omega⟩)
  have HNL := Lib.hid HGN.out.1
  have HWS := Lib.hid (show w.heap.size < w3.heap.size from HB03.out.lt)
  go_wp2_with fail
  go_loopw [14] (fun i wr => ∃ k : Nat, k ≤ x.cands.length ∧ i = .int .i64 k ∧ Hid (Blk wr w.heap.size 26 (cvs A c x)) ∧ Hid (Blk wr w3.heap.size 26 (cvs A3 c3 x)) ∧ Hid (Blk wr w7.heap.size 26 (cvs A7 c7 x)) ∧ Hid (Rf sv wr w6.heap.size A3 c3 x.cands) ∧ Hid (Below w.heap.size w wr) ∧ Hid (w6.heap.size ≤ wr.heap.size) ∧ Hid (∀ k, k < x.cands.length → ∃ g cur, A7 = some ⟨g, 0, none⟩ ∧ w6.heap.size ≤ g ∧ g < w7.heap.size ∧ Blk wr g 9 cur ∧ x.cands.length ≤ cur.size)) (fun i _ => x.cands.length - (intOf i).toNat)
  case atStart => exact ⟨0, Nat.zero_le _, rfl, HI.out.1.1, HI.out.1.2.2.1, HI.out.1.2.2.2, HI.out.2.1.1, HI.out.2.2.1, HI.out.2.2.2, HJ0⟩
  case round =>
    obtain ⟨k, hk, rfl, hb0, hb3, hb7, hr3, hbw, hsz, hj⟩ := hrel
    rename_i wr
    have hd12 : wr.cell? ⟨w7.heap.size, 1, none⟩ = some (.slice A7 x.cands.length c7) := hb7.out.cell 1
    by_cases hlt : k < x.cands.length
    · obtain ⟨g, cur, rfl, hg6, hg7, hbg, hcur⟩ := hj.out k hlt
      obtain ⟨old, hcg⟩ : ∃ old, wr.cell? ⟨g, k, none⟩ = some old := ⟨cur[k]'(by omega), by
        rw [Blk.cell hbg k]
        exact Array.getElem?_eq_getElem (by omega)⟩
      have hfg : wr.frozen? ⟨g, k, none⟩ = false := hbg.frozen k
      have hk9 : x.cands.length ≤ 100 := HNL.out
      have HCU := Lib.hid hcur
      have HBG := Lib.hid hbg
      clear hcur hbg
      go_wp2_with fail
      have h3 := HL6.out
      have h0 := HWS.out
      refine ⟨⟨k + 1, by omega, by go_num, ?_, ?_, ?_, ?_, ?_, ?_, ?_⟩, by simp [intOf]; omega⟩
      · exact hb0.out.far (by show w.heap.size ≠ g; omega) _
      · exact hb3.out.far (by show w3.heap.size ≠ g; omega) _
      · exact hb7.out.far (by show w7.heap.size ≠ g; omega) _
      · exact hr3.out.below ((Below.refl _ wr).setCell (p := ⟨g, k, none⟩) hg6 _)
      · exact hbw.out.setCell (p := ⟨g, k, none⟩) (by show w.heap.size ≤ g; omega) _
      · show _ ≤ _
        have := hsz.out
        simp only [World.setCell, Array.size_modify]
        omega
      · show ∀ j, _ → _
        intro j hj2
        refine ⟨g, _, rfl, hg6, hg7, HBG.out.set_ k _, ?_⟩
        have := HCU.out
        simpa using this
    · obtain rfl : k = x.cands.length := by omega
      have HRX := Lib.hid (hr3.out.more hsz.out)
      go_wp2_with (first
        | (with_reducible refine wpList_load_ct (by kernel_rfl) (.tmp 7) rfl w3.heap.size rfl (A := A3) (c := c3) (x := x) hb3.out ?_)
        | (with_reducible refine wpList_load_ct (by kernel_rfl) (.tmp 3) rfl w.heap.size rfl (A := A) (c := c) (x := x) hb0.out ?_))
      refine (FE.out wr HRX.out hbw.out).mono ?_
      rintro e w20 ⟨rfl, hb⟩
      have B20 := Lib.hid (hbw.out.trans (hb.mono hbw.out.size))
      clear hb
      go_wp2_with fail
      go_ret
      exact ⟨rfl, B20.out⟩
end Go.Proofs.YtdjifopdlkppoaaDoor
