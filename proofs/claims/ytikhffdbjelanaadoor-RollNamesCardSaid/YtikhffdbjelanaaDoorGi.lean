/- The laws' two, alive. RollBytes. RollBack. RollDoes. RollTells. -/
import Derived.Test.YtikhffdbjelanaaDoorGh
namespace Go.Proofs.YtikhffdbjelanaaDoor
open Go.RowKit
set_option linter.unusedVariables false

def bobB : List UInt8 := [98, 111, 98]
def annB : List UInt8 := [97, 110, 110]
/-- The roll of the chapter's example. -/
def twoL : List Vt := [⟨annB, 1, 1⟩, ⟨bobB, 1, 3⟩]
theorem ex1 : addV [] bobB 1 = ([⟨bobB, 1, 1⟩], 0) := by decide +kernel
theorem ex2 : addV [⟨bobB, 1, 1⟩] annB 1 = ([⟨annB, 1, 1⟩, ⟨bobB, 1, 1⟩], 0) := by decide +kernel
theorem ex3 : doneV [⟨annB, 1, 1⟩, ⟨bobB, 1, 1⟩] bobB 1 = ([⟨annB, 1, 1⟩, ⟨bobB, 1, 2⟩], 0) := by decide +kernel
theorem ex4 : doneV [⟨annB, 1, 1⟩, ⟨bobB, 1, 2⟩] bobB 3 = (twoL, 0) := by decide +kernel
theorem ex5 : doneV twoL bobB 1 = ([], 241) := by decide +kernel
theorem ex6 : countV twoL (-1) = (⟨1, 0, 1, 0⟩, 0) := by decide +kernel
theorem ex7 : checkV twoL = 0 := by decide +kernel
theorem fine_of {l : List Vt} (h : checkV l = 0) : VtOk l := VtOk.roll h

set_option maxRecDepth 100000 in
set_option maxHeartbeats 1000000 in
theorem two_any {T : World → Prop} (K : Con24 T) (w : World) (hT : T w) :
    Calls Tryd.prog 11 #[] w fun e w' => ∃ (A : Option Addr) (c : Nat), e = .returned (.tuple #[.slice A 2 c, .bool true]) ∧ OwV w' w.heap.size A c twoL ∧ Below w.heap.size w w' := by
  have HK := Lib.hid K
  have HT := Lib.hid hT
  clear K hT
  have H1 := Lib.hid (HK.out.add [] bobB 1 none 0 w (Rk.empty _ _) VtOk.nil (by decide) (by decide) HT.out)
  go_enter Tryd.func11, Tryd.ntmps11
  go_wp2_with fail
  refine H1.out.mono ?_
  rintro e w1 ⟨A1, c1, r1, e1, rfl, hq, ho, hb⟩
  rw [ex1] at hq
  obtain ⟨hr, rfl⟩ := Prod.mk.inj hq
  have HR1 := Lib.hid hr
  have HO1 := Lib.hid ho
  have B1 := Lib.hid hb
  clear hq hr ho hb
  go_wp2_with fail
  refine (HK.out.add r1 annB 1 A1 c1 w1 (HO1.out.rd vl_len) (by rw [HR1.out]; exact fine_of (by decide +kernel)) (by decide) (by decide) (HK.out.keep HT.out B1.out)).mono ?_
  rintro e w2 ⟨A2, c2, r2, e2, rfl, hq, ho, hb⟩
  rw [HR1.out, ex2] at hq
  obtain ⟨hr, rfl⟩ := Prod.mk.inj hq
  have HR2 := Lib.hid hr
  have HO2 := Lib.hid ho
  have B2 := Lib.hid (B1.out.trans (hb.mono B1.out.size))
  clear hq hr ho hb
  go_wp2_with fail
  refine (HK.out.issue r2 bobB A2 c2 w2 (HO2.out.rd vl_len) (by rw [HR2.out]; exact fine_of (by decide +kernel)) (by decide) (HK.out.keep HT.out B2.out)).mono ?_
  rintro e w3 ⟨A3, c3, r3, e3, rfl, hq, ho, hb⟩
  rw [HR2.out, ex3] at hq
  obtain ⟨hr, rfl⟩ := Prod.mk.inj hq
  have HR3 := Lib.hid hr
  have HO3 := Lib.hid ho
  have B3 := Lib.hid (B2.out.trans (hb.mono B2.out.size))
  clear hq hr ho hb
  go_wp2_with fail
  refine (HK.out.vote r3 bobB A3 c3 w3 (HO3.out.rd vl_len) (by rw [HR3.out]; exact fine_of (by decide +kernel)) (by decide) (HK.out.keep HT.out B3.out)).mono ?_
  rintro e w4 ⟨A4, c4, r4, e4, rfl, hq, ho, hb⟩
  rw [HR3.out, ex4] at hq
  obtain ⟨rfl, rfl⟩ := Prod.mk.inj hq
  have HO4 := Lib.hid (ho.lower B3.out.size)
  have B4 := Lib.hid (B3.out.trans (hb.mono B3.out.size))
  clear hq ho hb
  go_wp2_with fail
  go_ret2
  exact ⟨A4, c4, rfl, HO4.out, B4.out⟩

set_option maxRecDepth 100000 in
set_option maxHeartbeats 2000000 in
theorem aliveV_any {T : World → Prop} (K : Con24 T) (w : World) (hT : T w) :
    Calls Tryd.prog 20 #[] w fun e w' => e = .returned (.bool true) ∧ Below w.heap.size w w' := by
  have HK := Lib.hid K
  have HT := Lib.hid hT
  have H1 := Lib.hid (two_any K w hT)
  clear K hT
  go_enter Tryd.func20, Tryd.ntmps20
  go_wp2_with fail
  refine H1.out.mono ?_
  rintro e w1 ⟨A1, c1, rfl, ho, hb⟩
  have HO1 := Lib.hid ho
  have B1 := Lib.hid hb
  obtain ⟨b, o, rfl, hbb, hc⟩ := (ho.rd vl_len).vt (k := 0) (by decide)
  have HC := Lib.hid hc
  clear ho hb hc
  go_wp2_with fail
  refine (HK.out.issue twoL bobB _ c1 w1 (HO1.out.rd vl_len) (fine_of ex7) (by decide) (HK.out.keep HT.out B1.out)).mono ?_
  rintro e w2 ⟨A2, c2, r2, e2, rfl, hq, ho, hb⟩
  rw [ex5] at hq
  obtain ⟨hr, rfl⟩ := Prod.mk.inj hq
  have HB2 := Lib.hid hb
  have B2 := Lib.hid (B1.out.trans (hb.mono B1.out.size))
  clear hq hr ho hb
  go_wp2_with fail
  refine (HK.out.count twoL (-1) _ c1 w2 (((HO1.out.rd vl_len).below HB2.out).more HB2.out.size) (fine_of ex7) (by decide) (HK.out.keep HT.out B2.out)).mono ?_
  rintro e w3 ⟨t3, e3, rfl, hq, hb⟩
  rw [ex6] at hq
  obtain ⟨rfl, rfl⟩ := Prod.mk.inj hq
  have HB3 := Lib.hid (HB2.out.trans (hb.mono HB2.out.size))
  have B3 := Lib.hid (B2.out.trans (hb.mono B2.out.size))
  clear hq hb
  obtain ⟨f1, f2, f3⟩ := HC.out 0 (by decide)
  obtain ⟨g1, g2, g3⟩ := HC.out 1 (by decide)
  have hc1 : w3.cell? ⟨b, o, none⟩ = some (.string ⟨#[97, 110, 110]⟩) := (HB3.out.cell (p := ⟨b, o, none⟩) hbb).trans f1
  have hc2 : w3.cell? ⟨b, o + 1, none⟩ = some (.int .i64 1) := (HB3.out.cell (p := ⟨b, o + 1, none⟩) hbb).trans f2
  have hc3 : w3.cell? ⟨b, o + 2, none⟩ = some (.int .u8 1) := (HB3.out.cell (p := ⟨b, o + 2, none⟩) hbb).trans f3
  have hc4 : w3.cell? ⟨b, o + 3 + 2, none⟩ = some (.int .u8 3) := (HB3.out.cell (p := ⟨b, o + 3 + 2, none⟩) hbb).trans g3
  clear f1 f2 f3 g1 g2 g3
  have hbb3 : b < w3.heap.size := Nat.lt_of_lt_of_le hbb HB3.out.size
  unfold tov tvs
  go_wp2_with fail
  go_ret
  exact ⟨rfl, B3.out.trans ((below_new _ _).mono B3.out.size)⟩
end Go.Proofs.YtikhffdbjelanaaDoor
namespace Go.Proofs.YtikhffdbjelanaaDoor
open Go.RowKit
set_option linter.unusedVariables false

/-- What a law keeps in memory: lists of voters, lists of bytes. -/
structure MemV (w0 w : World) (V : List (Option Addr × Nat × List Vt)) (B : List (Option Addr × Nat × List UInt8)) : Prop where
  bel : Below w0.heap.size w0 w
  vts : ∀ p ∈ V, Rvt w w.heap.size p.1 p.2.1 p.2.2
  bys : ∀ p ∈ B, Rf bv w w.heap.size p.1 p.2.1 p.2.2
section
variable {w0 w w' : World} {V : List (Option Addr × Nat × List Vt)} {B : List (Option Addr × Nat × List UInt8)}
theorem MemV.below (h : MemV w0 w V B) (hb : Below w.heap.size w w') : MemV w0 w' V B :=
  ⟨h.bel.trans (hb.mono h.bel.size), fun p hp => ((h.vts p hp).below hb).more hb.size, fun p hp => ((h.bys p hp).below hb).more hb.size⟩
theorem MemV.addV (h : MemV w0 w V B) {A : Option Addr} {c : Nat} {l : List Vt} (hr : Rvt w w.heap.size A c l) : MemV w0 w ((A, c, l) :: V) B :=
  ⟨h.bel, fun p hp => by rcases List.mem_cons.1 hp with e | hp; (subst e; exact hr); exact h.vts p hp, h.bys⟩
theorem MemV.addB (h : MemV w0 w V B) {A : Option Addr} {c : Nat} {l : List UInt8} (hr : Rf bv w w.heap.size A c l) : MemV w0 w V ((A, c, l) :: B) :=
  ⟨h.bel, h.vts, fun p hp => by rcases List.mem_cons.1 hp with e | hp; (subst e; exact hr); exact h.bys p hp⟩
end

set_option maxRecDepth 100000 in
set_option maxHeartbeats 4000000 in
theorem rollBytes_any {T : World → Prop} (K : Con24 T) (l : List Vt) (A : Option Addr) (c : Nat) (b : List UInt8) (A2 : Option Addr) (c2 : Nat) (w : World) (hr : Rvt w w.heap.size A c l) (hs : ∀ v ∈ l, v.state ≤ 255) (hp : ∀ v ∈ l, -9223372036854775808 ≤ v.pre ∧ v.pre ≤ 9223372036854775807) (hl : Rf bv w w.heap.size A2 c2 b) (hT : T w) :
    Calls Tryd.prog 6 #[.slice A l.length c, .slice A2 b.length c2] w fun e w' => e = .returned (.bool true) ∧ Below w.heap.size w w' := by
  have HK := Lib.hid K
  have HT := Lib.hid hT
  have HG := Lib.hid (refGreat_any l A c w hr)
  have M0 := Lib.hid (show MemV w w [(A, c, l)] [(A2, c2, b)] from ⟨Below.refl _ _, by simp [hr], by simp [hl]⟩)
  clear K hT hr hl
  cases hg : greatV l with
  | true =>
    have HGB := Lib.hid hg
    clear hg
    go_enter Tryd.func6, Tryd.ntmps6
    go_wp2_with fail
    refine HG.out.mono ?_
    rintro e w1 ⟨rfl, rfl⟩
    rw [HGB.out]
    go_wp2_with fail
    go_ret
    exact ⟨rfl, Below.refl _ _⟩
  | false =>
  have HGB := Lib.hid hg
  obtain ⟨h100, h1000⟩ := greatV_no hg
  have HOK := Lib.hid (show VtOk l from ⟨by omega, fun v hv => Nat.le_trans (h1000 v hv) (by decide), hs, hp⟩)
  clear hg hs hp h1000
  by_cases hbig : 20000 < b.length
  · have hbd : decide ((20000 : Int) < (b.length : Int)) = true := by simp; omega
    clear hbig
    go_enter Tryd.func6, Tryd.ntmps6
    go_wp2_with fail
    refine HG.out.mono ?_
    rintro e w1 ⟨rfl, rfl⟩
    rw [HGB.out]
    go_wp2_with fail
    go_ret
    exact ⟨rfl, Below.refl _ _⟩
  have hbd : decide ((20000 : Int) < (b.length : Int)) = false := by simp; omega
  have HLL := Lib.hid (show b.length ≤ 20000 by omega)
  clear hbig
  obtain ⟨i0, hi0, hz0, hz1, hz2⟩ := info_parts bInfo24
  go_enter Tryd.func6, Tryd.ntmps6
  go_wp2_with fail
  refine HG.out.mono ?_
  rintro e w1 ⟨rfl, hw⟩
  obtain rfl := hw.symm
  rw [HGB.out]
  go_wp2_with (at_builtin; refine wpList_append_f _ bv_one rfl _ _ 37 rfl w.heap.size 5 1 i0 _ Tryd.underlying37 hi0 hz0 hz1 hz2 (by omega) rfl ([] : List UInt8) b rfl rfl (ow_zero _ _ _ (Nat.le_refl _)) ((M0.out.bys (A2, c2, b) (by simp)).below (below_new w _)) (by have := HLL.out; simp; omega) (by simp) ?_; intro A3 c3 w3 r3 hr3 ho3 hg3 hb3)
  obtain rfl : r3 = b := by rw [hr3.out, List.nil_append]
  have B3 : Below w.heap.size w w3 := (below_new w _).trans (below_of_grown hg3 (by simp) (by intro k hk; simp [blk] at hk; omega))
  have M3 := Lib.hid ((M0.out.below B3).addB ho3.rd)
  clear hr3 ho3 hg3 hb3 B3
  go_wp2_with fail
  refine (HK.out.bytes l A c w3 (M3.out.vts (A, c, l) (by simp)) HOK.out (HK.out.keep HT.out M3.out.bel)).mono ?_
  rintro e w4 ⟨A4, c4, r4, e4, rfl, hq, ho, hb⟩
  have HQ4 := Lib.hid hq
  have M4 := Lib.hid ((M3.out.below hb).addB ho.rd)
  clear hq ho hb
  go_wp2_with fail
  refine (refBytesV_any l A c w4 (M4.out.vts (A, c, l) (by simp)) HOK.out.long).mono ?_
  rintro e w5 ⟨A5, c5, r5, e5, rfl, hq, ho, hb⟩
  obtain ⟨he, he2⟩ := Prod.mk.inj (HQ4.out.trans hq.symm)
  subst he2
  have HRE := Lib.hid he
  have M5 := Lib.hid ((M4.out.below hb).addB ho.rd)
  clear hq ho hb he
  go_wp2_with fail
  refine (HK.out.read r3 A3 c3 w5 (M5.out.bys (A3, c3, r3) (by simp)) (Nat.le_trans HLL.out (by decide)) (HK.out.keep HT.out M5.out.bel)).mono ?_
  rintro e w6 ⟨A6, c6, x6, e6, rfl, hq, ho, hb⟩
  have HQ6 := Lib.hid hq
  have M6 := Lib.hid ((M5.out.below hb).addV (ho.rd vl_len))
  clear hq ho hb
  go_wp2_with fail
  refine (refReadV_any r3 A2 c2 w6 (M6.out.bys (A2, c2, r3) (by simp)) (Nat.le_trans HLL.out (by decide))).mono ?_
  rintro e w7 ⟨A7, c7, x7, e7, rfl, hq, ho, hb⟩
  obtain ⟨he, he2⟩ := Prod.mk.inj (HQ6.out.trans hq.symm)
  subst he2
  have HXE := Lib.hid he
  have HXL := Lib.hid (show x6.length ≤ 1000000 by
    have h := (readV_fine r3).len
    rw [← HQ6.out] at h
    exact Nat.le_trans h (by decide))
  have M7 := Lib.hid ((M6.out.below hb).addV (ho.rd vl_len))
  clear hq ho hb he
  have hk1 := run_string_f (P := Tryd.prog) w7 37 9 5 Tryd.underlying37 Tryd.underlying5 Tryd.underlying9 (M7.out.bys (A4, c4, r4) (by simp))
  have hk2 := run_string_f (P := Tryd.prog) w7 37 9 5 Tryd.underlying37 Tryd.underlying5 Tryd.underlying9 (M7.out.bys (A5, c5, r5) (by simp))
  have hb45 : (r4 == r5) = true := by rw [beq_iff_eq]; exact HRE.out
  go_wp2_with fail
  refine (refSame_any x6 x7 A6 A7 c6 c7 w7 (M7.out.vts (A6, c6, x6) (by simp)) (M7.out.vts (A7, c7, x7) (by simp)) HXL.out (by rw [← HXE.out]; exact HXL.out)).mono ?_
  rintro e w8 ⟨rfl, hb⟩
  rw [show decide (x6 = x7) = true from decide_eq_true HXE.out]
  have M8 := Lib.hid (M7.out.below hb)
  clear hb hk1 hk2
  have hk3 := run_string_f (P := Tryd.prog) w8 37 9 5 Tryd.underlying37 Tryd.underlying5 Tryd.underlying9 (M8.out.bys (A3, c3, r3) (by simp))
  have hk4 := run_string_f (P := Tryd.prog) w8 37 9 5 Tryd.underlying37 Tryd.underlying5 Tryd.underlying9 (M8.out.bys (A2, c2, r3) (by simp))
  go_wp2_with fail
  go_ret
  exact ⟨rfl, M8.out.bel⟩
end Go.Proofs.YtikhffdbjelanaaDoor
namespace Go.Proofs.YtikhffdbjelanaaDoor
open Go.RowKit
set_option linter.unusedVariables false

theorem readV_cases (b : List UInt8) : ((readV b).2 = 0 ∧ bytesV (readV b).1 = (b, 0)) ∨ ((readV b).2 ≠ 0 ∧ (readV b).1 = []) := by
  by_cases h : (readV b).2 = 0
  · exact .inl ⟨h, (bytesV_read h).1⟩
  · exact .inr ⟨h, readV_err h⟩

set_option maxRecDepth 100000 in
set_option maxHeartbeats 4000000 in
theorem rollBack_any {T : World → Prop} (K : Con24 T) (l : List Vt) (A : Option Addr) (c : Nat) (b : List UInt8) (A2 : Option Addr) (c2 : Nat) (w : World) (hr : Rvt w w.heap.size A c l) (hs : ∀ v ∈ l, v.state ≤ 255) (hp : ∀ v ∈ l, -9223372036854775808 ≤ v.pre ∧ v.pre ≤ 9223372036854775807) (hl : Rf bv w w.heap.size A2 c2 b) (hT : T w) :
    Calls Tryd.prog 10 #[.slice A l.length c, .slice A2 b.length c2] w fun e w' => e = .returned (.bool true) ∧ Below w.heap.size w w' := by
  have HK := Lib.hid K
  have HT := Lib.hid hT
  have HG := Lib.hid (fun wx (hb : Below w.heap.size w wx) => refGreat_any l A c wx ((hr.below hb).more hb.size))
  have M0 := Lib.hid (show MemV w w [(A, c, l)] [(A2, c2, b)] from ⟨Below.refl _ _, by simp [hr], by simp [hl]⟩)
  have HA := Lib.hid (aliveV_any K w hT)
  clear K hT hr hl
  cases hg : greatV l with
  | true =>
    have HGB := Lib.hid hg
    clear hg
    go_enter Tryd.func10, Tryd.ntmps10
    go_wp2_with fail
    refine HA.out.mono ?_
    rintro e w1 ⟨rfl, hb⟩
    have B1 := Lib.hid hb
    clear hb
    go_wp2_with fail
    refine (HG.out _ B1.out).mono ?_
    rintro e w2 ⟨rfl, hw⟩
    obtain rfl := hw.symm
    rw [HGB.out]
    go_wp2_with fail
    go_ret
    exact ⟨rfl, B1.out⟩
  | false =>
  have HGB := Lib.hid hg
  obtain ⟨h100, h1000⟩ := greatV_no hg
  have HOK := Lib.hid (show VtOk l from ⟨by omega, fun v hv => Nat.le_trans (h1000 v hv) (by decide), hs, hp⟩)
  clear hg hs hp h1000
  by_cases hbig : 20000 < b.length
  · have hbd : decide ((20000 : Int) < (b.length : Int)) = true := by simp; omega
    clear hbig
    go_enter Tryd.func10, Tryd.ntmps10
    go_wp2_with fail
    refine HA.out.mono ?_
    rintro e w1 ⟨rfl, hb⟩
    have B1 := Lib.hid hb
    clear hb
    go_wp2_with fail
    refine (HG.out _ B1.out).mono ?_
    rintro e w2 ⟨rfl, hw⟩
    obtain rfl := hw.symm
    rw [HGB.out]
    go_wp2_with fail
    go_ret
    exact ⟨rfl, B1.out⟩
  have hbd : decide ((20000 : Int) < (b.length : Int)) = false := by simp; omega
  have HLL := Lib.hid (show b.length ≤ 20000 by omega)
  clear hbig
  have hc := checkV_cases l
  have hrb := readV_cases b
  have HRC := Lib.hid hrb
  clear hrb
  rcases hc with h0 | h0 | h0
  · have HE := Lib.hid h0
    have HBY := Lib.hid (show bytesV l = ((bytesV l).1, 0) by unfold bytesV; rw [if_neg (by omega)])
    have HRB := Lib.hid (readV_bytes h0)
    clear h0
    go_enter Tryd.func10, Tryd.ntmps10
    go_wp2_with fail
    refine HA.out.mono ?_
    rintro e w1 ⟨rfl, hb⟩
    have M1 := Lib.hid (M0.out.below hb)
    clear hb
    go_wp2_with fail
    refine (HG.out _ M1.out.bel).mono ?_
    rintro e w2 ⟨rfl, hw⟩
    obtain rfl := hw.symm
    rw [HGB.out]
    go_wp2_with fail
    refine (HK.out.bytes l A c w1 (M1.out.vts (A, c, l) (by simp)) HOK.out (HK.out.keep HT.out M1.out.bel)).mono ?_
    rintro e w3 ⟨A3, c3, r3, e3, rfl, hq, ho, hb⟩
    have HRL := Lib.hid (show r3.length ≤ 100000 by have h := bytesV_short l; rw [← hq] at h; exact Nat.le_trans h (by decide))
    have HRE := Lib.hid (show r3 = (bytesV l).1 by rw [← hq])
    obtain rfl : e3 = 0 := by rw [HBY.out] at hq; exact (Prod.mk.inj hq).2
    have M3 := Lib.hid ((M1.out.below hb).addB ho.rd)
    clear hq ho hb
    go_wp2_with fail
    refine (HK.out.read r3 A3 c3 w3 (M3.out.bys (A3, c3, r3) (by simp)) HRL.out (HK.out.keep HT.out M3.out.bel)).mono ?_
    rintro e w4 ⟨A4, c4, x4, e4, rfl, hq, ho, hb⟩
    rw [HRE.out, HRB.out] at hq
    obtain ⟨he, rfl⟩ := Prod.mk.inj hq
    have HXE := Lib.hid he
    have M4 := Lib.hid ((M3.out.below hb).addV (ho.rd vl_len))
    clear hq ho hb he
    go_wp2_with fail
    refine (refSame_any x4 l A4 A c4 c w4 (M4.out.vts (A4, c4, x4) (by simp)) (M4.out.vts (A, c, l) (by simp)) (by rw [HXE.out]; omega) (by omega)).mono ?_
    rintro e w5 ⟨rfl, hb⟩
    rw [show decide (x4 = l) = true from decide_eq_true HXE.out]
    have M5 := Lib.hid (M4.out.below hb)
    clear hb
    go_wp2_with fail
    refine (HK.out.read b A2 c2 w5 (M5.out.bys (A2, c2, b) (by simp)) (Nat.le_trans HLL.out (by decide)) (HK.out.keep HT.out M5.out.bel)).mono ?_
    rintro e w6 ⟨A6, c6, x6, e6, rfl, hq, ho, hb⟩
    have HQ6 := Lib.hid hq
    have HX6 := Lib.hid (show VtOk x6 by have h := readV_fine b; rw [← hq] at h; exact h)
    have M6 := Lib.hid ((M5.out.below hb).addV (ho.rd vl_len))
    clear hq ho hb
    go_wp2_with fail
    refine (HK.out.bytes x6 A6 c6 w6 (M6.out.vts (A6, c6, x6) (by simp)) HX6.out (HK.out.keep HT.out M6.out.bel)).mono ?_
    rintro e w7 ⟨A7, c7, r7, e7, rfl, hq, ho, hb⟩
    have HQ7 := Lib.hid hq
    have M7 := Lib.hid ((M6.out.below hb).addB ho.rd)
    clear hq ho hb
    rcases HRC.out with ⟨h1, h2⟩ | ⟨h1, h2⟩
    · have h6 := HQ6.out
      rw [← h6] at h1 h2
      obtain rfl : e6 = 0 := h1
      have h7 := HQ7.out
      rw [h2] at h7
      obtain ⟨he7, rfl⟩ := Prod.mk.inj h7
      have hk1 := run_string_f (P := Tryd.prog) w7 37 9 5 Tryd.underlying37 Tryd.underlying5 Tryd.underlying9 (M7.out.bys (A7, c7, r7) (by simp))
      have hk2 := run_string_f (P := Tryd.prog) w7 37 9 5 Tryd.underlying37 Tryd.underlying5 Tryd.underlying9 (M7.out.bys (A2, c2, b) (by simp))
      have hbe : (r7 == b) = true := by rw [beq_iff_eq]; exact he7
      clear h2 h6 h7 he7
      go_wp2_with fail
      go_ret
      exact ⟨rfl, M7.out.bel⟩
    · have h6 := HQ6.out
      rw [← h6] at h1 h2
      have hx0 : x6.length = 0 := by rw [show x6 = [] from h2]; rfl
      have hne : (e6 != 0) = true := by rw [bne_iff_ne]; exact h1
      have hne2 : ¬ e6 = 0 := h1
      clear h1 h2 h6
      go_wp2_with fail
      go_ret
      exact ⟨rfl, M7.out.bel⟩
  all_goals
    have HE := Lib.hid h0
    have HBY := Lib.hid (bytesV_err (l := l) (by rw [h0]; decide))
    rw [h0] at HBY
    clear h0
    go_enter Tryd.func10, Tryd.ntmps10
    go_wp2_with fail
    refine HA.out.mono ?_
    rintro e w1 ⟨rfl, hb⟩
    have M1 := Lib.hid (M0.out.below hb)
    clear hb
    go_wp2_with fail
    refine (HG.out _ M1.out.bel).mono ?_
    rintro e w2 ⟨rfl, hw⟩
    obtain rfl := hw.symm
    rw [HGB.out]
    go_wp2_with fail
    refine (HK.out.bytes l A c w1 (M1.out.vts (A, c, l) (by simp)) HOK.out (HK.out.keep HT.out M1.out.bel)).mono ?_
    rintro e w3 ⟨A3, c3, r3, e3, rfl, hq, ho, hb⟩
    have HRL := Lib.hid (show r3.length ≤ 100000 by have h := bytesV_short l; rw [← hq] at h; exact Nat.le_trans h (by decide))
    rw [HBY.out] at hq
    obtain ⟨he, rfl⟩ := Prod.mk.inj hq
    have HR0 := Lib.hid (show r3.length = 0 by rw [he]; rfl)
    have M3 := Lib.hid ((M1.out.below hb).addB ho.rd)
    clear hq ho hb he
    go_wp2_with fail
    refine (HK.out.read r3 A3 c3 w3 (M3.out.bys (A3, c3, r3) (by simp)) HRL.out (HK.out.keep HT.out M3.out.bel)).mono ?_
    rintro e w4 ⟨A4, c4, x4, e4, rfl, hq, ho, hb⟩
    have M4 := Lib.hid (M3.out.below hb)
    clear hq ho hb
    have hr0 := HR0.out
    go_wp2_with fail
    refine (HK.out.check l A c w4 (M4.out.vts (A, c, l) (by simp)) HOK.out (HK.out.keep HT.out M4.out.bel)).mono ?_
    rintro e w5 ⟨rfl, hb⟩
    rw [HE.out]
    have M5 := Lib.hid (M4.out.below hb)
    clear hb
    go_wp2_with fail
    refine (HK.out.read b A2 c2 w5 (M5.out.bys (A2, c2, b) (by simp)) (Nat.le_trans HLL.out (by decide)) (HK.out.keep HT.out M5.out.bel)).mono ?_
    rintro e w6 ⟨A6, c6, x6, e6, rfl, hq, ho, hb⟩
    have HQ6 := Lib.hid hq
    have HX6 := Lib.hid (show VtOk x6 by have h := readV_fine b; rw [← hq] at h; exact h)
    have M6 := Lib.hid ((M5.out.below hb).addV (ho.rd vl_len))
    clear hq ho hb
    go_wp2_with fail
    refine (HK.out.bytes x6 A6 c6 w6 (M6.out.vts (A6, c6, x6) (by simp)) HX6.out (HK.out.keep HT.out M6.out.bel)).mono ?_
    rintro e w7 ⟨A7, c7, r7, e7, rfl, hq, ho, hb⟩
    have HQ7 := Lib.hid hq
    have M7 := Lib.hid ((M6.out.below hb).addB ho.rd)
    clear hq ho hb
    rcases HRC.out with ⟨h1, h2⟩ | ⟨h1, h2⟩
    · have h6 := HQ6.out
      rw [← h6] at h1 h2
      obtain rfl : e6 = 0 := h1
      have h7 := HQ7.out
      rw [h2] at h7
      obtain ⟨he7, rfl⟩ := Prod.mk.inj h7
      have hk1 := run_string_f (P := Tryd.prog) w7 37 9 5 Tryd.underlying37 Tryd.underlying5 Tryd.underlying9 (M7.out.bys (A7, c7, r7) (by simp))
      have hk2 := run_string_f (P := Tryd.prog) w7 37 9 5 Tryd.underlying37 Tryd.underlying5 Tryd.underlying9 (M7.out.bys (A2, c2, b) (by simp))
      have hbe : (r7 == b) = true := by rw [beq_iff_eq]; exact he7
      clear h2 h6 h7 he7
      go_wp2_with fail
      go_ret
      exact ⟨rfl, M7.out.bel⟩
    · have h6 := HQ6.out
      rw [← h6] at h1 h2
      have hx0 : x6.length = 0 := by rw [show x6 = [] from h2]; rfl
      have hne : (e6 != 0) = true := by rw [bne_iff_ne]; exact h1
      have hne2 : ¬ e6 = 0 := h1
      clear h1 h2 h6
      go_wp2_with fail
      go_ret
      exact ⟨rfl, M7.out.bel⟩
end Go.Proofs.YtikhffdbjelanaaDoor
namespace Go.Proofs.YtikhffdbjelanaaDoor
open Go.RowKit
set_option linter.unusedVariables false

theorem doneV_len (l : List Vt) (n : List UInt8) (o : Int) : (doneV l n o).1.length ≤ 100000 := (doneV_fine l n o).len
/-- A list of the call's own, of which an element's state is overwritten. -/
theorem OwK.state77 {w : World} {base g c : Nat} {l : List Vt} (h : OwV w base (some ⟨g, 0, none⟩) c l) (k : Nat) (hk : k < l.length) :
    ∃ l' : List Vt, l'.length = l.length ∧ OwV (w.setCell ⟨g, k * 3 + 2, none⟩ (.int .u8 77)) base (some ⟨g, 0, none⟩) c l' ∧ w.grownBy (w.setCell ⟨g, k * 3 + 2, none⟩ (.int .u8 77)) (some g) := by
  obtain ⟨h1, h2⟩ := OwK.stored vl_len h k hk 2 (by omega) { l[k] with state := 77 } (.int .u8 77) (by simp [vl])
  exact ⟨_, by simp, h1, h2⟩

set_option maxRecDepth 100000 in
set_option maxHeartbeats 4000000 in
theorem rollDoes_any {T : World → Prop} (K : Con24 T) (l : List Vt) (A : Option Addr) (c : Nat) (n : List UInt8) (w : World) (hr : Rvt w w.heap.size A c l) (hs : ∀ v ∈ l, v.state ≤ 255) (hp : ∀ v ∈ l, -9223372036854775808 ≤ v.pre ∧ v.pre ≤ 9223372036854775807) (hT : T w) :
    Calls Tryd.prog 5 #[.slice A l.length c, .string ⟨n.toArray⟩] w fun e w' => e = .returned (.bool true) ∧ Below w.heap.size w w' := by
  have HK := Lib.hid K
  have HT := Lib.hid hT
  have HG := Lib.hid (refGreat_any l A c w hr)
  have M0 := Lib.hid (show MemV w w [(A, c, l)] [] from ⟨Below.refl _ _, by simp [hr], by simp⟩)
  clear K hT hr
  cases hg : greatV l with
  | true =>
    have HGB := Lib.hid hg
    clear hg
    go_enter Tryd.func5, Tryd.ntmps5
    go_wp2_with fail
    refine HG.out.mono ?_
    rintro e w1 ⟨rfl, hw⟩
    obtain rfl := hw.symm
    rw [HGB.out]
    go_wp2_with fail
    go_ret
    exact ⟨rfl, Below.refl _ _⟩
  | false =>
  have HGB := Lib.hid hg
  obtain ⟨h100, h1000⟩ := greatV_no hg
  have HOK := Lib.hid (show VtOk l from ⟨by omega, fun v hv => Nat.le_trans (h1000 v hv) (by decide), hs, hp⟩)
  clear hg hs hp h1000
  by_cases hbig : 1000 < n.length
  · have hbd : decide ((1000 : Int) < (n.length : Int)) = true := by simp; omega
    clear hbig
    go_enter Tryd.func5, Tryd.ntmps5
    go_wp2_with fail
    refine HG.out.mono ?_
    rintro e w1 ⟨rfl, hw⟩
    obtain rfl := hw.symm
    rw [HGB.out]
    go_wp2_with fail
    go_ret
    exact ⟨rfl, Below.refl _ _⟩
  have hbd : decide ((1000 : Int) < (n.length : Int)) = false := by simp; omega
  have HNL := Lib.hid (show n.length ≤ 100000 by omega)
  have HTW := Lib.hid (twin_any l A c w (M0.out.vts (A, c, l) (by simp)) (by omega))
  clear hbig
  go_enter Tryd.func5, Tryd.ntmps5
  go_wp2_with fail
  refine HG.out.mono ?_
  rintro e w1 ⟨rfl, hw⟩
  obtain rfl := hw.symm
  rw [HGB.out]
  go_wp2_with fail
  refine HTW.out.mono ?_
  rintro e w2 ⟨A2, c2, rfl, ho, hb⟩
  have M2 := Lib.hid ((M0.out.below hb).addV (ho.rd vl_len))
  clear ho hb HTW HG
  go_wp2_with fail
  go_loopw [6] (fun s6 wr => ∃ o : Nat, 1 ≤ o ∧ o ≤ 6 ∧ s6 = .int .i64 o ∧ Hid (MemV w wr [(A2, c2, l), (A, c, l)] [])) (fun s6 _ => 6 - (intOf s6).toNat)
  case atStart => exact ⟨1, by omega, by omega, rfl, M2.out⟩
  case round =>
    obtain ⟨o, ho1, ho6, rfl, hm⟩ := hrel
    obtain ⟨wo, hwo'⟩ : ∃ wo, wo = wr := ⟨_, rfl⟩
    subst hwo'
    by_cases h5 : o ≤ 5
    · have h5d : decide ((o : Int) ≤ 5) = true := by simp; omega
      have hwo : IntKind.i64.wrap ((o : Int) + 1) = (o : Int) + 1 := by rw [IntKind.wrap_i64]; omega
      go_wp2_with fail
      refine (does_any HK.out l n o A2 c2 wo (hm.out.vts (A2, c2, l) (by simp)) HOK.out HNL.out (HK.out.keep HT.out hm.out.bel)).mono ?_
      rintro e w3 ⟨A3, c3, r3, e3, rfl, hq, ho, hb⟩
      have HQ3 := Lib.hid hq
      have HL3 := Lib.hid (show r3.length ≤ 100000 by have h := doneV_len l n o; rw [← hq] at h; exact h)
      have HO3 := Lib.hid ho
      have B3 := Lib.hid hb
      have M3 := Lib.hid (hm.out.below hb)
      clear hq ho hb
      go_wp2_with fail
      refine (refDone_any l n o A c w3 (M3.out.vts (A, c, l) (by simp)) HOK.out.long).mono ?_
      rintro e w4 ⟨A4, c4, r4, e4, rfl, hq, ho, hb⟩
      obtain ⟨he, he2⟩ := Prod.mk.inj (HQ3.out.trans hq.symm)
      subst he2
      have HRE := Lib.hid he
      have HO4 := Lib.hid (HO3.out.below (Nat.le_refl _) hb)
      have HR4 := Lib.hid (ho.rd vl_len)
      have B4 := Lib.hid (B3.out.trans (hb.mono B3.out.size))
      clear hq ho hb he
      go_wp2_with fail
      refine (refSame_any r3 r4 A3 A4 c3 c4 w4 (HO4.out.rd vl_len) HR4.out (Nat.le_trans HL3.out (by decide)) (by rw [← HRE.out]; exact Nat.le_trans HL3.out (by decide))).mono ?_
      rintro e w5 ⟨rfl, hb⟩
      rw [show decide (r3 = r4) = true from decide_eq_true HRE.out]
      have HO5 := Lib.hid (HO4.out.below (Nat.le_refl _) hb)
      have B5 := Lib.hid (B4.out.trans (hb.mono B4.out.size))
      clear hb
      go_wp2_with fail
      go_loopw [11] (fun s11 wq => ∃ (k : Nat) (x : List Vt), x.length = r3.length ∧ k ≤ r3.length ∧ s11 = .int .i64 k ∧ Hid (OwV wq wo.heap.size A3 c3 x) ∧ Hid (Below wo.heap.size wo wq)) (fun s11 _ => r3.length - (intOf s11).toNat)
      case atStart => exact ⟨0, r3, rfl, Nat.zero_le _, rfl, HO5.out, B5.out⟩
      case round =>
        obtain ⟨k, x, hxl, hk, rfl, hox, hbx⟩ := hrel
        by_cases hlt : k < r3.length
        · have HXL := Lib.hid hxl
          have hr3l := HL3.out
          obtain ⟨g, rfl, hge, hgl, hlc, hcm⟩ : ∃ g, A3 = some ⟨g, 0, none⟩ ∧ wo.heap.size ≤ g ∧ g < wr.heap.size ∧ x.length ≤ c3 ∧ c3 ≤ maxLen := by
            rcases hox.out.form with ⟨_, _, h⟩ | h
            · rw [h] at hxl; simp at hxl; omega
            · exact h
          obtain ⟨z, hcs⟩ : ∃ z : Nat, wr.cell? ⟨g, k * 3 + 2, none⟩ = some (.int .u8 z) := by
            have := hox.out.cell vl_len k (by omega) 2 (by omega)
            exact ⟨_, this⟩
          have hfz : wr.frozen? ⟨g, k * 3 + 2, none⟩ = false := hox.out.frozen _
          have HST := Lib.hid (hox.out.state77 k (by omega))
          clear hxl
          go_wp2_with fail
          obtain ⟨x', hx', ho', hg'⟩ := HST.out
          go_roundw
          case rel => exact ⟨k + 1, x', by rw [hx']; exact HXL.out, by omega, by go_num, ho', hbx.out.grown hg' hbx.out.size (fun j hj => by cases hj; exact hge)⟩
          case measure => simp [intOf]; omega
        · obtain rfl : k = r3.length := by omega
          have HM6 := Lib.hid (hm.out.below hbx.out)
          clear hxl
          go_wp2_with fail
          go_roundw
          case rel => exact ⟨o + 1, by omega, by omega, by go_num, HM6.out⟩
          case measure => simp [intOf]; omega
    · obtain rfl : o = 6 := by omega
      go_wp2_with fail
      refine (refSame_any l l A2 A c2 c wo (hm.out.vts (A2, c2, l) (by simp)) (hm.out.vts (A, c, l) (by simp)) (by omega) (by omega)).mono ?_
      rintro e w5 ⟨rfl, hb⟩
      rw [show decide (l = l) = true from decide_eq_true rfl]
      have M5 := Lib.hid (hm.out.below hb)
      clear hb
      go_wp2_with fail
      go_ret
      exact ⟨rfl, M5.out.bel⟩
end Go.Proofs.YtikhffdbjelanaaDoor
namespace Go.Proofs.YtikhffdbjelanaaDoor
open Go.RowKit
set_option linter.unusedVariables false

/-- Blocks that a law keeps. -/
def MemB (w : World) (K : List (Nat × Nat × Array Value)) : Prop := ∀ p ∈ K, Blk w p.1 p.2.1 p.2.2
theorem MemB.below {w w' : World} {K : List (Nat × Nat × Array Value)} (h : MemB w K) (hb : Below w.heap.size w w') : MemB w' K := fun p hp => (h p hp).below hb (h p hp).lt
theorem MemB.add {w : World} {K : List (Nat × Nat × Array Value)} (h : MemB w K) {g t : Nat} {cs : Array Value} (hb : Blk w g t cs) : MemB w ((g, t, cs) :: K) := fun p hp => by
  rcases List.mem_cons.1 hp with e | hp
  · subst e; exact hb
  · exact h p hp
theorem MemB.nil (w : World) : MemB w [] := fun _ h => by cases h

set_option maxRecDepth 100000 in
set_option maxHeartbeats 4000000 in
theorem rollTells_any {T : World → Prop} (K : Con24 T) (l : List Vt) (A : Option Addr) (c : Nat) (n : List UInt8) (p : Int) (w : World) (hr : Rvt w w.heap.size A c l) (hs : ∀ v ∈ l, v.state ≤ 255) (hp : ∀ v ∈ l, -9223372036854775808 ≤ v.pre ∧ v.pre ≤ 9223372036854775807) (hpp : -9223372036854775808 ≤ p ∧ p ≤ 9223372036854775807) (hT : T w) :
    Calls Tryd.prog 4 #[.slice A l.length c, .string ⟨n.toArray⟩, .int .i64 p] w fun e w' => e = .returned (.bool true) ∧ Below w.heap.size w w' := by
  have HK := Lib.hid K
  have HT := Lib.hid hT
  have HPP := Lib.hid hpp
  have HG := Lib.hid (refGreat_any l A c w hr)
  have M0 := Lib.hid (show MemV w w [(A, c, l)] [] from ⟨Below.refl _ _, by simp [hr], by simp⟩)
  clear K hT hr hpp
  cases hg : greatV l with
  | true =>
    have HGB := Lib.hid hg
    clear hg
    go_enter Tryd.func4, Tryd.ntmps4
    go_wp2_with fail
    refine HG.out.mono ?_
    rintro e w1 ⟨rfl, hw⟩
    obtain rfl := hw.symm
    rw [HGB.out]
    go_wp2_with fail
    go_ret
    exact ⟨rfl, Below.refl _ _⟩
  | false =>
  have HGB := Lib.hid hg
  obtain ⟨h100, h1000⟩ := greatV_no hg
  have HOK := Lib.hid (show VtOk l from ⟨by omega, fun v hv => Nat.le_trans (h1000 v hv) (by decide), hs, hp⟩)
  clear hg hs hp h1000
  by_cases hbig : 1000 < n.length
  · have hbd : decide ((1000 : Int) < (n.length : Int)) = true := by simp; omega
    clear hbig
    go_enter Tryd.func4, Tryd.ntmps4
    go_wp2_with fail
    refine HG.out.mono ?_
    rintro e w1 ⟨rfl, hw⟩
    obtain rfl := hw.symm
    rw [HGB.out]
    go_wp2_with fail
    go_ret
    exact ⟨rfl, Below.refl _ _⟩
  have hbd : decide ((1000 : Int) < (n.length : Int)) = false := by simp; omega
  have HNL := Lib.hid (show n.length ≤ 100000 by omega)
  have HTW := Lib.hid (twin_any l A c w (M0.out.vts (A, c, l) (by simp)) (by omega))
  clear hbig
  go_enter Tryd.func4, Tryd.ntmps4
  go_wp2_with fail
  refine HG.out.mono ?_
  rintro e w1 ⟨rfl, hw⟩
  obtain rfl := hw.symm
  rw [HGB.out]
  go_wp2_with fail
  refine HTW.out.mono ?_
  rintro e w2 ⟨A2, c2, rfl, ho, hb⟩
  have M2 := Lib.hid ((M0.out.below hb).addV (ho.rd vl_len))
  clear ho hb HTW HG
  go_wp2_with fail
  refine (HK.out.find l n A2 c2 w2 (M2.out.vts (A2, c2, l) (by simp)) HOK.out HNL.out (HK.out.keep HT.out M2.out.bel)).mono ?_
  rintro e w3 ⟨x3, e3, rfl, hq, hb⟩
  have HQ3 := Lib.hid hq
  have M3 := Lib.hid ((M2.out.below hb).below (below_new w3 (.cells (vvs x3) 30)))
  have K3 := Lib.hid (((MemB.nil w2).below hb).below (below_new w3 (.cells (vvs x3) 30)) |>.add (Blk.new w3 30 (vvs x3)))
  have g3 : ∃ g, g = w3.heap.size := ⟨_, rfl⟩
  clear hq hb
  unfold vv vvs
  unfold vvs at M3 K3
  go_wp2_with fail
  refine (refFind_any l n A c _ (M3.out.vts (A, c, l) (by simp)) HOK.out.long).mono ?_
  rintro e w4 ⟨x4, e4, rfl, hq, hb⟩
  obtain ⟨he, he2⟩ := Prod.mk.inj (HQ3.out.trans hq.symm)
  subst he
  subst he2
  have M4 := Lib.hid ((M3.out.below hb).below (below_new w4 (.cells (vvs x3) 30)))
  have K4 := Lib.hid (((K3.out).below hb).below (below_new w4 (.cells (vvs x3) 30)) |>.add (Blk.new w4 30 (vvs x3)))
  have g4 : ∃ g, g = w4.heap.size := ⟨_, rfl⟩
  clear hq hb
  unfold vv vvs
  unfold vvs at M4 K4
  go_wp2_with fail
  refine (HK.out.count l p A2 c2 _ (M4.out.vts (A2, c2, l) (by simp)) HOK.out HPP.out (HK.out.keep HT.out M4.out.bel)).mono ?_
  rintro e w5 ⟨x5, e5, rfl, hq, hb⟩
  have HQ5 := Lib.hid hq
  have M5 := Lib.hid ((M4.out.below hb).below (below_new w5 (.cells (tvs x5) 34)))
  have K5 := Lib.hid (((K4.out).below hb).below (below_new w5 (.cells (tvs x5) 34)) |>.add (Blk.new w5 34 (tvs x5)))
  have g5 : ∃ g, g = w5.heap.size := ⟨_, rfl⟩
  clear hq hb
  unfold tov tvs
  unfold tvs at M5 K5
  go_wp2_with fail
  refine (refCount_any l p A c _ (M5.out.vts (A, c, l) (by simp)) HOK.out.long).mono ?_
  rintro e w6 ⟨x6, e6, rfl, hq, hb⟩
  obtain ⟨he, he2⟩ := Prod.mk.inj (HQ5.out.trans hq.symm)
  subst he
  subst he2
  have M6 := Lib.hid ((M5.out.below hb).below (below_new w6 (.cells (tvs x5) 34)))
  have K6 := Lib.hid (((K5.out).below hb).below (below_new w6 (.cells (tvs x5) 34)) |>.add (Blk.new w6 34 (tvs x5)))
  have g6 : ∃ g, g = w6.heap.size := ⟨_, rfl⟩
  clear hq hb
  unfold tov tvs
  unfold tvs at M6 K6
  go_wp2_with fail
  obtain ⟨W, hW⟩ : ∃ W : World, W = (w6.alloc (.cells #[.int .i64 x5.free, .int .i64 x5.holds, .int .i64 x5.voted, .int .i64 x5.struck] 34)) := ⟨_, rfl⟩
  rw [← hW] at M6 K6 ⊢
  clear hW
  have HOA := Lib.hid (HK.out.add l n p A2 c2 W (M6.out.vts (A2, c2, l) (by simp)) HOK.out HNL.out HPP.out (HK.out.keep HT.out M6.out.bel))
  refine HOA.out.mono ?_
  rintro e w7 ⟨A7, c7, r7, e7, rfl, hq, ho, hb⟩
  have HQ7 := Lib.hid hq
  have HL7 := Lib.hid (show r7.length ≤ 100000 by have h := (addV_fine l n p).len; rw [← hq] at h; exact h)
  have HO7 := Lib.hid ho
  have B7 := Lib.hid hb
  have M7 := Lib.hid (M6.out.below hb)
  have K7 := Lib.hid (K6.out.below hb)
  clear hq ho hb HOA
  go_wp2_with fail
  refine (refAdd_any l n p A c w7 (M7.out.vts (A, c, l) (by simp)) HOK.out.long (Nat.le_trans HNL.out (by decide))).mono ?_
  rintro e w8 ⟨A8, c8, r8, e8, rfl, hq, ho, hb⟩
  obtain ⟨he, he2⟩ := Prod.mk.inj (HQ7.out.trans hq.symm)
  subst he2
  have HRE := Lib.hid he
  have HO8 := Lib.hid (HO7.out.below (Nat.le_refl _) hb)
  have HR8 := Lib.hid (ho.rd vl_len)
  have B8 := Lib.hid (B7.out.trans (hb.mono B7.out.size))
  have M8 := Lib.hid (M7.out.below hb)
  have K8 := Lib.hid (K7.out.below hb)
  clear hq ho hb he
  go_wp2_with fail
  refine (HK.out.check l A2 c2 w8 (M8.out.vts (A2, c2, l) (by simp)) HOK.out (HK.out.keep HT.out M8.out.bel)).mono ?_
  rintro e w9 ⟨rfl, hb⟩
  have HO9 := Lib.hid (HO8.out.below (Nat.le_refl _) hb)
  have HR9 := Lib.hid ((HR8.out.below hb).more hb.size)
  have B9 := Lib.hid (B8.out.trans (hb.mono B8.out.size))
  have M9 := Lib.hid (M8.out.below hb)
  have K9 := Lib.hid (K8.out.below hb)
  clear hb
  go_wp2_with fail
  refine (refCheckV_any l A c w9 (M9.out.vts (A, c, l) (by simp)) HOK.out.long).mono ?_
  rintro e wa ⟨rfl, hb⟩
  have HOa := Lib.hid (HO9.out.below (Nat.le_refl _) hb)
  have HRa := Lib.hid ((HR9.out.below hb).more hb.size)
  have Ba := Lib.hid (B9.out.trans (hb.mono B9.out.size))
  have Ma := Lib.hid (M9.out.below hb)
  have Ka := Lib.hid (K9.out.below hb)
  clear hb
  have q1 := (Ka.out _ (List.mem_cons_of_mem _ (List.mem_cons_of_mem _ (List.mem_cons_of_mem _ (List.mem_cons_self ..))))).cell
  have q2 := (Ka.out _ (List.mem_cons_of_mem _ (List.mem_cons_of_mem _ (List.mem_cons_self ..)))).cell
  have q3 := (Ka.out _ (List.mem_cons_of_mem _ (List.mem_cons_self ..))).cell
  have q4 := (Ka.out _ (List.mem_cons_self ..)).cell
  have a10 := q1 0
  have a11 := q1 1
  have a12 := q1 2
  have a20 := q2 0
  have a21 := q2 1
  have a22 := q2 2
  have a30 := q3 0
  have a31 := q3 1
  have a32 := q3 2
  have a33 := q3 3
  have a40 := q4 0
  have a41 := q4 1
  have a42 := q4 2
  have a43 := q4 3
  clear q1 q2 q3 q4
  simp only [List.getElem?_toArray, List.getElem?_cons_zero, List.getElem?_cons_succ] at a10 a11 a12 a20 a21 a22 a30 a31 a32 a33 a40 a41 a42 a43
  go_wp2_with fail
  refine (refSame_any r7 r8 A7 A8 c7 c8 wa (HOa.out.rd vl_len) HRa.out (Nat.le_trans HL7.out (by decide)) (by rw [← HRE.out]; exact Nat.le_trans HL7.out (by decide))).mono ?_
  rintro e wb ⟨rfl, hb⟩
  rw [show decide (r7 = r8) = true from decide_eq_true HRE.out]
  have HOb := Lib.hid (HOa.out.below (Nat.le_refl _) hb)
  have Bb := Lib.hid (Ba.out.trans (hb.mono Ba.out.size))
  clear hb
  have hr7l := HL7.out
  go_wp2_with fail
  go_loopw [21] (fun s21 wr => ∃ (k : Nat) (x : List Vt), x.length = r7.length ∧ k ≤ r7.length ∧ s21 = .int .i64 k ∧ Hid (OwV wr W.heap.size A7 c7 x) ∧ Hid (Below W.heap.size W wr)) (fun s21 _ => r7.length - (intOf s21).toNat)
  case atStart => exact ⟨0, r7, rfl, Nat.zero_le _, rfl, HOb.out, Bb.out⟩
  case round =>
    obtain ⟨k, x, hxl, hk, rfl, hox, hbx⟩ := hrel
    by_cases hlt : k < r7.length
    · have HXL := Lib.hid hxl
      obtain ⟨g, rfl, hge, hgl, hlc, hcm⟩ : ∃ g, A7 = some ⟨g, 0, none⟩ ∧ W.heap.size ≤ g ∧ g < wr.heap.size ∧ x.length ≤ c7 ∧ c7 ≤ maxLen := by
        rcases hox.out.form with ⟨_, _, h⟩ | h
        · rw [h] at hxl; simp at hxl; omega
        · exact h
      obtain ⟨z, hcs⟩ : ∃ z : Nat, wr.cell? ⟨g, k * 3 + 2, none⟩ = some (.int .u8 z) := by
        have := hox.out.cell vl_len k (by omega) 2 (by omega)
        exact ⟨_, this⟩
      have hfz : wr.frozen? ⟨g, k * 3 + 2, none⟩ = false := hox.out.frozen _
      have HST := Lib.hid (hox.out.state77 k (by omega))
      clear hxl
      go_wp2_with fail
      obtain ⟨x', hx', ho', hg'⟩ := HST.out
      go_roundw
      case rel => exact ⟨k + 1, x', by rw [hx']; exact HXL.out, by omega, by go_num, ho', hbx.out.grown hg' hbx.out.size (fun j hj => by cases hj; exact hge)⟩
      case measure => simp [intOf]; omega
    · obtain rfl : k = r7.length := by omega
      have MZ := Lib.hid (M6.out.below hbx.out)
      clear hxl
      go_wp2_with fail
      refine (refSame_any l l A2 A c2 c wr (MZ.out.vts (A2, c2, l) (by simp)) (MZ.out.vts (A, c, l) (by simp)) (by omega) (by omega)).mono ?_
      rintro e w5 ⟨rfl, hb⟩
      rw [show decide (l = l) = true from decide_eq_true rfl]
      have MY := Lib.hid (MZ.out.below hb)
      clear hb
      go_wp2_with fail
      go_ret
      exact ⟨rfl, MY.out.bel⟩
end Go.Proofs.YtikhffdbjelanaaDoor
