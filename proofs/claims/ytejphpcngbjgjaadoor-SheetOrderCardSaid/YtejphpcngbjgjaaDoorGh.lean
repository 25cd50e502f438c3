/- The law's three and alive. The law's alive. SheetOrder. SheetSteady, pure: one box made wholly dark or wholly clear, one decision more. SheetSteady. -/
import Derived.Test.YtejphpcngbjgjaaDoorGg
namespace Go.Proofs.YtejphpcngbjgjaaDoor
open Go.RowKit
set_option linter.unusedVariables false

def c25 : Ct := ⟨[120], [[97], [98], [99]], 1, 9⟩
def p25 : Po := ⟨20, 60, 0⟩
def s25 : List UInt8 := [0, 100, 0, 90, 0, 0, 0, 0, 30]
theorem read25 : readS c25 p25 s25 [] = (⟨⟨1, [1, 0]⟩, 0, [8]⟩, 0) := by decide +kernel
theorem read25' : readS c25 p25 s25 [⟨8, true⟩] = (⟨⟨1, [1, 0, 2]⟩, 0, []⟩, 0) := by decide +kernel
theorem great25 : greatM c25 = false := by decide +kernel

theorem wpList_store_po {w : World} {ops : Array Oper} {rest : List Oper} {o : Oper} {a : Act} {Q : Exit → Act → World → Prop} (hgd : o.guard = none) (y z : Operand) (ho : o.op = .store 38 y z)
    (g : Nat) (hx : a.eval y = .pointer (some ⟨g, 0, none⟩)) {old : Array Value} (hB : Blk w g 38 old) (hold : old.size = 3) (p : Po) (hy : a.eval z = pov p)
    (h : ∀ w', Blk w' g 38 (pos25 p) → w.grownBy w' (some g) → wpList Tryd.prog ops Q rest (a.put o.dst undef) w') : wpList Tryd.prog ops Q (o :: rest) a w :=
  wpList_store_row hgd _ y z ho g _ hx hy 38 old hB size_po hold (by simp [Value.oneCell']) (h _ (setRow_heap w g _ _ _ _ hB) ⟨rfl, rfl, rfl, by simp, fun k _ hk => setRow_other w g k _ (fun e => hk (by rw [e]))⟩)

theorem three_ret {fn : Func} {p q r : Tmp} (h : fn.results = #[.cell p 24, .cell q 38, .cell r 27]) {a : Act} {w : World} {g1 g2 g3 : Nat} {A : Option Addr} {c : Nat} {x : Ct} {po : Po} {As : Option Addr} {cs : Nat} {s : List UInt8} {Q : Ending → World → Prop}
    (hp : a.tmps.getD p undef = .pointer (some ⟨g1, 0, none⟩)) (hq : a.tmps.getD q undef = .pointer (some ⟨g2, 0, none⟩)) (hr : a.tmps.getD r undef = .pointer (some ⟨g3, 0, none⟩))
    (hB1 : Blk w g1 24 (cvs A c x)) (hB2 : Blk w g2 38 (pos25 po)) (hB3 : Blk w g3 27 #[.slice As s.length cs]) (hd : a.defers = []) (hQ : Q (.returned (.tuple #[cv A c x, pov po, shv As cs s])) w) : bodyPost Tryd.prog fn Q .ret a w := by
  refine bodyPost_ret (v := .tuple #[cv A c x, pov po, shv As cs s]) ?_ hd hQ
  have h1 := run_loadVar_row w g1 24 24 _ _ _ hB1 Tryd.underlying24 rfl size_ct
  have h2 := run_loadVar_row w g2 38 38 _ _ _ hB2 Tryd.underlying38 rfl size_po
  have h3 := run_loadVar_row w g3 27 27 _ _ _ hB3 Tryd.underlying27 rfl size_shv
  have hp' : a.tmps[p]?.getD undef = .pointer (some ⟨g1, 0, none⟩) := by simpa using hp
  have hq' : a.tmps[q]?.getD undef = .pointer (some ⟨g2, 0, none⟩) := by simpa using hq
  have hr' : a.tmps[r]?.getD undef = .pointer (some ⟨g3, 0, none⟩) := by simpa using hr
  simp [results, h, hp', hq', hr', asAddr, h1, h2, h3, Result.andThen, cv, pov, pos25, shv]

set_option maxRecDepth 100000 in
set_option maxHeartbeats 2000000 in
theorem three_any (w : World) :
    Calls Tryd.prog 36 #[] w fun e w' => ∃ (A : Option Addr) (c : Nat) (As : Option Addr) (cs : Nat), e = .returned (.tuple #[cv A c c25, pov p25, shv As cs s25]) ∧ Rf sv w' w'.heap.size A c c25.cands ∧ Rf bv w' w'.heap.size As cs s25 ∧ Below w.heap.size w w' := by
  go_enter Tryd.func36, Tryd.ntmps36
  go_wp2_with fail
  have w0 := Blk.new w 24 (cvs (some ⟨w.heap.size + 1 + 1 + 1, 0, none⟩) 3 c25)
  obtain ⟨w1, hw1⟩ : ∃ w1, w1 = w.alloc (.cells (cvs (some ⟨w.heap.size + 1 + 1 + 1, 0, none⟩) 3 c25) 24) := ⟨_, rfl⟩
  obtain ⟨w2, hw2⟩ : ∃ w2, w2 = w1.alloc (.cells (pos25 p25) 38) := ⟨_, rfl⟩
  obtain ⟨w3, hw3⟩ : ∃ w3, w3 = w2.alloc (.cells #[.slice (some ⟨w.heap.size + 1 + 1 + 1 + 1 + 1, 0, none⟩) 9 9] 27) := ⟨_, rfl⟩
  obtain ⟨w4, hw4⟩ : ∃ w4, w4 = w3.alloc (.cells (c25.cands.map sv).toArray 9) := ⟨_, rfl⟩
  obtain ⟨w5, hw5⟩ : ∃ w5, w5 = w4.alloc (.cells (cvs (some ⟨w.heap.size + 1 + 1 + 1, 0, none⟩) 3 c25) 24) := ⟨_, rfl⟩
  obtain ⟨w6, hw6⟩ : ∃ w6, w6 = w5.alloc (.cells (s25.map bv).toArray 5) := ⟨_, rfl⟩
  have z1 : w1.heap.size = w.heap.size + 1 := by rw [hw1, World.size_alloc]
  have z2 : w2.heap.size = w.heap.size + 1 + 1 := by rw [hw2, World.size_alloc, z1]
  have z3 : w3.heap.size = w.heap.size + 1 + 1 + 1 := by rw [hw3, World.size_alloc, z2]
  have z4 : w4.heap.size = w.heap.size + 1 + 1 + 1 + 1 := by rw [hw4, World.size_alloc, z3]
  have z5 : w5.heap.size = w.heap.size + 1 + 1 + 1 + 1 + 1 := by rw [hw5, World.size_alloc, z4]
  have z6 : w6.heap.size = w.heap.size + 1 + 1 + 1 + 1 + 1 + 1 := by rw [hw6, World.size_alloc, z5]
  have b1 : Blk w6 w.heap.size 24 (cvs (some ⟨w.heap.size + 1 + 1 + 1, 0, none⟩) 3 c25) := by rw [hw6, hw5, hw4, hw3, hw2, hw1]; exact ((((w0.alloc _).alloc _).alloc _).alloc _).alloc _
  have b2 : Blk w6 (w.heap.size + 1) 38 (pos25 p25) := by
    have h := Blk.new w1 38 (pos25 p25)
    rw [z1] at h
    rw [hw6, hw5, hw4, hw3, hw2]; exact (((h.alloc _).alloc _).alloc _).alloc _
  have b3 : Blk w6 (w.heap.size + 1 + 1) 27 #[.slice (some ⟨w.heap.size + 1 + 1 + 1 + 1 + 1, 0, none⟩) s25.length 9] := by
    have h := Blk.new w2 27 #[.slice (some ⟨w.heap.size + 1 + 1 + 1 + 1 + 1, 0, none⟩) 9 9]
    rw [z2] at h
    rw [hw6, hw5, hw4, hw3]; exact ((h.alloc _).alloc _).alloc _
  have r1 : Rf sv w6 w6.heap.size (some ⟨w.heap.size + 1 + 1 + 1, 0, none⟩) 3 c25.cands := by
    have h := rf_lit (f := sv) w3 c25.cands (c25.cands.map sv).toArray rfl (by decide) 9
    rw [← hw4, z3] at h
    have h5 : Below w4.heap.size w4 w6 := by rw [hw6, hw5]; exact (below_new w4 _).alloc (by simp) _
    exact (((h.more (by omega)).below h5).more (by omega) : Rf sv w6 w6.heap.size _ c25.cands.length c25.cands)
  have r2 : Rf bv w6 w6.heap.size (some ⟨w.heap.size + 1 + 1 + 1 + 1 + 1, 0, none⟩) 9 s25 := by
    have h := rf_lit (f := bv) w5 s25 (s25.map bv).toArray rfl (by decide) 5
    rw [← hw6, z5] at h
    exact (h.more (by omega) : Rf bv w6 w6.heap.size _ s25.length s25)
  have B6 : Below w.heap.size w w6 := by
    rw [hw6, hw5, hw4, hw3, hw2, hw1]
    exact (((((below_new w _).alloc (by simp) _).alloc (by simp; omega) _).alloc (by simp; omega) _).alloc (by simp; omega) _).alloc (by simp; omega) _
  have e6 : w6 = (((((w.alloc (.cells (cvs (some ⟨w.heap.size + 1 + 1 + 1, 0, none⟩) 3 c25) 24)).alloc (.cells (pos25 p25) 38)).alloc (.cells #[.slice (some ⟨w.heap.size + 1 + 1 + 1 + 1 + 1, 0, none⟩) 9 9] 27)).alloc (.cells (c25.cands.map sv).toArray 9)).alloc (.cells (cvs (some ⟨w.heap.size + 1 + 1 + 1, 0, none⟩) 3 c25) 24)).alloc (.cells (s25.map bv).toArray 5) := by rw [hw6, hw5, hw4, hw3, hw2, hw1]
  clear hw1 hw2 hw3 hw4 hw5 hw6 z1 z2 z3 z4 z5 z6 w0
  subst e6
  exact three_ret rfl rfl rfl rfl b1 b2 b3 rfl ⟨_, _, _, _, rfl, r1, r2, B6⟩
end Go.Proofs.YtejphpcngbjgjaaDoor
namespace Go.Proofs.YtejphpcngbjgjaaDoor
open Go.RowKit
set_option linter.unusedVariables false

set_option maxRecDepth 100000 in
set_option maxHeartbeats 4000000 in
theorem alive25_any {T : World → Prop} (K : Con25 T) (w : World) (hT : T w) :
    Calls Tryd.prog 16 #[] w fun e w' => e = .returned (.bool true) ∧ Below w.heap.size w w' := by
  have HK := Lib.hid K
  have HT := Lib.hid hT
  have HTH := Lib.hid (three_any w)
  clear K hT
  go_enter Tryd.func16, Tryd.ntmps16
  go_wp2_with fail
  refine HTH.out.mono ?_
  rintro e w1 ⟨A, c, As, cs, rfl, hrc, hrs, hb⟩
  have B1 := Lib.hid hb
  have HRC := Lib.hid hrc
  have HRS := Lib.hid hrs
  clear hb hrc hrs HTH
  obtain ⟨wA, hwA⟩ : ∃ wA, wA = ((w1.alloc (.cells (cvs A c c25) 24)).alloc (.cells (pos25 p25) 38)).alloc (.cells #[.slice As s25.length cs] 27) := ⟨_, rfl⟩
  have B1A := Lib.hid (show Below w1.heap.size w1 wA from by rw [hwA]; exact ((below_new w1 _).alloc (by simp) _).alloc (by simp; omega) _)
  have HC0 := Lib.hid (show Blk wA w1.heap.size 24 (cvs A c c25) from by rw [hwA]; exact ((Blk.new w1 _ _).alloc _).alloc _)
  have HP0 := Lib.hid (show Blk wA (w1.heap.size + 1) 38 (pos25 p25) from by
    have h := Blk.new (w1.alloc (.cells (cvs A c c25) 24)) 38 (pos25 p25)
    rw [World.size_alloc] at h
    rw [hwA]; exact h.alloc _)
  have HS0 := Lib.hid (show Blk wA (w1.heap.size + 1 + 1) 27 #[.slice As s25.length cs] from by
    have h := Blk.new ((w1.alloc (.cells (cvs A c c25) 24)).alloc (.cells (pos25 p25) 38)) 27 #[.slice As s25.length cs]
    rw [World.size_alloc, World.size_alloc] at h
    rw [hwA]; exact h)
  have BA := Lib.hid (B1.out.trans (B1A.out.mono B1.out.size))
  have HRCA := Lib.hid ((HRC.out.below B1A.out).more B1A.out.size)
  have HRSA := Lib.hid ((HRS.out.below B1A.out).more B1A.out.size)
  have HRD := Lib.hid (HK.out.read c25 p25 s25 [] A c As cs none 0 wA ⟨⟨HRCA.out, by decide, by decide, by decide, by decide⟩, by decide, by decide⟩ HRSA.out (Rk.empty wA wA.heap.size) (by decide) (by decide) (HK.out.keep HT.out BA.out))
  unfold cvs pos25 at hwA
  unfold cv cvs pov shv at HRD
  unfold cv cvs pov shv
  go_wp2_with fail
  rw [← hwA]
  refine HRD.out.mono ?_
  rintro e w2 ⟨A2, c2, Ad2, cd2, X, er, rfl, hq, hm, hd, hap, hb⟩
  rw [read25] at hq
  obtain ⟨rfl, rfl⟩ := Prod.mk.inj hq
  have B2 := Lib.hid (BA.out.trans (hb.mono BA.out.size))
  have HM2 := Lib.hid hm.rd
  have HD2 := Lib.hid hd.rd
  have HC2 := Lib.hid (HC0.out.below hb HC0.out.lt)
  have HP2 := Lib.hid (HP0.out.below hb HP0.out.lt)
  have HS2 := Lib.hid (HS0.out.below hb HS0.out.lt)
  have HRC2 := Lib.hid ((HRCA.out.below hb).more hb.size)
  have HRS2 := Lib.hid ((HRSA.out.below hb).more hb.size)
  have HZ2 := Lib.hid (Blk.new w2 44 #[.int .u8 0, .slice none 0 0, .int .i64 0, .slice none 0 0])
  have BN2 := Lib.hid (below_new w2 (.cells #[.int .u8 0, .slice none 0 0, .int .i64 0, .slice none 0 0] 44))
  clear hq hm hd hap hb hwA HRD
  go_wp2_with (first
    | ((with_reducible refine wpList_store_rg rfl (.tmp 4) (.tmp 18) rfl w2.heap.size rfl HZ2.out rfl A2 c2 Ad2 cd2 ⟨⟨1, [1, 0]⟩, 0, [8]⟩ rfl ?_); intro w3 hb3 hg3; have HX3 := Lib.hid hb3; have B23 := Lib.hid (BN2.out.grown hg3 BN2.out.size (fun k e => by cases e; exact Nat.le_refl _)); clear hb3 hg3; have HC3 := Lib.hid (HC2.out.below B23.out HC2.out.lt); have HP3 := Lib.hid (HP2.out.below B23.out HP2.out.lt); have HS3 := Lib.hid (HS2.out.below B23.out HS2.out.lt))
    | (with_reducible refine wpList_load_ct (by kernel_rfl) (.tmp 1) rfl w1.heap.size rfl (A := A) (c := c) (x := c25) HC3.out ?_)
    | (with_reducible refine wpList_load_po (by kernel_rfl) (.tmp 2) rfl (w1.heap.size + 1) rfl (p := p25) HP3.out ?_)
    | (with_reducible refine wpList_load_sh (by kernel_rfl) (.tmp 3) rfl (w1.heap.size + 1 + 1) rfl (A := As) (c := cs) (s := s25) HS3.out ?_))
  have B3 := Lib.hid (B2.out.trans (B23.out.mono B2.out.size))
  obtain ⟨wB, hwB⟩ : ∃ wB, wB = w3.alloc (.cells #[.int .i64 8, .bool true] 52) := ⟨_, rfl⟩
  have B3B := Lib.hid (show Below w3.heap.size w3 wB from by rw [hwB]; exact below_new w3 _)
  have B2B := Lib.hid (B23.out.trans (B3B.out.mono B23.out.size))
  have BB := Lib.hid (B3.out.trans (B3B.out.mono B3.out.size))
  have HRKB := Lib.hid (show Rde wB wB.heap.size (some ⟨w3.heap.size, 0, none⟩) 1 [⟨8, true⟩] from by
    have h := rk_lit dl_len w3 [(⟨8, true⟩ : De)] #[.int .i64 8, .bool true] rfl (by decide) 52
    rw [hwB, World.size_alloc]; exact h)
  have hrd := HK.out.read c25 p25 s25 [⟨8, true⟩] A c As cs (some ⟨w3.heap.size, 0, none⟩) 1 wB ⟨⟨((HRC2.out.below B2B.out).more B2B.out.size), by decide, by decide, by decide, by decide⟩, by decide, by decide⟩ ((HRS2.out.below B2B.out).more B2B.out.size) HRKB.out (by decide) (by decide) (HK.out.keep HT.out BB.out)
  rw [← hwB]
  refine hrd.mono ?_
  clear hrd
  rintro e w4 ⟨A4, c4, Ad4, cd4, X, er, rfl, hq, hm, hd, hap, hb⟩
  rw [read25'] at hq
  obtain ⟨rfl, rfl⟩ := Prod.mk.inj hq
  have B4 := Lib.hid (BB.out.trans (hb.mono BB.out.size))
  have B24 := Lib.hid (B2B.out.trans (hb.mono B2B.out.size))
  have B34 := Lib.hid (B3B.out.trans (hb.mono B3B.out.size))
  have HX4 := Lib.hid (HX3.out.below B34.out HX3.out.lt)
  have HM4 := Lib.hid hm.rd
  have HM24 := Lib.hid ((HM2.out.below B24.out).more B24.out.size)
  have HD24 := Lib.hid ((HD2.out.below B24.out).more B24.out.size)
  have HZ4 := Lib.hid (Blk.new w4 44 #[.int .u8 0, .slice none 0 0, .int .i64 0, .slice none 0 0])
  have BN4 := Lib.hid (below_new w4 (.cells #[.int .u8 0, .slice none 0 0, .int .i64 0, .slice none 0 0] 44))
  clear hq hm hd hap hb hwB HC2 HP2 HS2 HC3 HP3 HS3 HZ2 BN2 HC0 HP0 HS0 HRCA HRSA HRC HRS HRC2 HRS2
  go_wp2_with (first
    | ((with_reducible refine wpList_store_rg rfl (.tmp 6) (.tmp 27) rfl w4.heap.size rfl HZ4.out rfl A4 c4 Ad4 cd4 ⟨⟨1, [1, 0, 2]⟩, 0, []⟩ rfl ?_); intro w5 hb5 hg5; have HY5 := Lib.hid hb5; have B45 := Lib.hid (BN4.out.grown hg5 BN4.out.size (fun k e => by cases e; exact Nat.le_refl _)); clear hb5 hg5; have HX5 := Lib.hid (HX4.out.below B45.out HX4.out.lt); have d0 : w5.cell? ⟨w2.heap.size, 1, none⟩ = some (.slice A2 2 c2) := HX5.out.cell 1))
  have B5 := Lib.hid (B4.out.trans (B45.out.mono B4.out.size))
  have HM25 := Lib.hid ((HM24.out.below B45.out).more B45.out.size)
  have HD25 := Lib.hid ((HD24.out.below B45.out).more B45.out.size)
  have HM45 := Lib.hid ((HM4.out.below B45.out).more B45.out.size)
  obtain ⟨wC, hwC⟩ : ∃ wC, wC = w5.alloc (.cells #[.int .i64 1, .int .i64 0] 3) := ⟨_, rfl⟩
  have B5C := Lib.hid (show Below w5.heap.size w5 wC from by rw [hwC]; exact below_new w5 _)
  have HLC := Lib.hid (show Rf zv wC wC.heap.size (some ⟨w5.heap.size, 0, none⟩) 2 [1, 0] from by
    have h := rf_lit (f := zv) w5 [(1 : Int), 0] #[.int .i64 1, .int .i64 0] rfl (by decide) 3
    rw [hwC, World.size_alloc]; exact h)
  rw [← hwC]
  refine (refInts_any [1, 0] [1, 0] A2 (some ⟨w5.heap.size, 0, none⟩) c2 2 wC ((HM25.out.below B5C.out).more B5C.out.size) HLC.out (by decide)).mono ?_
  rintro e w6 ⟨rfl, hb⟩
  have B56 := Lib.hid (B5C.out.trans (hb.mono B5C.out.size))
  have HX6 := Lib.hid (HX5.out.below B56.out HX5.out.lt)
  have HY6 := Lib.hid (HY5.out.below B56.out HY5.out.lt)
  have d1 : w6.cell? ⟨w2.heap.size, 3, none⟩ = some (.slice Ad2 1 cd2) := HX6.out.cell 3
  clear hb d0 hwC
  rw [show decide ([(1 : Int), 0] = [1, 0]) = true from rfl]
  go_wp2_with fail
  obtain ⟨wD, hwD⟩ : ∃ wD, wD = w6.alloc (.cells #[.int .i64 8] 3) := ⟨_, rfl⟩
  have B6D := Lib.hid (show Below w6.heap.size w6 wD from by rw [hwD]; exact below_new w6 _)
  have B5D := Lib.hid (B56.out.trans (B6D.out.mono B56.out.size))
  have HLD := Lib.hid (show Rf zv wD wD.heap.size (some ⟨w6.heap.size, 0, none⟩) 1 [8] from by
    have h := rf_lit (f := zv) w6 [(8 : Int)] #[.int .i64 8] rfl (by decide) 3
    rw [hwD, World.size_alloc]; exact h)
  rw [← hwD]
  refine (refInts_any [8] [8] Ad2 (some ⟨w6.heap.size, 0, none⟩) cd2 1 wD ((HD25.out.below B5D.out).more B5D.out.size) HLD.out (by decide)).mono ?_
  rintro e w7 ⟨rfl, hb⟩
  have B67 := Lib.hid (B6D.out.trans (hb.mono B6D.out.size))
  have HX7 := Lib.hid (HX6.out.below B67.out HX6.out.lt)
  have HY7 := Lib.hid (HY6.out.below B67.out HY6.out.lt)
  have d2 : w7.cell? ⟨w2.heap.size, 2, none⟩ = some (.int .i64 0) := HX7.out.cell 2
  have d3 : w7.cell? ⟨w4.heap.size, 1, none⟩ = some (.slice A4 3 c4) := HY7.out.cell 1
  clear hb d1 hwD
  rw [show decide ([(8 : Int)] = [8]) = true from rfl]
  go_wp2_with fail
  obtain ⟨wE, hwE⟩ : ∃ wE, wE = w7.alloc (.cells #[.int .i64 1, .int .i64 0, .int .i64 2] 3) := ⟨_, rfl⟩
  have B7E := Lib.hid (show Below w7.heap.size w7 wE from by rw [hwE]; exact below_new w7 _)
  have B57 := Lib.hid (B56.out.trans (B67.out.mono B56.out.size))
  have B5E := Lib.hid (B57.out.trans (B7E.out.mono B57.out.size))
  have HLE := Lib.hid (show Rf zv wE wE.heap.size (some ⟨w7.heap.size, 0, none⟩) 3 [1, 0, 2] from by
    have h := rf_lit (f := zv) w7 [(1 : Int), 0, 2] #[.int .i64 1, .int .i64 0, .int .i64 2] rfl (by decide) 3
    rw [hwE, World.size_alloc]; exact h)
  rw [← hwE]
  refine (refInts_any [1, 0, 2] [1, 0, 2] A4 (some ⟨w7.heap.size, 0, none⟩) c4 3 wE ((HM45.out.below B5E.out).more B5E.out.size) HLE.out (by decide)).mono ?_
  rintro e w8 ⟨rfl, hb⟩
  have B78 := Lib.hid (B7E.out.trans (hb.mono B7E.out.size))
  have HY8 := Lib.hid (HY7.out.below B78.out HY7.out.lt)
  have d4 : w8.cell? ⟨w4.heap.size, 3, none⟩ = some (.slice Ad4 0 cd4) := HY8.out.cell 3
  clear hb d2 d3 hwE
  rw [show decide ([(1 : Int), 0, 2] = [1, 0, 2]) = true from rfl]
  go_wp2_with fail
  go_ret
  have B58 := B57.out.trans (B78.out.mono B57.out.size)
  exact ⟨rfl, B5.out.trans (B58.mono B5.out.size)⟩
end Go.Proofs.YtejphpcngbjgjaaDoor
namespace Go.Proofs.YtejphpcngbjgjaaDoor
open Go.RowKit
set_option linter.unusedVariables false

set_option maxRecDepth 100000 in
set_option maxHeartbeats 8000000 in
theorem sheetOrder_any {T : World → Prop} (K : Con25 T) (x : Ct) (p : Po) (s : List UInt8) (l : List De) (A : Option Addr) (c : Nat) (As : Option Addr) (cs : Nat) (Al : Option Addr) (cl : Nat) (w : World) (hc : CtOk w A c x) (hs : Rf bv w w.heap.size As cs s) (hl : Rde w w.heap.size Al cl l) (hT : T w) :
    Calls Tryd.prog 6 #[cv A c x, pov p, shv As cs s, .slice Al l.length cl] w fun e w' => e = .returned (.bool true) ∧ Below w.heap.size w w' := by
  obtain ⟨wA, hwA⟩ : ∃ wA, wA = ((w.alloc (.cells (cvs A c x) 24)).alloc (.cells #[.int .u8 (p.low : Nat), .int .u8 (p.high : Nat), .int .i64 p.skips] 38)).alloc (.cells #[.slice As s.length cs] 27) := ⟨_, rfl⟩
  have B0 := Lib.hid (show Below w.heap.size w wA from by rw [hwA]; exact ((below_new w _).alloc (by simp) _).alloc (by simp; omega) _)
  have HC0 := Lib.hid (show Blk wA w.heap.size 24 (cvs A c x) from by rw [hwA]; exact ((Blk.new w _ _).alloc _).alloc _)
  have HP0 := Lib.hid (show Blk wA (w.heap.size + 1) 38 (pos25 p) from by
    have h := Blk.new (w.alloc (.cells (cvs A c x) 24)) 38 (pos25 p)
    rw [World.size_alloc] at h
    rw [hwA]; exact h.alloc _)
  have HS0 := Lib.hid (show Blk wA (w.heap.size + 1 + 1) 27 #[.slice As s.length cs] from by
    have h := Blk.new ((w.alloc (.cells (cvs A c x) 24)).alloc (.cells #[.int .u8 (p.low : Nat), .int .u8 (p.high : Nat), .int .i64 p.skips] 38)) 27 #[.slice As s.length cs]
    rw [World.size_alloc, World.size_alloc] at h
    rw [hwA]; exact h)
  have HAL := Lib.hid (alive25_any K wA (K.keep hT B0.out))
  have HG := Lib.hid (fun wx (hb : Below w.heap.size w wx) => great_any x A c wx ((hc.below hb).rd))
  have HK := Lib.hid K
  have HT := Lib.hid hT
  have HS := Lib.hid hs
  have HL := Lib.hid hl
  have HCT := Lib.hid hc
  clear K hT hc hs hl
  unfold cv cvs shv pov
  unfold cvs at hwA
  unfold cv cvs at HG
  cases hg : greatM x with
  | true =>
    have HGB := Lib.hid hg
    clear hg
    go_enter Tryd.func6, Tryd.ntmps6
    go_wp2_with fail
    rw [← hwA]
    refine HAL.out.mono ?_
    rintro e w1 ⟨rfl, hb⟩
    have B1 := Lib.hid (B0.out.trans (hb.mono B0.out.size))
    have HC1 := Lib.hid (HC0.out.below hb HC0.out.lt)
    have HP1 := Lib.hid (HP0.out.below hb HP0.out.lt)
    have HS1 := Lib.hid (HS0.out.below hb HS0.out.lt)
    clear hb hwA HC0 HP0 HS0 HAL
    go_wp2_with (with_reducible refine wpList_load_ct (by kernel_rfl) (.tmp 4) rfl w.heap.size rfl (A := A) (c := c) (x := x) HC1.out ?_)
    refine (HG.out _ B1.out).mono ?_
    rintro e w2 ⟨rfl, hb⟩
    rw [HGB.out]
    have c1 : w2.cell? ⟨w.heap.size + 1 + 1, 0, none⟩ = some (.slice As s.length cs) := (HS1.out.below hb HS1.out.lt).cell 0
    have B2 := Lib.hid (B1.out.trans (hb.mono B1.out.size))
    have HC2 := Lib.hid (HC1.out.below hb HC1.out.lt)
    have HP2 := Lib.hid (HP1.out.below hb HP1.out.lt)
    have HS2 := Lib.hid (HS1.out.below hb HS1.out.lt)
    clear hb HC1 HP1 HS1 HG
    go_wp2_with fail
    go_ret
    exact ⟨rfl, B2.out⟩
  | false =>
  have HGB := Lib.hid hg
  have HCL := Lib.hid (CtLow.of_great HCT.out hg)
  have HCN := Lib.hid (greatM_no hg).1
  clear hg
  by_cases hbig : 1000 < s.length
  · have hbd : decide ((1000 : Int) < (s.length : Int)) = true := by simp; omega
    clear hbig
    go_enter Tryd.func6, Tryd.ntmps6
    go_wp2_with fail
    rw [← hwA]
    refine HAL.out.mono ?_
    rintro e w1 ⟨rfl, hb⟩
    have B1 := Lib.hid (B0.out.trans (hb.mono B0.out.size))
    have HC1 := Lib.hid (HC0.out.below hb HC0.out.lt)
    have HP1 := Lib.hid (HP0.out.below hb HP0.out.lt)
    have HS1 := Lib.hid (HS0.out.below hb HS0.out.lt)
    clear hb hwA HC0 HP0 HS0 HAL
    go_wp2_with (with_reducible refine wpList_load_ct (by kernel_rfl) (.tmp 4) rfl w.heap.size rfl (A := A) (c := c) (x := x) HC1.out ?_)
    refine (HG.out _ B1.out).mono ?_
    rintro e w2 ⟨rfl, hb⟩
    rw [HGB.out]
    have c1 : w2.cell? ⟨w.heap.size + 1 + 1, 0, none⟩ = some (.slice As s.length cs) := (HS1.out.below hb HS1.out.lt).cell 0
    have B2 := Lib.hid (B1.out.trans (hb.mono B1.out.size))
    have HC2 := Lib.hid (HC1.out.below hb HC1.out.lt)
    have HP2 := Lib.hid (HP1.out.below hb HP1.out.lt)
    have HS2 := Lib.hid (HS1.out.below hb HS1.out.lt)
    clear hb HC1 HP1 HS1 HG
    go_wp2_with fail
    go_ret
    exact ⟨rfl, B2.out⟩
  have hbd : decide ((1000 : Int) < (s.length : Int)) = false := by simp; omega
  have HSL := Lib.hid (show s.length ≤ 1000 by omega)
  clear hbig
  by_cases hbig : 1000 < l.length
  · have hld : decide ((1000 : Int) < (l.length : Int)) = true := by simp; omega
    clear hbig
    go_enter Tryd.func6, Tryd.ntmps6
    go_wp2_with fail
    rw [← hwA]
    refine HAL.out.mono ?_
    rintro e w1 ⟨rfl, hb⟩
    have B1 := Lib.hid (B0.out.trans (hb.mono B0.out.size))
    have HC1 := Lib.hid (HC0.out.below hb HC0.out.lt)
    have HP1 := Lib.hid (HP0.out.below hb HP0.out.lt)
    have HS1 := Lib.hid (HS0.out.below hb HS0.out.lt)
    clear hb hwA HC0 HP0 HS0 HAL
    go_wp2_with (with_reducible refine wpList_load_ct (by kernel_rfl) (.tmp 4) rfl w.heap.size rfl (A := A) (c := c) (x := x) HC1.out ?_)
    refine (HG.out _ B1.out).mono ?_
    rintro e w2 ⟨rfl, hb⟩
    rw [HGB.out]
    have c1 : w2.cell? ⟨w.heap.size + 1 + 1, 0, none⟩ = some (.slice As s.length cs) := (HS1.out.below hb HS1.out.lt).cell 0
    have B2 := Lib.hid (B1.out.trans (hb.mono B1.out.size))
    have HC2 := Lib.hid (HC1.out.below hb HC1.out.lt)
    have HP2 := Lib.hid (HP1.out.below hb HP1.out.lt)
    have HS2 := Lib.hid (HS1.out.below hb HS1.out.lt)
    clear hb HC1 HP1 HS1 HG
    go_wp2_with fail
    go_ret
    exact ⟨rfl, B2.out⟩
  have hld : decide ((1000 : Int) < (l.length : Int)) = false := by simp; omega
  have HLL := Lib.hid (show l.length ≤ 1000 by omega)
  clear hbig
  obtain ⟨di, hdi, hy0, hy1, hy2⟩ := dInfo25_parts
  have HDI := Lib.hid hdi
  have HY0 := Lib.hid hy0
  have HY1 := Lib.hid hy1
  have HY2 := Lib.hid hy2
  clear hdi hy0 hy1 hy2
  have hwl : IntKind.i64.wrap ((l.length : Int) - 1) = (l.length : Int) - 1 := by have := HLL.out; rw [IntKind.wrap_i64]; omega
  go_enter Tryd.func6, Tryd.ntmps6
  go_wp2_with fail
  rw [← hwA]
  refine HAL.out.mono ?_
  rintro e w1 ⟨rfl, hb⟩
  have B1 := Lib.hid (B0.out.trans (hb.mono B0.out.size))
  have HC1 := Lib.hid (HC0.out.below hb HC0.out.lt)
  have HP1 := Lib.hid (HP0.out.below hb HP0.out.lt)
  have HS1 := Lib.hid (HS0.out.below hb HS0.out.lt)
  clear hb hwA HC0 HP0 HS0 HAL
  go_wp2_with (with_reducible refine wpList_load_ct (by kernel_rfl) (.tmp 4) rfl w.heap.size rfl (A := A) (c := c) (x := x) HC1.out ?_)
  refine (HG.out _ B1.out).mono ?_
  rintro e w2 ⟨rfl, hb⟩
  rw [HGB.out]
  have c1 : w2.cell? ⟨w.heap.size + 1 + 1, 0, none⟩ = some (.slice As s.length cs) := (HS1.out.below hb HS1.out.lt).cell 0
  have B2 := Lib.hid (B1.out.trans (hb.mono B1.out.size))
  have HC2 := Lib.hid (HC1.out.below hb HC1.out.lt)
  have HP2 := Lib.hid (HP1.out.below hb HP1.out.lt)
  have HS2 := Lib.hid (HS1.out.below hb HS1.out.lt)
  clear hb HC1 HP1 HS1 HG
  go_wp2_with fail
  go_loopw [10, 11] (fun s10 s11 wr => ∃ (k : Nat) (i : Int) (A5 : Option Addr) (c5 : Nat) (r : List De), k ≤ l.length ∧ i = (l.length : Int) - 1 - k ∧ s10 = .slice A5 r.length c5 ∧ s11 = .int .i64 i ∧ Hid (r = l.reverse.take k) ∧ Hid (OwK 2 dl wr w2.heap.size 52 A5 c5 r) ∧ Hid (Below w2.heap.size w2 wr)) (fun _ s11 _ => (intOf s11 + 1).toNat)
  case atStart => exact ⟨0, _, none, 0, [], Nat.zero_le _, by simp, rfl, rfl, (by simp : ([] : List De) = l.reverse.take 0), OwK.nil _ _ _, Below.refl _ _⟩
  case round =>
    obtain ⟨k, i, A5, c5, r, hk, hi, rfl, rfl, hr, ho, hbw⟩ := hrel
    by_cases hlt : k < l.length
    · obtain ⟨j, hj⟩ : ∃ j : Nat, j = l.length - 1 - k := ⟨_, rfl⟩
      obtain rfl : i = (j : Int) := by omega
      have hjl : j < l.length := by omega
      have hlen := HLL.out
      obtain ⟨b, o, hAl, hbb, hcc⟩ := (HL.out.below (B2.out.trans (hbw.out.mono B2.out.size))).de hjl
      obtain ⟨f1, f2⟩ := hcc j hjl
      obtain ⟨z, hz⟩ : ∃ z, z = l[j] := ⟨_, rfl⟩
      rw [← hz] at f1 f2
      have HR5 := Lib.hid (show r ++ [z] = l.reverse.take (k + 1) by
        rw [List.take_succ_eq_append_getElem (by simp; omega), hr.out, List.getElem_reverse, hz]
        simp only [hj])
      have HRN := Lib.hid (show r.length ≤ 1000 by rw [hr.out, List.length_take]; omega)
      have HRK := Lib.hid (show Rde (wr.alloc (.cells #[.int .i64 z.box, .bool z.marked] 52)) (wr.heap.size + 1) (some ⟨wr.heap.size, 0, none⟩) 1 [z] from rk_lit dl_len wr [z] _ rfl (by simp) 52)
      have HOA := Lib.hid (ho.out.alloc (.cells #[.int .i64 z.box, .bool z.marked] 52))
      have HSZ := Lib.hid (show w2.heap.size ≤ (wr.alloc (.cells #[.int .i64 z.box, .bool z.marked] 52)).heap.size by have := hbw.out.size; simp; omega)
      have HLN := Lib.hid (show r.length + [z].length ≤ 4000000000 by have := HRN.out; simp; omega)
      have HIJ := Lib.hid hj
      have hwj : IntKind.i64.wrap ((j : Int) - 1) = (j : Int) - 1 := by rw [IntKind.wrap_i64]; omega
      subst hAl
      clear hcc hz hi hj
      go_wp2_with (at_builtin; refine wpList_append_k _ dl_len dl_one rfl (.tmp 42) (.tmp 47) 39 rfl w2.heap.size 52 16 di _ Tryd.underlying39 HDI.out HY0.out HY1.out (by omega) HY2.out (by omega) rfl r [z] rfl rfl HOA.out HRK.out HLN.out HSZ.out ?_; intro A6 c6 w6 r6 hr6 ho6 hg6 hb6)
      have HB6 := below_app hbw.out hbw.out.size hg6 (fun q hq => (ho.out.blk_ge q hq).1)
      go_roundw
      case rel => exact ⟨k + 1, (j : Int) - 1, A6, c6, r6, by omega, by have := HIJ.out; omega, rfl, by go_num, (by rw [hr6.out]; exact HR5.out : r6 = l.reverse.take (k + 1)), ho6, HB6⟩
      case measure => (simp [intOf] <;> omega)
    · obtain rfl : k = l.length := by omega
      obtain rfl : i = -1 := by omega
      have HRE := Lib.hid (show r = l.reverse by rw [hr.out, List.take_of_length_le (by simp)])
      have HRN := Lib.hid (show r.length = l.length by rw [HRE.out, List.length_reverse])
      clear hi hr hk hlt
      have HC3 := Lib.hid (HC2.out.below hbw.out HC2.out.lt)
      have HP3 := Lib.hid (HP2.out.below hbw.out HP2.out.lt)
      have HS3 := Lib.hid (HS2.out.below hbw.out HS2.out.lt)
      have B3 := Lib.hid (B2.out.trans (hbw.out.mono B2.out.size))
      have HRB := Lib.hid (ho.out.rd dl_len)
      go_wp2_with (first
        | (with_reducible refine wpList_load_ct (by kernel_rfl) (.tmp 4) rfl w.heap.size rfl (A := A) (c := c) (x := x) HC3.out ?_)
        | (with_reducible refine wpList_load_po (by kernel_rfl) (.tmp 5) rfl (w.heap.size + 1) rfl (p := p) HP3.out ?_)
        | (with_reducible refine wpList_load_sh (by kernel_rfl) (.tmp 6) rfl (w.heap.size + 1 + 1) rfl (A := As) (c := cs) (s := s) HS3.out ?_))
      refine (HK.out.read x p s l A c As cs Al cl wr (HCL.out.below B3.out) ((HS.out.below B3.out).more B3.out.size) ((HL.out.below B3.out).more B3.out.size) (by have := HSL.out; omega) (by have := HLL.out; omega) (HK.out.keep HT.out B3.out)).mono ?_
      rintro e w4 ⟨A7, c7, Ad7, cd7, X, er, rfl, hq, hm, hd, hap, hb⟩
      have HQ7 := Lib.hid hq
      have HM7 := Lib.hid hm.rd
      have HD7 := Lib.hid hd.rd
      have B34 := Lib.hid hb
      have HZ7 := Lib.hid (Blk.new w4 44 #[.int .u8 0, .slice none 0 0, .int .i64 0, .slice none 0 0])
      have BN7 := Lib.hid (below_new w4 (.cells #[.int .u8 0, .slice none 0 0, .int .i64 0, .slice none 0 0] 44))
      clear hq hm hd hap hb c1
      go_wp2_with (first
        | ((with_reducible refine wpList_store_rg rfl (.tmp 12) (.tmp 55) rfl w4.heap.size rfl HZ7.out rfl A7 c7 Ad7 cd7 X rfl ?_); intro w5 hb5 hg5; have HX5 := Lib.hid hb5; have B45 := Lib.hid (BN7.out.grown hg5 BN7.out.size (fun k e => by cases e; exact Nat.le_refl _)); have B35 := Lib.hid (B34.out.trans (B45.out.mono B34.out.size)); clear hb5 hg5; have HC5 := Lib.hid (HC3.out.below B35.out HC3.out.lt); have HP5 := Lib.hid (HP3.out.below B35.out HP3.out.lt); have HS5 := Lib.hid (HS3.out.below B35.out HS3.out.lt))
        | (with_reducible refine wpList_load_ct (by kernel_rfl) (.tmp 4) rfl w.heap.size rfl (A := A) (c := c) (x := x) HC5.out ?_)
        | (with_reducible refine wpList_load_po (by kernel_rfl) (.tmp 5) rfl (w.heap.size + 1) rfl (p := p) HP5.out ?_)
        | (with_reducible refine wpList_load_sh (by kernel_rfl) (.tmp 6) rfl (w.heap.size + 1 + 1) rfl (A := As) (c := cs) (s := s) HS5.out ?_))
      have B5 := Lib.hid (B3.out.trans (B35.out.mono B3.out.size))
      have hrd := HK.out.read x p s r A c As cs A5 c5 w5 (HCL.out.below B5.out) ((HS.out.below B5.out).more B5.out.size) ((HRB.out.below B35.out).more B35.out.size) (by have := HSL.out; omega) (by have := HLL.out; rw [HRN.out]; omega) (HK.out.keep HT.out B5.out)
      rw [show readS x p s r = readS x p s l by rw [HRE.out, readS_reverse]] at hrd
      refine hrd.mono ?_
      clear hrd
      rintro e w6 ⟨A9, c9, Ad9, cd9, Y, er9, rfl, hq, hm, hd, hap, hb⟩
      obtain ⟨hqx, rfl⟩ := Prod.mk.inj (hq.trans HQ7.out.symm)
      obtain rfl := hqx.symm
      have HXE := Lib.hid (show X = (readS x p s l).1 by rw [← HQ7.out])
      have HML := Lib.hid (show X.bal.marks.length ≤ 4000000000 by rw [HXE.out]; have := readS_marks_len x p s l; have := HSL.out; have := HCN.out; omega)
      have HDL := Lib.hid (show X.doubts.length ≤ 1000 by rw [HXE.out]; have := readS_doubts_len x p s l; have := HSL.out; omega)
      have B46 := Lib.hid (B45.out.trans (hb.mono B45.out.size))
      have HM76 := Lib.hid ((HM7.out.below B46.out).more B46.out.size)
      have HD76 := Lib.hid ((HD7.out.below B46.out).more B46.out.size)
      have HM9 := Lib.hid hm.rd
      have HD9 := Lib.hid hd.rd
      have B6 := Lib.hid (B5.out.trans (hb.mono B5.out.size))
      have HX6 := Lib.hid (HX5.out.below hb HX5.out.lt)
      have HZ9 := Lib.hid (Blk.new w6 44 #[.int .u8 0, .slice none 0 0, .int .i64 0, .slice none 0 0])
      have BN9 := Lib.hid (below_new w6 (.cells #[.int .u8 0, .slice none 0 0, .int .i64 0, .slice none 0 0] 44))
      clear hq hm hd hap hb hqx
      go_wp2_with ((with_reducible refine wpList_store_rg rfl (.tmp 14) (.tmp 63) rfl w6.heap.size rfl HZ9.out rfl A9 c9 Ad9 cd9 X rfl ?_); intro w7 hb7 hg7; have HY7 := Lib.hid hb7; have B67 := Lib.hid (BN9.out.grown hg7 BN9.out.size (fun k e => by cases e; exact Nat.le_refl _)); clear hb7 hg7; have HX7 := Lib.hid (HX6.out.below B67.out HX6.out.lt); have e0 : w7.cell? ⟨w4.heap.size, 0, none⟩ = some (.int .u8 (X.bal.kind : Nat)) := HX7.out.cell 0; have e1 : w7.cell? ⟨w4.heap.size, 1, none⟩ = some (.slice A7 X.bal.marks.length c7) := HX7.out.cell 1; have e2 : w7.cell? ⟨w4.heap.size, 2, none⟩ = some (.int .i64 X.over) := HX7.out.cell 2; have e3 : w7.cell? ⟨w4.heap.size, 3, none⟩ = some (.slice Ad7 X.doubts.length cd7) := HX7.out.cell 3; have e4 : w7.cell? ⟨w6.heap.size, 0, none⟩ = some (.int .u8 (X.bal.kind : Nat)) := HY7.out.cell 0; have e5 : w7.cell? ⟨w6.heap.size, 1, none⟩ = some (.slice A9 X.bal.marks.length c9) := HY7.out.cell 1; have e6 : w7.cell? ⟨w6.heap.size, 2, none⟩ = some (.int .i64 X.over) := HY7.out.cell 2; have e7 : w7.cell? ⟨w6.heap.size, 3, none⟩ = some (.slice Ad9 X.doubts.length cd9) := HY7.out.cell 3)
      have B7 := Lib.hid (B6.out.trans (B67.out.mono B6.out.size))
      have hsm := refSameR_any X A7 Ad7 A9 Ad9 c7 cd7 c9 cd9 w7 ((HM76.out.below B67.out).more B67.out.size) ((HD76.out.below B67.out).more B67.out.size) ((HM9.out.below B67.out).more B67.out.size) ((HD9.out.below B67.out).more B67.out.size) HML.out (by have := HDL.out; omega)
      refine hsm.mono ?_
      clear hsm
      rintro e w8 ⟨rfl, hb⟩
      go_wp2_with fail
      go_ret
      exact ⟨rfl, B7.out.trans (hb.mono B7.out.size)⟩
end Go.Proofs.YtejphpcngbjgjaaDoor
namespace Go.Proofs.YtejphpcngbjgjaaDoor
open Go.RowKit
set_option linter.unusedVariables false

theorem nodup_len25 : ∀ (n : Nat) (l : List Int), l.Nodup → (∀ x ∈ l, 0 ≤ x ∧ x < n) → l.length ≤ n
  | 0, l, _, h => by
    cases l with
    | nil => simp
    | cons a l => have := h a (List.mem_cons_self ..); omega
  | n + 1, l, hn, h => by
    by_cases hm : (n : Int) ∈ l
    · have h1 := nodup_len25 n (l.erase (n : Int)) (hn.erase _) fun x hx => by
        have h2 := (hn.mem_erase_iff).1 hx
        have := h x h2.2
        have := h2.1
        omega
      rw [List.length_erase_of_mem hm] at h1
      omega
    · have h1 := nodup_len25 n l hn fun x hx => by
        have := h x hx
        have : x ≠ (n : Int) := fun e => hm (e ▸ hx)
        omega
      omega

/-- The same reading but for the doubts. -/
theorem readS_steady {c : Ct} {p : Po} {s s' : List UInt8} {l l' : List De} (h : (readS c p s l).2 = 0) (hl : s'.length = s.length) (hd : ∀ b ∈ s', b.toNat ≤ 100) (hn : l'.length ≤ s.length) (hdec : decsS p s' l' = true) (hm : markS p s' l' = markS p s l) :
    (readS c p s' l').2 = 0 ∧ (readS c p s' l').1.bal = (readS c p s l).1.bal ∧ (readS c p s' l').1.over = (readS c p s l).1.over ∧ (readS c p s' l').1.doubts = doubtsS p s' l' := by
  obtain ⟨h1, h2, h3, h4⟩ := readS_ok.1 h
  have hk := checkS_ok.1 h1
  have h0 : (readS c p s' l').2 = 0 := readS_ok.2 ⟨checkS_ok.2 ⟨hk.1, by rw [hl]; exact hk.2.1, hd⟩, h2, by omega, hdec⟩
  refine ⟨h0, ?_⟩
  rw [readS_is h0, readS_is h, hm]
  exact ⟨rfl, rfl, rfl⟩
theorem getD_set25 (s : List UInt8) (b i : Nat) (v : UInt8) (hb : b < s.length) : (s.set b v).getD i 0 = if i = b then v else s.getD i 0 := by
  rw [List.getD_eq_getElem?_getD, List.getD_eq_getElem?_getD, List.getElem?_set]
  by_cases h : b = i
  · subst h; simp [hb]
  · rw [if_neg h, if_neg (fun e => h e.symm)]
/-- A box that is not doubtful, made another that is not doubtful, and marked as it was. -/
theorem steady_box {c : Ct} {p : Po} {s : List UInt8} {l : List De} (h : (readS c p s l).2 = 0) (b : Nat) (hb : b < s.length) (v : UInt8) (hv : v.toNat ≤ 100) (h1 : doubtP p (s.getD b 0) = false) (h2 : doubtP p v = false) (h3 : decide (p.high ≤ v.toNat) = decide (p.high ≤ (s.getD b 0).toNat)) :
    (readS c p (s.set b v) l).2 = 0 ∧ (readS c p (s.set b v) l).1.bal = (readS c p s l).1.bal ∧ (readS c p (s.set b v) l).1.over = (readS c p s l).1.over ∧ (readS c p (s.set b v) l).1.doubts = (readS c p s l).1.doubts := by
  obtain ⟨g1, g2, g3, g4⟩ := readS_ok.1 h
  have hk := checkS_ok.1 g1
  have hdd : ∀ i, doubtP p ((s.set b v).getD i 0) = doubtP p (s.getD i 0) := fun i => by
    rw [getD_set25 s b i v hb]
    split
    · rename_i e; rw [e, h1, h2]
    · rfl
  have hmk : markS p (s.set b v) l = markS p s l := by
    unfold markS
    rw [List.length_set]
    refine List.map_congr_left fun i _ => ?_
    unfold markAt
    rw [hdd i, getD_set25 s b i v hb]
    split
    · rfl
    · split
      · rename_i e; rw [e, h3]
      · rfl
  have hdo : doubtsS p (s.set b v) l = doubtsS p s l := by
    unfold doubtsS doubtsN
    rw [List.length_set]
    congr 1
    refine List.filter_congr fun i _ => ?_
    unfold openAt
    rw [hdd i]
  have hde : decsS p (s.set b v) l = true := by
    rw [decsS_iff] at g4 ⊢
    refine ⟨fun d hd => ?_, g4.2⟩
    have := g4.1 d hd
    rw [namesD_iff] at this ⊢
    rw [List.length_set, hdd]
    exact this
  have := readS_steady h (List.length_set ..) (fun x hx => by
    rcases List.mem_or_eq_of_mem_set hx with hx | rfl
    · exact hk.2.2 x hx
    · exact hv) g3 hde hmk
  refine ⟨this.1, this.2.1, this.2.2.1, ?_⟩
  rw [this.2.2.2, hdo, readS_is h]
/-- One decision more, that a doubtful box is not marked. -/
theorem steady_more {c : Ct} {p : Po} {s : List UInt8} {l : List De} (h : (readS c p s l).2 = 0) (b : Nat) (hb : b < s.length) (h1 : doubtP p (s.getD b 0) = true) (h2 : ∀ d ∈ l, d.box ≠ (b : Int)) :
    (readS c p s (l ++ [⟨b, false⟩])).2 = 0 ∧ (readS c p s (l ++ [⟨b, false⟩])).1.bal = (readS c p s l).1.bal ∧ (readS c p s (l ++ [⟨b, false⟩])).1.over = (readS c p s l).1.over ∧ (readS c p s l).1.doubts.length = (readS c p s (l ++ [⟨b, false⟩])).1.doubts.length + 1 := by
  obtain ⟨g1, g2, g3, g4⟩ := readS_ok.1 h
  have hk := checkS_ok.1 g1
  have g4' := (decsS_iff p s l).1 g4
  have hnb : ((b : Int) :: l.map (·.box)).Nodup := by
    rw [List.nodup_cons]
    refine ⟨fun hm => ?_, g4'.2⟩
    obtain ⟨d, hd, e⟩ := List.mem_map.1 hm
    exact h2 d hd e
  have hlen := nodup_len25 s.length _ hnb fun x hx => by
    rcases List.mem_cons.1 hx with rfl | hx
    · omega
    · obtain ⟨d, hd, rfl⟩ := List.mem_map.1 hx
      have := (namesD_iff p s d).1 (g4'.1 d hd)
      exact ⟨this.1, this.2.1⟩
  have hmk : markS p s (l ++ [⟨b, false⟩]) = markS p s l := by
    unfold markS
    refine List.map_congr_left fun i _ => ?_
    unfold markAt
    rw [decidedS_snoc]
    split
    · cases decidedS l i with
      | some t => rfl
      | none => simp only [Option.none_or]; split <;> rfl
    · rfl
  have hde : decsS p s (l ++ [⟨b, false⟩]) = true := by
    rw [decsS_iff]
    refine ⟨fun d hd => ?_, ?_⟩
    · rcases List.mem_append.1 hd with hd | hd
      · exact g4'.1 d hd
      · obtain rfl := List.mem_singleton.1 hd
        rw [namesD_iff]
        exact ⟨by simp, by simpa using hb, by simpa using h1⟩
    · rw [List.map_append, List.nodup_append]
      refine ⟨g4'.2, by simp, fun a ha b' hb' => ?_⟩
      simp at hb'
      obtain ⟨d, hd, rfl⟩ := List.mem_map.1 ha
      rw [hb']
      exact h2 d hd
  have := readS_steady h rfl hk.2.2 (by simp at hlen ⊢; omega) hde hmk
  refine ⟨this.1, this.2.1, this.2.2.1, ?_⟩
  rw [this.2.2.2, readS_is h]
  unfold doubtsS
  simp only [List.length_map]
  have hnd : (doubtsN p s l).Nodup := List.Pairwise.filter _ List.nodup_range
  have hmem : b ∈ doubtsN p s l := by
    unfold doubtsN
    rw [List.mem_filter, List.mem_range]
    refine ⟨hb, ?_⟩
    unfold openAt
    rw [h1, decidedS_none.2 h2]
    rfl
  have heq : doubtsN p s (l ++ [⟨b, false⟩]) = (doubtsN p s l).erase b := by
    rw [hnd.erase_eq_filter]
    unfold doubtsN
    rw [List.filter_filter]
    refine List.filter_congr fun i _ => ?_
    unfold openAt
    rw [decidedS_snoc]
    by_cases e : i = b
    · subst e
      simp
    · have e2 : ¬ (b : Int) = (i : Int) := by omega
      simp [e, e2]
  rw [heq, List.length_erase_of_mem hmem]
  have := List.length_pos_of_mem hmem
  omega
end Go.Proofs.YtejphpcngbjgjaaDoor
namespace Go.Proofs.YtejphpcngbjgjaaDoor
open Go.RowKit
set_option linter.unusedVariables false

set_option maxRecDepth 100000 in
set_option maxHeartbeats 8000000 in
theorem sheetSteady_any {T : World → Prop} (K : Con25 T) (x : Ct) (p : Po) (s : List UInt8) (l : List De) (box : Int) (A : Option Addr) (c : Nat) (As : Option Addr) (cs : Nat) (Al : Option Addr) (cl : Nat) (w : World) (hc : CtOk w A c x) (hs : Rf bv w w.heap.size As cs s) (hl : Rde w w.heap.size Al cl l) (hT : T w) :
    Calls Tryd.prog 5 #[cv A c x, pov p, shv As cs s, .slice Al l.length cl, .int .i64 box] w fun e w' => e = .returned (.bool true) ∧ Below w.heap.size w w' := by
  obtain ⟨wA, hwA⟩ : ∃ wA, wA = ((w.alloc (.cells (cvs A c x) 24)).alloc (.cells #[.int .u8 (p.low : Nat), .int .u8 (p.high : Nat), .int .i64 p.skips] 38)).alloc (.cells #[.slice As s.length cs] 27) := ⟨_, rfl⟩
  have B0 := Lib.hid (show Below w.heap.size w wA from by rw [hwA]; exact ((below_new w _).alloc (by simp) _).alloc (by simp; omega) _)
  have HC0 := Lib.hid (show Blk wA w.heap.size 24 (cvs A c x) from by rw [hwA]; exact ((Blk.new w _ _).alloc _).alloc _)
  have HP0 := Lib.hid (show Blk wA (w.heap.size + 1) 38 (pos25 p) from by
    have h := Blk.new (w.alloc (.cells (cvs A c x) 24)) 38 (pos25 p)
    rw [World.size_alloc] at h
    rw [hwA]; exact h.alloc _)
  have HS0 := Lib.hid (show Blk wA (w.heap.size + 1 + 1) 27 #[.slice As s.length cs] from by
    have h := Blk.new ((w.alloc (.cells (cvs A c x) 24)).alloc (.cells #[.int .u8 (p.low : Nat), .int .u8 (p.high : Nat), .int .i64 p.skips] 38)) 27 #[.slice As s.length cs]
    rw [World.size_alloc, World.size_alloc] at h
    rw [hwA]; exact h)
  have HAL := Lib.hid (alive25_any K wA (K.keep hT B0.out))
  have HG := Lib.hid (fun wx (hb : Below w.heap.size w wx) => great_any x A c wx ((hc.below hb).rd))
  have HK := Lib.hid K
  have HT := Lib.hid hT
  have HS := Lib.hid hs
  have HL := Lib.hid hl
  have HCT := Lib.hid hc
  clear K hT hc hs hl
  unfold cv cvs shv pov
  unfold cvs at hwA
  unfold cv cvs at HG
  cases hg : greatM x with
  | true =>
    have HGB := Lib.hid hg
    clear hg
    go_enter Tryd.func5, Tryd.ntmps5
    go_wp2_with fail
    rw [← hwA]
    refine HAL.out.mono ?_
    rintro e w1 ⟨rfl, hb⟩
    have B1 := Lib.hid (B0.out.trans (hb.mono B0.out.size))
    have HC1 := Lib.hid (HC0.out.below hb HC0.out.lt)
    have HP1 := Lib.hid (HP0.out.below hb HP0.out.lt)
    have HS1 := Lib.hid (HS0.out.below hb HS0.out.lt)
    clear hb hwA HC0 HP0 HS0 HAL
    go_wp2_with (with_reducible refine wpList_load_ct (by kernel_rfl) (.tmp 5) rfl w.heap.size rfl (A := A) (c := c) (x := x) HC1.out ?_)
    refine (HG.out _ B1.out).mono ?_
    rintro e w2 ⟨rfl, hb⟩
    rw [HGB.out]
    have c1 : w2.cell? ⟨w.heap.size + 1 + 1, 0, none⟩ = some (.slice As s.length cs) := (HS1.out.below hb HS1.out.lt).cell 0
    have B2 := Lib.hid (B1.out.trans (hb.mono B1.out.size))
    have HC2 := Lib.hid (HC1.out.below hb HC1.out.lt)
    have HP2 := Lib.hid (HP1.out.below hb HP1.out.lt)
    have HS2 := Lib.hid (HS1.out.below hb HS1.out.lt)
    clear hb HC1 HP1 HS1 HG
    go_wp2_with fail
    go_ret
    exact ⟨rfl, B2.out⟩
  | false =>
  have HGB := Lib.hid hg
  have HCL := Lib.hid (CtLow.of_great HCT.out hg)
  have HCN := Lib.hid (greatM_no hg).1
  clear hg
  by_cases hbig : 1000 < s.length
  · have hbd : decide ((1000 : Int) < (s.length : Int)) = true := by simp; omega
    clear hbig
    go_enter Tryd.func5, Tryd.ntmps5
    go_wp2_with fail
    rw [← hwA]
    refine HAL.out.mono ?_
    rintro e w1 ⟨rfl, hb⟩
    have B1 := Lib.hid (B0.out.trans (hb.mono B0.out.size))
    have HC1 := Lib.hid (HC0.out.below hb HC0.out.lt)
    have HP1 := Lib.hid (HP0.out.below hb HP0.out.lt)
    have HS1 := Lib.hid (HS0.out.below hb HS0.out.lt)
    clear hb hwA HC0 HP0 HS0 HAL
    go_wp2_with (with_reducible refine wpList_load_ct (by kernel_rfl) (.tmp 5) rfl w.heap.size rfl (A := A) (c := c) (x := x) HC1.out ?_)
    refine (HG.out _ B1.out).mono ?_
    rintro e w2 ⟨rfl, hb⟩
    rw [HGB.out]
    have c1 : w2.cell? ⟨w.heap.size + 1 + 1, 0, none⟩ = some (.slice As s.length cs) := (HS1.out.below hb HS1.out.lt).cell 0
    have B2 := Lib.hid (B1.out.trans (hb.mono B1.out.size))
    have HC2 := Lib.hid (HC1.out.below hb HC1.out.lt)
    have HP2 := Lib.hid (HP1.out.below hb HP1.out.lt)
    have HS2 := Lib.hid (HS1.out.below hb HS1.out.lt)
    clear hb HC1 HP1 HS1 HG
    go_wp2_with fail
    go_ret
    exact ⟨rfl, B2.out⟩
  have hbd : decide ((1000 : Int) < (s.length : Int)) = false := by simp; omega
  have HSL := Lib.hid (show s.length ≤ 1000 by omega)
  clear hbig
  by_cases hbig : 1000 < l.length
  · have hld : decide ((1000 : Int) < (l.length : Int)) = true := by simp; omega
    clear hbig
    go_enter Tryd.func5, Tryd.ntmps5
    go_wp2_with fail
    rw [← hwA]
    refine HAL.out.mono ?_
    rintro e w1 ⟨rfl, hb⟩
    have B1 := Lib.hid (B0.out.trans (hb.mono B0.out.size))
    have HC1 := Lib.hid (HC0.out.below hb HC0.out.lt)
    have HP1 := Lib.hid (HP0.out.below hb HP0.out.lt)
    have HS1 := Lib.hid (HS0.out.below hb HS0.out.lt)
    clear hb hwA HC0 HP0 HS0 HAL
    go_wp2_with (with_reducible refine wpList_load_ct (by kernel_rfl) (.tmp 5) rfl w.heap.size rfl (A := A) (c := c) (x := x) HC1.out ?_)
    refine (HG.out _ B1.out).mono ?_
    rintro e w2 ⟨rfl, hb⟩
    rw [HGB.out]
    have c1 : w2.cell? ⟨w.heap.size + 1 + 1, 0, none⟩ = some (.slice As s.length cs) := (HS1.out.below hb HS1.out.lt).cell 0
    have B2 := Lib.hid (B1.out.trans (hb.mono B1.out.size))
    have HC2 := Lib.hid (HC1.out.below hb HC1.out.lt)
    have HP2 := Lib.hid (HP1.out.below hb HP1.out.lt)
    have HS2 := Lib.hid (HS1.out.below hb HS1.out.lt)
    clear hb HC1 HP1 HS1 HG
    go_wp2_with fail
    go_ret
    exact ⟨rfl, B2.out⟩
  have hld : decide ((1000 : Int) < (l.length : Int)) = false := by simp; omega
  have HLL := Lib.hid (show l.length ≤ 1000 by omega)
  clear hbig
  by_cases hlow : box < 0
  · have hbl : decide (box < 0) = true := decide_eq_true hlow
    clear hlow
    go_enter Tryd.func5, Tryd.ntmps5
    go_wp2_with fail
    rw [← hwA]
    refine HAL.out.mono ?_
    rintro e w1 ⟨rfl, hb⟩
    have B1 := Lib.hid (B0.out.trans (hb.mono B0.out.size))
    have HC1 := Lib.hid (HC0.out.below hb HC0.out.lt)
    have HP1 := Lib.hid (HP0.out.below hb HP0.out.lt)
    have HS1 := Lib.hid (HS0.out.below hb HS0.out.lt)
    clear hb hwA HC0 HP0 HS0 HAL
    go_wp2_with (with_reducible refine wpList_load_ct (by kernel_rfl) (.tmp 5) rfl w.heap.size rfl (A := A) (c := c) (x := x) HC1.out ?_)
    refine (HG.out _ B1.out).mono ?_
    rintro e w2 ⟨rfl, hb⟩
    rw [HGB.out]
    have c1 : w2.cell? ⟨w.heap.size + 1 + 1, 0, none⟩ = some (.slice As s.length cs) := (HS1.out.below hb HS1.out.lt).cell 0
    have B2 := Lib.hid (B1.out.trans (hb.mono B1.out.size))
    have HC2 := Lib.hid (HC1.out.below hb HC1.out.lt)
    have HP2 := Lib.hid (HP1.out.below hb HP1.out.lt)
    have HS2 := Lib.hid (HS1.out.below hb HS1.out.lt)
    clear hb HC1 HP1 HS1 HG
    go_wp2_with fail
    go_ret
    exact ⟨rfl, B2.out⟩
  have hbl : decide (box < 0) = false := decide_eq_false hlow
  by_cases hhi : (s.length : Int) ≤ box
  · have hbh : decide ((s.length : Int) ≤ box) = true := decide_eq_true hhi
    clear hlow hhi
    go_enter Tryd.func5, Tryd.ntmps5
    go_wp2_with fail
    rw [← hwA]
    refine HAL.out.mono ?_
    rintro e w1 ⟨rfl, hb⟩
    have B1 := Lib.hid (B0.out.trans (hb.mono B0.out.size))
    have HC1 := Lib.hid (HC0.out.below hb HC0.out.lt)
    have HP1 := Lib.hid (HP0.out.below hb HP0.out.lt)
    have HS1 := Lib.hid (HS0.out.below hb HS0.out.lt)
    clear hb hwA HC0 HP0 HS0 HAL
    go_wp2_with (with_reducible refine wpList_load_ct (by kernel_rfl) (.tmp 5) rfl w.heap.size rfl (A := A) (c := c) (x := x) HC1.out ?_)
    refine (HG.out _ B1.out).mono ?_
    rintro e w2 ⟨rfl, hb⟩
    rw [HGB.out]
    have c1 : w2.cell? ⟨w.heap.size + 1 + 1, 0, none⟩ = some (.slice As s.length cs) := (HS1.out.below hb HS1.out.lt).cell 0
    have B2 := Lib.hid (B1.out.trans (hb.mono B1.out.size))
    have HC2 := Lib.hid (HC1.out.below hb HC1.out.lt)
    have HP2 := Lib.hid (HP1.out.below hb HP1.out.lt)
    have HS2 := Lib.hid (HS1.out.below hb HS1.out.lt)
    clear hb HC1 HP1 HS1 HG
    go_wp2_with fail
    go_ret
    exact ⟨rfl, B2.out⟩
  obtain ⟨bx, rfl⟩ : ∃ bx : Nat, box = (bx : Int) := ⟨box.toNat, by omega⟩
  have hbx : bx < s.length := by omega
  have hbh : decide ((s.length : Int) ≤ (bx : Int)) = false := by simp; omega
  clear hlow hhi
  go_enter Tryd.func5, Tryd.ntmps5
  go_wp2_with fail
  rw [← hwA]
  refine HAL.out.mono ?_
  rintro e w1 ⟨rfl, hb⟩
  have B1 := Lib.hid (B0.out.trans (hb.mono B0.out.size))
  have HC1 := Lib.hid (HC0.out.below hb HC0.out.lt)
  have HP1 := Lib.hid (HP0.out.below hb HP0.out.lt)
  have HS1 := Lib.hid (HS0.out.below hb HS0.out.lt)
  clear hb hwA HC0 HP0 HS0 HAL
  go_wp2_with (with_reducible refine wpList_load_ct (by kernel_rfl) (.tmp 5) rfl w.heap.size rfl (A := A) (c := c) (x := x) HC1.out ?_)
  refine (HG.out _ B1.out).mono ?_
  rintro e w2 ⟨rfl, hb⟩
  rw [HGB.out]
  have c1 : w2.cell? ⟨w.heap.size + 1 + 1, 0, none⟩ = some (.slice As s.length cs) := (HS1.out.below hb HS1.out.lt).cell 0
  have B2 := Lib.hid (B1.out.trans (hb.mono B1.out.size))
  have HC2 := Lib.hid (HC1.out.below hb HC1.out.lt)
  have HP2 := Lib.hid (HP1.out.below hb HP1.out.lt)
  have HS2 := Lib.hid (HS1.out.below hb HS1.out.lt)
  clear hb HC1 HP1 HS1 HG
  go_wp2_with (first
    | (with_reducible refine wpList_load_ct (by kernel_rfl) (.tmp 5) rfl w.heap.size rfl (A := A) (c := c) (x := x) HC2.out ?_)
    | (with_reducible refine wpList_load_po (by kernel_rfl) (.tmp 6) rfl (w.heap.size + 1) rfl (p := p) HP2.out ?_)
    | (with_reducible refine wpList_load_sh (by kernel_rfl) (.tmp 7) rfl (w.heap.size + 1 + 1) rfl (A := As) (c := cs) (s := s) HS2.out ?_))
  refine (HK.out.read x p s l A c As cs Al cl w2 (HCL.out.below B2.out) ((HS.out.below B2.out).more B2.out.size) ((HL.out.below B2.out).more B2.out.size) (by have := HSL.out; omega) (by have := HLL.out; omega) (HK.out.keep HT.out B2.out)).mono ?_
  rintro e w3 ⟨A7, c7, Ad7, cd7, X, er, rfl, hq, hm, hd, hap, hb⟩
  have HQ7 := Lib.hid hq
  have HM3 := Lib.hid hm
  have HD3 := Lib.hid hd
  have B3 := Lib.hid (B2.out.trans (hb.mono B2.out.size))
  have B23 := Lib.hid hb
  have HZ3 := Lib.hid (Blk.new w3 44 #[.int .u8 0, .slice none 0 0, .int .i64 0, .slice none 0 0])
  have BN3 := Lib.hid (below_new w3 (.cells #[.int .u8 0, .slice none 0 0, .int .i64 0, .slice none 0 0] 44))
  clear hq hm hd hap hb c1
  by_cases her : er = 0
  case neg =>
    have hne : (er != 0) = true := by simpa using her
    clear her
    go_wp2_with ((with_reducible refine wpList_store_rg rfl (.tmp 12) (.tmp 55) rfl w3.heap.size rfl HZ3.out rfl A7 c7 Ad7 cd7 X rfl ?_); intro w4 hb4 hg4; have B34 := Lib.hid (BN3.out.grown hg4 BN3.out.size (fun k e => by cases e; exact Nat.le_refl _)); clear hb4 hg4)
    go_ret
    exact ⟨rfl, B3.out.trans (B34.out.mono B3.out.size)⟩
  subst her
  have HOK := Lib.hid (show (readS x p s l).2 = 0 by rw [← HQ7.out])
  have HXE := Lib.hid (show X = (readS x p s l).1 by rw [← HQ7.out])
  obtain ⟨bi, hbi, hz0, hz1, hz2⟩ := uInfo25_parts
  have HBI := Lib.hid hbi
  have HZ0 := Lib.hid hz0
  have HZ1 := Lib.hid hz1
  have HZ2 := Lib.hid hz2
  obtain ⟨di, hdi, hy0, hy1, hy2⟩ := dInfo25_parts
  have HDI := Lib.hid hdi
  have HY0 := Lib.hid hy0
  have HY1 := Lib.hid hy1
  have HY2 := Lib.hid hy2
  have HLE := Lib.hid (show ([] : List UInt8).length + s.length ≤ 4000000000 by have := HSL.out; simp; omega)
  clear hbi hz0 hz1 hz2 hdi hy0 hy1 hy2
  go_wp2_with (first
    | ((with_reducible refine wpList_store_rg rfl (.tmp 12) (.tmp 55) rfl w3.heap.size rfl HZ3.out rfl A7 c7 Ad7 cd7 X rfl ?_); intro w4 hb4 hg4; have HX4 := Lib.hid hb4; have B34 := Lib.hid (BN3.out.grown hg4 BN3.out.size (fun k e => by cases e; exact Nat.le_refl _)); clear hb4 hg4; have B24 := Lib.hid (B23.out.trans (B34.out.mono B23.out.size)); have B4 := Lib.hid (B2.out.trans (B24.out.mono B2.out.size)); have HS4 := Lib.hid (HS2.out.below B24.out HS2.out.lt); have c4a : (w4.alloc (.cells #[] 5)).cell? ⟨w.heap.size + 1 + 1, 0, none⟩ = some (.slice As s.length cs) := (HS4.out.alloc _).cell 0; have HOW := Lib.hid (ow_zero (f := bv) (w := w4) 5 w4.heap.size (Nat.le_refl _)); have HRL := Lib.hid ((HS.out.below B4.out).alloc B4.out.size (.cells #[] 5)); have HSA := Lib.hid (show w4.heap.size ≤ (w4.alloc (.cells #[] 5)).heap.size by simp))
    | (at_builtin; (refine wpList_append_f _ bv_one rfl (.tmp 60) (.tmp 62) 25 rfl w4.heap.size 5 1 bi _ Tryd.underlying25 HBI.out HZ0.out HZ1.out HZ2.out (by omega) rfl [] s rfl rfl HOW.out HRL.out HLE.out HSA.out ?_); intro A5 c5 w5 r5 hr5 hown5 hg5 hbl5; have HR5 := Lib.hid (show r5 = s by rw [hr5.out]; rfl); have HO5 := Lib.hid hown5; have B45 := Lib.hid (below_of_grown (hg5) (by simp : w4.heap.size ≤ (w4.alloc (.cells #[] 5)).heap.size) (fun k e => by simp [blk] at e; omega)); have B45 := Lib.hid ((below_new w4 (.cells #[] 5)).trans B45.out); have HZ5 := Lib.hid (Blk.new w5 27 #[.slice none 0 0]); have BN5 := Lib.hid (below_new w5 (.cells #[.slice none 0 0] 27)); clear hr5 hown5 hg5 hbl5 c4a)
    | ((with_reducible refine wpList_store_sh rfl (.tmp 14) (.tmp 64) rfl w5.heap.size rfl HZ5.out rfl A5 c5 r5 rfl ?_); intro w6 hb6 hg6; have HT6 := Lib.hid hb6; have B56 := Lib.hid (BN5.out.grown hg6 BN5.out.size (fun k e => by cases e; exact Nat.le_refl _)); clear hb6 hg6; have B46 := Lib.hid (B45.out.trans (B56.out.mono B45.out.size)); have B6 := Lib.hid (B4.out.trans (B46.out.mono B4.out.size)); have HDR := Lib.hid ((HL.out.below B6.out).alloc B6.out.size (.cells #[] 52)))
    | (at_builtin; refine wpList_append_k _ dl_len dl_one rfl (.tmp 65) (.tmp 66) 39 rfl w6.heap.size 52 16 di _ Tryd.underlying39 HDI.out HY0.out HY1.out (by omega) HY2.out (by omega) rfl ([] : List De) l rfl rfl (owk_zero _ _ _ (Nat.le_refl _)) HDR.out (by have := HLL.out; simp; omega) (by simp) ?_; intro A8 c8 w8 r8 hr8 ho8 hg8 hb8; have HR8 := Lib.hid (show r8 = l by rw [hr8.out]; rfl); have HO8 := Lib.hid ho8; have B68 := Lib.hid ((below_new w6 (.cells #[] 52)).trans (below_of_grown hg8 (by simp) (by intro k hk; simp [blk] at hk; omega))); clear hr8 ho8 hg8 hb8))
  obtain rfl : s = r5 := HR5.out.symm
  obtain rfl : l = r8 := HR8.out.symm
  have B48 := Lib.hid (B46.out.trans (B68.out.mono B46.out.size))
  have B28 := Lib.hid (B24.out.trans (B48.out.mono B24.out.size))
  have B58 := Lib.hid (B56.out.trans (B68.out.mono B56.out.size))
  have B38 := Lib.hid (B34.out.trans (B48.out.mono B34.out.size))
  have B8 := Lib.hid (B4.out.trans (B48.out.mono B4.out.size))
  have HC8 := Lib.hid (HC2.out.below B28.out HC2.out.lt)
  have HP8 := Lib.hid (HP2.out.below B28.out HP2.out.lt)
  have HS8 := Lib.hid (HS2.out.below B28.out HS2.out.lt)
  have HX8 := Lib.hid (HX4.out.below B48.out HX4.out.lt)
  have HT8 := Lib.hid (HT6.out.below B68.out HT6.out.lt)
  have HO58 := Lib.hid (HO5.out.below (Nat.le_refl _) B58.out)
  have HM8 := Lib.hid (HM3.out.below (Nat.le_refl _) B38.out)
  have hsl := HSL.out
  obtain ⟨b, o, hAs, hbb, hcc⟩ := (HS.out.below B8.out).at_ hbx
  obtain ⟨z, hz⟩ : ∃ z, z = s.getD bx 0 := ⟨_, rfl⟩
  have hcx : w8.cell? ⟨b, o + bx, none⟩ = some (.int .u8 (z.toNat : Int)) := by
    have h := hcc bx hbx
    have e : s[bx] = z := by rw [hz, List.getD_eq_getElem?_getD, List.getElem?_eq_getElem hbx]; rfl
    rw [e] at h
    exact h
  subst hAs
  have HZE := Lib.hid hz
  have hFA : ∀ wx, Below w8.heap.size w8 wx → (wx.cell? ⟨w.heap.size + 1 + 1, 0, none⟩ = some (.slice (some ⟨b, o, none⟩) s.length cs) ∧ wx.cell? ⟨b, o + bx, none⟩ = some (.int .u8 (z.toNat : Int)) ∧ wx.cell? ⟨w.heap.size + 1, 0, none⟩ = some (.int .u8 (p.low : Nat)) ∧ wx.cell? ⟨w.heap.size + 1, 1, none⟩ = some (.int .u8 (p.high : Nat))) := fun wx hb => by
    have hbsz := B8.out.size
    exact ⟨(HS8.out.below hb HS8.out.lt).cell 0, by rw [hb.cell (p := ⟨b, o + bx, none⟩) (by simp only; omega)]; exact hcx, (HP8.out.below hb HP8.out.lt).cell 0, (HP8.out.below hb HP8.out.lt).cell 1⟩
  have HFA := Lib.hid hFA
  have hF0 := HFA.out w8.drew (Below.refl _ w8).drew
  have hF1 := HFA.out w8.drew.drew (Below.refl _ w8).drew.drew
  have HPM := Lib.hid ((mayP_iff p).1 (readS_ok.1 HOK.out).2.1)
  have HLT6 := Lib.hid HT6.out.lt
  have HLP2 := Lib.hid HP2.out.lt
  have HLX4 := Lib.hid HX4.out.lt
  have HGM := Lib.hid (fun k h => (HM3.out.blk_ge k h).2)
  have HOB := HO5
  clear hcc hcx hFA hz HR5 HR8 HOW HRL HSA HDR HZ3 BN3 HZ5 BN5 HT6 HO5 HX4 HC2 HP2 HS2 HM3 HD3
  by_cases hhi : p.high ≤ z.toNat
  · have hge1 : decide ((p.high : Int) ≤ (z.toNat : Int)) = true := by simp; omega
    go_wp2_with fail
    go_region_held3 (fun w' => (w'.cell? ⟨w.heap.size + 1 + 1, 0, none⟩ = some (.slice (some ⟨b, o, none⟩) s.length cs) ∧ w'.cell? ⟨b, o + bx, none⟩ = some (.int .u8 (z.toNat : Int)) ∧ w'.cell? ⟨w.heap.size + 1, 0, none⟩ = some (.int .u8 (p.low : Nat)) ∧ w'.cell? ⟨w.heap.size + 1, 1, none⟩ = some (.int .u8 (p.high : Nat)))) (first | exact hF0 | exact hF1) (fail)
    obtain ⟨g, rfl, hge, hgl, hlc, hcm⟩ : ∃ g, A5 = some ⟨g, 0, none⟩ ∧ w4.heap.size ≤ g ∧ g < w8.heap.size ∧ s.length ≤ c5 ∧ c5 ≤ maxLen := by
      rcases HO58.out.form with ⟨_, _, h⟩ | h
      · rw [h] at hbx; simp at hbx
      · exact h
    obtain ⟨wD, hwD⟩ : ∃ wD, wD = w8.drew := ⟨_, rfl⟩
    have BD := Lib.hid (show Below w8.heap.size w8 wD from by rw [hwD]; exact (Below.refl _ w8).drew)
    have HTD := Lib.hid (HT8.out.below BD.out HT8.out.lt)
    have HOD := Lib.hid (HO58.out.below (Nat.le_refl _) BD.out)
    have t1 : wD.cell? ⟨w5.heap.size, 0, none⟩ = some (.slice (some ⟨g, 0, none⟩) s.length c5) := HTD.out.cell 0
    have hcs := HOD.out.cell25 (i := bx) hbx
    obtain ⟨q, hq⟩ : ∃ q, q = s[bx] := ⟨_, rfl⟩
    rw [← hq] at hcs
    unfold bv at hcs
    have hfz : wD.frozen? ⟨g, bx, none⟩ = false := HOD.out.frozen25 _
    have HST := Lib.hid (HOD.out.stored25 bx (100 : UInt8) hbx (.int .u8 100) rfl)
    obtain ⟨S, hS⟩ : ∃ S, S = s.set bx (100 : UInt8) := ⟨_, rfl⟩
    rw [← hS] at HST
    have HSN := Lib.hid (show S.length = s.length by rw [hS, List.length_set])
    have hpm := HPM.out
    have HYR := Lib.hid (show (readS x p S l).2 = 0 ∧ (readS x p S l).1.bal = (readS x p s l).1.bal ∧ (readS x p S l).1.over = (readS x p s l).1.over ∧ (readS x p s l).1.doubts.length + l.length = (readS x p S l).1.doubts.length + l.length by
      have h0 := steady_box HOK.out bx hbx (100 : UInt8) (by decide) (by rw [← HZE.out]; simp only [doubtP]; simp; omega) (by simp only [doubtP]; simp; omega) (by rw [← HZE.out, decide_eq_decide]; simp; omega)
      rw [← hS] at h0
      exact ⟨h0.1, h0.2.1, h0.2.2.1, by rw [h0.2.2.2]⟩)
    clear hS hq hF0 hF1 hpm
    subst hwD
    obtain ⟨wE, hwE⟩ : ∃ wE, wE = (w8.setCell ⟨g, bx, none⟩ (.int .u8 100)).drew := ⟨_, rfl⟩
    have hde : (w8.drew).setCell ⟨g, bx, none⟩ (.int .u8 100) = (w8.setCell ⟨g, bx, none⟩ (.int .u8 100)).drew := rfl
    rw [hde, ← hwE] at HST
    clear hde
    have B4E := Lib.hid (show Below w4.heap.size w4 wE from (B48.out.trans (BD.out.mono B48.out.size)).grown HST.out.2 (B48.out.trans (BD.out.mono B48.out.size)).size (fun j hj => by cases hj; exact hge))
    have BE := Lib.hid (B4.out.trans (B4E.out.mono B4.out.size))
    have hz4 := B24.out.size
    have HCE := Lib.hid (blk_keep (HC8.out.below BD.out HC8.out.lt) HOD.out (by decide) HST.out.2)
    have HPE := Lib.hid (blk_keep (HP8.out.below BD.out HP8.out.lt) HOD.out (by decide) HST.out.2)
    have HXB := Lib.hid (blk_keep (HX8.out.below BD.out HX8.out.lt) HOD.out (by decide) HST.out.2)
    have HTE := Lib.hid (show Blk wE w5.heap.size 27 #[.slice (some ⟨g, 0, none⟩) S.length c5] by rw [HSN.out]; exact blk_keep HTD.out HOD.out (by decide) HST.out.2)
    have HME := Lib.hid (ow_keep (HM8.out.below (Nat.le_refl _) BD.out) HOD.out (by decide) HST.out.2).rd
    have HSE := Lib.hid HST.out.1.rd
    have HDE := Lib.hid (((HO8.out.rd dl_len).below BD.out).grown HST.out.2 BD.out.size (fun _ => by
      intro e
      rcases HO8.out.form with ⟨h, _, _⟩ | ⟨g8, h, h1, h2, _⟩
      · rw [h] at e; cases e
      · rw [h] at e
        have := B56.out.size
        have h5 := (HOB.out.blk_ge g rfl).2
        have e2 : g8 = g := Option.some.inj e
        omega))
    have HDE := Lib.hid (HDE.out.more (B := w8.heap.size) (B' := wE.heap.size) (by rw [hwE]; simp [World.setCell]))
    have HMN := Lib.hid (show l.length ≤ 1001 by have := HLL.out; omega)
    clear HST HC8 HP8 HS8 HX8 HT8
    subst hwE
    go_wp2_with (first
      | (with_reducible refine wpList_load_ct (by kernel_rfl) (.tmp 5) rfl w.heap.size rfl (A := A) (c := c) (x := x) HCE.out ?_)
      | (with_reducible refine wpList_load_po (by kernel_rfl) (.tmp 6) rfl (w.heap.size + 1) rfl (p := p) HPE.out ?_)
      | (with_reducible refine wpList_load_sh (by kernel_rfl) (.tmp 14) rfl w5.heap.size rfl (A := some ⟨g, 0, none⟩) (c := c5) (s := S) HTE.out ?_))
    refine (HK.out.read x p S l A c (some ⟨g, 0, none⟩) c5 A8 c8 _ (HCL.out.below BE.out) HSE.out HDE.out (by have := HSN.out; have := HSL.out; omega) (by have := HMN.out; omega) (HK.out.keep HT.out BE.out)).mono ?_
    rintro e wF ⟨A9, c9, Ad9, cd9, Y, er9, rfl, hq, hm, hd, hap, hb⟩
    obtain rfl : er9 = 0 := (congrArg Prod.snd hq).trans HYR.out.1
    have hYE : Y = (readS x p S l).1 := congrArg Prod.fst hq
    have hyr := HYR.out.2
    rw [← hYE, ← HXE.out] at hyr
    obtain ⟨yb, yo, yd⟩ := Y
    simp only at hyr
    obtain ⟨h1, h2, h3⟩ := hyr
    subst h1
    subst h2
    have HDN := Lib.hid h3
    have HDL := Lib.hid (show X.doubts.length ≤ 1000 by rw [HXE.out]; have := readS_doubts_len x p s l; have := HSL.out; omega)
    have HML := Lib.hid (show X.bal.marks.length ≤ 4000000000 by rw [HXE.out]; have := readS_marks_len x p s l; have := HSL.out; have := HCN.out; omega)
    have hwa : IntKind.i64.wrap ((yd.length : Int) + (l.length : Int)) = (yd.length : Int) + (l.length : Int) := by have := HDL.out; have := HMN.out; have := HLL.out; rw [IntKind.wrap_i64]; omega
    have hws : IntKind.i64.wrap ((yd.length : Int) + (l.length : Int) - (l.length : Int)) = (X.doubts.length : Int) := by have := HDL.out; have := HMN.out; have := HLL.out; rw [IntKind.wrap_i64]; omega
    have HMX := Lib.hid ((HME.out.below hb).more hb.size)
    have HMY := Lib.hid hm.rd
    have BF := Lib.hid (BE.out.trans (hb.mono BE.out.size))
    have HXF := Lib.hid (HXB.out.below hb HXB.out.lt)
    have HZF := Lib.hid (Blk.new wF 44 #[.int .u8 0, .slice none 0 0, .int .i64 0, .slice none 0 0])
    have BNF := Lib.hid (below_new wF (.cells #[.int .u8 0, .slice none 0 0, .int .i64 0, .slice none 0 0] 44))
    clear hq hm hd hap hb h3 hYE
    go_wp2_with ((with_reducible refine wpList_store_rg rfl (.tmp 17) (.tmp 119) rfl wF.heap.size rfl HZF.out rfl A9 c9 Ad9 cd9 ⟨X.bal, X.over, yd⟩ rfl ?_); intro wG hbG hgG; have HYG := Lib.hid hbG; have BFG := Lib.hid (BNF.out.grown hgG BNF.out.size (fun k e => by cases e; exact Nat.le_refl _)); clear hbG hgG; have HXG := Lib.hid (HXF.out.below BFG.out HXF.out.lt); have e0 : wG.cell? ⟨w3.heap.size, 0, none⟩ = some (.int .u8 (X.bal.kind : Nat)) := HXG.out.cell 0; have e1 : wG.cell? ⟨w3.heap.size, 1, none⟩ = some (.slice A7 X.bal.marks.length c7) := HXG.out.cell 1; have e4 : wG.cell? ⟨wF.heap.size, 0, none⟩ = some (.int .u8 (X.bal.kind : Nat)) := HYG.out.cell 0; have e5 : wG.cell? ⟨wF.heap.size, 1, none⟩ = some (.slice A9 X.bal.marks.length c9) := HYG.out.cell 1)
    have BG := Lib.hid (BF.out.trans (BFG.out.mono BF.out.size))
    have hsm := refSameB_any X.bal X.bal A7 A9 c7 c9 wG ((HMX.out.below BFG.out).more BFG.out.size) ((HMY.out.below BFG.out).more BFG.out.size) HML.out
    rw [show decide (X.bal = X.bal) = true from decide_eq_true rfl] at hsm
    unfold blv blvs at hsm
    refine hsm.mono ?_
    clear hsm e0 e1 e4 e5
    rintro e wH ⟨rfl, hb⟩
    have hXH := HXG.out.below hb HXG.out.lt
    have hYH := HYG.out.below hb HYG.out.lt
    have e2 : wH.cell? ⟨w3.heap.size, 2, none⟩ = some (.int .i64 X.over) := hXH.cell 2
    have e3 : wH.cell? ⟨w3.heap.size, 3, none⟩ = some (.slice Ad7 X.doubts.length cd7) := hXH.cell 3
    have e6 : wH.cell? ⟨wF.heap.size, 2, none⟩ = some (.int .i64 X.over) := hYH.cell 2
    have e7 : wH.cell? ⟨wF.heap.size, 3, none⟩ = some (.slice Ad9 yd.length cd9) := hYH.cell 3
    have BH := Lib.hid (BG.out.trans (hb.mono BG.out.size))
    clear hXH hYH hb
    have hbe : ((X.doubts.length : Int) == wrap64 (yd.length : Int)) = true := by have := HDN.out; have := HDL.out; unfold wrap64; rw [beq_iff_eq]; omega
    go_wp2_with fail
    go_ret
    exact ⟨rfl, BH.out⟩
  have hge1 : decide ((p.high : Int) ≤ (z.toNat : Int)) = false := by simp; omega
  by_cases hlo : z.toNat < p.low
  · have hlt1 : decide ((z.toNat : Int) < (p.low : Int)) = true := by simp; omega
    go_wp2_with fail
    go_region_held3 (fun w' => (w'.cell? ⟨w.heap.size + 1 + 1, 0, none⟩ = some (.slice (some ⟨b, o, none⟩) s.length cs) ∧ w'.cell? ⟨b, o + bx, none⟩ = some (.int .u8 (z.toNat : Int)) ∧ w'.cell? ⟨w.heap.size + 1, 0, none⟩ = some (.int .u8 (p.low : Nat)) ∧ w'.cell? ⟨w.heap.size + 1, 1, none⟩ = some (.int .u8 (p.high : Nat)))) (first | exact hF0 | exact hF1) (fail)
    go_wp2_with fail
    go_region_held3 (fun w' => (w'.cell? ⟨w.heap.size + 1 + 1, 0, none⟩ = some (.slice (some ⟨b, o, none⟩) s.length cs) ∧ w'.cell? ⟨b, o + bx, none⟩ = some (.int .u8 (z.toNat : Int)) ∧ w'.cell? ⟨w.heap.size + 1, 0, none⟩ = some (.int .u8 (p.low : Nat)) ∧ w'.cell? ⟨w.heap.size + 1, 1, none⟩ = some (.int .u8 (p.high : Nat)))) (first | exact hF0 | exact hF1) (fail)
    obtain ⟨g, rfl, hge, hgl, hlc, hcm⟩ : ∃ g, A5 = some ⟨g, 0, none⟩ ∧ w4.heap.size ≤ g ∧ g < w8.heap.size ∧ s.length ≤ c5 ∧ c5 ≤ maxLen := by
      rcases HO58.out.form with ⟨_, _, h⟩ | h
      · rw [h] at hbx; simp at hbx
      · exact h
    obtain ⟨wD, hwD⟩ : ∃ wD, wD = w8.drew.drew := ⟨_, rfl⟩
    have BD := Lib.hid (show Below w8.heap.size w8 wD from by rw [hwD]; exact (Below.refl _ w8).drew.drew)
    have HTD := Lib.hid (HT8.out.below BD.out HT8.out.lt)
    have HOD := Lib.hid (HO58.out.below (Nat.le_refl _) BD.out)
    have t1 : wD.cell? ⟨w5.heap.size, 0, none⟩ = some (.slice (some ⟨g, 0, none⟩) s.length c5) := HTD.out.cell 0
    have hcs := HOD.out.cell25 (i := bx) hbx
    obtain ⟨q, hq⟩ : ∃ q, q = s[bx] := ⟨_, rfl⟩
    rw [← hq] at hcs
    unfold bv at hcs
    have hfz : wD.frozen? ⟨g, bx, none⟩ = false := HOD.out.frozen25 _
    have HST := Lib.hid (HOD.out.stored25 bx (0 : UInt8) hbx (.int .u8 0) rfl)
    obtain ⟨S, hS⟩ : ∃ S, S = s.set bx (0 : UInt8) := ⟨_, rfl⟩
    rw [← hS] at HST
    have HSN := Lib.hid (show S.length = s.length by rw [hS, List.length_set])
    have hpm := HPM.out
    have HYR := Lib.hid (show (readS x p S l).2 = 0 ∧ (readS x p S l).1.bal = (readS x p s l).1.bal ∧ (readS x p S l).1.over = (readS x p s l).1.over ∧ (readS x p s l).1.doubts.length + l.length = (readS x p S l).1.doubts.length + l.length by
      have h0 := steady_box HOK.out bx hbx (0 : UInt8) (by decide) (by rw [← HZE.out]; simp only [doubtP]; simp; omega) (by simp only [doubtP]; simp; omega) (by rw [← HZE.out, decide_eq_decide]; simp; omega)
      rw [← hS] at h0
      exact ⟨h0.1, h0.2.1, h0.2.2.1, by rw [h0.2.2.2]⟩)
    clear hS hq hF0 hF1 hpm
    subst hwD
    obtain ⟨wE, hwE⟩ : ∃ wE, wE = (w8.setCell ⟨g, bx, none⟩ (.int .u8 0)).drew.drew := ⟨_, rfl⟩
    have hde : (w8.drew.drew).setCell ⟨g, bx, none⟩ (.int .u8 0) = (w8.setCell ⟨g, bx, none⟩ (.int .u8 0)).drew.drew := rfl
    rw [hde, ← hwE] at HST
    clear hde
    have B4E := Lib.hid (show Below w4.heap.size w4 wE from (B48.out.trans (BD.out.mono B48.out.size)).grown HST.out.2 (B48.out.trans (BD.out.mono B48.out.size)).size (fun j hj => by cases hj; exact hge))
    have BE := Lib.hid (B4.out.trans (B4E.out.mono B4.out.size))
    have hz4 := B24.out.size
    have HCE := Lib.hid (blk_keep (HC8.out.below BD.out HC8.out.lt) HOD.out (by decide) HST.out.2)
    have HPE := Lib.hid (blk_keep (HP8.out.below BD.out HP8.out.lt) HOD.out (by decide) HST.out.2)
    have HXB := Lib.hid (blk_keep (HX8.out.below BD.out HX8.out.lt) HOD.out (by decide) HST.out.2)
    have HTE := Lib.hid (show Blk wE w5.heap.size 27 #[.slice (some ⟨g, 0, none⟩) S.length c5] by rw [HSN.out]; exact blk_keep HTD.out HOD.out (by decide) HST.out.2)
    have HME := Lib.hid (ow_keep (HM8.out.below (Nat.le_refl _) BD.out) HOD.out (by decide) HST.out.2).rd
    have HSE := Lib.hid HST.out.1.rd
    have HDE := Lib.hid (((HO8.out.rd dl_len).below BD.out).grown HST.out.2 BD.out.size (fun _ => by
      intro e
      rcases HO8.out.form with ⟨h, _, _⟩ | ⟨g8, h, h1, h2, _⟩
      · rw [h] at e; cases e
      · rw [h] at e
        have := B56.out.size
        have h5 := (HOB.out.blk_ge g rfl).2
        have e2 : g8 = g := Option.some.inj e
        omega))
    have HDE := Lib.hid (HDE.out.more (B := w8.heap.size) (B' := wE.heap.size) (by rw [hwE]; simp [World.setCell]))
    have HMN := Lib.hid (show l.length ≤ 1001 by have := HLL.out; omega)
    clear HST HC8 HP8 HS8 HX8 HT8
    subst hwE
    go_wp2_with (first
      | (with_reducible refine wpList_load_ct (by kernel_rfl) (.tmp 5) rfl w.heap.size rfl (A := A) (c := c) (x := x) HCE.out ?_)
      | (with_reducible refine wpList_load_po (by kernel_rfl) (.tmp 6) rfl (w.heap.size + 1) rfl (p := p) HPE.out ?_)
      | (with_reducible refine wpList_load_sh (by kernel_rfl) (.tmp 14) rfl w5.heap.size rfl (A := some ⟨g, 0, none⟩) (c := c5) (s := S) HTE.out ?_))
    refine (HK.out.read x p S l A c (some ⟨g, 0, none⟩) c5 A8 c8 _ (HCL.out.below BE.out) HSE.out HDE.out (by have := HSN.out; have := HSL.out; omega) (by have := HMN.out; omega) (HK.out.keep HT.out BE.out)).mono ?_
    rintro e wF ⟨A9, c9, Ad9, cd9, Y, er9, rfl, hq, hm, hd, hap, hb⟩
    obtain rfl : er9 = 0 := (congrArg Prod.snd hq).trans HYR.out.1
    have hYE : Y = (readS x p S l).1 := congrArg Prod.fst hq
    have hyr := HYR.out.2
    rw [← hYE, ← HXE.out] at hyr
    obtain ⟨yb, yo, yd⟩ := Y
    simp only at hyr
    obtain ⟨h1, h2, h3⟩ := hyr
    subst h1
    subst h2
    have HDN := Lib.hid h3
    have HDL := Lib.hid (show X.doubts.length ≤ 1000 by rw [HXE.out]; have := readS_doubts_len x p s l; have := HSL.out; omega)
    have HML := Lib.hid (show X.bal.marks.length ≤ 4000000000 by rw [HXE.out]; have := readS_marks_len x p s l; have := HSL.out; have := HCN.out; omega)
    have hwa : IntKind.i64.wrap ((yd.length : Int) + (l.length : Int)) = (yd.length : Int) + (l.length : Int) := by have := HDL.out; have := HMN.out; have := HLL.out; rw [IntKind.wrap_i64]; omega
    have hws : IntKind.i64.wrap ((yd.length : Int) + (l.length : Int) - (l.length : Int)) = (X.doubts.length : Int) := by have := HDL.out; have := HMN.out; have := HLL.out; rw [IntKind.wrap_i64]; omega
    have HMX := Lib.hid ((HME.out.below hb).more hb.size)
    have HMY := Lib.hid hm.rd
    have BF := Lib.hid (BE.out.trans (hb.mono BE.out.size))
    have HXF := Lib.hid (HXB.out.below hb HXB.out.lt)
    have HZF := Lib.hid (Blk.new wF 44 #[.int .u8 0, .slice none 0 0, .int .i64 0, .slice none 0 0])
    have BNF := Lib.hid (below_new wF (.cells #[.int .u8 0, .slice none 0 0, .int .i64 0, .slice none 0 0] 44))
    clear hq hm hd hap hb h3 hYE
    go_wp2_with ((with_reducible refine wpList_store_rg rfl (.tmp 17) (.tmp 119) rfl wF.heap.size rfl HZF.out rfl A9 c9 Ad9 cd9 ⟨X.bal, X.over, yd⟩ rfl ?_); intro wG hbG hgG; have HYG := Lib.hid hbG; have BFG := Lib.hid (BNF.out.grown hgG BNF.out.size (fun k e => by cases e; exact Nat.le_refl _)); clear hbG hgG; have HXG := Lib.hid (HXF.out.below BFG.out HXF.out.lt); have e0 : wG.cell? ⟨w3.heap.size, 0, none⟩ = some (.int .u8 (X.bal.kind : Nat)) := HXG.out.cell 0; have e1 : wG.cell? ⟨w3.heap.size, 1, none⟩ = some (.slice A7 X.bal.marks.length c7) := HXG.out.cell 1; have e4 : wG.cell? ⟨wF.heap.size, 0, none⟩ = some (.int .u8 (X.bal.kind : Nat)) := HYG.out.cell 0; have e5 : wG.cell? ⟨wF.heap.size, 1, none⟩ = some (.slice A9 X.bal.marks.length c9) := HYG.out.cell 1)
    have BG := Lib.hid (BF.out.trans (BFG.out.mono BF.out.size))
    have hsm := refSameB_any X.bal X.bal A7 A9 c7 c9 wG ((HMX.out.below BFG.out).more BFG.out.size) ((HMY.out.below BFG.out).more BFG.out.size) HML.out
    rw [show decide (X.bal = X.bal) = true from decide_eq_true rfl] at hsm
    unfold blv blvs at hsm
    refine hsm.mono ?_
    clear hsm e0 e1 e4 e5
    rintro e wH ⟨rfl, hb⟩
    have hXH := HXG.out.below hb HXG.out.lt
    have hYH := HYG.out.below hb HYG.out.lt
    have e2 : wH.cell? ⟨w3.heap.size, 2, none⟩ = some (.int .i64 X.over) := hXH.cell 2
    have e3 : wH.cell? ⟨w3.heap.size, 3, none⟩ = some (.slice Ad7 X.doubts.length cd7) := hXH.cell 3
    have e6 : wH.cell? ⟨wF.heap.size, 2, none⟩ = some (.int .i64 X.over) := hYH.cell 2
    have e7 : wH.cell? ⟨wF.heap.size, 3, none⟩ = some (.slice Ad9 yd.length cd9) := hYH.cell 3
    have BH := Lib.hid (BG.out.trans (hb.mono BG.out.size))
    clear hXH hYH hb
    have hbe : ((X.doubts.length : Int) == wrap64 (yd.length : Int)) = true := by have := HDN.out; have := HDL.out; unfold wrap64; rw [beq_iff_eq]; omega
    go_wp2_with fail
    go_ret
    exact ⟨rfl, BH.out⟩
  · have hlt1 : decide ((z.toNat : Int) < (p.low : Int)) = false := by simp; omega
    go_wp2_with fail
    go_region_held3 (fun w' => (w'.cell? ⟨w.heap.size + 1 + 1, 0, none⟩ = some (.slice (some ⟨b, o, none⟩) s.length cs) ∧ w'.cell? ⟨b, o + bx, none⟩ = some (.int .u8 (z.toNat : Int)) ∧ w'.cell? ⟨w.heap.size + 1, 0, none⟩ = some (.int .u8 (p.low : Nat)) ∧ w'.cell? ⟨w.heap.size + 1, 1, none⟩ = some (.int .u8 (p.high : Nat)))) (first | exact hF0 | exact hF1) (fail)
    go_wp2_with fail
    go_region_held3 (fun w' => (w'.cell? ⟨w.heap.size + 1 + 1, 0, none⟩ = some (.slice (some ⟨b, o, none⟩) s.length cs) ∧ w'.cell? ⟨b, o + bx, none⟩ = some (.int .u8 (z.toNat : Int)) ∧ w'.cell? ⟨w.heap.size + 1, 0, none⟩ = some (.int .u8 (p.low : Nat)) ∧ w'.cell? ⟨w.heap.size + 1, 1, none⟩ = some (.int .u8 (p.high : Nat)))) (first | exact hF0 | exact hF1) (fail)
    have HDP := Lib.hid (show doubtP p (s.getD bx 0) = true by rw [← HZE.out, doubtP_iff]; omega)
    have BD := Lib.hid (show Below w8.heap.size w8 w8.drew.drew from (Below.refl _ w8).drew.drew)
    have hlen := HLL.out
    go_wp2_with fail
    go_loop [16] (fun i' => ∃ k : Nat, k ≤ l.length ∧ i' = .int .i64 k ∧ Hid (∀ j (h : j < l.length), j < k → l[j].box ≠ (bx : Int))) (fun i' => l.length - (intOf i').toNat)
    case atStart => exact ⟨0, Nat.zero_le _, rfl, fun j h hj => absurd hj (Nat.not_lt_zero j)⟩
    case round =>
      obtain ⟨k, hk, rfl, hpre⟩ := hrel
      by_cases hlt : k < l.length
      · obtain ⟨b2, o2, hAl, hbb2, hc2⟩ := (HL.out.below (B8.out.trans (BD.out.mono B8.out.size))).de hlt
        subst hAl
        obtain ⟨f1, f2⟩ := hc2 k hlt
        obtain ⟨y, hy⟩ : ∃ y, y = l[k] := ⟨_, rfl⟩
        rw [← hy] at f1 f2
        by_cases he : y.box = (bx : Int)
        · have hbe : (y.box == (bx : Int)) = true := by simpa using he
          clear hc2 hy
          go_wp2_with fail
          go_ret
          exact ⟨rfl, B8.out.trans (BD.out.mono B8.out.size)⟩
        · have HN := Lib.hid (show ∀ j (h : j < l.length), j < k + 1 → l[j].box ≠ (bx : Int) from fun j h hj => by
            by_cases e : j = k
            · subst e; rw [← hy]; exact he
            · exact hpre.out j h (by omega))
          have hbe : (y.box == (bx : Int)) = false := by simpa using he
          clear hc2 hy
          go_wp2_with fail
          go_round
          case rel => exact ⟨k + 1, by omega, by go_num, HN⟩
          case measure => simp [intOf]; omega
      · obtain rfl : k = l.length := by omega
        have HALL := Lib.hid (show ∀ d ∈ l, d.box ≠ (bx : Int) from fun d hd => by
          obtain ⟨j, hj, rfl⟩ := List.getElem_of_mem hd
          exact hpre.out j hj hj)
        have HOA := Lib.hid ((HO8.out.drew.drew).alloc (.cells #[.int .i64 (bx : Int), .bool false] 52))
        have HRK := Lib.hid (show Rde (w8.drew.drew.alloc (.cells #[.int .i64 (bx : Int), .bool false] 52)) (w8.drew.drew.heap.size + 1) (some ⟨w8.drew.drew.heap.size, 0, none⟩) 1 [⟨bx, false⟩] from rk_lit dl_len w8.drew.drew [⟨(bx : Int), false⟩] _ rfl (by simp) 52)
        have HLN := Lib.hid (show l.length + [(⟨(bx : Int), false⟩ : De)].length ≤ 4000000000 by simp; omega)
        have HSZ := Lib.hid (show w6.heap.size ≤ (w8.drew.drew.alloc (.cells #[.int .i64 (bx : Int), .bool false] 52)).heap.size by have := B68.out.size; simp; omega)
        clear hpre hk hlt
        go_wp2_with (first
          | (at_builtin; refine wpList_append_k _ dl_len dl_one rfl (.tmp 82) (.tmp 85) 39 rfl w6.heap.size 52 16 di _ Tryd.underlying39 HDI.out HY0.out HY1.out (by omega) HY2.out (by omega) rfl l [⟨(bx : Int), false⟩] rfl rfl HOA.out HRK.out HLN.out HSZ.out ?_; intro A12 c12 w12 r12 hr12 ho12 hg12 hb12; have HR12 := Lib.hid (show r12 = l ++ [⟨(bx : Int), false⟩] from hr12.out); have HDO := Lib.hid ho12; have HG12 := Lib.hid hg12; clear hr12 ho12 hg12 hb12; have HNE := Lib.hid (fun (i : Nat) (hi : i < w6.heap.size) => show (some i : Option Nat) ≠ blk A8 from fun e => by have := (HO8.out.blk_ge i e.symm).1; omega); have HLA := Lib.hid (show w.heap.size + 1 < w6.heap.size from by have := HLP2.out; have h2 := B24.out.size; have h4 := B46.out.size; omega); have HCE := Lib.hid (((HC8.out.drewN 2).alloc _).grown HG12.out (HNE.out _ (by have := HLA.out; omega))); have HPE := Lib.hid (((HP8.out.drewN 2).alloc _).grown HG12.out (HNE.out _ HLA.out)); have HTE := Lib.hid (((HT8.out.drewN 2).alloc _).grown HG12.out (HNE.out _ HLT6.out)); have HXB := Lib.hid (((HX8.out.drewN 2).alloc _).grown HG12.out (HNE.out _ (by have := HLX4.out; have := B46.out.size; omega))); have HR12N := Lib.hid (show r12.length = l.length + 1 by rw [HR12.out]; simp); have HMN := Lib.hid (show r12.length ≤ 1001 by have := HR12N.out; omega); have HDE := Lib.hid (HDO.out.rd dl_len); have B612 := Lib.hid (below_app (B68.out.trans (BD.out.mono B68.out.size)) (B68.out.trans (BD.out.mono B68.out.size)).size HG12.out (fun q hq => (HO8.out.blk_ge q hq).1)); have BE := Lib.hid (B6.out.trans (B612.out.mono B6.out.size)); have HME := Lib.hid ((((HM8.out.drew).drew).alloc _).kept HG12.out (by cases hA : blk A7 with | none => exact .inl rfl | some q => exact .inr (HNE.out q (by have := HGM.out q hA; have := B34.out.size; have := B46.out.size; omega)))).rd; have HSE := Lib.hid ((((HO58.out.drew).drew).alloc _).kept HG12.out (by cases hA : blk A5 with | none => exact .inl rfl | some q => exact .inr (HNE.out q (by have := (HOB.out.blk_ge q hA).2; have := B56.out.size; omega)))).rd; have HSN := Lib.hid (rfl : s.length = s.length); have HYR := Lib.hid (show (readS x p s r12).2 = 0 ∧ (readS x p s r12).1.bal = (readS x p s l).1.bal ∧ (readS x p s r12).1.over = (readS x p s l).1.over ∧ (readS x p s l).1.doubts.length + l.length = (readS x p s r12).1.doubts.length + r12.length from by rw [HR12.out]; have h0 := steady_more HOK.out bx hbx HDP.out HALL.out; exact ⟨h0.1, h0.2.1, h0.2.2.1, by rw [h0.2.2.2, List.length_append]; simp; omega⟩))
          | (with_reducible refine wpList_load_ct (by kernel_rfl) (.tmp 5) rfl w.heap.size rfl (A := A) (c := c) (x := x) HCE.out ?_)
          | (with_reducible refine wpList_load_po (by kernel_rfl) (.tmp 6) rfl (w.heap.size + 1) rfl (p := p) HPE.out ?_)
          | (with_reducible refine wpList_load_sh (by kernel_rfl) (.tmp 14) rfl w5.heap.size rfl (A := A5) (c := c5) (s := s) HTE.out ?_))
        refine (HK.out.read x p s r12 A c A5 c5 A12 c12 _ (HCL.out.below BE.out) HSE.out HDE.out (by have := HSN.out; have := HSL.out; omega) (by have := HMN.out; omega) (HK.out.keep HT.out BE.out)).mono ?_
        rintro e wF ⟨A9, c9, Ad9, cd9, Y, er9, rfl, hq, hm, hd, hap, hb⟩
        obtain rfl : er9 = 0 := (congrArg Prod.snd hq).trans HYR.out.1
        have hYE : Y = (readS x p s r12).1 := congrArg Prod.fst hq
        have hyr := HYR.out.2
        rw [← hYE, ← HXE.out] at hyr
        obtain ⟨yb, yo, yd⟩ := Y
        simp only at hyr
        obtain ⟨h1, h2, h3⟩ := hyr
        subst h1
        subst h2
        have HDN := Lib.hid h3
        have HDL := Lib.hid (show X.doubts.length ≤ 1000 by rw [HXE.out]; have := readS_doubts_len x p s l; have := HSL.out; omega)
        have HML := Lib.hid (show X.bal.marks.length ≤ 4000000000 by rw [HXE.out]; have := readS_marks_len x p s l; have := HSL.out; have := HCN.out; omega)
        have hwa : IntKind.i64.wrap ((yd.length : Int) + (r12.length : Int)) = (yd.length : Int) + (r12.length : Int) := by have := HDL.out; have := HMN.out; have := HLL.out; rw [IntKind.wrap_i64]; omega
        have hws : IntKind.i64.wrap ((yd.length : Int) + (r12.length : Int) - (l.length : Int)) = (X.doubts.length : Int) := by have := HDL.out; have := HMN.out; have := HLL.out; rw [IntKind.wrap_i64]; omega
        have HMX := Lib.hid ((HME.out.below hb).more hb.size)
        have HMY := Lib.hid hm.rd
        have BF := Lib.hid (BE.out.trans (hb.mono BE.out.size))
        have HXF := Lib.hid (HXB.out.below hb HXB.out.lt)
        have HZF := Lib.hid (Blk.new wF 44 #[.int .u8 0, .slice none 0 0, .int .i64 0, .slice none 0 0])
        have BNF := Lib.hid (below_new wF (.cells #[.int .u8 0, .slice none 0 0, .int .i64 0, .slice none 0 0] 44))
        clear hq hm hd hap hb h3 hYE
        go_wp2_with ((with_reducible refine wpList_store_rg rfl (.tmp 17) (.tmp 119) rfl wF.heap.size rfl HZF.out rfl A9 c9 Ad9 cd9 ⟨X.bal, X.over, yd⟩ rfl ?_); intro wG hbG hgG; have HYG := Lib.hid hbG; have BFG := Lib.hid (BNF.out.grown hgG BNF.out.size (fun k e => by cases e; exact Nat.le_refl _)); clear hbG hgG; have HXG := Lib.hid (HXF.out.below BFG.out HXF.out.lt); have e0 : wG.cell? ⟨w3.heap.size, 0, none⟩ = some (.int .u8 (X.bal.kind : Nat)) := HXG.out.cell 0; have e1 : wG.cell? ⟨w3.heap.size, 1, none⟩ = some (.slice A7 X.bal.marks.length c7) := HXG.out.cell 1; have e4 : wG.cell? ⟨wF.heap.size, 0, none⟩ = some (.int .u8 (X.bal.kind : Nat)) := HYG.out.cell 0; have e5 : wG.cell? ⟨wF.heap.size, 1, none⟩ = some (.slice A9 X.bal.marks.length c9) := HYG.out.cell 1)
        have BG := Lib.hid (BF.out.trans (BFG.out.mono BF.out.size))
        have hsm := refSameB_any X.bal X.bal A7 A9 c7 c9 wG ((HMX.out.below BFG.out).more BFG.out.size) ((HMY.out.below BFG.out).more BFG.out.size) HML.out
        rw [show decide (X.bal = X.bal) = true from decide_eq_true rfl] at hsm
        unfold blv blvs at hsm
        refine hsm.mono ?_
        clear hsm e0 e1 e4 e5
        rintro e wH ⟨rfl, hb⟩
        have hXH := HXG.out.below hb HXG.out.lt
        have hYH := HYG.out.below hb HYG.out.lt
        have e2 : wH.cell? ⟨w3.heap.size, 2, none⟩ = some (.int .i64 X.over) := hXH.cell 2
        have e3 : wH.cell? ⟨w3.heap.size, 3, none⟩ = some (.slice Ad7 X.doubts.length cd7) := hXH.cell 3
        have e6 : wH.cell? ⟨wF.heap.size, 2, none⟩ = some (.int .i64 X.over) := hYH.cell 2
        have e7 : wH.cell? ⟨wF.heap.size, 3, none⟩ = some (.slice Ad9 yd.length cd9) := hYH.cell 3
        have BH := Lib.hid (BG.out.trans (hb.mono BG.out.size))
        clear hXH hYH hb
        have HLR := HR12N.out
        have hbe : ((X.doubts.length : Int) == wrap64 (wrap64 ((yd.length : Int) + ((l.length : Int) + 1)) - (l.length : Int))) = true := by
          have h1 := HDN.out; have h2 := HDL.out; have h3 := HR12N.out; have h4 := HLL.out
          have hin : ∀ a : Int, 0 ≤ a → a ≤ 100000 → wrap64 a = a := fun a g1 g2 => by clear h1 h2 h3 h4; unfold wrap64; omega
          rw [hin ((yd.length : Int) + ((l.length : Int) + 1)) (by omega) (by omega), hin _ (by omega) (by omega), beq_iff_eq]
          omega
        go_wp2_with fail
        go_ret
        exact ⟨rfl, BH.out⟩
end Go.Proofs.YtejphpcngbjgjaaDoor
