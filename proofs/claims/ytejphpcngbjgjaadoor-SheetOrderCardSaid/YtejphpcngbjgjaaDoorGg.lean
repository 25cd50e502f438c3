/- What sheet's calls answer, as one premise: T stands for 'the packages' own tables hold what their text says'. SheetTells. How long a reading's lists are; the reference's Same over equal readings; readings and policies in blocks. SheetReads. -/
import Derived.Test.YtejphpcngbjgjaaDoorGf
import Derived.Test.YtejphpcngbjgjaaDoorGc
namespace Go.Proofs.YtejphpcngbjgjaaDoor
open Go.RowKit
set_option linter.unusedVariables false

/-- What a contest that is not too large is known to be. -/
structure CtLow (w : World) (A : Option Addr) (c : Nat) (x : Ct) : Prop where
  ok : CtOk w A c x
  name : x.name.length ≤ 4000000000
  cands : ∀ y ∈ x.cands, y.length ≤ 4000000000
theorem CtLow.below {w w' : World} {A : Option Addr} {c : Nat} {x : Ct} (h : CtLow w A c x) (hb : Below w.heap.size w w') : CtLow w' A c x := ⟨h.ok.below hb, h.name, h.cands⟩
theorem CtLow.of_great {w : World} {A : Option Addr} {c : Nat} {x : Ct} (h : CtOk w A c x) (hg : greatM x = false) : CtLow w A c x :=
  ⟨h, by have := (greatM_no hg).2.1; omega, fun y hy => by have := (greatM_no hg).2.2 y hy; omega⟩

structure Con25 (T : World → Prop) : Prop where
  keep : ∀ {w w' : World}, T w → Below w.heap.size w w' → T w'
  boxes : ∀ (x : Ct) (A : Option Addr) (c : Nat) (w : World), CtLow w A c x → T w → Calls Tryd.prog 8 #[cv A c x] w fun e w' => e = .returned (.tuple #[.int .i64 (boxesS x).1, .int .i64 (boxesS x).2]) ∧ Below w.heap.size w w'
  check : ∀ (x : Ct) (A : Option Addr) (c : Nat) (s : List UInt8) (As : Option Addr) (cs : Nat) (w : World), CtLow w A c x → Rf bv w w.heap.size As cs s → s.length ≤ 1000000 → T w → Calls Tryd.prog 10 #[cv A c x, shv As cs s] w fun e w' => e = .returned (.int .i64 (checkS x s)) ∧ Below w.heap.size w w'
  read : ∀ (x : Ct) (p : Po) (s : List UInt8) (l : List De) (A : Option Addr) (c : Nat) (As : Option Addr) (cs : Nat) (Al : Option Addr) (cl : Nat) (w : World), CtLow w A c x → Rf bv w w.heap.size As cs s → Rde w w.heap.size Al cl l → s.length ≤ 1000000 → l.length ≤ 1000000 → T w → Calls Tryd.prog 12 #[cv A c x, pov p, shv As cs s, .slice Al l.length cl] w (RgErr w (readS x p s l))

theorem uInfo25 : (Tryd.prog.info? 5).map (fun i => (i.zero, i.size, i.bytes)) = some (some (.int .u8 0), 1, 1) := by kernel_rfl
theorem uInfo25_parts : ∃ i, Tryd.prog.info? 5 = some i ∧ i.zero = some (.int .u8 0) ∧ i.size = 1 ∧ i.bytes = 1 := by
  have h := uInfo25
  cases hi : Tryd.prog.info? 5 with
  | none => rw [hi] at h; cases h
  | some i => rw [hi] at h; simp at h; exact ⟨i, rfl, h.1, h.2.1, h.2.2⟩

set_option maxRecDepth 100000 in
set_option maxHeartbeats 4000000 in
theorem sheetTells_any {T : World → Prop} (K : Con25 T) (x : Ct) (A : Option Addr) (c : Nat) (s : List UInt8) (As : Option Addr) (cs : Nat) (w : World) (hc : CtOk w A c x) (hs : Rf bv w w.heap.size As cs s) (hT : T w) :
    Calls Tryd.prog 3 #[cv A c x, shv As cs s] w fun e w' => e = .returned (.bool true) ∧ Below w.heap.size w w' := by
  obtain ⟨wA, hwA⟩ : ∃ wA, wA = (w.alloc (.cells (cvs A c x) 24)).alloc (.cells #[.slice As s.length cs] 27) := ⟨_, rfl⟩
  have B0 := Lib.hid (show Below w.heap.size w wA from by rw [hwA]; exact (below_new w _).alloc (by simp) _)
  have HC0 := Lib.hid (show Blk wA w.heap.size 24 (cvs A c x) from by rw [hwA]; exact (Blk.new w _ _).alloc _)
  have HS0 := Lib.hid (show Blk wA (w.heap.size + 1) 27 #[.slice As s.length cs] from by
    have h := Blk.new (w.alloc (.cells (cvs A c x) 24)) 27 #[.slice As s.length cs]
    rw [World.size_alloc] at h
    rw [hwA]; exact h)
  have HG := Lib.hid (great_any x A c wA ((hc.below B0.out).rd))
  have HK := Lib.hid K
  have HT := Lib.hid hT
  have HS := Lib.hid hs
  have HCT := Lib.hid hc
  clear K hT hc hs
  unfold cv cvs shv
  unfold cvs at hwA
  unfold cv cvs at HG
  cases hg : greatM x with
  | true =>
    have HGB := Lib.hid hg
    clear hg
    go_enter Tryd.func3, Tryd.ntmps3
    go_wp2_with fail
    rw [← hwA]
    refine HG.out.mono ?_
    rintro e w1 ⟨rfl, hb⟩
    rw [HGB.out]
    go_wp2_with fail
    go_ret
    exact ⟨rfl, B0.out.trans (hb.mono B0.out.size)⟩
  | false =>
  have HGB := Lib.hid hg
  have HCL := Lib.hid (CtLow.of_great HCT.out hg)
  clear hg
  by_cases hbig : 1000 < s.length
  · have hbd : decide ((1000 : Int) < (s.length : Int)) = true := by simp; omega
    clear hbig
    go_enter Tryd.func3, Tryd.ntmps3
    go_wp2_with fail
    rw [← hwA]
    refine HG.out.mono ?_
    rintro e w1 ⟨rfl, hb⟩
    rw [HGB.out]
    have c1 : w1.cell? ⟨w.heap.size + 1, 0, none⟩ = some (.slice As s.length cs) := (HS0.out.below hb HS0.out.lt).cell 0
    have B1 := Lib.hid (B0.out.trans (hb.mono B0.out.size))
    clear hb
    go_wp2_with fail
    go_ret
    exact ⟨rfl, B1.out⟩
  have hbd : decide ((1000 : Int) < (s.length : Int)) = false := by simp; omega
  have HSL := Lib.hid (show s.length ≤ 1000 by omega)
  clear hbig
  obtain ⟨bi, hbi, hz0, hz1, hz2⟩ := uInfo25_parts
  have HBI := Lib.hid hbi
  have HZ0 := Lib.hid hz0
  have HZ1 := Lib.hid hz1
  have HZ2 := Lib.hid hz2
  clear hbi hz0 hz1 hz2
  obtain ⟨n, f, hn⟩ : ∃ n f, boxesS x = (n, f) := ⟨_, _, rfl⟩
  obtain ⟨k, hk⟩ : ∃ k, k = checkS x s := ⟨_, rfl⟩
  have HN := Lib.hid hn
  have HKS := Lib.hid hk
  clear hn hk
  go_enter Tryd.func3, Tryd.ntmps3
  go_wp2_with fail
  rw [← hwA]
  refine HG.out.mono ?_
  rintro e w1 ⟨rfl, hb⟩
  rw [HGB.out]
  have c1 : w1.cell? ⟨w.heap.size + 1, 0, none⟩ = some (.slice As s.length cs) := (HS0.out.below hb HS0.out.lt).cell 0
  have B1 := Lib.hid (B0.out.trans (hb.mono B0.out.size))
  have HC1 := Lib.hid (HC0.out.below hb HC0.out.lt)
  have HS1 := Lib.hid (HS0.out.below hb HS0.out.lt)
  have HOW := Lib.hid (ow_zero (f := bv) (w := w1) 5 w1.heap.size (Nat.le_refl _))
  have HRL := Lib.hid ((HS.out.below B1.out).alloc B1.out.size (.cells #[] 5))
  have HLE := Lib.hid (show ([] : List UInt8).length + s.length ≤ 4000000000 by have := HSL.out; simp; omega)
  have HSA := Lib.hid (show w1.heap.size ≤ (w1.alloc (.cells #[] 5)).heap.size by simp)
  have c1a : (w1.alloc (.cells #[] 5)).cell? ⟨w.heap.size + 1, 0, none⟩ = some (.slice As s.length cs) := (HS1.out.alloc _).cell 0
  clear hb hwA
  go_wp2_with (first
    | (with_reducible refine wpList_load_ct (by kernel_rfl) (.tmp 2) rfl w.heap.size rfl (A := A) (c := c) (x := x) HC4.out ?_)
    | (at_builtin; (refine wpList_append_f _ bv_one rfl (.tmp 19) (.tmp 21) 25 rfl w1.heap.size 5 1 bi _ Tryd.underlying25 HBI.out HZ0.out HZ1.out HZ2.out (by omega) rfl [] s rfl rfl HOW.out HRL.out HLE.out HSA.out ?_); intro A4 c4 w4 r4 hr4 hown4 hg4 hbl4; have HC4 := Lib.hid ((HC1.out.alloc (.cells #[] 5)).grown hg4 (by have := HC1.out.lt; simp [blk]; omega)); have HS4 := Lib.hid ((HS1.out.alloc (.cells #[] 5)).grown hg4 (by have := HS1.out.lt; simp [blk]; omega)); have B4 := Lib.hid ((B1.out.alloc B1.out.size (.cells #[] 5)).grown hg4 (by have := B1.out.size; simp only [World.size_alloc]; omega) (fun k e => by have := B1.out.size; simp [blk] at e; omega))))
  obtain rfl : r4 = s := by rw [hr4.out]; rfl
  have HR4 := Lib.hid hown4.rd
  clear hr4 hown4 hg4 hbl4 c1 c1a
  have hbx := HK.out.boxes x A c _ (HCL.out.below B4.out) (HK.out.keep HT.out B4.out)
  rw [HN.out] at hbx
  refine hbx.mono ?_
  clear hbx
  rintro e w5 ⟨rfl, hb⟩
  have B5 := Lib.hid (B4.out.trans (hb.mono B4.out.size))
  have HC5 := Lib.hid (HC4.out.below hb HC4.out.lt)
  have HS5 := Lib.hid (HS4.out.below hb HS4.out.lt)
  have HR5 := Lib.hid ((HR4.out.below hb).more hb.size)
  clear hb
  go_wp2_with (with_reducible refine wpList_load_ct (by kernel_rfl) (.tmp 2) rfl w.heap.size rfl (A := A) (c := c) (x := x) HC5.out ?_)
  have hbx := refBoxes_any x A c w5 (HCL.out.below B5.out).ok HCL.out.name HCL.out.cands
  rw [HN.out] at hbx
  refine hbx.mono ?_
  clear hbx
  rintro e w6 ⟨rfl, hb⟩
  have B6 := Lib.hid (B5.out.trans (hb.mono B5.out.size))
  have HC6 := Lib.hid (HC5.out.below hb HC5.out.lt)
  have HS6 := Lib.hid (HS5.out.below hb HS5.out.lt)
  have HR6 := Lib.hid ((HR5.out.below hb).more hb.size)
  clear hb
  go_wp2_with (with_reducible refine wpList_load_ct (by kernel_rfl) (.tmp 2) rfl w.heap.size rfl (A := A) (c := c) (x := x) HC6.out ?_)
  have hck := HK.out.check x A c r4 A4 c4 w6 (HCL.out.below B6.out) HR6.out (by have := HSL.out; omega) (HK.out.keep HT.out B6.out)
  rw [← HKS.out] at hck
  refine hck.mono ?_
  clear hck
  rintro e w7 ⟨rfl, hb⟩
  have B7 := Lib.hid (B6.out.trans (hb.mono B6.out.size))
  have HC7 := Lib.hid (HC6.out.below hb HC6.out.lt)
  have HS7 := Lib.hid (HS6.out.below hb HS6.out.lt)
  have HR7 := Lib.hid ((HR6.out.below hb).more hb.size)
  clear hb
  have d0 : w7.cell? ⟨w.heap.size, 0, none⟩ = some (.string ⟨x.name.toArray⟩) := HC7.out.cell 0
  have d1 : w7.cell? ⟨w.heap.size, 1, none⟩ = some (.slice A x.cands.length c) := HC7.out.cell 1
  have d2 : w7.cell? ⟨w.heap.size, 2, none⟩ = some (.int .i64 x.seats) := HC7.out.cell 2
  have d3 : w7.cell? ⟨w.heap.size, 3, none⟩ = some (.int .u8 x.rule) := HC7.out.cell 3
  have d4 : w7.cell? ⟨w.heap.size + 1, 0, none⟩ = some (.slice As r4.length cs) := HS7.out.cell 0
  go_wp2_with fail
  have hck := refCheckS_any x A c r4 As cs w7 (HCL.out.below B7.out).ok HCL.out.name HCL.out.cands ((HS.out.below B7.out).more B7.out.size)
  rw [← HKS.out] at hck
  refine hck.mono ?_
  clear hck d0 d1 d2 d3 d4
  rintro e w8 ⟨rfl, hb⟩
  have B8 := Lib.hid (B7.out.trans (hb.mono B7.out.size))
  have d4 : w8.cell? ⟨w.heap.size + 1, 0, none⟩ = some (.slice As r4.length cs) := (HS7.out.below hb HS7.out.lt).cell 0
  have hk4 := run_string_f (P := Tryd.prog) w8 25 9 5 Tryd.underlying25 Tryd.underlying5 Tryd.underlying9 (HR7.out.below hb)
  have hkl := run_string_f (P := Tryd.prog) w8 25 9 5 Tryd.underlying25 Tryd.underlying5 Tryd.underlying9 (HS.out.below B8.out)
  clear hb
  go_wp2_with fail
  go_ret
  exact ⟨rfl, B8.out⟩
end Go.Proofs.YtejphpcngbjgjaaDoor
namespace Go.Proofs.YtejphpcngbjgjaaDoor
open Go.RowKit
set_option linter.unusedVariables false

theorem ranksL_len : ∀ (cs : List (List Int)) (skips : Int) (out : List Int) (k : Nat), (ranksL cs skips out k).1.length ≤ out.length + cs.length
  | [], _, out, _ => by simp [ranksL]
  | [] :: cs, skips, out, k => by
    unfold ranksL
    split
    · simp
    · have := ranksL_len cs skips out (k + 1)
      simp only [List.length_cons]
      omega
  | [x] :: cs, skips, out, k => by
    unfold ranksL
    have := ranksL_len cs skips (if x ∈ out then out else out ++ [x]) 0
    have h : (if x ∈ out then out else out ++ [x]).length ≤ out.length + 1 := by split <;> simp
    simp only [List.length_cons]
    omega
  | (_ :: _ :: _) :: cs, _, out, _ => by simp [ranksL]
theorem ballotS_len (c : Ct) (skips : Int) (m : List Bool) : (ballotS c skips m).1.length ≤ m.length + c.cands.length := by
  unfold ballotS
  split
  · unfold ranksS
    have := ranksL_len ((List.range c.cands.length).map fun j => colS m c.cands.length c.cands.length j) skips [] 0
    simp at this
    omega
  · split
    · unfold marksS
      split
      · simp
      · have := colS_len m m.length 1 0
        simp only
        omega
    · simp [scoresS]
theorem readS_marks_len (c : Ct) (p : Po) (s : List UInt8) (l : List De) : (readS c p s l).1.bal.marks.length ≤ s.length + c.cands.length := by
  by_cases h : (readS c p s l).2 = 0
  · rw [readS_is h]
    have := ballotS_len c p.skips (markS p s l)
    rw [markS_len] at this
    exact this
  · have h1 : (readS c p s l).1 = zeroRg := by
      unfold readS at h ⊢
      split
      · rfl
      · split
        · rfl
        · split
          · rfl
          · split
            · rfl
            · rename_i h1 h2 h3 h4; rw [if_neg h1, if_neg h2, if_neg h3, if_neg h4] at h; exact absurd rfl h
    rw [h1]
    simp [zeroRg]
theorem readS_doubts_len (c : Ct) (p : Po) (s : List UInt8) (l : List De) : (readS c p s l).1.doubts.length ≤ s.length := by
  by_cases h : (readS c p s l).2 = 0
  · rw [readS_is h]
    unfold doubtsS doubtsN
    rw [List.length_map]
    exact Nat.le_trans (List.length_filter_le _ _) (by simp)
  · have h1 : (readS c p s l).1 = zeroRg := by
      unfold readS at h ⊢
      split
      · rfl
      · split
        · rfl
        · split
          · rfl
          · split
            · rfl
            · rename_i h1 h2 h3 h4; rw [if_neg h1, if_neg h2, if_neg h3, if_neg h4] at h; exact absurd rfl h
    rw [h1]
    simp [zeroRg]

theorem wpList_load_rg {w : World} {ops : Array Oper} {rest : List Oper} {o : Oper} {a : Act} {Q : Exit → Act → World → Prop} (hw : Region.wanted o (yielded ops a.tmps) = true) (y : Operand) (ho : o.op = .load 44 y)
    (g : Nat) (hx : a.eval y = .pointer (some ⟨g, 0, none⟩)) {A : Option Addr} {c : Nat} {Ad : Option Addr} {cd : Nat} {x : Rg} (hB : Blk w g 44 (rgs A c Ad cd x)) (h : wpList Tryd.prog ops Q rest (a.put o.dst (rgv A c Ad cd x)) w) : wpList Tryd.prog ops Q (o :: rest) a w :=
  BigFrame.wpList_want hw fun K hK => wp_load_row _ y ho g hx 44 _ _ _ hB Tryd.underlying44 rfl size_rg (hK _ _ h)

set_option maxRecDepth 100000 in
set_option maxHeartbeats 1000000 in
theorem refSameR_any (x : Rg) (A Ad A2 Ad2 : Option Addr) (c cd c2 cd2 : Nat) (w : World) (hm : Rf zv w w.heap.size A c x.bal.marks) (hd : Rf zv w w.heap.size Ad cd x.doubts) (hm2 : Rf zv w w.heap.size A2 c2 x.bal.marks) (hd2 : Rf zv w w.heap.size Ad2 cd2 x.doubts) (hl : x.bal.marks.length ≤ 4000000000) (hl2 : x.doubts.length ≤ 4000000000) :
    Calls Tryd.prog 14 #[rgv A c Ad cd x, rgv A2 c2 Ad2 cd2 x] w fun e w' => e = .returned (.bool true) ∧ Below w.heap.size w w' := by
  obtain ⟨wA, hwA⟩ : ∃ wA, wA = (w.alloc (.cells (rgs A c Ad cd x) 44)).alloc (.cells (rgs A2 c2 Ad2 cd2 x) 44) := ⟨_, rfl⟩
  have B0 := Lib.hid (show Below w.heap.size w wA from by rw [hwA]; exact (below_new w _).alloc (by simp) _)
  have H1 := Lib.hid (show Blk wA w.heap.size 44 (rgs A c Ad cd x) from by rw [hwA]; exact (Blk.new w _ _).alloc _)
  have H2 := Lib.hid (show Blk wA (w.heap.size + 1) 44 (rgs A2 c2 Ad2 cd2 x) from by
    have h := Blk.new (w.alloc (.cells (rgs A c Ad cd x) 44)) 44 (rgs A2 c2 Ad2 cd2 x)
    rw [World.size_alloc] at h
    rw [hwA]; exact h)
  have HB := Lib.hid (refSameB_any x.bal x.bal A A2 c c2 wA ((hm.below B0.out).more B0.out.size) ((hm2.below B0.out).more B0.out.size) hl)
  have HI := Lib.hid (fun wx (hb : Below w.heap.size w wx) => refInts_any x.doubts x.doubts Ad Ad2 cd cd2 wx ((hd.below hb).more hb.size) ((hd2.below hb).more hb.size) hl2)
  rw [show decide (x.bal = x.bal) = true from decide_eq_true rfl] at HB
  clear hm hd hm2 hd2 hl hl2
  unfold rgv rgs
  unfold rgs at hwA H1 H2
  unfold blv blvs at HB
  go_enter Tryd.func14, Tryd.ntmps14
  go_wp2_with fail
  rw [← hwA]
  refine HB.out.mono ?_
  rintro e w1 ⟨rfl, hb⟩
  have B1 := Lib.hid (B0.out.trans (hb.mono B0.out.size))
  have h1 := H1.out.below hb H1.out.lt
  have h2 := H2.out.below hb H2.out.lt
  have d1 : w1.cell? ⟨w.heap.size, 2, none⟩ = some (.int .i64 x.over) := h1.cell 2
  have d2 : w1.cell? ⟨w.heap.size, 3, none⟩ = some (.slice Ad x.doubts.length cd) := h1.cell 3
  have d3 : w1.cell? ⟨w.heap.size + 1, 2, none⟩ = some (.int .i64 x.over) := h2.cell 2
  have d4 : w1.cell? ⟨w.heap.size + 1, 3, none⟩ = some (.slice Ad2 x.doubts.length cd2) := h2.cell 3
  clear hb h1 h2 hwA
  go_wp2_with fail
  refine (HI.out _ B1.out).mono ?_
  rintro e w2 ⟨rfl, hb⟩
  rw [show decide True = true from rfl]
  go_wp2_with fail
  go_ret
  exact ⟨rfl, B1.out.trans (hb.mono B1.out.size)⟩
end Go.Proofs.YtejphpcngbjgjaaDoor
namespace Go.Proofs.YtejphpcngbjgjaaDoor
open Go.RowKit
set_option linter.unusedVariables false

/-- A store into a list of one-cell elements of the call's own. -/
theorem Ow.stored25 {α : Type} {f : α → Value} {w : World} {base e c g : Nat} {L : List α} (h : Ow f w base e (some ⟨g, 0, none⟩) c L) (i : Nat) (x : α) (hi : i < L.length) (v : Value) (hv : v = f x) :
    Ow f (w.setCell ⟨g, i, none⟩ v) base e (some ⟨g, 0, none⟩) c (L.set i x) ∧ w.grownBy (w.setCell ⟨g, i, none⟩ v) (some g) := by
  subst hv
  have := World.ownsRow.stored h i (f x)
  refine ⟨?_, this.2⟩
  have h1 := this.1
  unfold Ow
  rw [List.length_set, List.map_set]
  exact h1
theorem Ow.frozen25 {α : Type} {f : α → Value} {w : World} {base e c g : Nat} {L : List α} (h : Ow f w base e (some ⟨g, 0, none⟩) c L) (i : Nat) : w.frozen? ⟨g, i, none⟩ = false := World.ownsRow.frozenAt h i
theorem Ow.cell25 {α : Type} {f : α → Value} {w : World} {base e c g : Nat} {L : List α} (h : Ow f w base e (some ⟨g, 0, none⟩) c L) {i : Nat} (hi : i < L.length) : w.cell? ⟨g, i, none⟩ = some (f L[i]) := by
  have := World.ownsRow.cellAt h i (by omega)
  rw [this]
  simp [hi]

def pos25 (p : Po) : Array Value := #[.int .u8 (p.low : Nat), .int .u8 (p.high : Nat), .int .i64 p.skips]
theorem size_po : (Tryd.prog.info? 38).map (·.size) = some 3 := by kernel_rfl
theorem size_shv : (Tryd.prog.info? 27).map (·.size) = some 1 := by kernel_rfl
theorem wpList_load_po {w : World} {ops : Array Oper} {rest : List Oper} {o : Oper} {a : Act} {Q : Exit → Act → World → Prop} (hw : Region.wanted o (yielded ops a.tmps) = true) (y : Operand) (ho : o.op = .load 38 y)
    (g : Nat) (hx : a.eval y = .pointer (some ⟨g, 0, none⟩)) {p : Po} (hB : Blk w g 38 (pos25 p)) (h : wpList Tryd.prog ops Q rest (a.put o.dst (pov p)) w) : wpList Tryd.prog ops Q (o :: rest) a w :=
  BigFrame.wpList_want hw fun K hK => wp_load_row _ y ho g hx 38 _ _ _ hB Tryd.underlying38 rfl size_po (hK _ _ h)
theorem wpList_load_sh {w : World} {ops : Array Oper} {rest : List Oper} {o : Oper} {a : Act} {Q : Exit → Act → World → Prop} (hw : Region.wanted o (yielded ops a.tmps) = true) (y : Operand) (ho : o.op = .load 27 y)
    (g : Nat) (hx : a.eval y = .pointer (some ⟨g, 0, none⟩)) {A : Option Addr} {c : Nat} {s : List UInt8} (hB : Blk w g 27 #[.slice A s.length c]) (h : wpList Tryd.prog ops Q rest (a.put o.dst (shv A c s)) w) : wpList Tryd.prog ops Q (o :: rest) a w :=
  BigFrame.wpList_want hw fun K hK => wp_load_row _ y ho g hx 27 _ _ _ hB Tryd.underlying27 rfl size_shv (hK _ _ h)
theorem wpList_store_sh {w : World} {ops : Array Oper} {rest : List Oper} {o : Oper} {a : Act} {Q : Exit → Act → World → Prop} (hgd : o.guard = none) (y z : Operand) (ho : o.op = .store 27 y z)
    (g : Nat) (hx : a.eval y = .pointer (some ⟨g, 0, none⟩)) {old : Array Value} (hB : Blk w g 27 old) (hold : old.size = 1) (A : Option Addr) (c : Nat) (s : List UInt8) (hy : a.eval z = shv A c s)
    (h : ∀ w', Blk w' g 27 #[.slice A s.length c] → w.grownBy w' (some g) → wpList Tryd.prog ops Q rest (a.put o.dst undef) w') : wpList Tryd.prog ops Q (o :: rest) a w :=
  wpList_store_row hgd _ y z ho g _ hx hy 27 old hB size_shv hold (by simp [Value.oneCell']) (h _ (setRow_heap w g _ _ _ _ hB) ⟨rfl, rfl, rfl, by simp, fun k _ hk => setRow_other w g k _ (fun e => hk (by rw [e]))⟩)
theorem dInfo25 : (Tryd.prog.info? 52).map (fun i => (i.zero, i.size, i.bytes)) = some (some (.agg #[.int .i64 0, .bool false]), 2, 16) := by kernel_rfl
theorem dInfo25_parts : ∃ i, Tryd.prog.info? 52 = some i ∧ i.zero = some (.agg #[.int .i64 0, .bool false]) ∧ i.size = 2 ∧ i.bytes = 16 := by
  have h := dInfo25
  cases hi : Tryd.prog.info? 52 with
  | none => rw [hi] at h; cases h
  | some i => rw [hi] at h; simp at h; exact ⟨i, rfl, h.1, h.2.1, h.2.2⟩

set_option maxRecDepth 100000 in
set_option maxHeartbeats 8000000 in
theorem sheetReads_any {T : World → Prop} (K : Con25 T) (x : Ct) (p : Po) (s : List UInt8) (l : List De) (A : Option Addr) (c : Nat) (As : Option Addr) (cs : Nat) (Al : Option Addr) (cl : Nat) (w : World) (hc : CtOk w A c x) (hs : Rf bv w w.heap.size As cs s) (hl : Rde w w.heap.size Al cl l) (hT : T w) :
    Calls Tryd.prog 4 #[cv A c x, pov p, shv As cs s, .slice Al l.length cl] w fun e w' => e = .returned (.bool true) ∧ Below w.heap.size w w' := by
  obtain ⟨wA, hwA⟩ : ∃ wA, wA = ((w.alloc (.cells (cvs A c x) 24)).alloc (.cells #[.int .u8 (p.low : Nat), .int .u8 (p.high : Nat), .int .i64 p.skips] 38)).alloc (.cells #[.slice As s.length cs] 27) := ⟨_, rfl⟩
  have B0 := Lib.hid (show Below w.heap.size w wA from by rw [hwA]; exact ((below_new w _).alloc (by simp) _).alloc (by simp; omega) _)
  have HC0 := Lib.hid (show Blk wA w.heap.size 24 (cvs A c x) from by rw [hwA]; exact ((Blk.new w _ _).alloc _).alloc _)
  have HP0 := Lib.hid (show Blk wA (w.heap.size + 1) 38 (pos25 p) from by
    have h := Blk.new (w.alloc (.cells (cvs A c x) 24)) 38 (pos25 p)
    rw [World.size_alloc] at h
    rw [hwA]; exact h.alloc _)
  have HS0 := Lib.hid (show Blk wA (w.heap.size + 1 + 1) 27 #[.slice As s.length cs] from by
    have h := Blk.new ((w.alloc (.cells (cvs A c x) 24)).alloc (.cells #[.int .u8 (p.low : Nat), .int .u8 (p.high : Nat), .int .i64 p.skips] 38)) 27 #[.slice As s.length cs]
    rw [World.size_alloc, World.size_alloc] at h
    rw [hwA]; exact h)
  have HG := Lib.hid (great_any x A c wA ((hc.below B0.out).rd))
  have HK := Lib.hid K
  have HT := Lib.hid hT
  have HS := Lib.hid hs
  have HL := Lib.hid hl
  have HCT := Lib.hid hc
  clear K hT hc hs hl
  unfold cv cvs shv pov
  unfold cvs at hwA
  unfold cv cvs at HG
  cases hg : greatM x with
  | true =>
    have HGB := Lib.hid hg
    clear hg
    go_enter Tryd.func4, Tryd.ntmps4
    go_wp2_with fail
    rw [← hwA]
    refine HG.out.mono ?_
    rintro e w1 ⟨rfl, hb⟩
    rw [HGB.out]
    go_wp2_with fail
    go_ret
    exact ⟨rfl, B0.out.trans (hb.mono B0.out.size)⟩
  | false =>
  have HGB := Lib.hid hg
  have HCL := Lib.hid (CtLow.of_great HCT.out hg)
  have HCN := Lib.hid (greatM_no hg).1
  clear hg
  by_cases hbig : 1000 < s.length
  · have hbd : decide ((1000 : Int) < (s.length : Int)) = true := by simp; omega
    clear hbig
    go_enter Tryd.func4, Tryd.ntmps4
    go_wp2_with fail
    rw [← hwA]
    refine HG.out.mono ?_
    rintro e w1 ⟨rfl, hb⟩
    rw [HGB.out]
    have c1 : w1.cell? ⟨w.heap.size + 1 + 1, 0, none⟩ = some (.slice As s.length cs) := (HS0.out.below hb HS0.out.lt).cell 0
    have B1 := Lib.hid (B0.out.trans (hb.mono B0.out.size))
    clear hb
    go_wp2_with fail
    go_ret
    exact ⟨rfl, B1.out⟩
  have hbd : decide ((1000 : Int) < (s.length : Int)) = false := by simp; omega
  have HSL := Lib.hid (show s.length ≤ 1000 by omega)
  clear hbig
  by_cases hbig : 1000 < l.length
  · have hld : decide ((1000 : Int) < (l.length : Int)) = true := by simp; omega
    clear hbig
    go_enter Tryd.func4, Tryd.ntmps4
    go_wp2_with fail
    rw [← hwA]
    refine HG.out.mono ?_
    rintro e w1 ⟨rfl, hb⟩
    rw [HGB.out]
    have c1 : w1.cell? ⟨w.heap.size + 1 + 1, 0, none⟩ = some (.slice As s.length cs) := (HS0.out.below hb HS0.out.lt).cell 0
    have B1 := Lib.hid (B0.out.trans (hb.mono B0.out.size))
    clear hb
    go_wp2_with fail
    go_ret
    exact ⟨rfl, B1.out⟩
  have hld : decide ((1000 : Int) < (l.length : Int)) = false := by simp; omega
  have HLL := Lib.hid (show l.length ≤ 1000 by omega)
  clear hbig
  obtain ⟨bi, hbi, hz0, hz1, hz2⟩ := uInfo25_parts
  have HBI := Lib.hid hbi
  have HZ0 := Lib.hid hz0
  have HZ1 := Lib.hid hz1
  have HZ2 := Lib.hid hz2
  obtain ⟨di, hdi, hy0, hy1, hy2⟩ := dInfo25_parts
  have HDI := Lib.hid hdi
  have HY0 := Lib.hid hy0
  have HY1 := Lib.hid hy1
  have HY2 := Lib.hid hy2
  clear hbi hz0 hz1 hz2 hdi hy0 hy1 hy2
  go_enter Tryd.func4, Tryd.ntmps4
  go_wp2_with fail
  rw [← hwA]
  refine HG.out.mono ?_
  rintro e w1 ⟨rfl, hb⟩
  rw [HGB.out]
  have c1 : w1.cell? ⟨w.heap.size + 1 + 1, 0, none⟩ = some (.slice As s.length cs) := (HS0.out.below hb HS0.out.lt).cell 0
  have B1 := Lib.hid (B0.out.trans (hb.mono B0.out.size))
  have HC1 := Lib.hid (HC0.out.below hb HC0.out.lt)
  have HP1 := Lib.hid (HP0.out.below hb HP0.out.lt)
  have HS1 := Lib.hid (HS0.out.below hb HS0.out.lt)
  have HOW := Lib.hid (ow_zero (f := bv) (w := w1) 5 w1.heap.size (Nat.le_refl _))
  have HRL := Lib.hid ((HS.out.below B1.out).alloc B1.out.size (.cells #[] 5))
  have HLE := Lib.hid (show ([] : List UInt8).length + s.length ≤ 4000000000 by have := HSL.out; simp; omega)
  have HSA := Lib.hid (show w1.heap.size ≤ (w1.alloc (.cells #[] 5)).heap.size by simp)
  have c1a : (w1.alloc (.cells #[] 5)).cell? ⟨w.heap.size + 1 + 1, 0, none⟩ = some (.slice As s.length cs) := (HS1.out.alloc _).cell 0
  clear hb hwA
  go_wp2_with (first
    | (at_builtin; (refine wpList_append_f _ bv_one rfl (.tmp 31) (.tmp 33) 25 rfl w1.heap.size 5 1 bi _ Tryd.underlying25 HBI.out HZ0.out HZ1.out HZ2.out (by omega) rfl [] s rfl rfl HOW.out HRL.out HLE.out HSA.out ?_); intro A4 c4 w4 r4 hr4 hown4 hg4 hbl4; have HR4 := Lib.hid hr4; have HO4 := Lib.hid hown4; have HC4 := Lib.hid ((HC1.out.alloc (.cells #[] 5)).grown hg4 (by have := HC1.out.lt; simp [blk]; omega)); have HP4 := Lib.hid ((HP1.out.alloc (.cells #[] 5)).grown hg4 (by have := HP1.out.lt; simp [blk]; omega)); have HS4 := Lib.hid ((HS1.out.alloc (.cells #[] 5)).grown hg4 (by have := HS1.out.lt; simp [blk]; omega)); have B4 := Lib.hid ((B1.out.alloc B1.out.size (.cells #[] 5)).grown hg4 (by have := B1.out.size; simp only [World.size_alloc]; omega) (fun k e => by have := B1.out.size; simp [blk] at e; omega)); have HZ4 := Lib.hid (Blk.new w4 27 #[.slice none 0 0]); have BN4 := Lib.hid (below_new w4 (.cells #[.slice none 0 0] 27)); clear hr4 hown4 hg4 hbl4)
    | ((with_reducible refine wpList_store_sh rfl (.tmp 9) (.tmp 35) rfl w4.heap.size rfl HZ4.out rfl A4 c4 r4 rfl ?_); intro w5 hb5 hg5; have HO5 := Lib.hid hb5; have B45 := Lib.hid (BN4.out.grown hg5 BN4.out.size (fun k e => by cases e; exact Nat.le_refl _)); clear hb5 hg5; have HDR := Lib.hid ((HL.out.below (B4.out.trans (B45.out.mono B4.out.size))).alloc (Nat.le_trans B4.out.size B45.out.size) (.cells #[] 52)))
    | (at_builtin; refine wpList_append_k _ dl_len dl_one rfl (.tmp 36) (.tmp 37) 39 rfl w5.heap.size 52 16 di _ Tryd.underlying39 HDI.out HY0.out HY1.out (by omega) HY2.out (by omega) rfl ([] : List De) l rfl rfl (owk_zero _ _ _ (Nat.le_refl _)) HDR.out (by have := HLL.out; simp; omega) (by simp) ?_; intro A6 c6 w6 r6 hr6 ho6 hg6 hb6; have HR6 := Lib.hid hr6; have HO6 := Lib.hid ho6; have B56 := Lib.hid ((below_new w5 (.cells #[] 52)).trans (below_of_grown hg6 (by simp) (by intro k hk; simp [blk] at hk; omega))); clear hr6 ho6 hg6 hb6; have HC6 := Lib.hid ((HC4.out.below B45.out HC4.out.lt).below B56.out (Nat.lt_of_lt_of_le HC4.out.lt B45.out.size)); have HP6 := Lib.hid ((HP4.out.below B45.out HP4.out.lt).below B56.out (Nat.lt_of_lt_of_le HP4.out.lt B45.out.size)); have HS6 := Lib.hid (HO5.out.below B56.out HO5.out.lt))
    | (with_reducible refine wpList_load_ct (by kernel_rfl) (.tmp 4) rfl w.heap.size rfl (A := A) (c := c) (x := x) HC6.out ?_)
    | (with_reducible refine wpList_load_po (by kernel_rfl) (.tmp 5) rfl (w.heap.size + 1) rfl (p := p) HP6.out ?_)
    | (with_reducible refine wpList_load_sh (by kernel_rfl) (.tmp 9) rfl w4.heap.size rfl (A := A4) (c := c4) (s := r4) HS6.out ?_))
  obtain rfl : s = r4 := by rw [HR4.out.out]; rfl
  obtain rfl : l = r6 := by rw [HR6.out.out]; rfl
  have B5 := Lib.hid (B4.out.trans (B45.out.mono B4.out.size))
  have B6 := Lib.hid (B5.out.trans (B56.out.mono B5.out.size))
  have HRS6 := Lib.hid ((((HO4.out.rd.below B45.out).more B45.out.size).below B56.out).more B56.out.size)
  have HRD6 := Lib.hid (HO6.out.rd dl_len)
  have HQ6 := Lib.hid ((HS4.out.below B45.out HS4.out.lt).below B56.out (Nat.lt_of_lt_of_le HS4.out.lt B45.out.size))
  have HMX := Lib.hid (readS_marks_len x p s l)
  have HDX := Lib.hid (readS_doubts_len x p s l)
  clear HR4 HR6 HO4 c1 c1a HOW HRL HLE HSA HDR HZ4 BN4 HO5 B45 HC4 HP4 HS4 HBI HZ0 HZ1 HZ2 HDI HY0 HY1 HY2 HC1 HP1 HS1 HC0 HP0 HS0 HG HGB
  refine (HK.out.read x p s l A c A4 c4 A6 c6 w6 (HCL.out.below B6.out) HRS6.out HRD6.out (by have := HSL.out; omega) (by have := HLL.out; omega) (HK.out.keep HT.out B6.out)).mono ?_
  rintro e w7 ⟨A7, c7, Ad7, cd7, X, er, rfl, hq, hm, hd, hap, hb⟩
  have HQ7 := Lib.hid hq
  have HM7 := Lib.hid hm
  have HD7 := Lib.hid hd
  have HAP := Lib.hid hap
  have B67 := Lib.hid hb
  have HZ7 := Lib.hid (Blk.new w7 44 #[.int .u8 0, .slice none 0 0, .int .i64 0, .slice none 0 0])
  have BN7 := Lib.hid (below_new w7 (.cells #[.int .u8 0, .slice none 0 0, .int .i64 0, .slice none 0 0] 44))
  clear hq hm hd hap hb
  go_wp2_with (first
    | ((with_reducible refine wpList_store_rg rfl (.tmp 11) (.tmp 45) rfl w7.heap.size rfl HZ7.out rfl A7 c7 Ad7 cd7 X rfl ?_); intro w8 hb8 hg8; have HX8 := Lib.hid hb8; have B78 := Lib.hid (BN7.out.grown hg8 BN7.out.size (fun k e => by cases e; exact Nat.le_refl _)); have B68 := Lib.hid (B67.out.trans (B78.out.mono B67.out.size)); clear hb8 hg8; have HC8 := Lib.hid (HC6.out.below B68.out HC6.out.lt); have HP8 := Lib.hid (HP6.out.below B68.out HP6.out.lt); have HQ8 := Lib.hid (HQ6.out.below B68.out HQ6.out.lt))
    | (with_reducible refine wpList_load_ct (by kernel_rfl) (.tmp 4) rfl w.heap.size rfl (A := A) (c := c) (x := x) HC8.out ?_)
    | (with_reducible refine wpList_load_po (by kernel_rfl) (.tmp 5) rfl (w.heap.size + 1) rfl (p := p) HP8.out ?_)
    | (with_reducible refine wpList_load_sh (by kernel_rfl) (.tmp 6) rfl (w.heap.size + 1 + 1) rfl (A := As) (c := cs) (s := s) HQ8.out ?_))
  have B8 := Lib.hid (B6.out.trans (B68.out.mono B6.out.size))
  refine (refReadS_any x p s l A c As cs Al cl w8 (HCL.out.below B8.out).ok HCL.out.name HCL.out.cands ((HS.out.below B8.out).more B8.out.size) ((HL.out.below B8.out).more B8.out.size) (by have := HSL.out; omega) (by have := HLL.out; omega)).mono ?_
  rintro e w9 ⟨A9, c9, Ad9, cd9, Y, er9, rfl, hq, hm, hd, hap, hb⟩
  obtain ⟨hqx, rfl⟩ := Prod.mk.inj (hq.trans HQ7.out.symm)
  obtain rfl := hqx.symm
  have HXE := Lib.hid (show X = (readS x p s l).1 by rw [← HQ7.out])
  have HM9 := Lib.hid hm
  have HD9 := Lib.hid hd
  have B89 := Lib.hid hb
  have HX9 := Lib.hid (HX8.out.below hb HX8.out.lt)
  have HZ9 := Lib.hid (Blk.new w9 44 #[.int .u8 0, .slice none 0 0, .int .i64 0, .slice none 0 0])
  have BN9 := Lib.hid (below_new w9 (.cells #[.int .u8 0, .slice none 0 0, .int .i64 0, .slice none 0 0] 44))
  clear hq hm hd hap hb hqx
  go_wp2_with (first
    | ((with_reducible refine wpList_store_rg rfl (.tmp 13) (.tmp 53) rfl w9.heap.size rfl HZ9.out rfl A9 c9 Ad9 cd9 X rfl ?_); intro w10 hb10 hg10; have HY10 := Lib.hid hb10; have B910 := Lib.hid (BN9.out.grown hg10 BN9.out.size (fun k e => by cases e; exact Nat.le_refl _)); clear hb10 hg10; have HX10 := Lib.hid (HX9.out.below B910.out HX9.out.lt))
    | (with_reducible refine wpList_load_rg (by kernel_rfl) (.tmp 11) rfl w7.heap.size rfl (A := A7) (c := c7) (Ad := Ad7) (cd := cd7) (x := X) HX10.out ?_)
    | (with_reducible refine wpList_load_rg (by kernel_rfl) (.tmp 13) rfl w9.heap.size rfl (A := A9) (c := c9) (Ad := Ad9) (cd := cd9) (x := X) HY10.out ?_))
  have B810 := Lib.hid (B89.out.trans (B910.out.mono B89.out.size))
  have B710 := Lib.hid (B78.out.trans (B810.out.mono B78.out.size))
  have B610 := Lib.hid (B68.out.trans (B810.out.mono B68.out.size))
  have HMA := Lib.hid (HM7.out.below (Nat.le_refl _) B710.out)
  have HDA := Lib.hid (HD7.out.below (Nat.le_refl _) B710.out)
  have HMB := Lib.hid (HM9.out.below (Nat.le_refl _) B910.out)
  have HDB := Lib.hid (HD9.out.below (Nat.le_refl _) B910.out)
  have HML := Lib.hid (show X.bal.marks.length ≤ 4000000000 by rw [HXE.out]; have := HMX.out; have := HSL.out; have := HCN.out; omega)
  have HDL := Lib.hid (show X.doubts.length ≤ 1000 by rw [HXE.out]; have := HDX.out; have := HSL.out; omega)
  clear HMX HDX HX8 HX9 HZ7 BN7 HZ9 BN9 B910 HM7 HM9 HD9 HC6 HP6 HC8 HP8 HQ8 B4 B5 HCL
  refine (refSameR_any X A7 Ad7 A9 Ad9 c7 cd7 c9 cd9 w10 HMA.out.rd HDA.out.rd HMB.out.rd HDB.out.rd HML.out (by have := HDL.out; omega)).mono ?_
  rintro e w11 ⟨rfl, hb⟩
  have B611 := Lib.hid (B610.out.trans (hb.mono B610.out.size))
  have HMA1 := Lib.hid (HMA.out.below (Nat.le_refl _) hb)
  have HDA1 := Lib.hid (HDA.out.below (Nat.le_refl _) hb)
  have HMB1 := Lib.hid (HMB.out.below (Nat.le_refl _) hb)
  have HX11 := Lib.hid (HX10.out.below hb HX10.out.lt)
  have HY11 := Lib.hid (HY10.out.below hb HY10.out.lt)
  have HGE := Lib.hid (fun g (h : blk Ad7 = some g) (k : Nat) (hk : w8.heap.size ≤ k) => show (some k : Option Nat) ≠ some g from fun e => by have h1 := (HD7.out.blk_ge g h).2; have h2 := B78.out.size; injection e with e; omega)
  clear hb HMA HDA HMB HDB HX10 HY10 B610 B710 B810
  go_wp2_with fail
  go_loopw [16] (fun s16 wr => ∃ (k : Nat) (D : List Int), D.length = X.doubts.length ∧ k ≤ X.doubts.length ∧ s16 = .int .i64 k ∧ Hid (Ow zv wr w6.heap.size 3 Ad7 cd7 D) ∧ Hid (Ow zv wr w6.heap.size 3 A7 c7 X.bal.marks) ∧ Hid (Ow zv wr w8.heap.size 3 A9 c9 X.bal.marks) ∧ Hid (Blk wr w7.heap.size 44 (rgs A7 c7 Ad7 cd7 X)) ∧ Hid (Blk wr w9.heap.size 44 (rgs A9 c9 Ad9 cd9 X)) ∧ Hid (Below w6.heap.size w6 wr)) (fun s16 _ => X.doubts.length - (intOf s16).toNat)
  case atStart => exact ⟨0, X.doubts, rfl, Nat.zero_le _, rfl, HDA1.out, HMA1.out, HMB1.out, HX11.out, HY11.out, B611.out⟩
  case round =>
    obtain ⟨k, D, hdl, hk, rfl, hod, hoa, hob, hx, hy, hbx⟩ := hrel
    have d3 : wr.cell? ⟨w7.heap.size, 3, none⟩ = some (.slice Ad7 X.doubts.length cd7) := hx.out.cell 3
    by_cases hlt : k < X.doubts.length
    · have HDLN := Lib.hid hdl
      have hlen := HDL.out
      obtain ⟨g, rfl, hge, hgl, hlc, hcm⟩ : ∃ g, Ad7 = some ⟨g, 0, none⟩ ∧ w6.heap.size ≤ g ∧ g < wr.heap.size ∧ D.length ≤ cd7 ∧ cd7 ≤ maxLen := by
        rcases hod.out.form with ⟨_, _, h⟩ | h
        · rw [h] at hdl; simp at hdl; omega
        · exact h
      have hcs := hod.out.cell25 (i := k) (by omega)
      obtain ⟨z, hz⟩ : ∃ z, z = D[k] := ⟨_, rfl⟩
      rw [← hz] at hcs
      unfold zv at hcs
      have hfz : wr.frozen? ⟨g, k, none⟩ = false := hod.out.frozen25 _
      have HST := Lib.hid (hod.out.stored25 k (-7) (by omega) (.int .i64 (-7)) rfl)
      have HNE := Lib.hid (fun (k' : Nat) (h : blk A7 = some k') => HAP.out k' h)
      clear hz hdl
      go_wp2_with fail
      obtain ⟨ho', hg'⟩ := HST.out
      go_roundw
      case rel =>
        refine ⟨k + 1, D.set k (-7), by rw [List.length_set]; exact HDLN.out, by omega, by go_num, ho', hoa.out.kept hg' ?_, hob.out.kept hg' ?_, blk_keep hx.out hod.out (by decide) hg', blk_keep hy.out hod.out (by decide) hg', hbx.out.grown hg' hbx.out.size (fun j hj => by cases hj; exact hge)⟩
        · cases hA : blk A7 with
          | none => exact .inl rfl
          | some k' => exact .inr (fun e => HNE.out k' hA e.symm)
        · cases hA : blk A9 with
          | none => exact .inl rfl
          | some k' => exact .inr (HGE.out g rfl k' (hob.out.blk_ge k' hA).1)
      case measure => simp [intOf]; omega
    · obtain rfl : k = X.doubts.length := by omega
      have e0 : wr.cell? ⟨w7.heap.size, 0, none⟩ = some (.int .u8 (X.bal.kind : Nat)) := hx.out.cell 0
      have e1 : wr.cell? ⟨w7.heap.size, 1, none⟩ = some (.slice A7 X.bal.marks.length c7) := hx.out.cell 1
      have e2 : wr.cell? ⟨w9.heap.size, 0, none⟩ = some (.int .u8 (X.bal.kind : Nat)) := hy.out.cell 0
      have e3 : wr.cell? ⟨w9.heap.size, 1, none⟩ = some (.slice A9 X.bal.marks.length c9) := hy.out.cell 1
      have HSB := Lib.hid (refSameB_any X.bal X.bal A7 A9 c7 c9 wr hoa.out.rd hob.out.rd HML.out)
      rw [show decide (X.bal = X.bal) = true from decide_eq_true rfl] at HSB
      unfold blv blvs at HSB
      clear hdl
      go_wp2_with fail
      refine HSB.out.mono ?_
      rintro e w12 ⟨rfl, hb⟩
      have B612 := Lib.hid (hbx.out.trans (hb.mono hbx.out.size))
      clear hb e0 e1 e2 e3 HSB d3
      go_wp2_with fail
      go_loopw [15, 17] (fun s15 s17 wq => ∃ (j : Nat), j ≤ l.length ∧ s15 = .bool true ∧ s17 = .int .i64 j ∧ Hid (Below w6.heap.size w6 wq)) (fun _ s17 _ => l.length - (intOf s17).toNat)
      case atStart => exact ⟨0, Nat.zero_le _, rfl, rfl, B612.out⟩
      case round =>
        obtain ⟨j, hj, rfl, rfl, hbq⟩ := hrel
        by_cases hlt : j < l.length
        · have hlen := HLL.out
          obtain ⟨b, o, hA6, hbb, hcc⟩ := (HRD6.out.below hbq.out).de hlt
          obtain ⟨b2, o2, hAl, hbb2, hcc2⟩ := (HL.out.below (B6.out.trans (hbq.out.mono B6.out.size))).de hlt
          subst hA6
          subst hAl
          obtain ⟨f1, f2⟩ := hcc j hlt
          obtain ⟨f3, f4⟩ := hcc2 j hlt
          obtain ⟨z, hz⟩ : ∃ z, z = l[j] := ⟨_, rfl⟩
          rw [← hz] at f1 f2 f3 f4
          have hF0 : (wr.drew.cell? ⟨b, o + j * 2, none⟩ = some (.int .i64 z.box) ∧ wr.drew.cell? ⟨b, o + j * 2 + 1, none⟩ = some (.bool z.marked) ∧ wr.drew.cell? ⟨b2, o2 + j * 2, none⟩ = some (.int .i64 z.box) ∧ wr.drew.cell? ⟨b2, o2 + j * 2 + 1, none⟩ = some (.bool z.marked)) := ⟨f1, f2, f3, f4⟩
          clear hcc hcc2 hz
          go_wp2_with fail
          go_region_held3 (fun w' => (w'.cell? ⟨b, o + j * 2, none⟩ = some (.int .i64 z.box) ∧ w'.cell? ⟨b, o + j * 2 + 1, none⟩ = some (.bool z.marked) ∧ w'.cell? ⟨b2, o2 + j * 2, none⟩ = some (.int .i64 z.box) ∧ w'.cell? ⟨b2, o2 + j * 2 + 1, none⟩ = some (.bool z.marked))) (exact hF0) (fail)
          go_wp2_with fail
          go_roundw
          case rel => exact ⟨j + 1, by omega, rfl, by go_num, hbq.out.drew⟩
          case measure => simp [intOf]; omega
        · obtain rfl : j = l.length := by omega
          have g1 : wr.cell? ⟨w4.heap.size, 0, none⟩ = some (.slice A4 s.length c4) := (HS6.out.below hbq.out HS6.out.lt).cell 0
          have g2 : wr.cell? ⟨w.heap.size + 1 + 1, 0, none⟩ = some (.slice As s.length cs) := (HQ6.out.below hbq.out HQ6.out.lt).cell 0
          have BQ := Lib.hid (B6.out.trans (hbq.out.mono B6.out.size))
          have hk4 := run_string_f (P := Tryd.prog) wr 25 9 5 Tryd.underlying25 Tryd.underlying5 Tryd.underlying9 (HRS6.out.below hbq.out)
          have hkl := run_string_f (P := Tryd.prog) wr 25 9 5 Tryd.underlying25 Tryd.underlying5 Tryd.underlying9 (HS.out.below BQ.out)
          go_wp2_with fail
          go_ret
          exact ⟨rfl, BQ.out⟩
end Go.Proofs.YtejphpcngbjgjaaDoor
