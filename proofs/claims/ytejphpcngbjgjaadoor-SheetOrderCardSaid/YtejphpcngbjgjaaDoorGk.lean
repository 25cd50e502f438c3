/- sheet's code: papers, boxes, and the function that yields a column's marked candidates. sheet's code: the reader of marks. sheet's code: the reader of scores; the boxes that remain in doubt; slices.Contains of whole numbers. -/
import Derived.Test.YtejphpcngbjgjaaDoorGj
import Derived.Test.YtejphpcngbjgjaaDoorGb
import Derived.Stop.RegionWithIn
namespace Go.Proofs.YtejphpcngbjgjaaDoor
open Go.RowKit Go.Shelf
set_option linter.unusedVariables false
set_option linter.unusedSimpArgs false
attribute [local go_sem] Oper.semAt_some

/-- The cells of a paper: its layout, its states (all of block g), its skips. -/
def pps (l : Ly) (g n : Nat) (k : Int) : Array Value := #[.int .u8 (l.kind : Nat), .int .i64 l.most, .int .i64 (l.cands : Nat), .int .i64 (l.cols : Nat), .slice (some ⟨g, 0, none⟩) n n, .int .i64 k]
def ppv (l : Ly) (g n : Nat) (k : Int) : Value := .agg (pps l g n k)

set_option maxRecDepth 100000 in
set_option maxHeartbeats 400000 in
theorem box_any (l : Ly) (i j : Nat) (w : World) (h : i * l.cols + j ≤ 1000000) :
    Calls Tryd.prog 66 #[lyv l, .int .i64 (i : Nat), .int .i64 (j : Nat)] w fun e w' => e = .returned (.int .i64 ((i * l.cols + j : Nat) : Int)) ∧ Below w.heap.size w w' := by
  obtain ⟨k, m, n, q⟩ := l
  simp only at h ⊢
  have B0 := Lib.hid (below_new w (.cells #[.int .u8 (k : Nat), .int .i64 m, .int .i64 (n : Nat), .int .i64 (q : Nat)] 57))
  obtain ⟨M, hM⟩ : ∃ M, M = i * q := ⟨_, rfl⟩
  have hmul : (i : Int) * (q : Int) = (M : Int) := by rw [hM]; simp
  rw [← hM] at h ⊢
  have hwr : IntKind.i64.wrap ((i : Int) * (q : Int)) = (M : Int) := by rw [hmul, IntKind.wrap_i64]; omega
  clear hmul hM
  unfold lyv lys
  simp only
  go_enter Tryd.func66, Tryd.ntmps66
  go_wp2_with fail
  go_ret
  exact ⟨by go_num, B0.out⟩

set_option maxHeartbeats 400000 in
theorem markedIn_call (l : Ly) (g n : Nat) (k : Int) (j : Int) (w : World) :
    Calls Tryd.prog 60 #[ppv l g n k, .int .i64 j] w fun e w' => e = .returned (.func (.func 65) #[] #[.pointer (some ⟨w.heap.size, 0, none⟩), .pointer (some ⟨w.heap.size + 1, 0, none⟩)]) ∧ w' = (w.alloc (.cells (pps l g n k) 69)).alloc (.cells #[.int .i64 j] 3) := by
  unfold ppv pps
  go_enter Tryd.func60, Tryd.ntmps60
  go_wp2_with fail
  go_ret
  exact ⟨rfl, rfl⟩

/-- The first k candidates whose box in column j is marked. -/
def colK (R : List Int) (wide j k : Nat) : List Nat := (List.range k).filter fun c => decide (R.getD (c * wide + j) 0 = 2)
theorem colK_yes {R : List Int} {wide j k : Nat} (h : R.getD (k * wide + j) 0 = 2) : colK R wide j (k + 1) = colK R wide j k ++ [k] := by
  unfold colK
  rw [List.range_succ, List.filter_append]
  congr 1
  rw [List.filter_cons, if_pos (by simpa using h)]; rfl
theorem colK_no {R : List Int} {wide j k : Nat} (h : ¬ R.getD (k * wide + j) 0 = 2) : colK R wide j (k + 1) = colK R wide j k := by
  unfold colK
  rw [List.range_succ, List.filter_append, List.filter_cons, if_neg (by simpa using h)]
  simp
theorem colK_len (R : List Int) (wide j k : Nat) : (colK R wide j k).length ≤ k := by
  unfold colK
  have := List.length_filter_le (fun c => decide (R.getD (c * wide + j) 0 = 2)) (List.range k)
  simpa using this
theorem colK_front (R : List Int) (wide j : Nat) {k m : Nat} (h : k ≤ m) : ∃ rest, colK R wide j m = colK R wide j k ++ rest := by
  refine ⟨((List.range m).drop k).filter fun c => decide (R.getD (c * wide + j) 0 = 2), ?_⟩
  unfold colK
  rw [← List.filter_append]
  congr 1
  rw [show List.range k = (List.range m).take k by rw [List.take_range, Nat.min_eq_left h], List.take_append_drop]

/-- What a round of the loop keeps: all blocks below B0 but those of X. -/
def KeepX (B0 : Nat) (X : Nat → Prop) (W W' : World) : Prop := W.heap.size ≤ W'.heap.size ∧ ∀ k, k < B0 → ¬ X k → W'.heap[k]? = W.heap[k]?
theorem KeepX.cell {B0 : Nat} {X : Nat → Prop} {W W' : World} (h : KeepX B0 X W W') {q : Addr} (h1 : q.block < B0) (h2 : ¬ X q.block) : W'.cell? q = W.cell? q := World.cell?_of_block (w := W) (h.2 q.block h1 h2)
theorem KeepX.blk {B0 : Nat} {X : Nat → Prop} {W W' : World} (h : KeepX B0 X W W') {g t : Nat} {cs : Array Value} (hb : Blk W g t cs) (h1 : g < B0) (h2 : ¬ X g) : Blk W' g t cs := (h.2 g h1 h2).trans hb
abbrev nEnc (x : Nat) : Array Value := #[.int .i64 (x : Nat)]
/-- What the iterator reads. -/
structure PapIn (l : Ly) (g n : Nat) (k : Int) (j : Nat) (R : List Int) (Bp Bj : Nat) (W : World) : Prop where
  pap : Blk W Bp 69 (pps l g n k)
  col : Blk W Bj 3 #[.int .i64 (j : Nat)]
  st : Hb zv W g 88 R
theorem PapIn.keep {l : Ly} {g n : Nat} {k : Int} {j : Nat} {R : List Int} {Bp Bj B0 : Nat} {X : Nat → Prop} {W W' : World} (h : PapIn l g n k j R Bp Bj W) (hk : KeepX B0 X W W') (h1 : Bp < B0 ∧ ¬ X Bp) (h2 : Bj < B0 ∧ ¬ X Bj) (h3 : g < B0 ∧ ¬ X g) : PapIn l g n k j R Bp Bj W' :=
  ⟨hk.blk h.pap h1.1 h1.2, hk.blk h.col h2.1 h2.2, hk.blk h.st h3.1 h3.2⟩
theorem PapIn.below {l : Ly} {g n : Nat} {k : Int} {j : Nat} {R : List Int} {Bp Bj B : Nat} {W W' : World} (h : PapIn l g n k j R Bp Bj W) (hb : Below B W W') (h1 : Bp < B) (h2 : Bj < B) (h3 : g < B) : PapIn l g n k j R Bp Bj W' :=
  ⟨h.pap.below hb h1, h.col.below hb h2, h.st.below hb h3⟩

theorem YieldAt.mono' {F : Fence} {m : Nat} {P : Program} {l : Nat} {args : Array Value} {W : World} {R R' : Ending → World → Prop} (h : YieldAt F m P l args W R) (hr : ∀ e w', R e w' → R' e w') : YieldAt F m P l args W R' := by
  obtain ⟨fn, tmps, assign, body, hy, hR⟩ := h
  exact ⟨fn, tmps, assign, body, hy, hR.mono hr⟩

set_option maxRecDepth 100000 in
set_option maxHeartbeats 16000000 in
theorem markedIn_seq (l : Ly) (g n : Nat) (s : Int) (j : Nat) (R : List Int) (Bp Bj B0 : Nat) (X : Nat → Prop) (w : World) (m : Nat) (hm : 3 ≤ m) (hR : R.length = n) (hn : n ≤ 1000000) (hc : l.cands ≤ 1000) (hin : ∀ c, c < l.cands → c * l.cols + j < n)
    (hp : PapIn l g n s j R Bp Bj w) (h1 : Bp < B0 ∧ ¬ X Bp) (h2 : Bj < B0 ∧ ¬ X Bj) (h3 : g < B0 ∧ ¬ X g) (hw : w.heap.size = B0) :
    SeqNew Fence.wide m Tryd.prog 65 #[.pointer (some ⟨Bp, 0, none⟩), .pointer (some ⟨Bj, 0, none⟩)] nEnc (KeepX B0 X) (fun x _ => x < l.cands)
      (fun xs => xs = colK R l.cols j l.cands) (fun pre => ∃ rest, colK R l.cols j l.cands = pre ++ rest) 2000 w := by
  intro L J Jx W hW hJ hJx hY h0
  have HPW := Lib.hid (hp.below hW (by omega) (by omega) (by omega))
  have HWS := Lib.hid (show B0 ≤ W.heap.size by have := hW.size; omega)
  have HRL := Lib.hid hR
  have HBX := Lib.hid (fun (c : Nat) (hc : c < l.cands) wx => box_any l c j wx (by have := hin c hc; omega))
  have HIN := Lib.hid hin
  clear hp hin
  refine callsIn_of_wp Tryd.func65 rfl trivial ?_ rfl
  simp only [Tryd.ntmps65, List.size_toArray, List.length_cons, List.length_nil, Nat.reduceAdd, Nat.reduceSub, Array.replicate_succ, Array.replicate_zero, List.push_toArray, List.append_toArray, List.nil_append, List.cons_append]
  have hc2 : W.cell? ⟨Bp, 2, none⟩ = some (.int .i64 (l.cands : Nat)) := HPW.out.pap.cell 2
  gi_wp2_with fail
  gi_loopw [8] (fun v wr => ∃ k : Nat, k ≤ l.cands ∧ v = .int .i64 k ∧ Hid (J (colK R l.cols j k) wr) ∧ Hid (PapIn l g n s j R Bp Bj wr) ∧ Hid (B0 ≤ wr.heap.size))
    (fun v _ => l.cands - (intOf v).toNat)
  case atStart => exact ⟨0, Nat.zero_le _, rfl, h0, HPW, HWS⟩
  case round =>
    obtain ⟨k, hk, rfl, hJp, hpw, hws⟩ := hrel
    by_cases hlt : k < l.cands
    · have hix := HIN.out k hlt
      obtain ⟨q, hq⟩ : ∃ q, q = k * l.cols + j := ⟨_, rfl⟩
      have hbx := HBX.out k hlt
      rw [← hq] at hix hbx
      have HBK := Lib.hid hbx
      have hqR : q < R.length := by omega
      have hgd : R.getD q 0 = R[q] := by simp [List.getD, hqR]
      have HY := Lib.hid (show ∀ (pre : List Nat) (x : Nat) (W1 : World), J pre W1 → x < l.cands → pre.length < 2000 → YieldAt Fence.wide (m - 1) Tryd.prog L (nEnc x) W1 fun e W' => ∃ b, e = .returned (.bool b) ∧ (b = true ∧ J (pre ++ [x]) W' ∧ KeepX B0 X W1 W' ∨ b = false ∧ Jx (pre ++ [x]) W') from fun pre x W1 a b c => YieldAt.mono' (hY pre x W1 a b c) fun e W' h => by
        rcases h with ⟨rfl, h1, h2⟩ | ⟨rfl, h1⟩
        · exact ⟨true, rfl, .inl ⟨rfl, h1, h2⟩⟩
        · exact ⟨false, rfl, .inr ⟨rfl, h1⟩⟩)
      have HLN := Lib.hid (show (colK R l.cols j k).length < 2000 by have := colK_len R l.cols j k; omega)
      have HFA := Lib.hid (show ∀ wx, Below B0 wr wx → (wx.cell? ⟨Bp, 0, none⟩ = some (.int .u8 (l.kind : Nat)) ∧ wx.cell? ⟨Bp, 1, none⟩ = some (.int .i64 l.most) ∧ wx.cell? ⟨Bp, 2, none⟩ = some (.int .i64 (l.cands : Nat)) ∧ wx.cell? ⟨Bp, 3, none⟩ = some (.int .i64 (l.cols : Nat)) ∧ wx.cell? ⟨Bp, 4, none⟩ = some (.slice (some ⟨g, 0, none⟩) n n) ∧ wx.cell? ⟨Bj, 0, none⟩ = some (.int .i64 (j : Nat)) ∧ wx.cell? ⟨g, q, none⟩ = some (.int .i64 R[q])) from fun wx hb => by
        have h := hpw.out.below hb h1.1 h2.1 h3.1
        exact ⟨h.pap.cell 0, h.pap.cell 1, h.pap.cell 2, h.pap.cell 3, h.pap.cell 4, h.col.cell 0, h.st.cell hqR⟩)
      have HJG := Lib.hid (show ∀ wx, Below wr.heap.size wr wx → J (colK R l.cols j k) wx from fun wx hb => hJ _ _ _ hJp.out (grown_of_below hb (Nat.le_refl _) none))
      obtain ⟨f0, f1, f2, f3, f4, f5, f6⟩ := HFA.out _ (Below.refl B0 wr).drew
      obtain ⟨v, hv⟩ : ∃ v, v = R[q] := ⟨_, rfl⟩
      rw [← hv] at f6 hgd HFA
      unfold lyv lys at HBK
      clear hY hbx
      by_cases hv2 : v = 2
      · subst hv2
        have HCY := Lib.hid (colK_yes (R := R) (wide := l.cols) (j := j) (k := k) (by rw [← hq]; exact hgd))
        clear hgd hv hq
        gi_wp2_with fail
        gi_region_with (first
          | (refine ⟨trivial, fun _ => by omega, (callsIn_wide.2 (HBK.out _)).mono ?_⟩; rintro e w2 ⟨rfl, hb2⟩; have BB := Lib.hid ((Below.refl wr.heap.size wr).drew.trans hb2); obtain ⟨g0, g1, g2, g3, g4, g5, g6⟩ := HFA.out _ (BB.out.mono hws.out); obtain ⟨fn, tmps, assign, body, hy, hR⟩ := HY.out _ k w2 (HJG.out _ BB.out) hlt HLN.out)
          | (refine ⟨fun _ => by omega, hR.mono ?_⟩; rintro e W3 ⟨b, rfl, hJ3⟩))
        all_goals
          clear hR hy
          have HPW2 := Lib.hid (hpw.out.below (BB.out.mono hws.out) h1.1 h2.1 h3.1)
          have HWS2 := Lib.hid (Nat.le_trans hws.out BB.out.size)
          clear f0 f1 f2 f3 f4 f5 f6
          clear g0 g1 g2 g3 g4 g5 g6
          rcases hJ3 with ⟨rfl, hJ4, hk4⟩ | ⟨rfl, hx4⟩
          · have HJ4 := Lib.hid hJ4
            have HP4 := Lib.hid (HPW2.out.keep hk4 h1 h2 h3)
            have HS4 := Lib.hid (Nat.le_trans HWS2.out hk4.1)
            clear hJ4 hk4
            gi_wp2_with fail
            go_roundw
            case rel => exact ⟨k + 1, by omega, by go_num, by rw [HCY.out]; exact HJ4, HP4, HS4⟩
            case measure => simp [intOf]; omega
          · have HX4 := Lib.hid hx4
            clear hx4
            gi_wp2_with fail
            refine bodyPost_ret (results_none rfl _ _ _) rfl ?_
            exact ⟨⟨_, rfl⟩, .inr ⟨_, by rw [← HCY.out]; exact colK_front _ _ _ hlt, HX4.out⟩⟩
      · have HCN := Lib.hid (colK_no (R := R) (wide := l.cols) (j := j) (k := k) (by rw [← hq, hgd]; exact hv2))
        have e1 : (v == 2) = false := by rw [beq_eq_false_iff_ne]; exact hv2
        clear hgd hv hq
        obtain ⟨Inv, hInv⟩ : ∃ Inv : World → Prop, Inv = fun wx => wx.cell? ⟨Bp, 0, none⟩ = some (.int .u8 (l.kind : Nat)) ∧ wx.cell? ⟨Bp, 1, none⟩ = some (.int .i64 l.most) ∧ wx.cell? ⟨Bp, 2, none⟩ = some (.int .i64 (l.cands : Nat)) ∧ wx.cell? ⟨Bp, 3, none⟩ = some (.int .i64 (l.cols : Nat)) ∧ wx.cell? ⟨Bp, 4, none⟩ = some (.slice (some ⟨g, 0, none⟩) n n) ∧ wx.cell? ⟨Bj, 0, none⟩ = some (.int .i64 (j : Nat)) ∧ wx.cell? ⟨g, q, none⟩ = some (.int .i64 v) := ⟨_, rfl⟩
        have HSW := Lib.hid (show ∀ wx, Inv wx → wx.cell? ⟨Bp, 0, none⟩ = some (.int .u8 (l.kind : Nat)) ∧ wx.cell? ⟨Bp, 1, none⟩ = some (.int .i64 l.most) ∧ wx.cell? ⟨Bp, 2, none⟩ = some (.int .i64 (l.cands : Nat)) ∧ wx.cell? ⟨Bp, 3, none⟩ = some (.int .i64 (l.cols : Nat)) ∧ wx.cell? ⟨Bp, 4, none⟩ = some (.slice (some ⟨g, 0, none⟩) n n) ∧ wx.cell? ⟨Bj, 0, none⟩ = some (.int .i64 (j : Nat)) ∧ wx.cell? ⟨g, q, none⟩ = some (.int .i64 v) from fun wx h => by rw [hInv] at h; exact h)
        have HSB := Lib.hid (show ∀ wx, Below wr.heap.size wr wx → Inv wx from fun wx hb => by rw [hInv]; exact HFA.out _ (hb.mono hws.out))
        have HS0 := Lib.hid (HSB.out _ (Below.refl wr.heap.size wr).drew)
        clear hInv f0 f1 f2 f3 f4 f5 f6
        gi_wp2_with fail
--BEGIN
        refine wpIn_wide.2 ?_
        refine wp_region_held_drew (S := Inv) (by kernel_rfl) HS0.out ?_
        intro hHeld
        try simp only [Act.put, List.setIfInBounds_toArray, List.set_cons_zero, List.set_cons_succ]
        refine wpAnyH_take (i := 0) (oi := { dst := some 11, op := Op.fieldAddr 69 (Operand.tmp 1) 1, type := 0, pos := "paper.go:97", after := #[], guard := none }) (v := ?v0) rfl (by kernel_rfl) (by kernel_rfl) (by kernel_rfl) (fun _ _ _ h => h) (Or.inl ⟨by rfl, ?y0⟩) hHeld ?r0
        case y0 => intro wq hSw; skip; go_simp; try (with_reducible rfl)
        try simp only [Act.put, List.setIfInBounds_toArray, List.set_cons_zero, List.set_cons_succ]
        refine wpAnyH_take (i := 1) (oi := { dst := some 12, op := Op.load 65 (Operand.tmp 11), type := 65, pos := "paper.go:97", after := #[{ on := 0, ground := Ground.data }], guard := none }) (v := ?v1) rfl (by kernel_rfl) (by kernel_rfl) (by kernel_rfl) (fun _ _ _ h => h) (Or.inl ⟨by rfl, ?y1⟩) hHeld ?r1
        case y1 => intro wq hSw; obtain ⟨f0, f1, f2, f3, f4, f5, f6⟩ := HSW.out _ hSw; go_simp; try (with_reducible rfl)
        try simp only [Act.put, List.setIfInBounds_toArray, List.set_cons_zero, List.set_cons_succ]
        refine wpAnyH_take (i := 2) (oi := { dst := some 13, op := Op.fieldAddr 69 (Operand.tmp 1) 0, type := 0, pos := "paper.go:97", after := #[], guard := none }) (v := ?v2) rfl (by kernel_rfl) (by kernel_rfl) (by kernel_rfl) (fun _ _ _ h => h) (Or.inl ⟨by rfl, ?y2⟩) hHeld ?r2
        case y2 => intro wq hSw; skip; go_simp; try (with_reducible rfl)
        try simp only [Act.put, List.setIfInBounds_toArray, List.set_cons_zero, List.set_cons_succ]
        refine wpAnyH_take (i := 3) (oi := { dst := some 14, op := Op.load 57 (Operand.tmp 13), type := 57, pos := "paper.go:97", after := #[{ on := 2, ground := Ground.data }], guard := none }) (v := ?v3) rfl (by kernel_rfl) (by kernel_rfl) (by kernel_rfl) (fun _ _ _ h => h) (Or.inl ⟨by rfl, ?y3⟩) hHeld ?r3
        case y3 => intro wq hSw; obtain ⟨f0, f1, f2, f3, f4, f5, f6⟩ := HSW.out _ hSw; go_simp; try (with_reducible rfl)
        try simp only [Act.put, List.setIfInBounds_toArray, List.set_cons_zero, List.set_cons_succ]
        refine wpAnyH_take (i := 4) (oi := { dst := some 15, op := Op.move (Operand.tmp 4), type := 3, pos := "paper.go:97", after := #[], guard := none }) (v := ?v4) rfl (by kernel_rfl) (by kernel_rfl) (by kernel_rfl) (fun _ _ _ h => h) (Or.inl ⟨by rfl, ?y4⟩) hHeld ?r4
        case y4 => intro wq hSw; skip; go_simp; try (with_reducible rfl)
        try simp only [Act.put, List.setIfInBounds_toArray, List.set_cons_zero, List.set_cons_succ]
        refine wpAnyH_take (i := 5) (oi := { dst := some 16, op := Op.load 3 (Operand.tmp 2), type := 3, pos := "paper.go:97", after := #[], guard := none }) (v := ?v5) rfl (by kernel_rfl) (by kernel_rfl) (by kernel_rfl) (fun _ _ _ h => h) (Or.inl ⟨by rfl, ?y5⟩) hHeld ?r5
        case y5 => intro wq hSw; obtain ⟨f0, f1, f2, f3, f4, f5, f6⟩ := HSW.out _ hSw; go_simp; try (with_reducible rfl)
        try simp only [Act.put, List.setIfInBounds_toArray, List.set_cons_zero, List.set_cons_succ]
        refine wpAnyH_ready (rs := [6]) (by kernel_rfl) (by simp) ?_
        refine AllReadyH.cons (o := { dst := some 17, op := Op.call { callee := Callee.value (Operand.func 66), args := #[Operand.tmp 14, Operand.tmp 15, Operand.tmp 16], argTypes := #[57, 3, 3] }, type := 3, pos := "paper.go:97", after := #[{ on := 3, ground := Ground.data }, { on := 4, ground := Ground.data }, { on := 5, ground := Ground.data }], guard := none }) rfl (fun K hK => ?_) AllReadyH.nil
        go_simp
        go_at_call 66
        refine (HBK.out _).mono ?_
        rintro e w2 ⟨rfl, hb2⟩
        have BB := Lib.hid ((Below.refl wr.heap.size wr).drew.trans hb2)
        have HS2 := Lib.hid (HSB.out _ BB.out)
        clear hb2
        try go_simp
        refine hK.out _ _ HS2.out (fun hHeld => ?_)
        clear hK K
        try simp only [Act.put, List.setIfInBounds_toArray, List.set_cons_zero, List.set_cons_succ]
        refine wpAnyH_take (i := 7) (oi := { dst := some 18, op := Op.indexAddr 65 (Operand.tmp 12) (Operand.tmp 17), type := 0, pos := "paper.go:97", after := #[{ on := 1, ground := Ground.data }, { on := 6, ground := Ground.data }], guard := none }) (v := ?v7) rfl (by kernel_rfl) (by kernel_rfl) (by kernel_rfl) (fun _ _ _ h => h) (Or.inl ⟨by rfl, ?y7⟩) hHeld ?r7
        case y7 => intro wq hSw; skip; go_simp; try (with_reducible rfl)
        try simp only [Act.put, List.setIfInBounds_toArray, List.set_cons_zero, List.set_cons_succ]
        refine wpAnyH_take (i := 8) (oi := { dst := some 19, op := Op.load 88 (Operand.tmp 18), type := 88, pos := "paper.go:97", after := #[{ on := 7, ground := Ground.data }], guard := none }) (v := ?v8) rfl (by kernel_rfl) (by kernel_rfl) (by kernel_rfl) (fun _ _ _ h => h) (Or.inl ⟨by rfl, ?y8⟩) hHeld ?r8
        case y8 => intro wq hSw; obtain ⟨f0, f1, f2, f3, f4, f5, f6⟩ := HSW.out _ hSw; go_simp; try (with_reducible rfl)
        try simp only [Act.put, List.setIfInBounds_toArray, List.set_cons_zero, List.set_cons_succ]
        refine wpAnyH_take (i := 9) (oi := { dst := some 20, op := Op.binOp BinOp.eql 88 (Operand.tmp 19) (Operand.const (Value.int IntKind.i64 2)) 88, type := 4, pos := "paper.go:97", after := #[{ on := 8, ground := Ground.data }], guard := none }) (v := ?v9) rfl (by kernel_rfl) (by kernel_rfl) (by kernel_rfl) (fun _ _ _ h => h) (Or.inl ⟨by rfl, ?y9⟩) hHeld ?r9
        case y9 => intro wq hSw; skip; go_simp; try (with_reducible rfl)
        try simp only [Act.put, List.setIfInBounds_toArray, List.set_cons_zero, List.set_cons_succ]
        refine wpAnyH_take (i := 10) (oi := { dst := some 21, op := Op.move (Operand.tmp 20), type := 4, pos := "paper.go:97", after := #[{ on := 9, ground := Ground.data }, { on := 6, ground := Ground.chain }], guard := none }) (v := ?v10) rfl (by kernel_rfl) (by kernel_rfl) (by kernel_rfl) (fun _ _ _ h => h) (Or.inl ⟨by rfl, ?y10⟩) hHeld ?r10
        case y10 => intro wq hSw; skip; go_simp; try (with_reducible rfl)
        try simp only [Act.put, List.setIfInBounds_toArray, List.set_cons_zero, List.set_cons_succ]
        refine wpAnyH_take (i := 11) (oi := { dst := some 22, op := Op.move (Operand.tmp 0), type := 108, pos := "paper.go:97", after := #[{ on := 10, ground := Ground.guard }], guard := some (10, true) }) (v := undef) rfl (by kernel_rfl) (by kernel_rfl) (by kernel_rfl) (fun _ _ _ h => h) (Or.inr ⟨by kernel_rfl, rfl⟩) hHeld ?_
        try simp only [Act.put, List.setIfInBounds_toArray, List.set_cons_zero, List.set_cons_succ]
        refine wpAnyH_take (i := 12) (oi := { dst := some 23, op := Op.move (Operand.tmp 4), type := 3, pos := "paper.go:97", after := #[{ on := 10, ground := Ground.guard }], guard := some (10, true) }) (v := undef) rfl (by kernel_rfl) (by kernel_rfl) (by kernel_rfl) (fun _ _ _ h => h) (Or.inr ⟨by kernel_rfl, rfl⟩) hHeld ?_
        try simp only [Act.put, List.setIfInBounds_toArray, List.set_cons_zero, List.set_cons_succ]
        refine wpAnyH_take (i := 13) (oi := { dst := some 24, op := Op.call { callee := Callee.value (Operand.tmp 22), args := #[Operand.tmp 23], argTypes := #[3] }, type := 4, pos := "paper.go:97", after := #[{ on := 11, ground := Ground.data }, { on := 12, ground := Ground.data }, { on := 10, ground := Ground.chain }, { on := 10, ground := Ground.guard }], guard := some (10, true) }) (v := undef) rfl (by kernel_rfl) (by kernel_rfl) (by kernel_rfl) (fun _ _ _ h => h) (Or.inr ⟨by kernel_rfl, rfl⟩) hHeld ?_
        try simp only [Act.put, List.setIfInBounds_toArray, List.set_cons_zero, List.set_cons_succ]
        refine wpAnyH_take (i := 14) (oi := { dst := some 25, op := Op.unOp UnOp.not 4 (Operand.tmp 24), type := 4, pos := "paper.go:97", after := #[{ on := 13, ground := Ground.data }, { on := 10, ground := Ground.guard }], guard := some (10, true) }) (v := undef) rfl (by kernel_rfl) (by kernel_rfl) (by kernel_rfl) (fun _ _ _ h => h) (Or.inr ⟨by kernel_rfl, rfl⟩) hHeld ?_
        try simp only [Act.put, List.setIfInBounds_toArray, List.set_cons_zero, List.set_cons_succ]
        refine wpAnyH_take (i := 15) (oi := { dst := some 26, op := Op.pick (Operand.tmp 21) (Operand.tmp 25) (Operand.const (Value.bool false)), type := 4, pos := "paper.go:97", after := #[{ on := 10, ground := Ground.data }, { on := 14, ground := Ground.data }], guard := none }) (v := ?v15) rfl (by kernel_rfl) (by kernel_rfl) (by kernel_rfl) (fun _ _ _ h => h) (Or.inl ⟨by rfl, ?y15⟩) hHeld ?r15
        case y15 => intro wq hSw; skip; go_simp; try (with_reducible rfl)
        try simp only [Act.put, List.setIfInBounds_toArray, List.set_cons_zero, List.set_cons_succ]
        refine wpAnyH_done (by kernel_rfl) ?_ _
        --END
        have HPW2 := Lib.hid (hpw.out.below (BB.out.mono hws.out) h1.1 h2.1 h3.1)
        have HWS2 := Lib.hid (Nat.le_trans hws.out BB.out.size)
        have HJ2 := Lib.hid (HJG.out _ BB.out)
        gi_wp2_with fail
        go_roundw
        case rel => exact ⟨k + 1, by omega, by go_num, by rw [HCN.out]; exact HJ2, HPW2, HWS2⟩
        case measure => simp [intOf]; omega
    · obtain rfl : k = l.cands := by omega
      gi_wp2_with fail
      go_end0
      exact ⟨⟨_, rfl⟩, .inl ⟨_, rfl, hJp.out⟩⟩
end Go.Proofs.YtejphpcngbjgjaaDoor
namespace Go.Proofs.YtejphpcngbjgjaaDoor
open Go.RowKit Go.Shelf
set_option linter.unusedVariables false
attribute [local go_sem] Oper.semAt_some

theorem own_row_cells25 {w : World} {base e s n : Nat} {v : Value} {xs : List Value} (h : w.ownsRow base e s v n xs) {row : Option Nat} (hr : ∀ r, row = some r → ∃ o : Obj, w.heap[r]? = some o ∧ o.isCells = false) : v.ownBlock = none ∨ v.ownBlock ≠ row := by
  rcases h.2 with ⟨rfl, _⟩ | ⟨g, cap, cur, rfl, _, hg, _⟩
  · exact .inl rfl
  · refine .inr fun e' => ?_
    obtain ⟨o, ho, hc⟩ := hr g (by simpa [Value.ownBlock] using e'.symm)
    rw [hg] at ho; cases ho; cases hc
theorem ow_obj25 {α : Type} {f : α → Value} {w w' : World} {base e c : Nat} {A : Option Addr} {xs : List α} (h : Ow f w base e A c xs) {row : Option Nat} (hg : w.grownBy w' row) (hr : ∀ r, row = some r → ∃ o : Obj, w.heap[r]? = some o ∧ o.isCells = false) : Ow f w' base e A c xs :=
  World.ownsRow.kept h hg (own_row_cells25 h hr)
theorem blk_obj25 {w w' : World} {b t : Nat} {cs : Array Value} (h : Blk w b t cs) {row : Option Nat} (hg : w.grownBy w' row) (hr : ∀ r, row = some r → ∃ o : Obj, w.heap[r]? = some o ∧ o.isCells = false) : Blk w' b t cs :=
  h.grown hg (fun e => by obtain ⟨o, ho, hc⟩ := hr b e.symm; rw [show w.heap[b]? = _ from h] at ho; cases ho; cases hc)
theorem blk_apart25 {A : Option Addr} {B0 Bl : Nat} (h : ∀ k, blk A = some k → B0 ≤ k) (hB : Bl < B0) : blk A = none ∨ blk A ≠ some Bl := by
  cases e : blk A with
  | none => exact .inl rfl
  | some g =>
    refine .inr fun e2 => ?_
    have := h g e
    have := Option.some.inj e2
    omega
theorem KeepX.trans {B0 : Nat} {X : Nat → Prop} {A B C : World} (h : KeepX B0 X A B) (k : KeepX B0 X B C) : KeepX B0 X A C := ⟨Nat.le_trans h.1 k.1, fun i h1 h2 => (k.2 i h1 h2).trans (h.2 i h1 h2)⟩
theorem KeepX.putObj {B0 : Nat} {X : Nat → Prop} (W : World) (r : Nat) (o' : Obj) (hr : B0 ≤ r) : KeepX B0 X W (W.putObj r o') := ⟨by simp, fun k hk _ => World.putObj_heap_other (by omega)⟩
/-- A number of a column, as a value. -/
def nv (x : Nat) : Value := .int .i64 (x : Nat)
theorem nv_one (x : Nat) : (nv x).oneCell' = true := rfl
theorem ow_nz {w : World} {base e c : Nat} {A : Option Addr} {xs : List Nat} (h : Ow nv w base e A c xs) : Ow zv w base e A c (xs.map fun i => ((i : Nat) : Int)) := by
  have e1 : (xs.map fun i => ((i : Nat) : Int)).map zv = xs.map nv := by rw [List.map_map]; rfl
  unfold Ow at h ⊢
  rw [e1, List.length_map]
  exact h

/-- What a round that appends one element to a boxed slice leaves. -/
theorem app_step {α : Type} {f : α → Value} {W w3 : World} {n0 Bl B0 t e c c3 : Nat} {A A3 : Option Addr} {pre zs : List α} {v : Value} {o : Obj} (v3 : Value) (hB : Bl < B0) (hn : n0 ≤ Bl) (hbx : Boxed W Bl t v) (hown : Ow f W B0 e A c pre) (hws : B0 ≤ W.heap.size) (hown3 : Ow f w3 B0 e A3 c3 zs) (hg3 : (W.alloc o).grownBy w3 (blk A)) :
    Boxed w3 Bl t v ∧ KeepsOthers W (w3.setCell ⟨Bl, 0, none⟩ v3) ∧ KeepX B0 (fun k => k = Bl) W (w3.setCell ⟨Bl, 0, none⟩ v3) ∧ Boxed (w3.setCell ⟨Bl, 0, none⟩ v3) Bl t v3 ∧ Ow f (w3.setCell ⟨Bl, 0, none⟩ v3) B0 e A3 c3 zs ∧ Below n0 W (w3.setCell ⟨Bl, 0, none⟩ v3) := by
  have hne : ∀ k, k < B0 → some k ≠ blk A := fun k hk e => by have := (hown.blk_ge k e.symm).1; omega
  have hsz := hg3.size
  rw [World.size_alloc] at hsz
  have hbx3 := (hbx.alloc o).kept hg3 (hne _ hB)
  have hgs := grownBy_setCell' w3 Bl v3
  have hset := hgs.size
  refine ⟨hbx3, ?_, ⟨by omega, fun k hk hkl => ?_⟩, ?_, ?_, ?_⟩
  · refine ((KeepsOthers.alloc W _).trans (KeepsOthers.of_grownBy hg3 fun j o' ej hj => ?_)).trans (KeepsOthers.setCell _ _ _)
    rcases (hown.alloc o).2 with ⟨hv, _⟩ | ⟨g, cap, cur, hv, _, hgb, _⟩
    · simp only [Value.slice.injEq] at hv
      rw [hv.1] at ej
      simp [blk] at ej
    · simp only [Value.slice.injEq] at hv
      rw [hv.1] at ej
      simp [blk] at ej
      subst ej
      rw [hgb] at hj; cases hj; rfl
  · exact (hgs.block k (by omega) (by simpa using hkl)).trans ((hg3.block k (by rw [World.size_alloc]; omega) (hne k hk)).trans (Below.heap_alloc W _ k (by omega)))
  · exact hbx3.set _
  · exact hown3.kept hgs (blk_apart25 (fun k hk => (hown3.blk_ge k hk).1) hB)
  · exact (((Below.refl n0 W).alloc (by omega) _).grown hg3 (by rw [World.size_alloc]; omega) (fun k e => by have := (hown.blk_ge k e).1; omega)).setCell (p := ⟨Bl, 0, none⟩) (by show n0 ≤ Bl; omega) _

/-- Which boxes are marked. -/
def bitsR (R : List Int) : List Bool := R.map fun v => decide (v = 2)
theorem bitsR_len (R : List Int) : (bitsR R).length = R.length := by simp [bitsR]
theorem bitsR_get (R : List Int) (k : Nat) : (bitsR R).getD k false = decide (R.getD k 0 = 2) := by
  unfold bitsR
  rw [List.getD_eq_getElem?_getD, List.getD_eq_getElem?_getD, List.getElem?_map]
  cases R[k]? <;> rfl
theorem colS_bits (R : List Int) (n wide j : Nat) : colS (bitsR R) n wide j = (colK R wide j n).map fun i => ((i : Nat) : Int) := by
  unfold colS colK
  simp only [bitsR_get]

set_option maxRecDepth 100000 in
set_option maxHeartbeats 2000000 in
theorem approval_any (l : Ly) (R : List Int) (g n : Nat) (s : Int) (w : World) (hu : Hb zv w g 88 R) (hR : R.length = n) (hn : n ≤ 1000) (hcol : l.cols = 1) (hcn : l.cands = n) :
    Calls Tryd.prog 56 #[ppv l g n s] w (IntsOver w (marksS (bitsR R) l.most)) := by
  obtain ⟨i0, hi0, hz0, hz1, hz2⟩ := info_parts zInfo
  have HU := Lib.hid hu
  have HRL := Lib.hid hR
  have HCO := Lib.hid hcol
  have HCN := Lib.hid hcn
  have hglt := hu.lt
  clear hu hR hcol hcn
  have HM := Lib.hid (fun wx => markedIn_call l g n s 0 wx)
  unfold ppv pps at HM
  refine (callsIn_wide (n := 6)).1 ?_
  refine callsIn_of_wp_marks Tryd.func56 rfl trivial ?_ rfl
  simp only [Tryd.ntmps56, List.size_toArray, List.length_cons, List.length_nil, Nat.reduceAdd, Nat.reduceSub, Array.replicate_succ, Array.replicate_zero, List.push_toArray, List.append_toArray, List.nil_append, List.cons_append]
  unfold ppv pps
  gi_wp2_with fail
  refine ⟨trivial, (callsIn_wide.2 (HM.out _)).mono ?_⟩
  rintro e w' ⟨rfl, rfl⟩
  gi_wp2_with fail
  have bP0 := Blk.new w 69 #[.int .u8 (l.kind : Nat), .int .i64 l.most, .int .i64 (l.cands : Nat), .int .i64 (l.cols : Nat), .slice (some ⟨g, 0, none⟩) n n, .int .i64 s]
  obtain ⟨P0, hP0⟩ : ∃ P0 : Array Value, P0 = #[.int .u8 (l.kind : Nat), .int .i64 l.most, .int .i64 (l.cands : Nat), .int .i64 (l.cols : Nat), .slice (some ⟨g, 0, none⟩) n n, .int .i64 s] := ⟨_, rfl⟩
  rw [← hP0] at bP0
  have bM0 := Boxed.new (w.alloc (.cells P0 69)) 40 (.slice none 0 0)
  have bQ0 := Blk.new ((w.alloc (.cells P0 69)).alloc (.cells #[.slice none 0 0] 40)) 69 P0
  have bJ0 := Blk.new (((w.alloc (.cells P0 69)).alloc (.cells #[.slice none 0 0] 40)).alloc (.cells P0 69)) 3 #[.int .i64 0]
  have hb0 : Below w.heap.size w ((((w.alloc (.cells P0 69)).alloc (.cells #[.slice none 0 0] 40)).alloc (.cells P0 69)).alloc (.cells #[.int .i64 0] 3)) :=
    ((((Below.refl _ w).alloc (Nat.le_refl _) _).alloc (by simp) _).alloc (by simp; omega) _).alloc (by simp; omega) _
  have bP := ((bP0.alloc (.cells #[.slice none 0 0] 40)).alloc (.cells P0 69)).alloc (.cells #[.int .i64 0] 3)
  have bM := (bM0.alloc (.cells P0 69)).alloc (.cells #[.int .i64 0] 3)
  have bQ := bQ0.alloc (.cells #[.int .i64 0] 3)
  have bJ := bJ0
  have hsz : ((((w.alloc (.cells P0 69)).alloc (.cells #[.slice none 0 0] 40)).alloc (.cells P0 69)).alloc (.cells #[.int .i64 0] 3)).heap.size = w.heap.size + 1 + 1 + 1 + 1 := by simp
  simp only [World.size_alloc] at bM bQ bJ
  clear bP0 bM0 bQ0 bJ0
  rw [← hP0]
  generalize hW0 : ((((w.alloc (.cells P0 69)).alloc (.cells #[.slice none 0 0] 40)).alloc (.cells P0 69)).alloc (.cells #[.int .i64 0] 3)) = W0 at *
  clear hW0
  rw [hP0] at bP bQ ⊢
  clear hP0
  have HSZ := Lib.hid hsz
  have hge : w.heap.size + 1 + 1 + 1 + 1 ≤ W0.heap.size := by omega
  have hpi : PapIn l g n s 0 R (w.heap.size + 1 + 1) (w.heap.size + 1 + 1 + 1) W0 := ⟨bQ, bJ, HU.out.below hb0 hglt⟩
  clear hsz
  refine wpIn_range_new (F := Fence.wide) (n := 6) rfl (by omega) (gf := 65) (lb := #[.pointer (some ⟨w.heap.size + 1 + 1, 0, none⟩), .pointer (some ⟨w.heap.size + 1 + 1 + 1, 0, none⟩)]) rfl trivial (enters_of Tryd.func65 (by kernel_rfl) rfl)
    (markedIn_seq l g n s 0 R (w.heap.size + 1 + 1) (w.heap.size + 1 + 1 + 1) W0.heap.size (fun k => k = w.heap.size + 1) W0 5 (by omega) HRL.out (by omega) (by rw [HCN.out]; exact hn) (fun c hc => by rw [HCO.out]; have := HCN.out; omega) hpi ⟨by omega, by omega⟩ ⟨by omega, by omega⟩ ⟨by omega, by omega⟩ rfl)
    (fun h k => h.trans k)
    (fun W r o o' hr' h1 h2 => KeepX.putObj W r o' hr')
    (fun y s X Y row hs hg hrow => hs) (fun _ => rfl)
    (fun pre W => (∃ A' c', Boxed W (w.heap.size + 1) 40 (.slice A' pre.length c') ∧ Ow nv W W0.heap.size 3 A' c' pre) ∧ Blk W w.heap.size 69 #[.int .u8 (l.kind : Nat), .int .i64 l.most, .int .i64 (l.cands : Nat), .int .i64 (l.cols : Nat), .slice (some ⟨g, 0, none⟩) n n, .int .i64 s] ∧ Below w.heap.size w W ∧ W0.heap.size ≤ W.heap.size)
    (fun _ _ _ => False)
    ?hI ?hIx ?h0
    (fun y => { tmps := #[.agg #[.int .u8 (l.kind : Nat), .int .i64 l.most, .int .i64 (l.cands : Nat), .int .i64 (l.cols : Nat), .slice (some ⟨g, 0, none⟩) n n, .int .i64 s], .pointer (some ⟨w.heap.size, 0, none⟩), .pointer (some ⟨w.heap.size + 1, 0, none⟩), .int .i64 0, .int .i64 (y : Nat),
      .agg #[.int .u8 (l.kind : Nat), .int .i64 l.most, .int .i64 (l.cands : Nat), .int .i64 (l.cols : Nat), .slice (some ⟨g, 0, none⟩) n n, .int .i64 s], .func (.func 65) #[] #[.pointer (some ⟨w.heap.size + 1 + 1, 0, none⟩), .pointer (some ⟨w.heap.size + 1 + 1 + 1, 0, none⟩)], .int .i64 (y : Nat), undef, undef, undef, undef, undef, undef, undef, undef, undef, undef, undef], defers := [] }) ?assign ?body ?done ?stop
  case hI =>
    rintro pre X Y row ⟨⟨A', c', h1, h2⟩, h3, h6, h7⟩ hg hrow
    have hro := fun r e => (hrow r e).2
    exact ⟨⟨A', c', blk_obj25 h1 hg hro, ow_obj25 h2 hg hro⟩, blk_obj25 h3 hg hro, h6.grown hg h6.size (fun k e => by have := (hrow k e).1; omega), Nat.le_trans h7 hg.size⟩
  case hIx => exact fun _ _ _ _ _ hs _ _ => hs
  case h0 => exact ⟨⟨none, 0, bM, Ow.nil _ _ _⟩, bP, hb0, Nat.le_refl _⟩
  case assign =>
    intro r y W K hK
    gi_wp2
    exact hK
  case body =>
    rintro r pre y W ⟨⟨A', c', hbx, hown⟩, hbp, hbw, hws⟩ hy hlt
    have hc1 := hbx.cell
    have hf1 := hbx.frozen
    gi_wp2_with (gi_at_builtin; refine wpListIn_append_f _ nv_one rfl (.tmp 8) (.tmp 10) 40 rfl W0.heap.size 3 8 i0 _ Tryd.underlying40 hi0 hz0 hz1 hz2 (by omega) rfl pre [y] rfl rfl (hown.alloc (.cells #[.int .i64 (y : Nat)] 3)) (rf_one (f := nv) (w := W) y 3) (by simp; omega) (by simp; omega) ?_; intro A3 c3 w3 zs hzs hown3 hg3 hbl3; obtain ⟨s0, s1, s2, s3, s4, s5⟩ := app_step (n0 := w.heap.size) (.slice A3 zs.length c3) (by omega) (by omega) hbx hown hws hown3 hg3; have hc3 := s0.cell; have hf3 := s0.frozen)
    have HZS := hzs.out
    subst HZS
    exact ⟨s1, s2, ⟨A3, c3, s3, s4⟩, s2.blk hbp (by omega) (by omega), hbw.trans s5, Nat.le_trans hws s2.1⟩
  case stop =>
    rintro D c pre W _ _ h _
    exact h.elim
  case done =>
    rintro D ys W hD hS ⟨⟨A', c', hbx, hown⟩, hbp, hbw, hws⟩ hK
    have hc1 := hbx.cell
    have hf1 := hbx.frozen
    have hp1 : W.cell? ⟨w.heap.size, 1, none⟩ = some (.int .i64 l.most) := hbp.cell 1
    have HMS := Lib.hid (show marksS (bitsR R) l.most = if l.most < ((ys.length : Nat) : Int) then ([], 1) else (ys.map fun i => ((i : Nat) : Int), 0) by
      unfold marksS
      rw [bitsR_len, colS_bits, HRL.out, ← HCN.out, ← HCO.out, ← hS]
      simp only [List.length_map])
    have HYL := Lib.hid (show ys.length ≤ 1000 by rw [hS]; have := colK_len R l.cols 0 l.cands; have := HCN.out; omega)
    clear hS
    by_cases hbig : l.most < ((ys.length : Nat) : Int)
    · have HQ := Lib.hid (show marksS (bitsR R) l.most = ([], 1) by rw [HMS.out, if_pos hbig])
      gi_wp2_with fail
      obtain ⟨W2, hW2⟩ : ∃ W2, W2 = W.setCell ⟨w.heap.size + 1, 0, none⟩ (.slice none 0 0) := ⟨_, rfl⟩
      rw [← hW2]
      have hK2 : W2.heap[D]? = some (.deferred (some [])) := by
        rw [hW2]; exact (KeepsOthers.setCell W ⟨w.heap.size + 1, 0, none⟩ (.slice none 0 0)).same D _ hK rfl
      have hb2 : Below w.heap.size w W2 := by
        rw [hW2]; exact hbw.setCell (p := ⟨w.heap.size + 1, 0, none⟩) (Nat.le_succ _) _
      have hm2 : Boxed W2 (w.heap.size + 1) 40 (.slice none 0 0) := by rw [hW2]; exact hbx.set _
      have hgp := grownBy_putObj' W2 D (.deferred none)
      have hro : ∀ r, some D = some r → ∃ o : Obj, W2.heap[r]? = some o ∧ o.isCells = false := fun r e => by cases e; exact ⟨_, hK2, rfl⟩
      have hr3 : World.cell? (W2.putObj D (.deferred none)) ⟨w.heap.size + 1, 0, none⟩ = some (.slice none 0 0) := Boxed.cell (blk_obj25 hm2 hgp hro)
      refine ⟨by simp, .inl ⟨_, _, rfl, run_takeDeferred hK2, ?_⟩⟩
      refine ⟨.tuple #[.slice none 0 0, .int .i64 1], ?_, ?_⟩
      · simp [results, Tryd.f56, go_sem, hr3]
      · rw [HQ.out]
        exact ⟨none, 0, [], 1, rfl, rfl, Ow.nil _ _ _, hb2.trans (belowK_b (w := W0) (by omega) W2 D _ _ hD hK2 rfl rfl)⟩
    · have HQ := Lib.hid (show marksS (bitsR R) l.most = (ys.map fun i => ((i : Nat) : Int), 0) by rw [HMS.out, if_neg hbig])
      gi_wp2_with fail
      obtain ⟨W2, hW2⟩ : ∃ W2, W2 = W.setCell ⟨w.heap.size + 1, 0, none⟩ (.slice A' ys.length c') := ⟨_, rfl⟩
      rw [← hW2]
      have hK2 : W2.heap[D]? = some (.deferred (some [])) := by
        rw [hW2]; exact (KeepsOthers.setCell W ⟨w.heap.size + 1, 0, none⟩ (.slice A' ys.length c')).same D _ hK rfl
      have hb2 : Below w.heap.size w W2 := by
        rw [hW2]; exact hbw.setCell (p := ⟨w.heap.size + 1, 0, none⟩) (Nat.le_succ _) _
      have hm2 : Boxed W2 (w.heap.size + 1) 40 (.slice A' ys.length c') := by rw [hW2]; exact hbx.set _
      have hgp := grownBy_putObj' W2 D (.deferred none)
      have hro : ∀ r, some D = some r → ∃ o : Obj, W2.heap[r]? = some o ∧ o.isCells = false := fun r e => by cases e; exact ⟨_, hK2, rfl⟩
      have hr3 : World.cell? (W2.putObj D (.deferred none)) ⟨w.heap.size + 1, 0, none⟩ = some (.slice A' ys.length c') := Boxed.cell (blk_obj25 hm2 hgp hro)
      have hown2 : Ow nv W2 W0.heap.size 3 A' c' ys := by
        rw [hW2]; exact hown.kept (grownBy_setCell' W (w.heap.size + 1) (.slice A' ys.length c')) (blk_apart25 (fun k hk => (hown.blk_ge k hk).1) (by omega))
      refine ⟨by simp, .inl ⟨_, _, rfl, run_takeDeferred hK2, ?_⟩⟩
      refine ⟨.tuple #[.slice A' ys.length c', .int .i64 0], ?_, ?_⟩
      · simp [results, Tryd.f56, go_sem, hr3]
      · rw [HQ.out]
        exact ⟨A', c', ys.map fun i => ((i : Nat) : Int), 0, by rw [List.length_map], rfl, (ow_nz (ow_obj25 hown2 hgp hro)).lower (by omega), hb2.trans (belowK_b (w := W0) (by omega) W2 D _ _ hD hK2 rfl rfl)⟩
end Go.Proofs.YtejphpcngbjgjaaDoor
namespace Go.Proofs.YtejphpcngbjgjaaDoor
open Go.RowKit
set_option linter.unusedVariables false

set_option maxRecDepth 100000 in
set_option maxHeartbeats 1000000 in
theorem indexZ_any (l : List Int) (x : Int) (A : Option Addr) (c : Nat) (w : World) (hr : Rf zv w w.heap.size A c l) (hl : l.length ≤ 1000000) :
    Calls Tryd.prog 67 #[.slice A l.length c, .int .i64 x] w fun e w' => ∃ k : Int, e = .returned (.int .i64 k) ∧ Hid (decide (0 ≤ k) = decide (x ∈ l)) ∧ w' = w := by
  go_enter Tryd.func67, Tryd.ntmps67
  go_wp2_with fail
  go_loop [8] (fun i' => ∃ k : Nat, k ≤ l.length ∧ i' = .int .i64 k ∧ Hid (∀ j (h : j < l.length), j < k → l[j] ≠ x)) (fun i' => l.length - (intOf i').toNat)
  case atStart => exact ⟨0, Nat.zero_le _, rfl, fun j h hj => absurd hj (Nat.not_lt_zero j)⟩
  case round =>
    obtain ⟨k, hk, rfl, hpre⟩ := hrel
    by_cases hlt : k < l.length
    · obtain ⟨b, o, rfl, hbb, hc⟩ := hr.at_ hlt
      have f1 := hc k hlt
      obtain ⟨y, hy⟩ : ∃ y, y = l[k] := ⟨_, rfl⟩
      rw [← hy] at f1
      unfold zv at f1
      by_cases he : x = y
      · have hbe : (x == y) = true := by simpa using he
        have HA := Lib.hid (show decide (x ∈ l) = true by rw [decide_eq_true_iff, he, hy]; exact List.getElem_mem hlt)
        clear hc hy
        go_wp2_with fail
        go_ret
        have hin := of_decide_eq_true HA.out
        rw [he] at hin
        exact ⟨_, rfl, Lib.hid ⟨fun _ => hin, fun _ => by omega⟩, rfl⟩
      · have HN := Lib.hid (show ∀ j (h : j < l.length), j < k + 1 → l[j] ≠ x from fun j h hj => by
          by_cases e : j = k
          · subst e; rw [← hy]; exact fun h => he h.symm
          · exact hpre.out j h (by omega))
        have hbe : (x == y) = false := by simpa using he
        clear hc hy
        go_wp2_with fail
        go_round
        case rel => exact ⟨k + 1, by omega, by go_num, HN⟩
        case measure => simp [intOf]; omega
    · have HA := Lib.hid (show decide (x ∈ l) = false by
        rw [decide_eq_false_iff_not]
        intro hd
        obtain ⟨j, hj, e⟩ := List.getElem_of_mem hd
        exact hpre.out j hj (by omega) e)
      obtain rfl : k = l.length := by omega
      go_wp2_with fail
      go_ret
      have hno := of_decide_eq_false HA.out
      exact ⟨_, rfl, Lib.hid ⟨fun h => by omega, fun h => absurd h hno⟩, rfl⟩
set_option maxRecDepth 100000 in
set_option maxHeartbeats 400000 in
theorem containsZ_any (l : List Int) (x : Int) (A : Option Addr) (c : Nat) (w : World) (hr : Rf zv w w.heap.size A c l) (hl : l.length ≤ 1000000) :
    Calls Tryd.prog 61 #[.slice A l.length c, .int .i64 x] w fun e w' => e = .returned (.bool (decide (x ∈ l))) ∧ w' = w := by
  have HI := Lib.hid (indexZ_any l x A c w hr hl)
  clear hr
  go_enter Tryd.func61, Tryd.ntmps61
  go_wp2_with fail
  refine HI.out.mono ?_
  rintro e w1 ⟨k, rfl, hk, hw⟩
  obtain rfl := hw.symm
  have HK := hk
  clear hk
  by_cases h : 0 ≤ k
  · have d1 : decide ((0 : Int) ≤ k) = true := by simpa using h
    have HQ := Lib.hid (show decide (x ∈ l) = true by rw [← HK.out]; exact d1)
    clear h
    go_wp2_with fail
    go_ret
    exact ⟨by rw [HQ.out] <;> rfl, rfl⟩
  · have d1 : decide ((0 : Int) ≤ k) = false := by simpa using h
    have HQ := Lib.hid (show decide (x ∈ l) = false by rw [← HK.out]; exact d1)
    clear h
    go_wp2_with fail
    go_ret
    exact ⟨by rw [HQ.out] <;> rfl, rfl⟩

/-- The scores below k whose boxes are marked for a candidate. -/
def rowK (R : List Int) (wide i k : Nat) : List Nat := (List.range k).filter fun j => decide (R.getD (i * wide + j) 0 = 2)
theorem rowK_yes {R : List Int} {wide i k : Nat} (h : R.getD (i * wide + k) 0 = 2) : rowK R wide i (k + 1) = rowK R wide i k ++ [k] := by
  unfold rowK
  rw [List.range_succ, List.filter_append]
  congr 1
  rw [List.filter_cons, if_pos (by simpa using h)]; rfl
theorem rowK_no {R : List Int} {wide i k : Nat} (h : ¬ R.getD (i * wide + k) 0 = 2) : rowK R wide i (k + 1) = rowK R wide i k := by
  unfold rowK
  rw [List.range_succ, List.filter_append, List.filter_cons, if_neg (by simpa using h)]
  simp
theorem rowK_len (R : List Int) (wide i k : Nat) : (rowK R wide i k).length ≤ k := by
  unfold rowK
  have := List.length_filter_le (fun j => decide (R.getD (i * wide + j) 0 = 2)) (List.range k)
  simpa using this
theorem scoreJs_bits (R : List Int) (i : Nat) : scoreJs (bitsR R) i = rowK R 11 i 11 := by
  unfold scoreJs rowK
  simp only [bitsR_get]

set_option maxRecDepth 100000 in
set_option maxHeartbeats 4000000 in
theorem scoresOf_any (l : Ly) (R : List Int) (g n : Nat) (s : Int) (i : Nat) (w : World) (hu : Hb zv w g 88 R) (hR : R.length = n) (hn : n ≤ 1000000) (hc : l.cols ≤ 1000) (hin : ∀ j, j < l.cols → i * l.cols + j < n) :
    Calls Tryd.prog 62 #[ppv l g n s, .int .i64 (i : Nat)] w fun e w' => ∃ A c r, e = .returned (.slice A r.length c) ∧ r = rowK R l.cols i l.cols ∧ Ow nv w' w.heap.size 3 A c r ∧ Below w.heap.size w w' := by
  obtain ⟨i0, hi0, hz0, hz1, hz2⟩ := info_parts zInfo
  have HI0 := Lib.hid hi0
  have HZ0 := Lib.hid hz0
  have HZ1 := Lib.hid hz1
  have HZ2 := Lib.hid hz2
  have HU := Lib.hid hu
  have HRL := Lib.hid hR
  have HIN := Lib.hid hin
  have hglt := hu.lt
  have HBX := Lib.hid (fun (j : Nat) (hj : j < l.cols) wx => box_any l i j wx (by have := hin j hj; omega))
  have B0 := Lib.hid (below_new w (.cells (pps l g n s) 69))
  have HP0 := Lib.hid (Blk.new w 69 (pps l g n s))
  clear hu hR hin hi0 hz0 hz1 hz2
  unfold pps at B0 HP0
  unfold ppv pps
  go_enter Tryd.func62, Tryd.ntmps62
  go_wp2_with fail
  go_loopw [5, 10] (fun f i' wr => ∃ (k : Nat) (A : Option Addr) (c : Nat) (r : List Nat), k ≤ l.cols ∧ f = .slice A r.length c ∧ i' = .int .i64 k ∧ Hid (r = rowK R l.cols i k) ∧ Hid (Ow nv wr w.heap.size 3 A c r) ∧ Hid (Blk wr w.heap.size 69 #[.int .u8 (l.kind : Nat), .int .i64 l.most, .int .i64 (l.cands : Nat), .int .i64 (l.cols : Nat), .slice (some ⟨g, 0, none⟩) n n, .int .i64 s]) ∧ Hid (Below w.heap.size w wr)) (fun _ i' _ => l.cols - (intOf i').toNat)
  case atStart => exact ⟨0, none, 0, [], Nat.zero_le _, rfl, rfl, rfl, Ow.nil _ _ _, HP0, B0⟩
  case round =>
    obtain ⟨k, A, c, r, hk, rfl, rfl, hr, hown, hp, hbw⟩ := hrel
    have hsz := hbw.out.size
    by_cases hlt : k < l.cols
    · have hix := HIN.out k hlt
      have hbx := HBX.out k hlt
      have HY := Lib.hid (rowK_yes (R := R) (wide := l.cols) (i := i) (k := k))
      have HN := Lib.hid (rowK_no (R := R) (wide := l.cols) (i := i) (k := k))
      obtain ⟨q, hq⟩ : ∃ q, q = i * l.cols + k := ⟨_, rfl⟩
      rw [← hq] at hix hbx HY HN
      have HBK := Lib.hid hbx
      have hqR : q < R.length := by have := HRL.out; omega
      have hgd : R.getD q 0 = R[q] := by simp [List.getD, hqR]
      have hst := HU.out.below hbw.out hglt
      have HFA := Lib.hid (show ∀ wx, Below wr.heap.size wr wx → (wx.cell? ⟨w.heap.size, 0, none⟩ = some (.int .u8 (l.kind : Nat)) ∧ wx.cell? ⟨w.heap.size, 1, none⟩ = some (.int .i64 l.most) ∧ wx.cell? ⟨w.heap.size, 2, none⟩ = some (.int .i64 (l.cands : Nat)) ∧ wx.cell? ⟨w.heap.size, 3, none⟩ = some (.int .i64 (l.cols : Nat)) ∧ wx.cell? ⟨w.heap.size, 4, none⟩ = some (.slice (some ⟨g, 0, none⟩) n n) ∧ wx.cell? ⟨g, q, none⟩ = some (.int .i64 R[q])) from fun wx hb => by
        have h1 := hp.out.below hb hp.out.lt
        have h2 := hst.below hb (by omega)
        exact ⟨h1.cell 0, h1.cell 1, h1.cell 2, h1.cell 3, h1.cell 4, h2.cell hqR⟩)
      obtain ⟨v, hv⟩ : ∃ v, v = R[q] := ⟨_, rfl⟩
      rw [← hv] at hgd HFA
      rw [hgd] at HY HN
      have hF0 := HFA.out _ (Below.refl wr.heap.size wr).drew
      unfold lyv lys at HBK
      clear hst hbx hq hv hgd
      by_cases hv2 : v = 2
      · have HY2 := Lib.hid (HY.out hv2)
        subst hv2
        go_wp2_with fail
        go_region_held3 (fun w' => (w'.cell? ⟨w.heap.size, 0, none⟩ = some (.int .u8 (l.kind : Nat)) ∧ w'.cell? ⟨w.heap.size, 1, none⟩ = some (.int .i64 l.most) ∧ w'.cell? ⟨w.heap.size, 2, none⟩ = some (.int .i64 (l.cands : Nat)) ∧ w'.cell? ⟨w.heap.size, 3, none⟩ = some (.int .i64 (l.cols : Nat)) ∧ w'.cell? ⟨w.heap.size, 4, none⟩ = some (.slice (some ⟨g, 0, none⟩) n n) ∧ w'.cell? ⟨g, q, none⟩ = some (.int .i64 2))) (first | exact hF0 | exact hF2) (first
          | (go_simp; go_at_call 66; refine (HBK.out _).mono ?_; rintro e w2 ⟨rfl, hb2⟩; have BB := Lib.hid ((Below.refl wr.heap.size wr).drew.trans hb2); have hF2 := HFA.out _ BB.out; clear hb2))
        have B2 := Lib.hid (hbw.out.trans (BB.out.mono hsz))
        have HO2 := Lib.hid (hown.out.below (Nat.le_refl _) BB.out)
        have HP2 := Lib.hid (hp.out.below BB.out hp.out.lt)
        have HRL2 := Lib.hid (show r.length ≤ 1000 by rw [hr.out]; have := rowK_len R l.cols i k; omega)
        go_wp2_with (at_builtin; refine wpList_append_f _ nv_one rfl (.tmp 23) (.tmp 25) 40 rfl w.heap.size 3 8 i0 _ Tryd.underlying40 HI0.out HZ0.out HZ1.out HZ2.out (by omega) rfl r [k] rfl rfl (HO2.out.alloc (.cells #[.int .i64 (k : Nat)] 3)) (rf_one (f := nv) (w := w2) k 3) (by have := HRL2.out; simp; omega) (by have := B2.out.size; simp; omega) ?_; intro A8 c8 w8 r8 hr8 ho8 hg8 hb8)
        have B8 := Lib.hid ((B2.out.alloc B2.out.size (.cells #[.int .i64 (k : Nat)] 3)).grown hg8 (by have := B2.out.size; simp; omega) (fun j hj => (HO2.out.blk_ge j hj).1))
        have HP8 := Lib.hid (blk_keep (HP2.out.alloc (.cells #[.int .i64 (k : Nat)] 3)) (HO2.out.alloc (.cells #[.int .i64 (k : Nat)] 3)) (by decide) hg8)
        have HM8 := Lib.hid (show r8 = rowK R l.cols i (k + 1) by rw [hr8.out, hr.out, HY2.out])
        go_wp2_with fail
        go_roundw
        case rel => exact ⟨k + 1, A8, c8, r8, by omega, rfl, by go_num, HM8, ho8, HP8, B8⟩
        case measure => simp [intOf]; omega
      · have HN2 := Lib.hid (HN.out hv2)
        have e1 : (v == 2) = false := by rw [beq_eq_false_iff_ne]; exact hv2
        go_wp2_with fail
        go_region_held3 (fun w' => (w'.cell? ⟨w.heap.size, 0, none⟩ = some (.int .u8 (l.kind : Nat)) ∧ w'.cell? ⟨w.heap.size, 1, none⟩ = some (.int .i64 l.most) ∧ w'.cell? ⟨w.heap.size, 2, none⟩ = some (.int .i64 (l.cands : Nat)) ∧ w'.cell? ⟨w.heap.size, 3, none⟩ = some (.int .i64 (l.cols : Nat)) ∧ w'.cell? ⟨w.heap.size, 4, none⟩ = some (.slice (some ⟨g, 0, none⟩) n n) ∧ w'.cell? ⟨g, q, none⟩ = some (.int .i64 v))) (first | exact hF0 | exact hF2) (first
          | (go_simp; go_at_call 66; refine (HBK.out _).mono ?_; rintro e w2 ⟨rfl, hb2⟩; have BB := Lib.hid ((Below.refl wr.heap.size wr).drew.trans hb2); have hF2 := HFA.out _ BB.out; clear hb2))
        have B2 := Lib.hid (hbw.out.trans (BB.out.mono hsz))
        have HO2 := Lib.hid (hown.out.below (Nat.le_refl _) BB.out)
        have HP2 := Lib.hid (hp.out.below BB.out hp.out.lt)
        have HM8 := Lib.hid (show r = rowK R l.cols i (k + 1) by rw [hr.out, HN2.out])
        go_wp2_with fail
        go_roundw
        case rel => exact ⟨k + 1, A, c, r, by omega, rfl, by go_num, HM8, HO2, HP2, B2⟩
        case measure => simp [intOf]; omega
    · obtain rfl : k = l.cols := by omega
      go_wp2_with fail
      go_ret
      exact ⟨A, c, r, rfl, hr.out, hown.out, hbw.out⟩

/-- The marks behind k candidates, the rest still 0. -/
def scF (m : List Bool) (n k : Nat) : List Int := scS m k ++ List.replicate (n - k) 0
theorem scS_len (m : List Bool) (k : Nat) : (scS m k).length = k := by simp [scS]
theorem scF_len (m : List Bool) {n k : Nat} (h : k ≤ n) : (scF m n k).length = n := by unfold scF; rw [List.length_append, scS_len, List.length_replicate]; omega
theorem scF_zero (m : List Bool) (n : Nat) : scF m n 0 = List.replicate n 0 := by simp [scF, scS]
theorem scF_end (m : List Bool) (n : Nat) : scF m n n = scS m n := by simp [scF]
theorem scF_step (m : List Bool) {n k : Nat} (h : k < n) : (scF m n k).set k (scoreOf (scoreJs m k)) = scF m n (k + 1) := by
  unfold scF
  rw [List.set_append_right (h := by rw [scS_len]; omega), scS_len, Nat.sub_self, scS_succ, List.append_assoc]
  congr 1
  rw [show n - k = (n - (k + 1)) + 1 by omega, List.replicate_succ]
  rfl
theorem scF_same (m : List Bool) {n k : Nat} (h : k < n) (hz : scoreOf (scoreJs m k) = 0) : scF m n k = scF m n (k + 1) := by
  unfold scF
  rw [scS_succ, hz, List.append_assoc]
  congr 1
  rw [show n - k = (n - (k + 1)) + 1 by omega, List.replicate_succ]
  rfl
theorem hbz_own {w : World} {g base n : Nat} {L : List Int} (h : Hb zv w g 3 L) (hL : L.length = n) (hb : base ≤ g) (hn : n ≤ 1000000) : Ow zv w base 3 (some ⟨g, 0, none⟩) n L := by
  subst hL
  exact ⟨by simp, .inr ⟨g, L.length, (L.map zv).toArray, rfl, hb, h.heap, Nat.le_refl _, by unfold maxLen; omega, by simp, by simp; exact List.take_of_length_le (by simp)⟩⟩

set_option maxRecDepth 100000 in
set_option maxHeartbeats 4000000 in
theorem scores_any (l : Ly) (R : List Int) (g n : Nat) (s : Int) (w : World) (hu : Hb zv w g 88 R) (hR : R.length = n) (hn : n = l.cands * 11) (hcol : l.cols = 11) (hc : l.cands ≤ 1000) :
    Calls Tryd.prog 55 #[ppv l g n s] w (IntsOver w (scoresS (bitsR R) l.cands)) := by
  obtain ⟨i0, hi0, hz0, hz1, hz2⟩ := info_parts zInfo
  have HI := Lib.hid hi0
  have HZ0 := Lib.hid hz0
  have HZ1 := Lib.hid hz1
  have HZ2 := Lib.hid hz2
  have hglt := hu.lt
  obtain ⟨wA, hwA⟩ : ∃ wA, wA = w.alloc (.cells (pps l g n s) 69) := ⟨_, rfl⟩
  have B0 := Lib.hid (show Below w.heap.size w wA from by rw [hwA]; exact below_new w _)
  have HP0 := Lib.hid (show Blk wA w.heap.size 69 (pps l g n s) from by rw [hwA]; exact Blk.new w 69 (pps l g n s))
  have HSZ := Lib.hid (show wA.heap.size = w.heap.size + 1 by rw [hwA]; simp)
  have HSC := Lib.hid (fun (i : Nat) (hi : i < l.cands) wx (hb : Below w.heap.size w wx) => scoresOf_any l R g n s i wx (hu.below hb hglt) hR (by omega) (by omega) (fun j hj => by rw [hcol] at hj ⊢; omega))
  have HJS := Lib.hid (show ∀ i, rowK R l.cols i l.cols = scoreJs (bitsR R) i from fun i => by rw [scoreJs_bits, hcol])
  have HEND := Lib.hid (show scoresS (bitsR R) l.cands = (scS (bitsR R) l.cands, ((ovS (bitsR R) l.cands : Nat) : Int)) from rfl)
  obtain ⟨m, hm⟩ : ∃ m, m = bitsR R := ⟨_, rfl⟩
  rw [← hm] at HJS HEND ⊢
  clear hu hR hcol hn hi0 hz0 hz1 hz2 hm
  unfold ppv pps at HSC
  unfold pps at HP0 hwA
  unfold ppv pps
  go_enter Tryd.func55, Tryd.ntmps55
  go_wp2_with (at_make; rw [← hwA]; refine wpList_make_z _ 40 3 i0 Tryd.underlying40 HI.out HZ0.out HZ1.out HZ2.out rfl _ _ rfl l.cands rfl rfl (by omega) ?_; intro w3 hu3 hb3 hs3)
  have HP3 := Lib.hid (HP0.out.below hb3 HP0.out.lt)
  have HB3 := Lib.hid (B0.out.trans (hb3.mono B0.out.size))
  have HU3 := Lib.hid (show Hb zv w3 (w.heap.size + 1) 3 (scF m l.cands 0) by rw [scF_zero, ← HSZ.out]; exact hu3)
  obtain ⟨gm, hgm⟩ : ∃ gm, gm = w.heap.size + 1 := ⟨_, rfl⟩
  try rw [HSZ.out]
  rw [← hgm] at HU3 ⊢
  have HG := Lib.hid (show w.heap.size < gm by omega)
  clear hwA hu3 hb3 hs3 hgm
  go_loopw [3, 12] (fun f i' wr => ∃ k : Nat, k ≤ l.cands ∧ f = .int .i64 (ovS m k : Nat) ∧ i' = .int .i64 k ∧ Hid (Hb zv wr gm 3 (scF m l.cands k)) ∧ Hid (Blk wr w.heap.size 69 #[.int .u8 (l.kind : Nat), .int .i64 l.most, .int .i64 (l.cands : Nat), .int .i64 (l.cols : Nat), .slice (some ⟨g, 0, none⟩) n n, .int .i64 s]) ∧ Hid (Below w.heap.size w wr)) (fun _ i' _ => l.cands - (intOf i').toNat)
  case atStart => exact ⟨0, Nat.zero_le _, rfl, rfl, HU3, HP3, HB3⟩
  case round =>
    obtain ⟨k, hk, rfl, rfl, hu, hp, hbw⟩ := hrel
    have hsz := hbw.out.size
    by_cases hlt : k < l.cands
    · have HST := Lib.hid (scF_step m hlt)
      have HSM := Lib.hid (scF_same m hlt)
      have HOV := Lib.hid (ovS_succ m k)
      have hovk := ovS_le m k
      have HK := Lib.hid (HSC.out k hlt wr hbw.out)
      have p0 : wr.cell? ⟨w.heap.size, 0, none⟩ = some (.int .u8 (l.kind : Nat)) := hp.out.cell 0
      have p1 : wr.cell? ⟨w.heap.size, 1, none⟩ = some (.int .i64 l.most) := hp.out.cell 1
      have p2 : wr.cell? ⟨w.heap.size, 2, none⟩ = some (.int .i64 (l.cands : Nat)) := hp.out.cell 2
      have p3 : wr.cell? ⟨w.heap.size, 3, none⟩ = some (.int .i64 (l.cols : Nat)) := hp.out.cell 3
      have p4 : wr.cell? ⟨w.heap.size, 4, none⟩ = some (.slice (some ⟨g, 0, none⟩) n n) := hp.out.cell 4
      have p5 : wr.cell? ⟨w.heap.size, 5, none⟩ = some (.int .i64 s) := hp.out.cell 5
      obtain ⟨ov, hov⟩ : ∃ ov, ov = ovS m k := ⟨_, rfl⟩
      rw [← hov] at HOV hovk ⊢
      clear hov
      go_wp2_with fail
      refine HK.out.mono ?_
      rintro e w2 ⟨A, c, r, rfl, hr, hown, hb2⟩
      have B2 := Lib.hid (hbw.out.trans (hb2.mono hsz))
      have HU2 := Lib.hid (hu.out.below hb2 hu.out.lt)
      have HP2 := Lib.hid (hp.out.below hb2 hp.out.lt)
      have HR := Lib.hid (show scoreJs m k = r by rw [hr, HJS.out])
      have HO := Lib.hid hown
      clear hr hown hb2 p0 p1 p2 p3 p4 p5
      match r, HR, HO with
      | [], HR, HO =>
        have HM := Lib.hid (show Hb zv w2 gm 3 (scF m l.cands (k + 1)) by rw [← HSM.out (by rw [HR.out]; rfl)]; exact HU2.out)
        have HV := Lib.hid (show ovS m (k + 1) = ov by rw [HOV.out, HR.out]; rfl)
        go_wp2_with fail
        go_roundw
        case rel => exact ⟨k + 1, by omega, by rw [HV.out], by go_num, HM, HP2, B2⟩
        case measure => simp [intOf]; omega
      | [x], HR, HO =>
        obtain ⟨b, o, rfl, hbb, hcc⟩ := HO.out.rd.at_ (k := 0) (by simp)
        have hcx := hcc 0 (by simp)
        simp only [List.getElem_cons_zero, Nat.add_zero] at hcx
        unfold nv at hcx
        have hfr := HU2.out.frozen k
        have hcg := HU2.out.cell (i := k) (by rw [scF_len _ hk]; exact hlt)
        unfold zv at hcg
        have HV := Lib.hid (show ovS m (k + 1) = ov by rw [HOV.out, HR.out]; rfl)
        have HX := Lib.hid (show scoreOf (scoreJs m k) = ((x : Nat) : Int) by rw [HR.out]; rfl)
        clear hcc
        go_wp2_with fail
        go_roundw
        case rel =>
          refine ⟨k + 1, by omega, by rw [HV.out], by go_num, ?_, HP2.out.far (by have := HG.out; simp; omega) _, B2.out.setCell (by have := HG.out; simp; omega) _⟩
          have h := HU2.out.set_ k (scoreOf (scoreJs m k)) _ rfl
          rw [HST.out, HX.out] at h
          exact h
        case measure => simp [intOf]; omega
      | x :: y :: r, HR, HO =>
        have HM := Lib.hid (show Hb zv w2 gm 3 (scF m l.cands (k + 1)) by rw [← HSM.out (by rw [HR.out]; rfl)]; exact HU2.out)
        have HV := Lib.hid (show ovS m (k + 1) = ov + 1 by rw [HOV.out, HR.out]; simp)
        obtain ⟨N, hN⟩ : ∃ N, N = (x :: y :: r).length := ⟨_, rfl⟩
        have hN2 : 2 ≤ N := by rw [hN]; simp
        rw [← hN]
        have e0 : ((N : Int) == 0) = false := by rw [beq_eq_false_iff_ne]; omega
        have e1 : ((N : Int) == 1) = false := by rw [beq_eq_false_iff_ne]; omega
        have d0 : ¬ (N : Int) = 0 := by omega
        have d1 : ¬ (N : Int) = 1 := by omega
        clear hN
        go_wp2_with fail
        go_roundw
        case rel => exact ⟨k + 1, by omega, by rw [HV.out]; go_num, by go_num, HM, HP2, B2⟩
        case measure => simp [intOf]; omega
    · obtain rfl : k = l.cands := by omega
      go_wp2_with fail
      go_ret2
      rw [HEND.out]
      have hb := hu.out
      rw [scF_end] at hb
      refine ⟨some ⟨gm, 0, none⟩, l.cands, scS m l.cands, _, by rw [scS_len] <;> rfl, rfl, hbz_own hb (scS_len _ _) (by have := HG.out; omega) (by omega), hbw.out⟩
end Go.Proofs.YtejphpcngbjgjaaDoor
