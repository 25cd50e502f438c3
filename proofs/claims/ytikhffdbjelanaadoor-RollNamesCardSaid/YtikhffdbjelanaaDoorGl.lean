/- RollCounts. RollNames. -/
import Derived.Test.YtikhffdbjelanaaDoorGk
import Derived.Test.YtikhffdbjelanaaDoorGe
namespace Go.Proofs.YtikhffdbjelanaaDoor
open Go.RowKit
set_option linter.unusedVariables false

/-- A block that the law made itself is written: what lies below the law's start stays; here: lists whose blocks lie below B0. -/
theorem MemV.put {w0 w w' : World} {l : List Vt} {A : Option Addr} {c g : Nat} (h : MemV w0 w [(A, c, l)] []) (hg : w.grownBy w' (some g)) (h0 : w0.heap.size ≤ g) (hA : g + 1 < w.heap.size + 100000) (hr : Rvt w0 w0.heap.size A c l) : MemV w0 w' [(A, c, l)] [] := by
  have hb : Below w0.heap.size w0 w' := h.bel.grown hg h.bel.size (fun k e => by cases e; exact h0)
  refine ⟨hb, fun p hp => ?_, by simp⟩
  rcases List.mem_cons.1 hp with e | hp
  · subst e
    exact (hr.below hb).more hb.size
  · cases hp
theorem sumV_le (l : List Vt) (s : Nat) (h : ∀ v ∈ l, mayV v = true) (n : Nat) : sumV l s n ≤ l.length := by
  rw [sumV_eq l s (fun v hv => ((mayV_iff v).1 (h v hv)).2.1)]
  exact List.countP_le_length

theorem wpList_store_to4 {w : World} {ops : Array Oper} {rest : List Oper} {o : Oper} {a : Act} {Q : Exit → Act → World → Prop} (hgd : o.guard = none) (y z : Operand) (ho : o.op = .store 34 y z)
    (g : Nat) (hx : a.eval y = .pointer (some ⟨g, 0, none⟩)) {old : Array Value} (hB : Blk w g 34 old) (hold : old.size = 4) (i1 i2 i3 i4 : Int) (hy : a.eval z = .agg #[.int .i64 i1, .int .i64 i2, .int .i64 i3, .int .i64 i4])
    (h : ∀ w', Blk w' g 34 #[.int .i64 i1, .int .i64 i2, .int .i64 i3, .int .i64 i4] → w.grownBy w' (some g) → wpList Tryd.prog ops Q rest (a.put o.dst undef) w') : wpList Tryd.prog ops Q (o :: rest) a w :=
  wpList_store_row hgd _ y z ho g _ hx hy 34 old hB size_to hold (by simp [Value.oneCell']) (h _ (setRow_heap w g _ _ _ _ hB) (grown_setRow24 w g _))

set_option maxRecDepth 100000 in
set_option maxHeartbeats 4000000 in
theorem rollCounts_any {T : World → Prop} (K : Con24 T) (l : List Vt) (A : Option Addr) (c : Nat) (n : List UInt8) (o : Int) (w : World) (hr : Rvt w w.heap.size A c l) (hs : ∀ v ∈ l, v.state ≤ 255) (hp : ∀ v ∈ l, -9223372036854775808 ≤ v.pre ∧ v.pre ≤ 9223372036854775807) (hT : T w) :
    Calls Tryd.prog 9 #[.slice A l.length c, .string ⟨n.toArray⟩, .int .i64 o] w fun e w' => e = .returned (.bool true) ∧ Below w.heap.size w w' := by
  have HK := Lib.hid K
  have HT := Lib.hid hT
  have HG := Lib.hid (fun wx (hb : Below w.heap.size w wx) => refGreat_any l A c wx ((hr.below hb).more hb.size))
  have M0 := Lib.hid (show MemV w w [(A, c, l)] [] from ⟨Below.refl _ _, by simp [hr], by simp⟩)
  have HA := Lib.hid (aliveV_any K w hT)
  have HR0 := Lib.hid hr
  clear K hT hr
  cases hg : greatV l with
  | true =>
    have HGB := Lib.hid hg
    clear hg
    go_enter Tryd.func9, Tryd.ntmps9
    go_wp2_with fail
    refine HA.out.mono ?_
    rintro e w1 ⟨rfl, hb⟩
    have M1 := Lib.hid (M0.out.below hb)
    clear hb
    go_wp2_with fail
    refine (HG.out _ M1.out.bel).mono ?_
    rintro e w2 ⟨rfl, hw⟩
    obtain rfl := hw.symm
    rw [HGB.out]
    go_wp2_with fail
    go_ret
    exact ⟨rfl, M1.out.bel⟩
  | false =>
  have HGB := Lib.hid hg
  obtain ⟨h100, h1000⟩ := greatV_no hg
  have HOK := Lib.hid (show VtOk l from ⟨by omega, fun v hv => Nat.le_trans (h1000 v hv) (by decide), hs, hp⟩)
  clear hg hs hp h1000
  by_cases hbig : 1000 < n.length
  · have hbd : decide ((1000 : Int) < (n.length : Int)) = true := by simp; omega
    clear hbig
    go_enter Tryd.func9, Tryd.ntmps9
    go_wp2_with fail
    refine HA.out.mono ?_
    rintro e w1 ⟨rfl, hb⟩
    have M1 := Lib.hid (M0.out.below hb)
    clear hb
    go_wp2_with fail
    refine (HG.out _ M1.out.bel).mono ?_
    rintro e w2 ⟨rfl, hw⟩
    obtain rfl := hw.symm
    rw [HGB.out]
    go_wp2_with fail
    go_ret
    exact ⟨rfl, M1.out.bel⟩
  have hbd : decide ((1000 : Int) < (n.length : Int)) = false := by simp; omega
  have HNL := Lib.hid (show n.length ≤ 100000 by omega)
  clear hbig
  have hc := checkV_cases l
  by_cases h0 : checkV l = 0
  case neg =>
    rcases ne_zero_cases h0 with h4 | h4
    all_goals
      have HE := Lib.hid h4
      clear h0 h4 hc
      go_enter Tryd.func9, Tryd.ntmps9
      go_wp2_with fail
      refine HA.out.mono ?_
      rintro e w1 ⟨rfl, hb⟩
      have M1 := Lib.hid (M0.out.below hb)
      clear hb
      go_wp2_with fail
      refine (HG.out _ M1.out.bel).mono ?_
      rintro e w2 ⟨rfl, hw⟩
      obtain rfl := hw.symm
      rw [HGB.out]
      go_wp2_with fail
      refine (HK.out.check l A c w1 (M1.out.vts (A, c, l) (by simp)) HOK.out (HK.out.keep HT.out M1.out.bel)).mono ?_
      rintro e w3 ⟨rfl, hb⟩
      rw [HE.out]
      have M3 := Lib.hid (M1.out.below hb)
      clear hb
      go_wp2_with fail
      go_ret
      exact ⟨rfl, M3.out.bel⟩
  have HE := Lib.hid h0
  have HMAY := Lib.hid ((rowV_iff l).1 (checkV_ok.1 h0).2).1
  have HC := Lib.hid (fun (p : Int) (hp : -1 ≤ p ∧ p < 8) => countV_in h0 hp)
  have HALL := Lib.hid (all_states HMAY.out)
  clear hc h0
  go_enter Tryd.func9, Tryd.ntmps9
  go_wp2_with fail
  refine HA.out.mono ?_
  rintro e w1 ⟨rfl, hb⟩
  have M1 := Lib.hid (M0.out.below hb)
  clear hb
  go_wp2_with fail
  refine (HG.out _ M1.out.bel).mono ?_
  rintro e w2 ⟨rfl, hw⟩
  obtain rfl := hw.symm
  rw [HGB.out]
  go_wp2_with fail
  refine (HK.out.check l A c w1 (M1.out.vts (A, c, l) (by simp)) HOK.out (HK.out.keep HT.out M1.out.bel)).mono ?_
  rintro e w3 ⟨rfl, hb⟩
  rw [HE.out]
  have M3 := Lib.hid (M1.out.below hb)
  clear hb
  go_wp2_with fail
  refine (HK.out.count l (-1) A c w3 (M3.out.vts (A, c, l) (by simp)) HOK.out (by decide) (HK.out.keep HT.out M3.out.bel)).mono ?_
  rintro e w4 ⟨x4, e4, rfl, hq, hb⟩
  rw [HC.out (-1) (by decide)] at hq
  obtain ⟨hx4, rfl⟩ := Prod.mk.inj hq
  obtain ⟨f, h, v, s⟩ := x4
  have HF := Lib.hid (show f = manyV l (-1) 1 ∧ h = manyV l (-1) 2 ∧ v = manyV l (-1) 3 ∧ s = manyV l (-1) 4 by unfold toV at hx4; simpa using hx4)
  have hsum : f + h + v + s = l.length := by rw [HF.out.1, HF.out.2.1, HF.out.2.2.1, HF.out.2.2.2]; exact HALL.out
  have M4 := Lib.hid ((M3.out.below hb).below (below_new w4 (.cells (tvs ⟨f, h, v, s⟩) 34)))
  have K4 := Lib.hid ((MemB.nil _).add (Blk.new w4 34 (tvs ⟨f, h, v, s⟩)))
  have HG8 := Lib.hid (M3.out.below hb).bel.size
  clear hq hx4 hb
  unfold tov tvs
  unfold tvs at M4 K4
  simp only at M4 K4 ⊢
  have M5 := Lib.hid (M4.out.below (below_new _ (.cells #[.int .i64 0, .int .i64 0, .int .i64 0, .int .i64 0] 34)))
  have K5 := Lib.hid ((K4.out.below (below_new _ (.cells #[.int .i64 0, .int .i64 0, .int .i64 0, .int .i64 0] 34))).add (Blk.new _ 34 #[.int .i64 0, .int .i64 0, .int .i64 0, .int .i64 0]))
  rw [World.size_alloc] at K5
  go_wp2_with fail
  generalize ((w4.alloc (.cells #[.int .i64 (f : Nat), .int .i64 (h : Nat), .int .i64 (v : Nat), .int .i64 (s : Nat)] 34)).alloc (.cells #[.int .i64 0, .int .i64 0, .int .i64 0, .int .i64 0] 34)) = W at M5 K5 ⊢
  have HG8 := Lib.hid (show w.heap.size ≤ w4.heap.size from HG8.out)
  generalize w4.heap.size = g8 at K5 HG8 ⊢
  have HL100 := Lib.hid (show l.length ≤ 100 from h100)
  go_loopw [11] (fun s11 wr => ∃ (k a1 a2 a3 a4 : Nat), k ≤ 8 ∧ s11 = .int .i64 k ∧ a1 ≤ 100 ∧ a2 ≤ 100 ∧ a3 ≤ 100 ∧ a4 ≤ 100 ∧ Hid (a1 = sumV l 1 k ∧ a2 = sumV l 2 k ∧ a3 = sumV l 3 k ∧ a4 = sumV l 4 k) ∧ Hid (MemV w wr [(A, c, l)] []) ∧ Hid (Blk wr g8 34 #[.int .i64 (f : Nat), .int .i64 (h : Nat), .int .i64 (v : Nat), .int .i64 (s : Nat)]) ∧ Hid (Blk wr (g8 + 1) 34 #[.int .i64 (a1 : Nat), .int .i64 (a2 : Nat), .int .i64 (a3 : Nat), .int .i64 (a4 : Nat)]) ∧ Hid (w.heap.size ≤ g8)) (fun s11 _ => 8 - (intOf s11).toNat)
  case atStart => exact ⟨0, 0, 0, 0, 0, by omega, rfl, by omega, by omega, by omega, by omega, ⟨rfl, rfl, rfl, rfl⟩, M5.out, K5.out _ (List.mem_cons_of_mem _ (List.mem_cons_self ..)), K5.out _ (List.mem_cons_self ..), HG8.out⟩
  case round =>
    obtain ⟨k, a1, a2, a3, a4, hk, rfl, h1, h2, h3, h4, has, hm, hb8, hb9, hg8⟩ := hrel
    by_cases hlt : k < 8
    · have hltd : decide ((k : Int) < 8) = true := by simp; omega
      have HCK := Lib.hid (HC.out (k : Int) ⟨by omega, by omega⟩)
      have HAS := Lib.hid (fun (s : Nat) => (show sumV l s (k + 1) = sumV l s k + manyV l (k : Int) s from rfl))
      have hsl := fun (s : Nat) => sumV_le l s HMAY.out (k + 1)
      have HSL := Lib.hid (fun (s : Nat) => Nat.le_trans (hsl s) h100)
      have hki : -9223372036854775808 ≤ (k : Int) ∧ (k : Int) ≤ 9223372036854775807 := ⟨by omega, by omega⟩
      have HKI := Lib.hid hki
      clear hsl hki
      go_wp2_with fail
      refine (HK.out.count l (k : Int) A c wr (hm.out.vts (A, c, l) (by simp)) HOK.out HKI.out (HK.out.keep HT.out hm.out.bel)).mono ?_
      rintro e w5 ⟨x5, e5, rfl, hq, hb⟩
      rw [HCK.out] at hq
      obtain ⟨hx5, rfl⟩ := Prod.mk.inj hq
      obtain ⟨f5, h5, v5, s5⟩ := x5
      have hx5' : f5 = manyV l (k : Int) 1 ∧ h5 = manyV l (k : Int) 2 ∧ v5 = manyV l (k : Int) 3 ∧ s5 = manyV l (k : Int) 4 := by unfold toV at hx5; simpa using hx5
      have HN := Lib.hid (show a1 + f5 = sumV l 1 (k + 1) ∧ a2 + h5 = sumV l 2 (k + 1) ∧ a3 + v5 = sumV l 3 (k + 1) ∧ a4 + s5 = sumV l 4 (k + 1) from ⟨by rw [has.out.1, hx5'.1]; rfl, by rw [has.out.2.1, hx5'.2.1]; rfl, by rw [has.out.2.2.1, hx5'.2.2.1]; rfl, by rw [has.out.2.2.2, hx5'.2.2.2]; rfl⟩)
      have n1 : a1 + f5 ≤ 100 := by rw [HN.out.1]; exact HSL.out 1
      have n2 : a2 + h5 ≤ 100 := by rw [HN.out.2.1]; exact HSL.out 2
      have n3 : a3 + v5 ≤ 100 := by rw [HN.out.2.2.1]; exact HSL.out 3
      have n4 : a4 + s5 ≤ 100 := by rw [HN.out.2.2.2]; exact HSL.out 4
      have HM5 := Lib.hid (hm.out.below hb)
      have HB8 := Lib.hid (hb8.out.below hb hb8.out.lt)
      have HB9 := Lib.hid (hb9.out.below hb hb9.out.lt)
      have hl9 : g8 + 1 < w5.heap.size := HB9.out.lt
      clear hq hx5 hx5' hb
      have c0 : w5.cell? ⟨g8 + 1, 0, none⟩ = some (.int .i64 a1) := HB9.out.cell 0
      have c1 : w5.cell? ⟨g8 + 1, 1, none⟩ = some (.int .i64 a2) := HB9.out.cell 1
      have c2 : w5.cell? ⟨g8 + 1, 2, none⟩ = some (.int .i64 a3) := HB9.out.cell 2
      have c3 : w5.cell? ⟨g8 + 1, 3, none⟩ = some (.int .i64 a4) := HB9.out.cell 3
      have HBA := Lib.hid (HB9.out.alloc (.cells #[.int .i64 (f5 : Nat), .int .i64 (h5 : Nat), .int .i64 (v5 : Nat), .int .i64 (s5 : Nat)] 34))
      have HB8A := Lib.hid (HB8.out.alloc (.cells #[.int .i64 (f5 : Nat), .int .i64 (h5 : Nat), .int .i64 (v5 : Nat), .int .i64 (s5 : Nat)] 34))
      have MA := Lib.hid (HM5.out.below (below_new w5 (.cells #[.int .i64 (f5 : Nat), .int .i64 (h5 : Nat), .int .i64 (v5 : Nat), .int .i64 (s5 : Nat)] 34)))
      unfold tov tvs
      simp only
      go_wp2_with ((with_reducible refine wpList_store_to4 rfl (.tmp 10) (.tmp 74) rfl (g8 + 1) rfl HBA.out rfl ((a1 : Int) + f5) ((a2 : Int) + h5) ((a3 : Int) + v5) ((a4 : Int) + s5) rfl ?_); intro w7 hb7 hg7)
      have HB87 := Lib.hid (HB8A.out.grown hg7 (by simp))
      have HW7 := Lib.hid hb7
      have HM7 := Lib.hid (MemV.put MA.out hg7 (Nat.le_trans hg8.out (Nat.le_succ _)) (by simp; omega) HR0.out)
      go_roundw
      case rel => exact ⟨k + 1, a1 + f5, a2 + h5, a3 + v5, a4 + s5, by omega, by go_num, n1, n2, n3, n4, HN.out, HM7.out, HB87.out, HW7.out, hg8.out⟩
      case measure => simp [intOf]; omega
    · obtain rfl : k = 8 := by omega
      obtain rfl : a1 = f := by rw [has.out.1, sumV_all HMAY.out, HF.out.1]
      obtain rfl : a2 = h := by rw [has.out.2.1, sumV_all HMAY.out, HF.out.2.1]
      obtain rfl : a3 = v := by rw [has.out.2.2.1, sumV_all HMAY.out, HF.out.2.2.1]
      obtain rfl : a4 = s := by rw [has.out.2.2.2, sumV_all HMAY.out, HF.out.2.2.2]
      have hsi : (a1 : Int) + a2 + a3 + a4 = (l.length : Int) := by omega
      have HSI := Lib.hid hsi
      have hsn : a1 + a2 + a3 + a4 = l.length := hsum
      have c0 : wr.cell? ⟨g8 + 1, 0, none⟩ = some (.int .i64 a1) := hb9.out.cell 0
      have c1 : wr.cell? ⟨g8 + 1, 1, none⟩ = some (.int .i64 a2) := hb9.out.cell 1
      have c2 : wr.cell? ⟨g8 + 1, 2, none⟩ = some (.int .i64 a3) := hb9.out.cell 2
      have c3 : wr.cell? ⟨g8 + 1, 3, none⟩ = some (.int .i64 a4) := hb9.out.cell 3
      have d0 : wr.cell? ⟨g8, 0, none⟩ = some (.int .i64 a1) := hb8.out.cell 0
      have d1 : wr.cell? ⟨g8, 1, none⟩ = some (.int .i64 a2) := hb8.out.cell 1
      have d2 : wr.cell? ⟨g8, 2, none⟩ = some (.int .i64 a3) := hb8.out.cell 2
      have d3 : wr.cell? ⟨g8, 3, none⟩ = some (.int .i64 a4) := hb8.out.cell 3
      have HSUM := Lib.hid hsn
      clear hsum hsn
      go_wp2_with fail
      refine (does_any HK.out l n o A c wr (hm.out.vts (A, c, l) (by simp)) HOK.out HNL.out (HK.out.keep HT.out hm.out.bel)).mono ?_
      rintro e w6 ⟨A6, c6, x, ex, rfl, hq, ho, hb⟩
      have HQ := Lib.hid hq
      have M6 := Lib.hid ((hm.out.below hb).addV (ho.rd vl_len))
      have HB86 := Lib.hid (hb8.out.below hb hb8.out.lt)
      clear hq ho hb c0 c1 c2 c3 d0 d1 d2 d3
      by_cases he : (doneV l n o).2 = 0
      case neg =>
        rw [← HQ.out] at he
        have hne : (ex != 0) = true := by rw [bne_iff_ne]; exact he
        have hne2 : ¬ ex = 0 := he
        clear he
        go_wp2_with fail
        go_ret
        exact ⟨rfl, M6.out.bel⟩
      have hck := (doneV_check he).1
      have hxl := (doneV_check he).2.1
      have e1 := done_counts he 1
      have e2 := done_counts he 2
      have e3 := done_counts he 3
      have e4 := done_counts he 4
      rw [← HQ.out] at hck he hxl e1 e2 e3 e4
      obtain rfl : ex = 0 := he
      simp only at hck hxl e1 e2 e3 e4
      rw [← HF.out.1] at e1
      rw [← HF.out.2.1] at e2
      rw [← HF.out.2.2.1] at e3
      rw [← HF.out.2.2.2] at e4
      have HCX := Lib.hid (countV_in hck (p := -1) (by decide))
      have HOX := Lib.hid (VtOk.roll hck)
      clear hck hxl
      go_wp2_with fail
      refine (HK.out.count x (-1) A6 c6 w6 (M6.out.vts (A6, c6, x) (by simp)) HOX.out (by decide) (HK.out.keep HT.out M6.out.bel)).mono ?_
      rintro e w7 ⟨x7, e7, rfl, hq, hb⟩
      rw [HCX.out] at hq
      obtain ⟨hx7, rfl⟩ := Prod.mk.inj hq
      obtain ⟨t1, t2, t3, t4⟩ := x7
      unfold toV at hx7
      simp only [To.mk.injEq] at hx7
      obtain ⟨q1, q2, q3, q4⟩ := hx7
      rw [← q1] at e1
      rw [← q2] at e2
      rw [← q3] at e3
      rw [← q4] at e4
      have HB7 := Lib.hid (M6.out.bel.trans (hb.mono M6.out.bel.size))
      have HBZ := Lib.hid (HB86.out.below hb HB86.out.lt)
      have d0 : w7.cell? ⟨g8, 0, none⟩ = some (.int .i64 a1) := HBZ.out.cell 0
      have d1 : w7.cell? ⟨g8, 1, none⟩ = some (.int .i64 a2) := HBZ.out.cell 1
      have d2 : w7.cell? ⟨g8, 2, none⟩ = some (.int .i64 a3) := HBZ.out.cell 2
      have d3 : w7.cell? ⟨g8, 3, none⟩ = some (.int .i64 a4) := HBZ.out.cell 3
      have hl8 : g8 < w7.heap.size := HBZ.out.lt
      have hsn := HSUM.out
      clear hq q1 q2 q3 q4 hb
      have hbnd : t1 ≤ 200 ∧ t2 ≤ 200 ∧ t3 ≤ 200 ∧ t4 ≤ 200 ∧ t1 + t2 + t3 + t4 = l.length ∧ a3 ≤ t3 ∧ t3 ≤ a3 + 1 ∧ (t1 ≠ a1 ∨ (t1 = a1 ∧ t2 ≠ a2)) := by
        rcases wasis_cases o with ho | ho | ho | ho | ho
        all_goals
          rw [ho] at e1 e2 e3 e4
          simp only [if_true, Nat.reduceEqDiff, if_false, Nat.add_zero] at e1 e2 e3 e4
          omega
      clear e1 e2 e3 e4 hsn
      obtain ⟨u5, u6, u7, u8, usum, u9, u10, umv⟩ := hbnd
      have u1 : (((t1 : Int) + (t2 : Int) + (t3 : Int) + (t4 : Int)) == (l.length : Int)) = true := by rw [beq_iff_eq]; omega
      have u2 : decide (a3 ≤ t3) = true := decide_eq_true u9
      have u3 : decide ((t3 : Int) ≤ (a3 : Int) + 1) = true := by simp; omega
      clear usum u9 u10
      have HBE := Lib.hid (HB7.out.trans ((below_new w7 (.cells #[.int .i64 (t1 : Nat), .int .i64 (t2 : Nat), .int .i64 (t3 : Nat), .int .i64 (t4 : Nat)] 34)).mono HB7.out.size))
      rcases umv with um | ⟨um, un⟩
      · have u4 : ¬ ((t1 : Int) - (a1 : Int) = 0) := by omega
        clear um
        unfold tov tvs
        simp only
        go_wp2_with fail
        go_ret
        exact ⟨rfl, HBE.out⟩
      · subst um
        have u4 : ((t2 : Int) - (a2 : Int) != 0) = true := by rw [bne_iff_ne]; omega
        clear un
        unfold tov tvs
        simp only
        go_wp2_with fail
        go_ret
        exact ⟨rfl, HBE.out⟩
end Go.Proofs.YtikhffdbjelanaaDoor
namespace Go.Proofs.YtikhffdbjelanaaDoor
open Go.RowKit
set_option linter.unusedVariables false

def catB : List UInt8 := [99, 97, 116]
def danB : List UInt8 := [100, 97, 110]
def zzB : List UInt8 := [122, 122]
/-- ann struck. -/
def struckL : List Vt := [⟨annB, 1, 4⟩, ⟨bobB, 1, 3⟩]
/-- The law's full roll, as far as it is filled. -/
def fullK (k : Nat) : List Vt := (List.range k).map (fun j => ⟨[UInt8.ofNat (33 + j)], 0, 1⟩) ++ List.replicate (64 - k) ⟨[], 0, 0⟩
def fullL : List Vt := (List.range 64).map (fun j => ⟨[UInt8.ofNat (33 + j)], 0, 1⟩)
theorem nm1 : addV twoL annB 0 = ([], 240) := by decide +kernel
theorem nm2 : addV twoL catB 8 = ([], 2) := by decide +kernel
theorem nm3 : addV twoL [] 0 = ([], 2) := by decide +kernel
theorem nm4 : doneV twoL annB 3 = ([], 241) := by decide +kernel
theorem nm5 : doneV twoL bobB 2 = ([], 241) := by decide +kernel
theorem nm6 : doneV twoL annB 4 = (struckL, 0) := by decide +kernel
theorem nm7 : doneV struckL annB 5 = (twoL, 0) := by decide +kernel
theorem nm8 : doneV twoL danB 4 = ([], 6) := by decide +kernel
theorem nm9 : findV twoL danB = (zeroV, 6) := by decide +kernel
theorem nm10 : countV twoL 8 = (⟨0, 0, 0, 0⟩, 2) := by decide +kernel
theorem nm11 : countV twoL (-2) = (⟨0, 0, 0, 0⟩, 2) := by decide +kernel
theorem nm12 : checkV struckL = 0 := by decide +kernel
theorem nm13 : checkV fullL = 0 := by decide +kernel
theorem nm14 : addV fullL zzB 0 = ([], 9) := by decide +kernel
theorem nm15 : addV (fullL ++ [⟨zzB, 0, 1⟩]) [122, 122, 122] 0 = ([], 4) := by decide +kernel
theorem nm16 : addV [⟨[98], 0, 1⟩, ⟨[97], 0, 1⟩] [99] 0 = ([], 8) := by decide +kernel
theorem made64 : (madeCells (Value.agg #[.string ⟨#[]⟩, .int .i64 0, .int .u8 0]).cells (64 * 3)).toList = flatK vl (List.replicate 64 ⟨[], 0, 0⟩) := by
  rw [show (Value.agg #[.string ⟨#[]⟩, .int .i64 0, .int .u8 0]).cells = #[Value.string ⟨#[]⟩, .int .i64 0, .int .u8 0] from rfl]
  exact made_flat vl_len #[Value.string ⟨#[]⟩, .int .i64 0, .int .u8 0] ⟨[], 0, 0⟩ rfl 64
theorem nm17 : readV [0, 1, 0] = ([], 11) := by
  have h := Oc.splitM_flat (L := [[0]]) (by intro x hx; simp at hx; subst hx; decide) (by decide +kernel)
  rw [show Oc.flat [[0]] = ([0, 1, 0] : List UInt8) from by decide +kernel] at h
  exact readV_none (by rw [h]) (by rw [h]; decide +kernel)
theorem fullK_len {k : Nat} (h : k ≤ 64) : (fullK k).length = 64 := by unfold fullK; simp; omega
theorem fullK_zero : fullK 0 = List.replicate 64 ⟨[], 0, 0⟩ := by decide +kernel
theorem fullK_all : fullK 64 = fullL := by decide +kernel
theorem fullK_set {k : Nat} (h : k < 64) : (fullK k).set k ⟨[UInt8.ofNat (33 + k)], 0, 1⟩ = fullK (k + 1) := by
  have key : ∀ j : Fin 64, (fullK j.1).set j.1 ⟨[UInt8.ofNat (33 + j.1)], 0, 1⟩ = fullK (j.1 + 1) := by decide +kernel
  exact key ⟨k, h⟩
theorem fullK_at {k : Nat} (h : k < 64) : (fullK k)[k]'(by rw [fullK_len (by omega)]; exact h) = ⟨[], 0, 0⟩ := by
  have key : ∀ j : Fin 64, (fullK j.1)[j.1]? = some ⟨[], 0, 0⟩ := by decide +kernel
  have := key ⟨k, h⟩
  exact (List.getElem?_eq_some_iff.1 this).2

/-- What a law keeps in memory, below a block g that it writes. -/
structure MemG (w0 w : World) (g : Nat) (V : List (Option Addr × Nat × List Vt)) : Prop where
  bel : Below w0.heap.size w0 w
  le : w0.heap.size ≤ g
  size : g ≤ w.heap.size
  vts : ∀ p ∈ V, Rvt w g p.1 p.2.1 p.2.2
section
variable {w0 w w' : World} {g : Nat} {V : List (Option Addr × Nat × List Vt)} {B : List (Option Addr × Nat × List UInt8)}
theorem MemG.of (h : MemV w0 w V B) (hb : Below w.heap.size w w') (hg : w.heap.size = g) (h0 : w0.heap.size ≤ g) : MemG w0 w' g V := by
  subst hg
  exact ⟨h.bel.trans (hb.mono h0), h0, hb.size, fun p hp => (h.vts p hp).below hb⟩
theorem MemG.alloc (h : MemG w0 w g V) (o : Obj) : MemG w0 (w.alloc o) g V :=
  ⟨h.bel.trans ((below_new w o).mono h.bel.size), h.le, by rw [World.size_alloc]; exact Nat.le_succ_of_le h.size, fun p hp => (h.vts p hp).alloc h.size o⟩
theorem MemG.put (h : MemG w0 w g V) (hg : w.grownBy w' (some g)) : MemG w0 w' g V :=
  ⟨h.bel.grown hg h.bel.size (fun k e => by cases e; exact h.le), h.le, Nat.le_trans h.size hg.size, fun p hp => (h.vts p hp).keep fun q hq => World.cell?_of_block (hg.block q.block (Nat.lt_of_lt_of_le hq h.size) (fun e => by cases e; exact Nat.lt_irrefl _ hq))⟩
theorem MemG.mem (h : MemG w0 w g V) : MemV w0 w V [] := ⟨h.bel, fun p hp => (h.vts p hp).more h.size, by simp⟩
end

set_option maxRecDepth 100000 in
set_option maxHeartbeats 8000000 in
theorem rollNames_any {T : World → Prop} (K : Con24 T) (w : World) (hT : T w) :
    Calls Tryd.prog 3 #[] w fun e w' => e = .returned (.bool true) ∧ Below w.heap.size w w' := by
  have HK := Lib.hid K
  have HT := Lib.hid hT
  have H1 := Lib.hid (two_any K w hT)
  have HTWO := Lib.hid (fine_of ex7)
  have HST := Lib.hid (fine_of nm12)
  clear K hT
  go_enter Tryd.func3, Tryd.ntmps3
  go_wp2_with fail
  refine H1.out.mono ?_
  rintro e w1 ⟨A1, c1, rfl, ho, hb⟩
  have M1 := Lib.hid ((show MemV w w [] [] from ⟨Below.refl _ _, by simp, by simp⟩).below hb |>.addV (ho.rd vl_len))
  clear ho hb
  go_wp2_with fail
  refine (HK.out.add twoL annB 0 A1 c1 w1 (M1.out.vts (A1, c1, twoL) (by simp)) HTWO.out (by decide) (by decide) (HK.out.keep HT.out M1.out.bel)).mono ?_
  rintro e w2 ⟨A2, c2, r2, e2, rfl, hq, ho, hb⟩
  rw [nm1] at hq
  obtain ⟨rfl, rfl⟩ := Prod.mk.inj hq
  have M2 := Lib.hid (M1.out.below hb)
  clear hq ho hb
  go_wp2_with fail
  refine (HK.out.add twoL catB 8 A1 c1 w2 (M2.out.vts (A1, c1, twoL) (by simp)) HTWO.out (by decide) (by decide) (HK.out.keep HT.out M2.out.bel)).mono ?_
  rintro e w3 ⟨A3, c3, r3, e3, rfl, hq, ho, hb⟩
  rw [nm2] at hq
  obtain ⟨rfl, rfl⟩ := Prod.mk.inj hq
  have M3 := Lib.hid (M2.out.below hb)
  clear hq ho hb
  go_wp2_with fail
  refine (HK.out.add twoL [] 0 A1 c1 w3 (M3.out.vts (A1, c1, twoL) (by simp)) HTWO.out (by decide) (by decide) (HK.out.keep HT.out M3.out.bel)).mono ?_
  rintro e w4 ⟨A4, c4, r4, e4, rfl, hq, ho, hb⟩
  rw [nm3] at hq
  obtain ⟨rfl, rfl⟩ := Prod.mk.inj hq
  have M4 := Lib.hid (M3.out.below hb)
  clear hq ho hb
  go_wp2_with fail
  refine (HK.out.vote twoL annB A1 c1 w4 (M4.out.vts (A1, c1, twoL) (by simp)) HTWO.out (by decide) (HK.out.keep HT.out M4.out.bel)).mono ?_
  rintro e w5 ⟨A5, c5, r5, e5, rfl, hq, ho, hb⟩
  rw [nm4] at hq
  obtain ⟨rfl, rfl⟩ := Prod.mk.inj hq
  have M5 := Lib.hid (M4.out.below hb)
  clear hq ho hb
  go_wp2_with fail
  refine (HK.out.ret twoL bobB A1 c1 w5 (M5.out.vts (A1, c1, twoL) (by simp)) HTWO.out (by decide) (HK.out.keep HT.out M5.out.bel)).mono ?_
  rintro e w6 ⟨A6, c6, r6, e6, rfl, hq, ho, hb⟩
  rw [nm5] at hq
  obtain ⟨rfl, rfl⟩ := Prod.mk.inj hq
  have M6 := Lib.hid (M5.out.below hb)
  clear hq ho hb
  go_wp2_with fail
  refine (HK.out.strike twoL annB A1 c1 w6 (M6.out.vts (A1, c1, twoL) (by simp)) HTWO.out (by decide) (HK.out.keep HT.out M6.out.bel)).mono ?_
  rintro e w7 ⟨A7, c7, r7, e7, rfl, hq, ho, hb⟩
  rw [nm6] at hq
  obtain ⟨rfl, rfl⟩ := Prod.mk.inj hq
  have M7 := Lib.hid ((M6.out.below hb).addV (ho.rd vl_len))
  clear hq ho hb
  go_wp2_with fail
  refine (HK.out.restore struckL annB A7 c7 w7 (M7.out.vts (A7, c7, struckL) (by simp)) HST.out (by decide) (HK.out.keep HT.out M7.out.bel)).mono ?_
  rintro e w8 ⟨A8, c8, r8, e8, rfl, hq, ho, hb⟩
  rw [nm7] at hq
  obtain ⟨rfl, rfl⟩ := Prod.mk.inj hq
  have M8 := Lib.hid ((M7.out.below hb).addV (ho.rd vl_len))
  clear hq ho hb
  go_wp2_with fail
  refine (HK.out.strike twoL danB A1 c1 w8 (M8.out.vts (A1, c1, twoL) (by simp)) HTWO.out (by decide) (HK.out.keep HT.out M8.out.bel)).mono ?_
  rintro e w9 ⟨A9, c9, r9, e9, rfl, hq, ho, hb⟩
  rw [nm8] at hq
  obtain ⟨rfl, rfl⟩ := Prod.mk.inj hq
  have M9 := Lib.hid (M8.out.below hb)
  clear hq ho hb
  go_wp2_with fail
  refine (HK.out.find twoL danB A1 c1 w9 (M9.out.vts (A1, c1, twoL) (by simp)) HTWO.out (by decide) (HK.out.keep HT.out M9.out.bel)).mono ?_
  rintro e w10 ⟨x10, e10, rfl, hq, hb⟩
  rw [nm9] at hq
  obtain ⟨rfl, rfl⟩ := Prod.mk.inj hq
  have M10 := Lib.hid ((M9.out.below hb).below (below_new w10 (.cells #[.string ⟨#[]⟩, .int .i64 0, .int .u8 0] 30)))
  clear hq hb
  unfold vv vvs zeroV
  go_wp2_with fail
  generalize w10.alloc _ = w10 at M10 ⊢
  refine (HK.out.count twoL 8 A1 c1 w10 (M10.out.vts (A1, c1, twoL) (by simp)) HTWO.out (by decide) (HK.out.keep HT.out M10.out.bel)).mono ?_
  rintro e w11 ⟨x11, e11, rfl, hq, hb⟩
  rw [nm10] at hq
  obtain ⟨rfl, rfl⟩ := Prod.mk.inj hq
  have M11 := Lib.hid ((M10.out.below hb).below (below_new w11 (.cells #[.int .i64 0, .int .i64 0, .int .i64 0, .int .i64 0] 34)))
  clear hq hb
  unfold tov tvs
  go_wp2_with fail
  generalize w11.alloc _ = w11 at M11 ⊢
  refine (HK.out.count twoL (-2) A1 c1 w11 (M11.out.vts (A1, c1, twoL) (by simp)) HTWO.out (by decide) (HK.out.keep HT.out M11.out.bel)).mono ?_
  rintro e w12 ⟨x12, e12, rfl, hq, hb⟩
  rw [nm11] at hq
  obtain ⟨rfl, rfl⟩ := Prod.mk.inj hq
  have MZ := Lib.hid (M11.out.below hb)
  have M12 := Lib.hid ((M11.out.below hb).below (below_new w12 (.cells #[.int .i64 0, .int .i64 0, .int .i64 0, .int .i64 0] 34)))
  clear hq hb
  unfold tov tvs
  obtain ⟨i0, hi0, hz0, hz1, hz2⟩ := info_parts vInfo
  go_wp2_with ((refine wpList_make_k _ vl_len rfl _ _ 22 rfl 30 32 i0 _ Tryd.underlying22 hi0 hz0 hz1 hz2 (by omega) 64 rfl rfl (by omega) ⟨[], 0, 0⟩ made64 ?_; intro w13 ho hb))
  rw [World.size_alloc] at ho
  have HG13 := Lib.hid (show w.heap.size ≤ w12.heap.size + 1 from Nat.le_succ_of_le MZ.out.bel.size)
  have HO13 := Lib.hid (show OwV w13 w.heap.size (some ⟨w12.heap.size + 1, 0, none⟩) 64 (fullK 0) from by rw [fullK_zero]; exact OwK.lower ho HG13.out)
  have M13 := Lib.hid (show MemG w w13 (w12.heap.size + 1) [(A8, c8, twoL), (A7, c7, struckL), (A1, c1, twoL)] from MemG.of M12.out hb (World.size_alloc ..) HG13.out)
  clear ho hb hi0 hz0 hz1 hz2 H1 M1 M2 M3 M4 M5 M6 M7 M8 M9 M10 M11 M12 MZ
  generalize w12.heap.size + 1 = g13 at HO13 HG13 M13 ⊢
  go_loopw [26] (fun s26 wr => ∃ k : Nat, k ≤ 64 ∧ s26 = .int .i64 k ∧ Hid (MemG w wr g13 [(A8, c8, twoL), (A7, c7, struckL), (A1, c1, twoL)]) ∧ Hid (OwV wr w.heap.size (some ⟨g13, 0, none⟩) 64 (fullK k)) ∧ Hid (w.heap.size ≤ g13)) (fun s26 _ => 64 - (intOf s26).toNat)
  case atStart => exact ⟨0, by omega, rfl, M13.out, HO13.out, HG13.out⟩
  case round =>
    obtain ⟨k, hk, rfl, hm, ho, hg⟩ := hrel
    by_cases hlt : k < 64
    · have hltd : decide ((k : Int) < 64) = true := by simp; omega
      have HSET0 := Lib.hid (fullK_set hlt)
      obtain ⟨u, hu⟩ : ∃ u, u = UInt8.ofNat (33 + k) := ⟨_, rfl⟩
      have hbv : bv u = .int .u8 (33 + (k : Int)) := by
        subst hu
        unfold bv
        rw [show (UInt8.ofNat (33 + k)).toNat = 33 + k from by rw [UInt8.toNat_ofNat']; exact Nat.mod_eq_of_lt (by omega)]
        simp
      have hrf := rf_one wr (f := bv) u 5
      rw [hbv] at hrf
      have hk1 := run_string_f (P := Tryd.prog) (wr.alloc (.cells #[.int .u8 (33 + (k : Int))] 5)) 37 9 5 Tryd.underlying37 Tryd.underlying5 Tryd.underlying9 hrf
      simp only [List.length_singleton] at hk1
      rw [← hu] at HSET0
      have HSET := HSET0
      clear HSET0 hu
      have HKL := Lib.hid (show k < (fullK k).length by rw [fullK_len (by omega)]; exact hlt)
      clear hbv hrf
      go_wp2_with (refine wpList_store_k vl_len vl_one rfl 30 (.tmp 108) (.tmp 107) rfl size_vt g13 k (k * 3) rfl rfl (ho.out.alloc _) HKL.out ⟨[u], 0, 1⟩ rfl ?_; intro w15 r15 hr15 ho15 hg15)
      obtain rfl : r15 = fullK (k + 1) := by rw [hr15.out, HSET.out]
      have HO15 := Lib.hid ho15
      have M15 := Lib.hid ((hm.out.alloc _).put hg15)
      clear hr15 ho15 hg15 hk1
      go_wp2_with fail
      go_roundw
      case rel => exact ⟨k + 1, by omega, by go_num, M15.out, HO15.out, hg.out⟩
      case measure => simp [intOf]; omega
    · obtain rfl : k = 64 := by omega
      have M15 := Lib.hid (show MemV w wr [(some ⟨g13, 0, none⟩, 64, fullL), (A8, c8, twoL), (A7, c7, struckL), (A1, c1, twoL)] [] from hm.out.mem.addV (by have := ho.out.rd vl_len; rwa [fullK_all] at this))
      clear hm ho
      have HFL := Lib.hid (fine_of nm13)
      have HF65 := Lib.hid (show VtOk (fullL ++ [⟨zzB, 0, 1⟩]) from ⟨by decide +kernel, by decide +kernel, by decide +kernel, by decide +kernel⟩)
      have HBA := Lib.hid (show VtOk [⟨[98], 0, 1⟩, ⟨[97], 0, 1⟩] from ⟨by decide +kernel, by decide +kernel, by decide +kernel, by decide +kernel⟩)
      obtain ⟨i0, hi0, hz0, hz1, hz2⟩ := info_parts vInfo
      go_wp2_with fail
      refine (HK.out.add fullL zzB 0 (some ⟨g13, 0, none⟩) 64 wr (M15.out.vts (_, 64, fullL) (by simp)) HFL.out (by decide) (by decide) (HK.out.keep HT.out M15.out.bel)).mono ?_
      rintro e w16 ⟨A16, c16, r16, e16, rfl, hq, ho, hb⟩
      rw [nm14] at hq
      obtain ⟨rfl, rfl⟩ := Prod.mk.inj hq
      have M16 := Lib.hid (M15.out.below hb)
      clear hq ho hb
      go_wp2_with (at_builtin; (refine wpList_append_full _ vl_len rfl _ _ 22 rfl 30 32 i0 _ Tryd.underlying22 hi0 hz0 hz1 (by omega) hz2 (by omega) rfl fullL [⟨zzB, 0, 1⟩] rfl rfl ((M16.out.below (below_new w16 _)).vts (some ⟨g13, 0, none⟩, 64, fullL) (by simp)) (rk_one _ vl_len ⟨zzB, 0, 1⟩ _ rfl _) (by decide +kernel) (by simp) ?_; intro c17 w17 r17 hr17 ho17 hb17))
      have HR17 := Lib.hid hr17.out
      have HO17 := Lib.hid (show VtOk r17 by rw [HR17.out]; exact HF65.out)
      rw [World.size_alloc] at ho17
      have M17 := Lib.hid (((M16.out.below (below_new w16 _)).below hb17).addV (ho17.rd vl_len))
      clear hr17 ho17 hb17 hi0 hz0 hz1 hz2
      refine (HK.out.add r17 [122, 122, 122] 0 (some ⟨w16.heap.size + 1, 0, none⟩) c17 w17 (M17.out.vts (some ⟨w16.heap.size + 1, 0, none⟩, c17, r17) (List.mem_cons_self ..)) HO17.out (by decide) (by decide) (HK.out.keep HT.out M17.out.bel)).mono ?_
      rintro e w18 ⟨A18, c18, r18, e18, rfl, hq, ho, hb⟩
      rw [HR17.out, nm15] at hq
      obtain ⟨rfl, rfl⟩ := Prod.mk.inj hq
      have M18 := Lib.hid (M17.out.below hb)
      have M19 := Lib.hid ((M18.out.below (below_new w18 (.cells #[.string ⟨#[98]⟩, .int .i64 0, .int .u8 1, .string ⟨#[97]⟩, .int .i64 0, .int .u8 1] 30))).addV (by rw [World.size_alloc]; exact rk_lit vl_len w18 [⟨[98], 0, 1⟩, ⟨[97], 0, 1⟩] _ rfl (by decide) _))
      clear hq ho hb
      go_wp2_with fail
      refine (HK.out.add [⟨[98], 0, 1⟩, ⟨[97], 0, 1⟩] [99] 0 (some ⟨w18.heap.size, 0, none⟩) 2 _ (M19.out.vts (some ⟨w18.heap.size, 0, none⟩, 2, [⟨[98], 0, 1⟩, ⟨[97], 0, 1⟩]) (List.mem_cons_self ..)) HBA.out (by decide) (by decide) (HK.out.keep HT.out M19.out.bel)).mono ?_
      rintro e w20 ⟨A20, c20, r20, e20, rfl, hq, ho, hb⟩
      rw [nm16] at hq
      obtain ⟨rfl, rfl⟩ := Prod.mk.inj hq
      have M20 := Lib.hid (M19.out.below hb)
      have M21 := Lib.hid ((M20.out.below (below_new w20 (.cells #[.int .u8 0, .int .u8 1, .int .u8 0] 5))).addB (by rw [World.size_alloc]; exact rf_lit (f := bv) w20 [0, 1, 0] _ rfl (by decide) _))
      clear hq ho hb
      go_wp2_with fail
      refine (HK.out.read [0, 1, 0] (some ⟨w20.heap.size, 0, none⟩) 3 _ (M21.out.bys (some ⟨w20.heap.size, 0, none⟩, 3, [0, 1, 0]) (List.mem_cons_self ..)) (by decide) (HK.out.keep HT.out M21.out.bel)).mono ?_
      rintro e w22 ⟨A22, c22, r22, e22, rfl, hq, ho, hb⟩
      rw [nm17] at hq
      obtain ⟨rfl, rfl⟩ := Prod.mk.inj hq
      have M22 := Lib.hid (M21.out.below hb)
      clear hq ho hb
      obtain ⟨b7, o7, rfl, hbb, hc7⟩ := (M22.out.vts (A7, c7, struckL) (by simp)).vt (k := 0) (show 0 < struckL.length by decide)
      have HC7 := Lib.hid (hc7 0 (show 0 < struckL.length by decide)).2.2
      clear hc7
      go_wp2_with fail
      refine (aliveV_any HK.out w22 (HK.out.keep HT.out M22.out.bel)).mono ?_
      rintro e w23 ⟨rfl, hb⟩
      have M23 := Lib.hid (M22.out.below hb)
      have hcc : w23.cell? ⟨b7, o7 + 2, none⟩ = some (.int .u8 4) := (hb.cell (p := ⟨b7, o7 + 2, none⟩) hbb).trans (by have := HC7.out; rwa [Nat.zero_mul, Nat.add_zero] at this)
      clear hb hbb
      go_wp2_with fail
      refine (refSame_any twoL twoL A8 A1 c8 c1 w23 (M23.out.vts (A8, c8, twoL) (by simp)) (M23.out.vts (A1, c1, twoL) (by simp)) (by decide) (by decide)).mono ?_
      rintro e w24 ⟨rfl, hb⟩
      rw [show decide (twoL = twoL) = true from decide_eq_true rfl]
      have M24 := Lib.hid (M23.out.below hb)
      clear hb hcc
      go_wp2_with fail
      refine (HK.out.check fullL (some ⟨g13, 0, none⟩) 64 w24 (M24.out.vts (some ⟨g13, 0, none⟩, 64, fullL) (by simp)) HFL.out (HK.out.keep HT.out M24.out.bel)).mono ?_
      rintro e w25 ⟨rfl, hb⟩
      rw [nm13]
      have M25 := Lib.hid (M24.out.below hb)
      clear hb
      go_wp2_with fail
      go_ret
      exact ⟨rfl, M25.out.bel⟩
end Go.Proofs.YtikhffdbjelanaaDoor
