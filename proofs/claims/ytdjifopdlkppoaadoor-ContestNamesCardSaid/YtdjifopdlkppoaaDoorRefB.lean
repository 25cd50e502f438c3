/- '[]byte(s)' as a step; the reference's Text and Bytes. -/
import Derived.Test.YtdjifopdlkppoaaDoorCell
import Derived.Test.YtdjifopdlkppoaaDoorRefPl
import Derived.Test.YtdjifopdlkppoaaDoorOcRefField
namespace Go.Proofs.YtdjifopdlkppoaaDoor
open Go.RowKit
set_option linter.unusedVariables false

theorem Rf.toRd {w : World} {B : Nat} {A : Option Addr} {c : Nat} {l : List UInt8} (h : Rf bv w B A c l) : Oc.Rd w B A c l := ⟨h.cap, h.capm, h.nil, h.cell⟩
theorem Rd.toRf {w : World} {B : Nat} {A : Option Addr} {c : Nat} {l : List UInt8} (h : Oc.Rd w B A c l) : Rf bv w B A c l := ⟨h.cap, h.capm, h.nil, h.cell⟩
theorem Ow.ofOc {w : World} {base e : Nat} {A : Option Addr} {c : Nat} {l : List UInt8} (h : Oc.Own w base e A c l) : Ow bv w base e A c l := h

theorem wpList_to_bytes {w : World} {ops : Array Oper} {rest : List Oper} {o : Oper} {a : Act} {Q : Exit → Act → World → Prop} (hgd : o.guard = none) (x : Operand) (ho : o.op = .convert 9 37 x)
    (l : List UInt8) (hx : a.eval x = .string ⟨l.toArray⟩) (hl : l.length ≤ 4000000000)
    (h : ∀ c' w', Rf bv w' (w.heap.size + 1) (some ⟨w.heap.size, 0, none⟩) c' l → Below w.heap.size w w' → w'.heap.size = w.heap.size + 1 → wpList Tryd.prog ops Q rest (a.put o.dst (.slice (some ⟨w.heap.size, 0, none⟩) l.length c')) w') :
    wpList Tryd.prog ops Q (o :: rest) a w := by
  refine wpList_plain hgd fun K hK => ?_
  have hrun := run_bytes_of_string (P := Tryd.prog) w 9 37 5 ⟨l.toArray⟩ Tryd.underlying9 Tryd.underlying37 Tryd.underlying5
  have hsz : (⟨l.toArray⟩ : ByteArray).size = l.length := by simp [ByteArray.size]
  rw [hsz] at hrun
  have hge := grownCap_ge w l.length 0 5
  have hle := grownCap_le_maxLen w l.length 0 5 (by unfold maxLen; omega)
  generalize grownCap w l.length 0 5 = cap at hrun hge hle
  unfold Oper.wp
  simp only [execOp, ho, hx, hrun, Result.andThen, Sem.run_bind, Sem.run_pure]
  refine hK _ _ (h _ _ ⟨hge, hle, (fun e => by cases e), fun ad e j hj => ?_⟩ (((Below.refl _ w).drew).alloc (Nat.le_refl _) _) (by simp))
  obtain rfl := Option.some.inj e
  refine ⟨by simp, ?_⟩
  rw [add_plain, Nat.zero_add]
  have hc : ∀ (cs : Array Value) (fr : Nat × Nat), (w.drew.alloc (.cells cs 5 fr)).cell? ⟨w.heap.size, j, none⟩ = cs[j]? := fun cs fr => by
    have : (w.drew.alloc (.cells cs 5 fr)).heap[w.heap.size]? = some (.cells cs 5 fr) := by
      show (w.heap.push _)[w.heap.size]? = _
      simp
    exact cell_of_row _ _ _ _ _ _ this
  rw [hc]
  unfold bytesRow
  rw [Array.getElem?_append_left (by simp; exact hj)]
  simp [bv, hj]

theorem bInfo7 : (Tryd.prog.info? 5).map (fun i => (i.zero, i.size, i.bytes)) = some (some (.int .u8 0), 1, 1) := by kernel_rfl
theorem bInfo7_parts : ∃ i, Tryd.prog.info? 5 = some i ∧ i.zero = some (.int .u8 0) ∧ i.size = 1 ∧ i.bytes = 1 := by
  have h := bInfo7
  cases hi : Tryd.prog.info? 5 with
  | none => rw [hi] at h; cases h
  | some i => rw [hi] at h; simp at h; exact ⟨i, rfl, h.1, h.2.1, h.2.2⟩
theorem flat_parts_len (n : List UInt8) (p : List UInt8) (l : List (List UInt8)) (hn : n.length ≤ 40) (hp : p.length ≤ 40) (hl : ∀ y ∈ l, y.length ≤ 40) (h10 : l.length ≤ 10) : (Oc.flat (n :: p :: l)).length ≤ 600 := by
  have h := len_le_flat (n :: p :: l) 40 (fun y hy => by
    rcases List.mem_cons.1 hy with e | hy
    · subst e; exact hn
    · rcases List.mem_cons.1 hy with e | hy
      · subst e; exact hp
      · exact hl y hy)
  have : (n :: p :: l).length ≤ 12 := by simp; omega
  have : (n :: p :: l).length * 42 ≤ 12 * 42 := Nat.mul_le_mul_right _ this
  omega
theorem flat_more (n p : List UInt8) (l : List (List UInt8)) (k : Nat) (h : k < l.length) : Oc.flat (n :: p :: l.take (k + 1)) = Oc.flat (n :: p :: l.take k) ++ Oc.fld l[k] := by
  rw [List.take_succ_eq_append_getElem h, ← Oc.flat_snoc]
  rfl
theorem byte_of {n : Int} (h : 0 ≤ n ∧ n ≤ 255) : n = ((UInt8.ofNat n.toNat).toNat : Int) := by
  rw [UInt8.toNat_ofNat']
  have : n.toNat % 2 ^ 8 = n.toNat := Nat.mod_eq_of_lt (by omega)
  omega
set_option maxRecDepth 100000 in
set_option maxHeartbeats 1000000 in
theorem refText_any (x : Ct) (A : Option Addr) (c : Nat) (w : World) (hr : Rf sv w w.heap.size A c x.cands) (hm : mayB x = true) :
    Calls Tryd.prog 56 #[cv A c x] w fun e w' => ∃ A' c' r, e = .returned (.slice A' r.length c') ∧ r = textM x ∧ Ow bv w' w.heap.size 5 A' c' r ∧ Below w.heap.size w w' := by
  obtain ⟨h1, h2, h3, h4, h5, h6, h7, h8, h9⟩ := (mayB_iff x).1 hm
  have hb4 := (ruleB_iff x.rule).1 h4
  have HNL := Lib.hid (show x.name.length ≤ 40 from ((nameB_iff _).1 h1).2.1)
  have HCL := Lib.hid (show ∀ y ∈ x.cands, y.length ≤ 40 from fun y hy => ((nameB_iff _).1 (h7 y hy)).2.1)
  have HSB := Lib.hid (byte_of (n := x.seats) ⟨by omega, by omega⟩)
  have hwr : IntKind.u8.wrap x.seats = x.seats := by rw [IntKind.wrap_u8]; omega
  have HRB := Lib.hid (byte_of (n := (x.rule : Int)) ⟨by omega, by omega⟩)
  clear h1 h2 h4 h5 h6 h7 h8 h9 hm
  have HR := Lib.hid hr
  clear hr
  unfold cv cvs
  go_enter Tryd.func56, Tryd.ntmps56
  go_wp2_with (with_reducible refine wpList_to_bytes rfl (.tmp 6) rfl x.name rfl (Nat.le_trans HNL.out (by decide)) ?_; intro c1 w1 hr1 hb1 hs1)
  have HS1 := Lib.hid (show w1.heap.size = w.heap.size + 1 + 1 by rw [hs1]; simp)
  have HB1 := Lib.hid (show Blk w1 w.heap.size 26 (cvs A c x) from (Blk.new w 26 (cvs A c x)).below hb1 (by simp))
  have B1 := Lib.hid ((below_new w _).trans (hb1.mono (by simp)))
  rw [World.size_alloc] at hr1
  refine (Oc.refField_any _ c1 x.name w1 ((hr1.more (by rw [HS1.out]; exact Nat.le_refl _)).toRd) (Nat.le_trans HNL.out (by decide))).mono ?_
  rintro e w2 ⟨A2, c2, r2, rfl, hr2, ho2, hb2⟩
  have HR2 := Lib.hid hr2
  have HO2 := Lib.hid (Ow.ofOc ho2)
  have HB2 := Lib.hid (HB1.out.below hb2 HB1.out.lt)
  have B2 := Lib.hid (B1.out.trans (hb2.mono B1.out.size))
  have HS2 := Lib.hid hb2.size
  clear hr1 hb1 hs1 hr2 ho2 hb2
  have hc2 : w2.cell? ⟨w.heap.size, 2, none⟩ = some (.int .i64 x.seats) := HB2.out.cell 2
  have hc3 : w2.cell? ⟨w.heap.size, 3, none⟩ = some (.int .u8 x.rule) := HB2.out.cell 3
  obtain ⟨bi, hbi, hz0, hz1, hz2⟩ := bInfo7_parts
  have HBI := Lib.hid hbi
  have HZ0 := Lib.hid hz0
  have HZ1 := Lib.hid hz1
  have HZ2 := Lib.hid hz2
  clear hbi hz0 hz1 hz2
  obtain ⟨p, hp⟩ : ∃ p, p = [UInt8.ofNat x.seats.toNat, UInt8.ofNat x.rule] := ⟨_, rfl⟩
  have HP := Lib.hid hp
  have HPL := Lib.hid (show p.length = 2 by rw [hp]; rfl)
  have HPR := Lib.hid (show Rf bv (w2.alloc (.cells #[.int .u8 x.seats, .int .u8 x.rule] 5)) (w2.alloc (.cells #[.int .u8 x.seats, .int .u8 x.rule] 5)).heap.size (some ⟨w2.heap.size, 0, none⟩) 2 p by
    have h : Hb bv (w2.alloc (.cells #[.int .u8 x.seats, .int .u8 x.rule] 5)) w2.heap.size 5 p := by
      have e : #[Value.int .u8 x.seats, .int .u8 x.rule] = (p.map bv).toArray := by
        have h1 := HSB.out
        have h2 := HRB.out
        rw [Int.toNat_natCast] at h2
        rw [hp]
        show _ = #[Value.int .u8 _, .int .u8 _]
        rw [← h1, ← h2]
      rw [e]
      exact Blk.new w2 _ _
    exact h.rf_all (c := 2) (by rw [HPL.out]; exact Nat.le_refl _) (by unfold maxLen; omega))
  clear hp
  go_wp2_with fail
  have hfc := Oc.refField_any (some ⟨w2.heap.size, 0, none⟩) 2 p _ HPR.out.toRd (by rw [HPL.out]; decide)
  rw [HPL.out] at hfc
  refine hfc.mono ?_
  clear hfc
  rintro e w3 ⟨A3, c3, r3, rfl, hr3, ho3, hb3⟩
  have HR3 := Lib.hid hr3
  have HO2b := Lib.hid ((HO2.out.alloc (.cells #[.int .u8 x.seats, .int .u8 x.rule] 5)).below (Nat.le_refl _) hb3)
  have HRF3 := Lib.hid (Ow.ofOc ho3).rd
  have HB3 := Lib.hid ((HB2.out.alloc (.cells #[.int .u8 x.seats, .int .u8 x.rule] 5)).below hb3 (by have := HB2.out.lt; simp; omega))
  have B3 := Lib.hid ((B2.out.alloc B2.out.size (.cells #[.int .u8 x.seats, .int .u8 x.rule] 5)).trans (hb3.mono (Nat.le_trans B2.out.size (by simp))))
  have HS3 := Lib.hid (show w1.heap.size ≤ w3.heap.size from Nat.le_trans HS2.out (Nat.le_trans (by simp) hb3.size))
  have HRL2 := Lib.hid (show r2.length ≤ 100 by rw [HR2.out, Oc.fld_len]; have := HNL.out; omega)
  have HRL3 := Lib.hid (show r3.length ≤ 100 by rw [HR3.out, Oc.fld_len, HPL.out]; omega)
  clear hr3 ho3 hb3 hc2 hc3
  go_wp2_with (at_builtin; refine wpList_append_f _ bv_one rfl (.tmp 9) (.tmp 16) 37 rfl w1.heap.size 5 1 bi _ Tryd.underlying37 HBI.out HZ0.out HZ1.out HZ2.out (by omega) rfl r2 r3 rfl rfl HO2b.out HRF3.out (by have := HRL2.out; have := HRL3.out; omega) HS3.out ?_; intro A4 c4 w4 r4 hr4 hown4 hg4 hb4)
  have HR4 := Lib.hid (show r4 = Oc.flat (x.name :: p :: x.cands.take 0) by rw [hr4.out, HR2.out, HR3.out]; simp [Oc.flat_cons, Oc.flat_nil])
  have HO4 := Lib.hid hown4
  have hne : ∀ k, blk A2 = some k → w1.heap.size ≤ k := fun k e => (HO2b.out.blk_ge k e).1
  have HB4 := Lib.hid (HB3.out.grown hg4 (fun e => by have := hne w.heap.size e.symm; have := HS1.out; omega))
  have B4 := Lib.hid (B3.out.grown hg4 B3.out.size (fun k e => by have := hne k e; have := HS1.out; omega))
  have HS4 := Lib.hid (Nat.le_trans HS3.out hg4.size)
  clear hr4 hown4 hg4 hb4 hne
  go_wp2_with fail
  go_loopw [3, 4] (fun b i wr => ∃ (k : Nat) (A' : Option Addr) (c' : Nat) (r : List UInt8), k ≤ x.cands.length ∧ b = .slice A' r.length c' ∧ i = .int .i64 k ∧ Hid (r = Oc.flat (x.name :: p :: x.cands.take k)) ∧ Hid (Ow bv wr w1.heap.size 5 A' c' r) ∧ Hid (Blk wr w.heap.size 26 (cvs A c x)) ∧ Hid (Below w.heap.size w wr) ∧ Hid (w1.heap.size ≤ wr.heap.size)) (fun _ i _ => x.cands.length - (intOf i).toNat)
  case atStart => exact ⟨0, A4, c4, r4, Nat.zero_le _, rfl, rfl, HR4, HO4, HB4, B4, HS4⟩
  case round =>
    obtain ⟨k, A5, c5, r5, hk, rfl, rfl, hr5, ho5, hb5, hbw5, hs5⟩ := hrel
    rename_i wr
    have hc1 : wr.cell? ⟨w.heap.size, 1, none⟩ = some (.slice A x.cands.length c) := hb5.out.cell 1
    by_cases hlt : k < x.cands.length
    · obtain ⟨b, o, rfl, hbb, hcc⟩ := (HR.out.below hbw5.out).at_ hlt
      have hcx := hcc k hlt
      have hfm := flat_more x.name p x.cands k hlt
      have hzl := HCL.out _ (List.getElem_mem hlt)
      have hfl := flat_parts_len x.name p (x.cands.take k) HNL.out (by rw [HPL.out]; decide) (fun y hy => HCL.out y (List.mem_of_mem_take hy)) (by rw [List.length_take]; omega)
      rw [← hr5.out] at hfm hfl
      obtain ⟨z, hz⟩ : ∃ z, z = x.cands[k] := ⟨_, rfl⟩
      rw [← hz] at hcx hfm hzl
      unfold sv at hcx
      have HFM := Lib.hid hfm
      have HZL := Lib.hid hzl
      have HFL := Lib.hid hfl
      clear hcc hz hfm hzl hfl
      go_wp2_with (with_reducible refine wpList_to_bytes rfl (.tmp 30) rfl z rfl (Nat.le_trans HZL.out (by decide)) ?_; intro c6 w6 hr6 hb6 hs6)
      have HO6 := Lib.hid (ho5.out.below (Nat.le_refl _) hb6)
      have HB6 := Lib.hid (hb5.out.below hb6 hb5.out.lt)
      have B6 := Lib.hid (hbw5.out.trans (hb6.mono hbw5.out.size))
      have HS6 := Lib.hid (show w1.heap.size ≤ w6.heap.size by have := hs5.out; omega)
      refine (Oc.refField_any _ c6 z w6 ((hr6.more (by rw [hs6]; exact Nat.le_refl _)).toRd) (Nat.le_trans HZL.out (by decide))).mono ?_
      rintro e w7 ⟨A7, c7, r7, rfl, hr7, ho7, hb7⟩
      have HR7 := Lib.hid hr7
      have HO7 := Lib.hid (HO6.out.below (Nat.le_refl _) hb7)
      have HRF7 := Lib.hid (Ow.ofOc ho7).rd
      have HB7 := Lib.hid (HB6.out.below hb7 HB6.out.lt)
      have B7 := Lib.hid (B6.out.trans (hb7.mono B6.out.size))
      have HS7 := Lib.hid (Nat.le_trans HS6.out hb7.size)
      have HRL7 := Lib.hid (show r7.length ≤ 100 by rw [hr7, Oc.fld_len]; have := HZL.out; omega)
      clear hr6 hb6 hs6 hr7 ho7 hb7
      go_wp2_with (at_builtin; refine wpList_append_f _ bv_one rfl (.tmp 25) (.tmp 32) 37 rfl w1.heap.size 5 1 bi _ Tryd.underlying37 HBI.out HZ0.out HZ1.out HZ2.out (by omega) rfl r5 r7 rfl rfl HO7.out HRF7.out (by have := HFL.out; have := HRL7.out; omega) HS7.out ?_; intro A8 c8 w8 r8 hr8 hown8 hg8 hb8)
      have HR8 := Lib.hid (show r8 = Oc.flat (x.name :: p :: x.cands.take (k + 1)) by rw [hr8.out, HFM.out, HR7.out])
      have HO8 := Lib.hid hown8
      have hne : ∀ j, blk A5 = some j → w1.heap.size ≤ j := fun j e => (HO7.out.blk_ge j e).1
      have HB8 := Lib.hid (HB7.out.grown hg8 (fun e => by have := hne w.heap.size e.symm; have := HS1.out; omega))
      have B8 := Lib.hid (B7.out.grown hg8 B7.out.size (fun j e => by have := hne j e; have := HS1.out; omega))
      have HS8 := Lib.hid (Nat.le_trans HS7.out hg8.size)
      clear hr8 hown8 hg8 hb8 hne
      go_wp2_with fail
      go_roundw
      case rel => exact ⟨k + 1, A8, c8, r8, by omega, rfl, by go_num, HR8, HO8, HB8, B8, HS8⟩
      case measure => simp [intOf]; omega
    · obtain rfl : k = x.cands.length := by omega
      have HE := Lib.hid (show r5 = textM x by rw [hr5.out, List.take_of_length_le (Nat.le_refl _), HP.out]; rfl)
      go_wp2_with fail
      go_ret
      exact ⟨A5, c5, r5, rfl, HE.out, ho5.out.lower (by have := HS1.out; omega), hbw5.out⟩
end Go.Proofs.YtdjifopdlkppoaaDoor
