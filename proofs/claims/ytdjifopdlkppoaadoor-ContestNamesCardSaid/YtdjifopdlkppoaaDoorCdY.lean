/- contest's Bytes. -/
import Derived.Test.YtdjifopdlkppoaaDoorCdC
import Derived.Test.YtdjifopdlkppoaaDoorRefB
import Derived.Test.YtdjifopdlkppoaaDoorOcJoin
namespace Go.Proofs.YtdjifopdlkppoaaDoor
open Go.RowKit
set_option linter.unusedVariables false

theorem elv_one (x : Oc.El) : (Oc.El.v x).oneCell' = true := rfl
theorem slInfo : (Tryd.prog.info? 37).map (fun i => (i.zero, i.size, i.bytes)) = some (some (.slice none 0 0), 1, 24) := by kernel_rfl
theorem slInfo_parts : ∃ i, Tryd.prog.info? 37 = some i ∧ i.zero = some (.slice none 0 0) ∧ i.size = 1 ∧ i.bytes = 24 := by
  have h := slInfo
  cases hi : Tryd.prog.info? 37 with
  | none => rw [hi] at h; cases h
  | some i => rw [hi] at h; simp at h; exact ⟨i, rfl, h.1, h.2.1, h.2.2⟩

/-- An element reads, and does not lie in the block of the list. -/
def Fine (w : World) (A : Option Addr) (x : Oc.El) : Prop := Rf bv w w.heap.size x.A x.c x.l ∧ ∀ g, blk x.A = some g → g < w.heap.size ∧ blk A ≠ some g
theorem Fine.grown {w w' : World} {A A' : Option Addr} {x : Oc.El} (h : Fine w A x) (hg : w.grownBy w' (blk A)) (hb : blk A' = blk A ∨ blk A' = some w.heap.size) : Fine w' A' x := by
  refine ⟨(h.1.grown hg (Nat.le_refl _) (fun hp e => ?_)).more hg.size, fun g hx => ?_⟩
  · have hA : x.A ≠ none := fun e2 => by have := h.1.nil e2; have := h.1.cap; omega
    obtain ⟨ad, had⟩ := Option.ne_none_iff_exists'.1 hA
    exact (h.2 ad.block (by rw [had]; rfl)).2 (by rw [← e, had]; rfl)
  · obtain ⟨h1, h2⟩ := h.2 g hx
    refine ⟨Nat.lt_of_lt_of_le h1 hg.size, fun e => ?_⟩
    rcases hb with hb | hb
    · exact h2 (by rw [← hb]; exact e)
    · rw [hb] at e
      have := Option.some.inj e
      omega
theorem Fine.below {w w' : World} {A : Option Addr} {x : Oc.El} (h : Fine w A x) (hb : Below w.heap.size w w') : Fine w' A x :=
  ⟨(h.1.below hb).more hb.size, fun g hx => ⟨Nat.lt_of_lt_of_le (h.2 g hx).1 hb.size, (h.2 g hx).2⟩⟩
/-- A list of byte strings is appended to. -/
theorem fine_step {W W6 w8 : World} {A A8 : Option Addr} {c base cy : Nat} {xs ys : List Oc.El} {l : List UInt8}
    (ho : Ow Oc.El.v W base 37 A c xs) (hel : ∀ x ∈ xs, Fine W A x) (hb6 : Below W.heap.size W W6) (hs6 : W6.heap.size = W.heap.size + 1) (hy : Rf bv W6 (W.heap.size + 1) (some ⟨W.heap.size, 0, none⟩) cy l)
    (hys : ys = xs ++ [⟨some ⟨W.heap.size, 0, none⟩, cy, l⟩]) (hg : (W6.alloc (.cells #[Oc.El.v ⟨some ⟨W.heap.size, 0, none⟩, cy, l⟩] 37)).grownBy w8 (blk A)) (hb : blk A8 = blk A ∨ blk A8 = some (W6.alloc (.cells #[Oc.El.v ⟨some ⟨W.heap.size, 0, none⟩, cy, l⟩] 37)).heap.size) :
    ∀ x ∈ ys, Fine w8 A8 x := by
  intro x hx
  rw [hys] at hx
  have hnew := below_new W6 (.cells #[Oc.El.v ⟨some ⟨W.heap.size, 0, none⟩, cy, l⟩] 37)
  rcases List.mem_append.1 hx with h | h
  · exact (((hel x h).below hb6).below hnew).grown hg hb
  · obtain rfl := List.mem_singleton.1 h
    refine Fine.grown (Fine.below (w := W6) ⟨hy.more (by rw [hs6]; exact Nat.le_refl _), fun g hg' => ?_⟩ hnew) hg hb
    have e : W.heap.size = g := by simpa [blk] using hg'
    subst e
    refine ⟨by omega, fun e => ?_⟩
    have := (ho.blk_ge W.heap.size e).2
    omega
theorem rdl_of_fine {w : World} {base c : Nat} {A : Option Addr} {xs : List Oc.El} (ho : Ow Oc.El.v w base 37 A c xs) (hel : ∀ x ∈ xs, Fine w A x) : Oc.RdL w w.heap.size A c xs :=
  ⟨ho.rd.cap, ho.rd.capm, ho.rd.nil, ho.rd.cell, fun x hx => (hel x hx).1.toRd⟩
theorem byts_snoc (xs : List Oc.El) (y : Oc.El) : Oc.byts (xs ++ [y]) = Oc.byts xs ++ [y.l] := by simp [Oc.byts]

set_option maxRecDepth 100000 in
set_option maxHeartbeats 1000000 in
theorem bytes_any (x : Ct) (A : Option Addr) (c : Nat) (w : World) (hx : CtOk w A c x) (hT : Tab w) :
    Calls Tryd.prog 40 #[cv A c x] w (BytesErr7 w (bytesM x)) := by
  have HK := Lib.hid (fun wx (hb : Below w.heap.size w wx) => check_any x A c wx (hx.below hb) (hT.below (Nat.le_refl _) hb))
  have HR := Lib.hid (fun wx (hb : Below w.heap.size w wx) => (hx.below hb).rd)
  have B0 := Lib.hid (below_new w (.cells (cvs A c x) 26))
  have HB0 := Lib.hid (show Blk (w.alloc (.cells (cvs A c x) 26)) w.heap.size 26 (cvs A c x) from Blk.new w _ _)
  have hcs := checkM_cases x
  clear hx hT
  unfold cv
  unfold cvs at B0 HB0 ⊢
  rcases hcs with h0 | h0 | h0
  · have HM := Lib.hid (checkM_ok.1 h0)
    have HQ := Lib.hid (show bytesM x = (textM x, 0) by unfold bytesM; rw [if_neg (by omega)])
    have H0 := Lib.hid h0
    obtain ⟨h1, h2, h3, h4, h5, h6, h7, h8, h9⟩ := (mayB_iff x).1 HM.out
    have hb4 := (ruleB_iff x.rule).1 h4
    have HNL := Lib.hid (show x.name.length ≤ 40 from ((nameB_iff _).1 h1).2.1)
    have HCL := Lib.hid (show ∀ y ∈ x.cands, y.length ≤ 40 from fun y hy => ((nameB_iff _).1 (h7 y hy)).2.1)
    have HSB := Lib.hid (byte_of (n := x.seats) ⟨by omega, by omega⟩)
    have hwr : IntKind.u8.wrap x.seats = x.seats := by rw [IntKind.wrap_u8]; omega
    have HRB := Lib.hid (byte_of (n := (x.rule : Int)) ⟨by omega, by omega⟩)
    clear h0 h1 h2 h4 h5 h6 h7 h8 h9
    obtain ⟨bi, hbi, hz0, hz1, hz2⟩ := slInfo_parts
    have HBI := Lib.hid hbi
    have HZ0 := Lib.hid hz0
    have HZ1 := Lib.hid hz1
    have HZ2 := Lib.hid hz2
    clear hbi hz0 hz1 hz2
    obtain ⟨p, hp⟩ : ∃ p, p = [UInt8.ofNat x.seats.toNat, UInt8.ofNat x.rule] := ⟨_, rfl⟩
    have HP := Lib.hid hp
    have HPL := Lib.hid (show p.length = 2 by rw [hp]; rfl)
    have HPC := Lib.hid (show #[Value.int .u8 x.seats, .int .u8 x.rule] = (p.map bv).toArray by
      have h1 := HSB.out
      have h2 := HRB.out
      rw [Int.toNat_natCast] at h2
      rw [hp]
      show _ = #[Value.int .u8 _, .int .u8 _]
      rw [← h1, ← h2])
    clear hp
    go_enter Tryd.func40, Tryd.ntmps40
    go_wp2_with fail
    refine (HK.out _ B0.out).mono ?_
    rintro e w1 ⟨rfl, hb⟩
    rw [H0.out]
    have B1 := Lib.hid (B0.out.trans (hb.mono B0.out.size))
    have HB1 := Lib.hid (HB0.out.below hb HB0.out.lt)
    have hc0 : w1.cell? ⟨w.heap.size, 0, none⟩ = some (.string ⟨x.name.toArray⟩) := HB1.out.cell 0
    clear hb HK
    go_wp2_with ((with_reducible refine wpList_to_bytes rfl (.tmp 14) rfl x.name rfl (Nat.le_trans HNL.out (by decide)) ?_); intro c2 w2 hr2 hb2 hs2; have HB2 := Lib.hid (HB1.out.below hb2 HB1.out.lt); have hd1 : w2.cell? ⟨w.heap.size, 1, none⟩ = some (.slice A x.cands.length c) := HB2.out.cell 1; have hd2 : w2.cell? ⟨w.heap.size, 2, none⟩ = some (.int .i64 x.seats) := HB2.out.cell 2; have hd3 : w2.cell? ⟨w.heap.size, 3, none⟩ = some (.int .u8 x.rule) := HB2.out.cell 3; have HB4 := Lib.hid ((HB2.out.alloc (.cells #[.int .u8 x.seats, .int .u8 x.rule] 5)).alloc (.cells #[.slice (some ⟨w1.heap.size, 0, none⟩) x.name.length c2, .slice (some ⟨w1.heap.size + 1, 0, none⟩) 2 2] 37)); have hd4 : ((w2.alloc (.cells #[.int .u8 x.seats, .int .u8 x.rule] 5)).alloc (.cells #[.slice (some ⟨w1.heap.size, 0, none⟩) x.name.length c2, .slice (some ⟨w1.heap.size + 1, 0, none⟩) 2 2] 37)).cell? ⟨w.heap.size, 1, none⟩ = some (.slice A x.cands.length c) := HB4.out.cell 1)
    obtain ⟨w4, hw4⟩ : ∃ w4, w4 = (w2.alloc (.cells #[.int .u8 x.seats, .int .u8 x.rule] 5)).alloc (.cells #[.slice (some ⟨w1.heap.size, 0, none⟩) x.name.length c2, .slice (some ⟨w1.heap.size + 1, 0, none⟩) 2 2] 37) := ⟨_, rfl⟩
    have hs4 : w4.heap.size = w1.heap.size + 1 + 1 + 1 := by rw [hw4]; simp only [World.size_alloc]; omega
    have HS4 := Lib.hid hs4
    have HO4 := Lib.hid (show Ow Oc.El.v w4 (w.heap.size + 1) 37 (some ⟨w1.heap.size + 1 + 1, 0, none⟩) 2 [⟨some ⟨w1.heap.size, 0, none⟩, c2, x.name⟩, ⟨some ⟨w1.heap.size + 1, 0, none⟩, 2, p⟩] by
      have h := World.ownsRow_lit (base := w.heap.size + 1) (e := 37) (size := 1) (w2.alloc (.cells #[.int .u8 x.seats, .int .u8 x.rule] 5)) #[Oc.El.v ⟨some ⟨w1.heap.size, 0, none⟩, c2, x.name⟩, Oc.El.v ⟨some ⟨w1.heap.size + 1, 0, none⟩, 2, p⟩] 2 (by have := B1.out.size; have := HB0.out.lt; have := HB1.out.lt; simp only [World.size_alloc]; omega) (by unfold maxLen; omega) rfl
      rw [show (w2.alloc (.cells #[.int .u8 x.seats, .int .u8 x.rule] 5)).heap.size = w1.heap.size + 1 + 1 by simp only [World.size_alloc]; omega] at h
      rw [hw4, show (Value.slice (some ⟨w1.heap.size + 1, 0, none⟩) 2 2) = Oc.El.v ⟨some ⟨w1.heap.size + 1, 0, none⟩, 2, p⟩ by unfold Oc.El.v; rw [HPL.out]]
      exact h)
    have HE4 := Lib.hid (show ∀ y ∈ [(⟨some ⟨w1.heap.size, 0, none⟩, c2, x.name⟩ : Oc.El), ⟨some ⟨w1.heap.size + 1, 0, none⟩, 2, p⟩], Fine w4 (some ⟨w1.heap.size + 1 + 1, 0, none⟩) y from fun y hy => by
      rcases List.mem_cons.1 hy with e | hy
      · subst e
        refine ⟨?_, fun g e => ?_⟩
        · rw [hw4]
          exact (((hr2.more (by omega)).alloc (Nat.le_refl _) _).alloc (by simp only [World.size_alloc]; omega) _).more (by simp only [World.size_alloc]; omega)
        · have e2 : w1.heap.size = g := by simpa [blk] using e
          exact ⟨by omega, fun e3 => by have : w1.heap.size + 1 + 1 = g := by simpa [blk] using e3
                                        omega⟩
      · obtain rfl := List.mem_singleton.1 hy
        refine ⟨?_, fun g e => ?_⟩
        · rw [hw4]
          have h : Hb bv (w2.alloc (.cells #[.int .u8 x.seats, .int .u8 x.rule] 5)) w2.heap.size 5 p := by
            rw [HPC.out]
            exact Blk.new w2 _ _
          have h2 := h.rf_all (c := 2) (by rw [HPL.out]; exact Nat.le_refl _) (by unfold maxLen; omega)
          rw [hs2] at h2
          exact (h2.alloc (Nat.le_refl _) _).more (by simp only [World.size_alloc]; omega)
        · have e2 : w1.heap.size + 1 = g := by simpa [blk] using e
          exact ⟨by omega, fun e3 => by have : w1.heap.size + 1 + 1 = g := by simpa [blk] using e3
                                        omega⟩)
    have B4 := Lib.hid (show Below w.heap.size w w4 by
      rw [hw4]
      have h1 := B1.out.size
      exact ((B1.out.trans (hb2.mono h1)).alloc (by omega) _).alloc (by simp only [World.size_alloc]; omega) _)
    have HB5 := Lib.hid (show Blk w4 w.heap.size 26 #[.string ⟨x.name.toArray⟩, .slice A x.cands.length c, .int .i64 x.seats, .int .u8 x.rule] by rw [hw4]; exact HB4.out)
    have HBY4 := Lib.hid (show Oc.byts [(⟨some ⟨w1.heap.size, 0, none⟩, c2, x.name⟩ : Oc.El), ⟨some ⟨w1.heap.size + 1, 0, none⟩, 2, p⟩] = x.name :: p :: x.cands.take 0 from rfl)
    have hw4' := hw4.symm
    rw [← hw4]
    clear hr2 hb2 hs2 HB2 hd1 hd2 hd3 HB4 hd4 hw4 hw4' hs4 hc0 HPC
    obtain ⟨xs4, hxs4⟩ : ∃ xs, xs = [(⟨some ⟨w1.heap.size, 0, none⟩, c2, x.name⟩ : Oc.El), ⟨some ⟨w1.heap.size + 1, 0, none⟩, 2, p⟩] := ⟨_, rfl⟩
    have HL4 := Lib.hid (show xs4.length = 2 by rw [hxs4]; rfl)
    rw [← hxs4] at HO4 HE4 HBY4
    clear hxs4
    go_loopw [5, 26] (fun f i wr => ∃ (k : Nat) (A' : Option Addr) (c' : Nat) (xs : List Oc.El), k ≤ x.cands.length ∧ f = .slice A' xs.length c' ∧ i = .int .i64 k ∧ Hid (Oc.byts xs = x.name :: p :: x.cands.take k) ∧ Hid (xs.length = k + 2) ∧ Hid (Ow Oc.El.v wr (w.heap.size + 1) 37 A' c' xs) ∧ Hid (∀ y ∈ xs, Fine wr A' y) ∧ Hid (Blk wr w.heap.size 26 #[.string ⟨x.name.toArray⟩, .slice A x.cands.length c, .int .i64 x.seats, .int .u8 x.rule]) ∧ Hid (Below w.heap.size w wr)) (fun _ i _ => x.cands.length - (intOf i).toNat)
    case atStart => exact ⟨0, _, 2, xs4, Nat.zero_le _, by rw [HL4.out], rfl, HBY4, HL4, HO4, HE4, HB5, B4⟩
    case round =>
      obtain ⟨k, A5, c5, xs5, hk, rfl, rfl, hby5, hln5, ho5, he5, hb5, hbw5⟩ := hrel
      rename_i wr
      by_cases hlt : k < x.cands.length
      · obtain ⟨b, o, rfl, hbb, hcc⟩ := (HR.out _ hbw5.out).at_ hlt
        have hcx := hcc k hlt
        have hzl := HCL.out _ (List.getElem_mem hlt)
        have htk := List.take_succ_eq_append_getElem hlt
        obtain ⟨z, hz⟩ : ∃ z, z = x.cands[k] := ⟨_, rfl⟩
        rw [← hz] at hcx hzl htk
        unfold sv at hcx
        have HTK := Lib.hid htk
        have HZL := Lib.hid hzl
        clear hcc hz hzl htk
        go_wp2_with (first
          | ((with_reducible refine wpList_to_bytes rfl (.tmp 31) rfl z rfl (Nat.le_trans HZL.out (by decide)) ?_); intro c6 w6 hr6 hb6 hs6; have HRF := Lib.hid (show Rf Oc.El.v (w6.alloc (.cells #[.slice (some ⟨wr.heap.size, 0, none⟩) z.length c6] 37)) (wr.heap.size + 1 + 1) (some ⟨wr.heap.size + 1, 0, none⟩) 1 [⟨some ⟨wr.heap.size, 0, none⟩, c6, z⟩] by have h := rf_one (f := Oc.El.v) (w := w6) ⟨some ⟨wr.heap.size, 0, none⟩, c6, z⟩ 37; rw [hs6] at h; exact h); have HOA := Lib.hid ((ho5.out.below (Nat.le_refl _) hb6).alloc (.cells #[.slice (some ⟨wr.heap.size, 0, none⟩) z.length c6] 37)); have HSA := Lib.hid (show w.heap.size + 1 ≤ (w6.alloc (.cells #[.slice (some ⟨wr.heap.size, 0, none⟩) z.length c6] 37)).heap.size by have := hbw5.out.size; have := hb5.out.lt; simp only [World.size_alloc]; omega); have HLE := Lib.hid (show xs5.length + [(⟨some ⟨wr.heap.size, 0, none⟩, c6, z⟩ : Oc.El)].length ≤ 4000000000 by have := hln5.out; simp only [List.length_cons, List.length_nil]; omega))
          | (at_builtin; refine wpList_append_f _ elv_one rfl (.tmp 30) (.tmp 33) 70 rfl (w.heap.size + 1) 37 24 bi _ Tryd.underlying70 HBI.out HZ0.out HZ1.out HZ2.out (by omega) rfl xs5 [⟨some ⟨wr.heap.size, 0, none⟩, c6, z⟩] rfl rfl HOA.out HRF.out HLE.out HSA.out ?_; intro A8 c8 w8 xs8 hx8 hown8 hg8 hbl8))
        have hne : ∀ j, blk A5 = some j → w.heap.size + 1 ≤ j := fun j e => (ho5.out.blk_ge j e).1
        refine ⟨⟨k + 1, A8, c8, xs8, by omega, rfl, by go_num, ?_, ?_, hown8, ?_, ?_, ?_⟩, by simp [intOf]; omega⟩
        · show _ = _
          rw [hx8.out, byts_snoc, hby5.out, HTK.out]
          rfl
        · show _ = _
          rw [hx8.out, List.length_append, hln5.out]
          rfl
        · exact fine_step ho5.out he5.out hb6 hs6 hr6 hx8.out hg8 hbl8
        · exact ((hb5.out.below hb6 hb5.out.lt).alloc _).grown hg8 (fun e => by have := hne w.heap.size e.symm; omega)
        · have h1 := hbw5.out.size
          exact ((hbw5.out.trans (hb6.mono h1)).alloc (by omega) (.cells #[.slice (some ⟨wr.heap.size, 0, none⟩) z.length c6] 37)).grown hg8 (by simp only [World.size_alloc]; omega) (fun j e => by have := hne j e; omega)
      · obtain rfl : k = x.cands.length := by omega
        have HPT := Lib.hid (show Oc.byts xs5 = partsM x by rw [hby5.out, List.take_of_length_le (Nat.le_refl _), HP.out]; rfl)
        have HRL := Lib.hid (rdl_of_fine ho5.out he5.out)
        have HXL := Lib.hid (show xs5.length ≤ 1000000 by have := hln5.out; omega)
        have HEL := Lib.hid (show ∀ y ∈ xs5, y.l.length ≤ 100000 from fun y hy => by
          have hm : y.l ∈ Oc.byts xs5 := List.mem_map.2 ⟨y, hy, rfl⟩
          rw [HPT.out] at hm
          rcases List.mem_cons.1 hm with e | hm
          · rw [e]; exact Nat.le_trans HNL.out (by decide)
          · rcases List.mem_cons.1 hm with e | hm
            · rw [e]; show 2 ≤ 100000; decide
            · exact Nat.le_trans (HCL.out _ hm) (by decide))
        have HJ := Lib.hid (show Oc.joinM (Oc.byts xs5) = (textM x, 0) by
          rw [HPT.out]
          exact Oc.joinM_good (by have := textM_short HM.out; unfold textM at this; omega))
        go_wp2_with fail
        refine (Oc.join_any A5 c5 xs5 wr HRL.out HXL.out HEL.out).mono ?_
        rintro e w9 ⟨A9, c9, r9, rfl, hr9, ho9, hb9⟩
        rw [HJ.out] at hr9 ⊢
        have HR9 := Lib.hid hr9
        have HO9 := Lib.hid (Ow.ofOc (ho9.lower hbw5.out.size))
        have B9 := Lib.hid (hbw5.out.trans (hb9.mono hbw5.out.size))
        clear hr9 ho9 hb9
        go_wp2_with fail
        go_ret2
        exact ⟨A9, c9, r9, 0, rfl, by rw [HQ.out, HR9.out], HO9.out, B9.out⟩
  all_goals
    have HQ := Lib.hid (bytesM_err (c := x) (by rw [h0]; decide))
    have H0 := Lib.hid h0
    clear h0
    go_enter Tryd.func40, Tryd.ntmps40
    go_wp2_with fail
    refine (HK.out _ B0.out).mono ?_
    rintro e w1 ⟨rfl, hb⟩
    rw [H0.out]
    have B1 := Lib.hid (B0.out.trans (hb.mono B0.out.size))
    clear hb
    go_wp2_with fail
    go_ret2
    exact ⟨none, 0, [], _, rfl, by rw [HQ.out, H0.out] <;> rfl, Ow.nil _ _ _, B1.out⟩
end Go.Proofs.YtdjifopdlkppoaaDoor
