/- digest's digest, which ranges over the blocks of the padded input. -/
import Derived.Test.YtipclieldokfnaaDoorBlocks
namespace Go.Proofs.YtipclieldokfnaaDoor
open Go.RowKit Go.Shelf
set_option linter.unusedVariables false
attribute [local go_sem] Oper.semAt_some

/-- The state behind the blocks of these numbers, one after another. -/
def stF (p : List UInt8) (js : List Nat) : List UInt32 := js.foldl (fun s j => comp s (seg p (64 * j) 64)) start
theorem stF_snoc (p : List UInt8) (js : List Nat) (j : Nat) : stF p (js ++ [j]) = comp (stF p js) (seg p (64 * j) 64) := by simp [stF]
theorem stF_len (p : List UInt8) (js : List Nat) : (stF p js).length = 8 := by
  unfold stF
  have h : ∀ (js : List Nat) (s : List UInt32), s.length = 8 → (js.foldl (fun s j => comp s (seg p (64 * j) 64)) s).length = 8 := by
    intro js
    induction js with
    | nil => intro s hs; exact hs
    | cons j js ih => intro s hs; exact ih _ (comp_len _ hs)
  exact h js _ start_len
theorem stF_range (p : List UInt8) : ∀ m, stF p (List.range m) = stA start p m
  | 0 => rfl
  | m + 1 => by rw [List.range_succ, stF_snoc, stF_range p m]; rfl

/-- The bytes of the first t words, and zeros behind them. -/
def outTo (S : List UInt32) (t : Nat) : List UInt8 := bytesOf (S.take t) ++ List.replicate (32 - 4 * t) 0
theorem outTo_len {S : List UInt32} (hS : S.length = 8) {t : Nat} (ht : t ≤ 8) : (outTo S t).length = 32 := by
  unfold outTo
  rw [List.length_append, bytesOf_len, List.length_take, List.length_replicate]; omega
theorem outTo_all {S : List UInt32} (hS : S.length = 8) : outTo S 8 = bytesOf S := by
  unfold outTo
  rw [List.take_of_length_le (by omega)]; simp
theorem outTo_step {S : List UInt32} (hS : S.length = 8) {t : Nat} (ht : t < 8) : put (outTo S t) (4 * t) (beN 4 (S.getD t 0).toNat) = outTo S (t + 1) := by
  have h1 : (bytesOf (S.take t)).length = 4 * t := by rw [bytesOf_len, List.length_take]; omega
  have h2 : S.getD t 0 = S[t] := by simp [List.getD, show t < S.length by omega]
  unfold put outTo
  rw [List.take_left' h1, List.take_succ_eq_append_getElem (show t < S.length by omega), bytesOf_append, h2, List.append_assoc]
  congr 1
  rw [beN_len, List.drop_append, List.drop_of_length_le (by omega), List.nil_append, h1, List.drop_replicate]
  show _ = (beN 4 (S[t]).toNat ++ bytesOf []) ++ _
  rw [bytesOf, List.append_nil]
  congr 2
  omega
set_option maxRecDepth 100000 in
set_option maxHeartbeats 2000000 in
theorem digest_any (A : Option Addr) (c B : Nat) (l : List UInt8) (w : World) (hr : Rf bv w B A c l) (hB : B ≤ w.heap.size) (hl : l.length ≤ 100000) (hT : Tab w) :
    Calls Tryd.prog 42 #[.slice A l.length c] w fun e w' => e = .returned (ab (dig l)) ∧ Below w.heap.size w w' := by
  refine (callsIn_wide (n := 6)).1 ?_
  refine callsIn_of_wp_marks Tryd.func42 rfl trivial ?_ rfl
  simp only [Tryd.ntmps42, List.size_toArray, List.length_cons, List.length_nil, Nat.reduceAdd, Nat.reduceSub, Array.replicate_succ, Array.replicate_zero, List.push_toArray, List.append_toArray, List.nil_append, List.cons_append]
  gi_wp2_with fail
  refine ⟨trivial, (callsIn_wide.2 (start_any _)).mono ?_⟩
  rintro e w1 ⟨rfl, hb1⟩
  have hz1 : Hb bv w1 w.heap.size 22 (List.replicate 32 0) := Hb.below (Hb.new bv w _ (List.replicate 32 0) _ rfl) hb1 (by simp)
  have hbw1 := ((Below.refl _ w).alloc (Nat.le_refl _) _).trans (hb1.mono (by simp))
  have hs1 := hb1.size
  simp only [World.size_alloc] at hs1
  clear hb1
  obtain ⟨a, b, c1, d, e, f, g, h, hst⟩ := len8 start_len
  unfold aw
  rw [hst]
  have HST := Lib.hid hst
  clear hst
  simp only [List.map_cons, List.map_nil, uv]
  gi_wp2_with fail
  refine ⟨trivial, (callsIn_wide.2 (pad_any A c B l _ (hr.below (hbw1.mono hB |>.trans ((below_new w1 _).mono (by omega)))) (by rw [World.size_alloc]; omega) hl)).mono ?_⟩
  rintro e2 w2 ⟨n, rfl, hn, hp2, hb2, hs2⟩
  have hst2 := Hb.below (Hb.new uv w1 _ [a, b, c1, d, e, f, g, h] _ rfl) hb2 (by simp)
  have hz2 := Hb.below (hz1.alloc _) hb2 (by simp; omega)
  have hbw2 := hbw1.trans (((below_new w1 _).trans (hb2.mono (by simp))).mono (by omega))
  simp only [World.size_alloc] at hp2 hs2
  clear hb2 hz1 hbw1
  gi_wp2_with fail
  refine ⟨trivial, (callsIn_wide.2 (blocks_call _ n n w2)).mono ?_⟩
  rintro e3 w3 ⟨rfl, rfl⟩
  gi_wp2_with fail
  obtain ⟨m, hm⟩ : ∃ m, n = 64 * m := ⟨(l.length + 72) / 64, by rw [hn.out, padB_len]; omega⟩
  have HM := Lib.hid (show m = blocksN l by unfold blocksN; have := hn.out; rw [padB_len] at this; omega)
  have hm10 : m ≤ 10000 := by have := hn.out; rw [padB_len] at this; omega
  have HPL := Lib.hid (show (padB l).length = 64 * m by rw [← hm]; exact hn.out.symm)
  subst hm
  clear hn
  obtain ⟨p, hpe⟩ : ∃ p, p = padB l := ⟨_, rfl⟩
  rw [← hpe] at hp2 HPL
  have HP := Lib.hid hpe
  clear hpe
  have hst0 := hst2.alloc (.cells #[.slice (some ⟨w1.heap.size + 1, 0, none⟩) (64 * m) (64 * m)] 36)
  have hz0 := hz2.alloc (.cells #[.slice (some ⟨w1.heap.size + 1, 0, none⟩) (64 * m) (64 * m)] 36)
  have hp0 := hp2.alloc (.cells #[.slice (some ⟨w1.heap.size + 1, 0, none⟩) (64 * m) (64 * m)] 36)
  have hc0 := (Blk.new w2 36 #[.slice (some ⟨w1.heap.size + 1, 0, none⟩) (64 * m) (64 * m)]).cell 0
  have hbw0 := hbw2.alloc (by omega) (.cells #[.slice (some ⟨w1.heap.size + 1, 0, none⟩) (64 * m) (64 * m)] 36)
  have hsz : (w2.alloc (.cells #[.slice (some ⟨w1.heap.size + 1, 0, none⟩) (64 * m) (64 * m)] 36)).heap.size = w2.heap.size + 1 := by simp
  simp only [List.getElem?_toArray, List.getElem?_cons_zero] at hc0
  generalize hW0 : (w2.alloc (.cells #[.slice (some ⟨w1.heap.size + 1, 0, none⟩) (64 * m) (64 * m)] 36)) = W0 at *
  clear hW0 hst2 hz2 hp2 hbw2
  have HSZ := Lib.hid hsz
  have hge : w2.heap.size + 1 ≤ W0.heap.size := by omega
  clear hsz
  have HT := Lib.hid hT
  clear hT
  refine wpIn_range_new (F := Fence.wide) (n := 6) rfl (by omega) (gf := 72) (lb := #[.pointer (some ⟨w2.heap.size, 0, none⟩)]) rfl trivial (enters_of Tryd.func72 (by kernel_rfl) rfl)
    (blocks_seq (w1.heap.size + 1) m w2.heap.size w1.heap.size W0.heap.size W0 5 (by omega) hm10 hc0 (by omega) rfl)
    (fun h k => ⟨Nat.le_trans h.1 k.1, fun i h1 h2 => (k.2 i h1 h2).trans (h.2 i h1 h2)⟩)
    (fun W r o o' hr' h1 h2 => ⟨by simp, fun k hk _ => World.putObj_heap_other (by omega)⟩)
    (fun y s X Y row hs hg hrow => hs) (fun _ => rfl)
    (fun pre W => Hb uv W w1.heap.size 88 (stF p pre) ∧ Hb bv W (w1.heap.size + 1) 5 p ∧ Hb bv W w.heap.size 22 (List.replicate 32 0) ∧ Below w.heap.size w W ∧ W0.heap.size ≤ W.heap.size)
    (fun _ _ _ => False)
    ?hI ?hIx ?h0
    (fun j => { tmps := #[.slice A l.length c, undef, .pointer (some ⟨w.heap.size, 0, none⟩), .pointer (some ⟨w1.heap.size, 0, none⟩), .slice (some ⟨w1.heap.size + 1, 64 * j, none⟩) 64 (64 * (m - j)), undef, undef, undef,
      .agg #[.int .u32 (a.toNat : Int), .int .u32 (b.toNat : Int), .int .u32 (c1.toNat : Int), .int .u32 (d.toNat : Int), .int .u32 (e.toNat : Int), .int .u32 (f.toNat : Int), .int .u32 (g.toNat : Int), .int .u32 (h.toNat : Int)],
      .slice A l.length c, .slice (some ⟨w1.heap.size + 1, 0, none⟩) (64 * m) (64 * m), .func (.func 72) #[] #[.pointer (some ⟨w2.heap.size, 0, none⟩)], .slice (some ⟨w1.heap.size + 1, 64 * j, none⟩) 64 (64 * (m - j)),
      undef, undef, undef, undef, undef, undef, undef, undef, undef, undef, undef, undef, undef, undef, undef, undef, undef, undef, undef], defers := [] }) ?assign ?body ?done ?stop
  case hI =>
    rintro s X Y row ⟨h1, h2, h3, h4, h5⟩ hg hrow
    have hro := fun r e => (hrow r e).2
    exact ⟨hb_obj h1 hg hro, hb_obj h2 hg hro, hb_obj h3 hg hro, h4.grown hg h4.size (fun k e => by have := (hrow k e).1; omega), Nat.le_trans h5 hg.size⟩
  case hIx =>
    rintro c' s X Y row hF
    exact hF.elim
  case h0 => exact ⟨by rw [show stF p [] = [a, b, c1, d, e, f, g, h] from HST.out]; exact hst0, hp0, hz0, hbw0, Nat.le_refl _⟩
  case assign =>
    intro r y W K hK
    gi_wp2
    exact hK
  case body =>
    rintro r pre j W ⟨h1, h2, h3, h4, h5⟩ hj hlt
    have hj64 : 64 * j + 64 ≤ p.length := by rw [HPL.out]; omega
    have hCall := compress_any (stF p pre) _ (64 * (m - j)) _ (seg p (64 * j) 64) W (stF_len p pre) (h2.rf (o := 64 * j) (n := 64) (c := 64 * (m - j)) hj64 (by omega) (by unfold maxLen; omega)) (Nat.le_refl _) (seg_len hj64) (HT.out.below h4)
    rw [← stF_snoc] at hCall
    unfold aw at hCall
    obtain ⟨cs, hcs⟩ : ∃ cs, ((stF p pre).map uv).toArray = cs := ⟨_, rfl⟩
    obtain ⟨cs2, hcs2⟩ : ∃ cs2, ((stF p (pre ++ [j])).map uv).toArray = cs2 := ⟨_, rfl⟩
    rw [hcs, hcs2] at hCall
    have HC := Lib.hid hCall
    have HCS := Lib.hid hcs
    have HCS2 := Lib.hid hcs2
    have H1 := Lib.hid h1
    have H2 := Lib.hid h2
    have H3 := Lib.hid h3
    have H4 := Lib.hid h4
    have hlt1 := h1.lt
    have hlt2 := h2.lt
    have hlt3 := h3.lt
    clear hCall hcs hcs2 h1 h2 h3 h4
    gi_wp2_with (first
      | ((with_reducible refine wpListIn_load_hb rfl _ (.tmp 3) rfl _ rfl H1.out Tryd.underlying88 (by rw [stF_len]; exact size8) cs HCS.out ?_))
      | ((with_reducible refine wpListIn_store_hb uv_one rfl _ (.tmp 3) (.tmp 15) rfl _ (stF p (pre ++ [j])) cs2 HCS2.out rfl rfl H1b.out size8 (stF_len p pre) (stF_len p _) ?_); intro w5 h5' hg5)
      | (refine ⟨trivial, (callsIn_wide.2 HC.out).mono ?_⟩; rintro e4 w4 ⟨rfl, hb4⟩; have H1b := Lib.hid (H1.out.below hb4 hlt1)))
    have hs4 := hb4.size
    have hs5 := hg5.size
    refine ⟨(KeepsOthers.of_grownBy (grown_of_below hb4 (Nat.le_refl _) none) (fun _ _ e => by cases e)).trans (KeepsOthers.of_grownBy hg5 (fun i o ej hi => by cases ej; rw [H1b.out.heap] at hi; cases hi; rfl)), ⟨by omega, fun k hk hkl => (hg5.block k (by omega) (by simpa using hkl)).trans (hb4.block k (by omega))⟩, h5', ?_, ?_, ?_, by omega⟩
    · exact (H2.out.below hb4 hlt2).grown hg5 (by simp)
    · exact (H3.out.below hb4 hlt3).grown hg5 (by simp; omega)
    · exact (H4.out.trans (hb4.mono H4.out.size)).grown hg5 (H4.out.trans (hb4.mono H4.out.size)).size (fun k e => by cases e; omega)
  case done =>
    rintro D ys W hD rfl ⟨h1, h2, h3, h4, h5⟩ hK
    clear hst0 hz0 hp0 hbw0 hc0 h2
    obtain ⟨S, hS⟩ : ∃ S, S = stF p (List.range m) := ⟨_, rfl⟩
    have hSL : S.length = 8 := by rw [hS]; exact stF_len _ _
    have HD := Lib.hid (show bytesOf S = dig l by rw [hS, stF_range, HM.out, HP.out]; rfl)
    rw [← hS] at h1
    clear hS
    obtain ⟨cs, hcs⟩ : ∃ cs, (S.map uv).toArray = cs := ⟨_, rfl⟩
    have HX : ∀ (t : Nat) (ht : t < 8) w, (Instr.index 88 (.agg cs) (.int .i64 (t : Int))).run Tryd.prog w = .ok (.int .u32 ((S.getD t 0).toNat : Int)) w := by
      intro t ht w
      rw [← hcs]
      exact idx_words Tryd.underlying88 (by kernel_rfl) Tryd.underlying27 hSL ht w
    have HIX := Lib.hid HX
    have HCS := Lib.hid hcs
    have HSL := Lib.hid hSL
    have H1 := Lib.hid h1
    have H3 := Lib.hid h3
    have H4 := Lib.hid h4
    have HK := Lib.hid hK
    clear HX hcs hSL h1 h3 h4 hK
    gi_wp2_with (first
      | ((with_reducible refine wpListIn_load_hb rfl _ (.tmp 3) rfl _ rfl (H1.out.alloc _) Tryd.underlying88 (by rw [HSL.out]; exact size8) cs HCS.out ?_)))
    gi_loopw [17] (fun i wr => ∃ t : Nat, t ≤ 8 ∧ i = .int .i64 t ∧ Hid (Hb bv wr W.heap.size 22 (outTo S t)) ∧ Hid (Hb bv wr w.heap.size 22 (List.replicate 32 0)) ∧ Hid (Below w.heap.size w wr) ∧ Hid (wr.heap[D]? = some (.deferred (some []))))
      (fun i _ => 8 - (intOf i).toNat)
    case atStart =>
      exact ⟨0, by omega, rfl, Hb.new bv W _ _ _ rfl, H3.out.alloc _, H4.out.alloc H4.out.size _, (Below.heap_alloc W _ D (Array.getElem?_eq_some_iff.1 HK.out).1).trans HK.out⟩
    case round =>
      clear H1 H3 H4
      obtain ⟨t, ht, rfl, hd, h3, h4, hk⟩ := hrel
      by_cases h8 : t = 8
      · have e8 : (t : Int) = 8 := by omega
        rw [h8, outTo_all HSL.out, HD.out] at hd
        rw [e8]
        clear e8 h8 ht t
        gi_wp2_with (first
          | ((with_reducible refine wpListIn_load_hb rfl _ (.tmp 5) rfl _ rfl hd.out Tryd.underlying22 (by rw [dig_len]; exact size32) _ rfl ?_))
          | ((with_reducible refine wpListIn_store_hb bv_one rfl _ (.tmp 2) (.tmp 31) rfl _ (dig l) _ rfl rfl rfl h3.out size32 (List.length_replicate ..) (dig_len l) ?_); intro w5 h5' hg5))
        have hs5 := hg5.size
        have hDlt := (Array.getElem?_eq_some_iff.1 hk.out).1
        have hDW := (Array.getElem?_eq_some_iff.1 HK.out).1
        have hK5 : w5.heap[D]? = some (.deferred (some [])) := (hg5.block D hDlt (by simp; omega)).trans hk.out
        have hb5 : Below w.heap.size w w5 := h4.out.grown hg5 h4.out.size (fun k e => by cases e; omega)
        have hro : ∀ r, some D = some r → ∃ o : Obj, w5.heap[r]? = some o ∧ o.isCells = false := fun r e => by cases e; exact ⟨_, hK5, rfl⟩
        have h6 := hb_obj h5' (grownBy_putObj' w5 D (.deferred none)) hro
        refine ⟨by simp, .inl ⟨_, _, rfl, run_takeDeferred hK5, ?_⟩⟩
        refine ⟨.agg ((dig l).map bv).toArray, ?_, rfl, ?_⟩
        · exact results_cell_row rfl _ _ w.heap.size 22 _ _ _ rfl h6.heap Tryd.underlying22 rfl (by rw [List.size_toArray, List.length_map, dig_len]; exact size32)
        · exact hb5.trans (belowK_b (w := W0) (by omega) w5 D _ _ hD hK5 rfl rfl)
      · have hix := HIX.out t (by omega)
        obtain ⟨x, hx⟩ : ∃ x, x = S.getD t 0 := ⟨_, rfl⟩
        rw [← hx] at hix
        have HXE := Lib.hid hx
        clear hx
        have ht8 : t < 8 := by omega
        have hxl := u32_lt x
        have hsl := fun wx => slice_arr (P := Tryd.prog) Tryd.underlying22 bSize W.heap.size (4 * t) (4 * (t + 1)) 4 (4 * (t : Int)) (4 * ((t : Int) + 1)) (by omega) (by omega) (by omega) (by omega) (by omega) (by omega) wx
        gi_wp2_with fail
        refine ⟨trivial, (callsIn_wide.2 (putInteger_any W.heap.size 22 (4 * t) 4 (32 - 4 * t) x.toNat (outTo S t) wr hd.out (by rw [outTo_len HSL.out (by omega)]; omega) (by omega) (by omega) (by omega) (by have := u32_lt x; omega) (by rw [outTo_len HSL.out (by omega)]; omega))).mono ?_⟩
        rintro e6 w6 ⟨⟨v, rfl⟩, h6, hg6⟩
        rw [HXE.out, outTo_step HSL.out ht8] at h6
        have hDlt := (Array.getElem?_eq_some_iff.1 hk.out).1
        have hDW := (Array.getElem?_eq_some_iff.1 HK.out).1
        have hlt3 := h3.out.lt
        have H6 := Lib.hid h6
        clear h6 hsl
        gi_wp2_with fail
        go_roundw
        case rel =>
          refine ⟨t + 1, by omega, by go_num, H6.out, h3.out.grown hg6 (by simp; omega), h4.out.grown hg6 h4.out.size (fun k e => by cases e; omega), ?_⟩
          exact (hg6.block D hDlt (by simp; omega)).trans hk.out
        case measure => simp [intOf]; omega
  case stop =>
    rintro D c' pre W hD _ hF hK
    exact hF.elim
end Go.Proofs.YtipclieldokfnaaDoor
