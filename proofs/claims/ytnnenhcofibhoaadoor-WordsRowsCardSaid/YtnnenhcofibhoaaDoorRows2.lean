/- The walk of the law WordsRows. -/
import Derived.Test.YtnnenhcofibhoaaDoorAlive
import Derived.Test.YtnnenhcofibhoaaDoorRefTab
import Derived.Test.YtnnenhcofibhoaaDoorPureRows
import Derived.Test.YtnnenhcofibhoaaDoorTab2
namespace Go.Proofs.YtnnenhcofibhoaaDoor
open Go.RowKit
set_option linter.unusedVariables false
attribute [local go_sem] mk_get mk_append mk_extract

theorem sc_add {W : Nat → Nat} {ss r : List Nat} {m : Nat} (hr : r = ss ++ [m]) (hs : ∀ j (h : j < ss.length), ss[j] = cols W j) (hm : m = cols W ss.length) : ∀ j (h : j < r.length), r[j] = cols W j := by
  subst hr
  intro j h
  by_cases hj : j < ss.length
  · rw [List.getElem_append_left hj]; exact hs j hj
  · have e : j = ss.length := by simp at h; omega
    subst e
    simp [hm]

set_option maxRecDepth 100000 in
set_option maxHeartbeats 8000000 in
theorem rows_walk (a0 : Option Addr) (c0 : Nat) (x0 : List Rw) (w : World) (w0 : RfR w w.heap.size a0 c0 x0) (u0 : ∀ x ∈ x0, ∀ y ∈ x.l, y.length ≤ 140737488351232) (hT : Tab w) :
    Calls Tryd.prog 8 #[.slice a0 x0.length c0] w fun e w' => e = .returned (.bool true) ∧ Below w.heap.size w w' := by
  obtain ⟨i0, hi, hz0, hz1, hz2⟩ := info_parts infoI
  have HU : Hid (∀ x ∈ x0, ∀ y ∈ x.l, y.length ≤ 140737488355328) := fun x hx y hy => Nat.le_trans (u0 x hx y hy) (by decide)
  clear u0
  go_enter Tryd.func8, Tryd.ntmps8
  go_wp2_with fail
  refine (alive_any _ hT).mono ?_
  rintro e w2 ⟨rfl, hb2⟩
  go_wp2_with fail
  refine (great_any a0 c0 _ x0 w2 (w0.below hb2) HU.out).mono ?_
  rintro e w' ⟨b, rfl, rfl, hsum⟩
  cases b with
  | true =>
    go_wp2_with fail
    go_ret
    exact ⟨rfl, hb2⟩
  | false =>
  have hsum2 := hsum rfl
  clear hsum
  have hlen : x0.length ≤ 30000 := by have := sumR_len (txts x0); rw [txts_len] at this; omega
  have HRS : Hid (∀ i (h : i < x0.length), x0[i].l.length ≤ 30000) := by
    intro i h
    have h1 := sumR_get (txts x0) i (by rw [txts_len]; exact h)
    have h2 : (txts x0)[i]'(by rw [txts_len]; exact h) = x0[i].l := by simp [txts]
    rw [h2] at h1
    have h3 : (x0[i].l.map fun y => y.length + 1).sum = sumL x0[i].l := rfl
    have := sumL_len x0[i].l
    omega
  have HS := Lib.hid hsum2
  clear hsum2
  go_wp2_with fail
  have hc1 := table_any a0 c0 x0 w2 ((w0.below hb2).more hb2.size) (by have := HS.out; omega)
  rcases tableM_err (txts x0) with ⟨er, hq, her⟩ | ⟨t, hq⟩
  · rw [hq] at hc1
    have he1 : (er != 0) = true := by rw [bne_iff_ne]; exact her
    clear hq her
    (with_reducible refine hc1.mono ?_)
    rintro e w3 ⟨rfl, hb3⟩
    have b3 := hb2.trans (hb3.mono hb2.size)
    clear hc1
    go_wp2_with fail
    go_ret
    exact ⟨rfl, b3⟩
  rw [hq] at hc1
  obtain ⟨hl1, hl2, hl3, hl4, hl5⟩ := table_lines hq
  clear hq
  obtain ⟨W, hW⟩ : ∃ W, W = wd (txts x0) := ⟨_, rfl⟩
  rw [← hW] at hl1 hl5
  have HW := Lib.hid hW
  have HL1 := Lib.hid hl1
  have HL2 := Lib.hid hl2
  have HL5 := Lib.hid hl5
  clear hl1 hl2 hl5 hW
  (with_reducible refine hc1.mono ?_)
  rintro e w3 ⟨rfl, hb3⟩
  have b3 := hb2.trans (hb3.mono hb2.size)
  clear hc1
  go_wp2_with fail
  have hc2 := lines_any t w3 (by omega)
  rw [HL1.out] at hc2
  (with_reducible refine hc2.mono ?_)
  rintro e w4 ⟨A4, c4, ls, rfl, hls, hown4, hb4⟩
  dsimp only at hls ⊢
  clear hc2
  have b4 := b3.trans (hb4.mono b3.size)
  have hne : ((ls.length : Int) != (x0.length : Int)) = false := by rw [bne_eq_false_iff_eq, hls, List.length_map, txts_len]
  have hll : ls.length ≤ x0.length := by rw [hls, List.length_map, txts_len]; exact Nat.le_refl _
  have HLK : Hid (∀ k (h : k < ls.length), ls[k].length ≤ 16384) := by
    intro k h
    have h1 := sumL_get ls k h
    have h2 := flatL_len ls
    rw [hls, ← HL5.out] at h2
    rw [← hls] at h2
    omega
  have HLS := Lib.hid hls
  have hrows := w0.below b4
  have hlines := hown4.rd
  have hs4 := b4.size
  clear hls hown4 hb4 b3 hb3 hb2 w0 hl4 hl3
  go_wp2_with fail
  go_loopw [8, 9] (fun s i wr => ∃ (k : Nat) (A : Option Addr) (c : Nat) (ss : List Nat), k ≤ ls.length ∧ i = .int .i64 k ∧ s = .slice A ss.length c ∧ ss.length ≤ 30000 ∧ Hid (∀ j (h : j < ss.length), ss[j] = cols W j) ∧ Hid (Ow iv wr w4.heap.size 3 A c ss) ∧ Hid (Below w4.heap.size w4 wr)) (fun _ i _ => ls.length - (intOf i).toNat)
  case atStart => exact ⟨0, none, 0, [], Nat.zero_le _, rfl, rfl, by simp, (fun j h => by simp at h), Ow.nil _ _ _, Below.refl _ _⟩
  case round =>
    obtain ⟨k, A, c, ss, hk, rfl, rfl, hsl, hsc, hso, hbr⟩ := hrel
    by_cases hlt : k < ls.length
    · have hltx : k < x0.length := by omega
      obtain ⟨b, o, rfl, hbb, hc⟩ := hrows.top.at_ hltx
      obtain ⟨bl, ol, rfl, hbl, hcl⟩ := hlines.at_ hlt
      have hcx := hc k hltx
      have hcy := hcl k hlt
      have hrow := hrows.row x0[k] (List.getElem_mem hltx)
      have hsm := HRS.out k hltx
      have hLl := HLK.out k hlt
      have hltt : k < (txts x0).length := by rw [txts_len]; exact hltx
      have hgt : (txts x0)[k]'hltt = x0[k].l := by simp [txts]
      have hm : x0[k].l ∈ txts x0 := by rw [← hgt]; exact List.getElem_mem hltt
      have hLe : ls[k] = rowL W x0[k].l := by
        have h1 : ls[k]? = ((txts x0).map (rowL W))[k]? := by rw [HLS.out]
        rw [List.getElem?_map, List.getElem?_eq_getElem hlt, List.getElem?_eq_getElem hltt, hgt] at h1
        exact Option.some.inj h1
      obtain ⟨xA, xc, xl, hx⟩ : ∃ a c l, x0[k] = Rw.mk a c l := ⟨_, _, _, rfl⟩
      rw [hx] at hcx hrow hsm hm hLe
      dsimp only at hrow hsm hm hLe
      obtain ⟨L, hL⟩ : ∃ L, L = ls[k] := ⟨_, rfl⟩
      rw [← hL] at hcy hLl hLe
      unfold Rw.v at hcx
      unfold sv at hcy
      have HLE := Lib.hid hLe
      have HM := Lib.hid hm
      have hwk : ∀ j (h : j < xl.length), xl[j].length ≤ W j := by rw [HW.out]; exact wd_words hm
      have HWK := Lib.hid hwk
      have hcx1 := (hbr.out.cell (p := ⟨b, o + k, none⟩) (by show b < _; omega)).trans hcx
      have hcy1 := (hbr.out.cell (p := ⟨bl, ol + k, none⟩) hbl).trans hcy
      clear hc hcl hx hgt hm hLe hL hwk
      go_wp2_with fail
      go_loopw [8, 10, 11] (fun s p i wr => ∃ (j ep : Nat) (A : Option Addr) (c : Nat) (ss : List Nat), j ≤ xl.length ∧ i = .int .i64 j ∧ p = .int .i64 ep ∧ s = .slice A ss.length c ∧ ss.length ≤ 30000 ∧ j ≤ ss.length ∧ Hid (ep = endP W xl j) ∧ Hid (∀ j (h : j < ss.length), ss[j] = cols W j) ∧ Hid (Ow iv wr w4.heap.size 3 A c ss) ∧ Hid (Below w4.heap.size w4 wr)) (fun _ _ i _ => xl.length - (intOf i).toNat)
      case atStart => exact ⟨0, 0, A, c, ss, Nat.zero_le _, rfl, rfl, rfl, hsl, Nat.zero_le _, rfl, hsc, hso, hbr⟩
      case round =>
        obtain ⟨j, ep, A, c, ss, hj, rfl, rfl, rfl, hsl, hjs, hep, hsc, hso, hbr⟩ := hrel
        have hcx1 := (hbr.out.cell (p := ⟨b, o + k, none⟩) (by show b < _; omega)).trans hcx
        have hcy1 := (hbr.out.cell (p := ⟨bl, ol + k, none⟩) hbl).trans hcy
        by_cases hjl : j < xl.length
        · obtain ⟨b2, o2, hA, hb2, hc2⟩ := hrow.at_ hjl
          have hcz := hc2 j hjl
          have hgap := rowL_gap HWK.out hjl
          have hwrd := rowL_word HWK.out hjl
          have hends := endP_succ W xl j hjl
          have hwd : isWordB xl[j] = true := by
            have h1 := HL2.out xl HM.out
            unfold areWordsB at h1
            exact List.all_eq_true.1 h1 _ (List.getElem_mem hjl)
          rw [← HLE.out, ← hep.out] at hgap
          rw [← HLE.out] at hwrd
          obtain ⟨y, hy⟩ : ∃ y, y = xl[j] := ⟨_, rfl⟩
          rw [← hy] at hcz hends hwd
          simp only [← hy] at hwrd
          obtain ⟨cj, hcj⟩ : ∃ cj, cj = cols W j := ⟨_, rfl⟩
          rw [← hcj] at hends hgap hwrd
          obtain ⟨hg1, hg2⟩ := hgap
          obtain ⟨hw1, hw2, hw3⟩ := hwrd
          obtain ⟨hn0, hn32⟩ := word_head hwd
          have hw4 := hw3 hn0
          clear hw3
          have hLcj : cj < L.length := by omega
          have hLw : L[cj] ≠ 32 := by
            rw [List.getElem?_eq_getElem hLcj] at hw4
            rw [Option.some.inj hw4]
            exact hn32
          obtain ⟨q, hq⟩ : ∃ q, q = cj + y.length := ⟨_, rfl⟩
          have hqi : (cj : Int) + (y.length : Int) = (q : Int) := by omega
          have hex : (L.drop cj).take (q - cj) = y := by rw [hq, Nat.add_sub_cancel_left]; exact hw2
          have HE : Hid (q = endP W xl (j + 1)) := by show _ = _; rw [hends, hq]
          have hqL : q ≤ L.length := by omega
          have hcq : cj ≤ q := by omega
          have HCJ := Lib.hid hcj
          have HG2 := Lib.hid hg2
          have hcz1 := (hbr.out.cell (p := ⟨b2, o2 + j, none⟩) (by show b2 < _; omega)).trans hcz
          unfold sv at hcz1 hcz
          have hq1 : ¬ (L.length : Int) < (q : Int) := by omega
          have hq2 : (cj : Int) ≤ q := by omega
          have hq3 : (q : Int) ≤ L.length := by omega
          have h32t : ¬ ((L[cj].toNat : Nat) : Int) = 32 := by
            intro e
            refine hLw (UInt8.toNat_inj.1 ?_)
            have : L[cj].toNat = 32 := by omega
            rw [this]; rfl
          have h32u : (((L[cj].toNat : Nat) : Int) == 32) = false := by rw [beq_eq_false_iff_ne]; exact h32t
          have H32 := Lib.hid h32t
          clear hc2 hy hends hwd hcj hg2 hw2 hw4 hn32 hLw hq h32t
          subst hA
          go_wp2_with fail
          go_loop [10] (fun p => ∃ m : Nat, p = .int .i64 m ∧ ep ≤ m ∧ m ≤ cj) (fun p => cj - (intOf p).toNat)
          case atStart => exact ⟨ep, rfl, Nat.le_refl _, hg1⟩
          case round =>
            obtain ⟨m, rfl, hm1, hm2⟩ := hrel
            by_cases hmc : m < cj
            · have hmL : m < L.length := by omega
              have h32 : L[m] = 32 := by
                have h1 := HG2.out m hm1 hmc
                rw [List.getElem?_eq_getElem hmL] at h1
                exact Option.some.inj h1
              go_wp2_with fail
              go_round
              case rel => exact ⟨m + 1, by go_num, by omega, by omega⟩
              case measure => simp [intOf]; omega
            · obtain rfl : m = cj := by omega
              by_cases hjs2 : j = ss.length
              · have hjb : ((j : Int) == (ss.length : Int)) = true := by rw [beq_iff_eq]; omega
                have hoS := hso.out
                have hbs := hbr.out.size
                have HJS := Lib.hid hjs2
                clear hjs2
                go_wp2_with (at_builtin; refine wpList_append_f _ iv_one rfl _ _ 44 rfl w4.heap.size 3 8 i0 _ Tryd.underlying44 hi hz0 hz1 hz2 (by omega) rfl ss [m] rfl rfl (hoS.alloc _) (rf_one wr (f := iv) m 3) (by simp; omega) (by simp; omega) ?_; intro A5 c5 w5 r5 hr5 hown5 hg5 _; have hB5 : Below w4.heap.size w4 w5 := (hbr.out.trans ((Below.refl _ wr).alloc hbs _)).trans (below_of_grown hg5 (by simp; omega) (fun k e => (hoS.blk_ge k e).1)); have hr5l : r5.length = j + 1 := (by have h1 := congrArg List.length hr5.out; rw [List.length_append] at h1; have h2 := HJS.out; have h3 : [m].length = 1 := rfl; omega); obtain ⟨b5, o5, rfl, hbb5, hcc5⟩ := hown5.rd.at_ (k := j) (by omega); have hcs := hcc5 j (by omega); have hSC : Hid (∀ j (h : j < r5.length), r5[j] = cols W j) := sc_add hr5.out hsc.out (by rw [HCJ.out, HJS.out]); rw [hSC.out j, ← HCJ.out] at hcs; unfold iv at hcs; have hcx5 := (hB5.cell (p := ⟨b, o + k, none⟩) (by show b < _; omega)).trans hcx; have hcy5 := (hB5.cell (p := ⟨bl, ol + k, none⟩) hbl).trans hcy; have hcz5 := (hB5.cell (p := ⟨b2, o2 + j, none⟩) (by show b2 < _; omega)).trans hcz;  have HR5 := Lib.hid hr5l; have hjr5 : j < r5.length := (by omega); have H5 := Lib.hid hown5; clear hcc5 hg5 hown5 hr5 hr5l)
                go_quiet (fail)
                go_wp2_with fail
                go_roundw
                case rel => exact ⟨j + 1, q, _, _, _, by omega, by go_num, rfl, rfl, by have := HR5.out; omega, by have := HR5.out; omega, HE, hSC, H5.out.drewN _, hB5.trans (below_drewN _ _ _)⟩
                case measure => simp [intOf]; omega
              · have hjb : ((j : Int) == (ss.length : Int)) = false := by rw [beq_eq_false_iff_ne]; omega
                have hjs3 : j < ss.length := by omega
                obtain ⟨b5, o5, rfl, hbb5, hcc5⟩ := hso.out.rd.at_ hjs3
                have hcs := hcc5 j hjs3
                rw [hsc.out j hjs3, ← HCJ.out] at hcs
                unfold iv at hcs
                clear hcc5 hjs2
                go_wp2_with fail
                go_quiet (fail)
                go_wp2_with fail
                go_roundw
                case rel => exact ⟨j + 1, q, _, _, _, by omega, by go_num, rfl, rfl, hsl, hjs3, HE, hsc, hso.out.drewN _, hbr.out.trans (below_drewN _ _ _)⟩
                case measure => simp [intOf]; omega
        · obtain rfl : j = xl.length := by omega
          have hpe : ep = L.length := by rw [hep.out, rowL_end HWK.out, HLE.out]
          subst hpe
          go_wp2_with fail
          go_roundw
          case rel => exact ⟨k + 1, A, c, ss, by omega, by go_num, rfl, hsl, hsc, hso, hbr⟩
          case measure => simp [intOf]; omega
    · go_wp2_with fail
      go_ret
      exact ⟨rfl, b4.trans (hbr.out.mono hs4)⟩
end Go.Proofs.YtnnenhcofibhoaaDoor
