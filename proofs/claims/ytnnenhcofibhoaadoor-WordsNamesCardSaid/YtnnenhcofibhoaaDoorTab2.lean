/- words' closure that lays out a row, and Table. -/
import Derived.Test.YtnnenhcofibhoaaDoorTab
namespace Go.Proofs.YtnnenhcofibhoaaDoor
open Go.RowKit
set_option linter.unusedVariables false

theorem blk_type_ne {w : World} {g g' t t' : Nat} {cs cs' : Array Value} (h : Blk w g t cs) (h' : Blk w g' t' cs') (hne : t ≠ t') : g ≠ g' := by
  rintro rfl
  unfold Blk at h h'
  rw [h] at h'
  injection h' with h'
  injection h' with _ ht
  exact hne ht
/-- A row of another type is kept by the draft's steps. -/
theorem Ow.dk {α : Type} {f : α → Value} {w w' : World} {base e c b3 gd : Nat} {A : Option Addr} {xs : List α} (h : Ow f w base e A c xs) (he : e ≠ 5) (hg : some gd ≠ blk A) (hk : Dk b3 gd w w') : Ow f w' base e A c xs := by
  refine ⟨h.1, ?_⟩
  rcases h.2 with hn | ⟨g, cap, cur, hv, hbg, hh, r⟩
  · exact .inl hn
  · refine .inr ⟨g, cap, cur, hv, hbg, ?_, r⟩
    have hne : g ≠ gd := by
      intro e
      simp only [Value.slice.injEq] at hv
      rw [hv.1, e] at hg
      exact hg rfl
    exact (hk.2 g cur e (0, 0) hh hne he).trans hh
theorem Wid.dk {w w' : World} {base g b2 b3 gd : Nat} {rs : List Row} {t : List UInt8} (h : Wid w base g rs) (hd : Dr w b2 gd t) (hk : Dk b3 gd w w') : Wid w' base g rs := by
  obtain ⟨hg, A, c, ws, h1, h2, h3⟩ := h
  obtain ⟨_, A2, c2, l2, over, hB, _⟩ := hd
  have hne := blk_type_ne h1 hB (by decide)
  have hne2 := ow_blk_ne h2 hB (by decide)
  exact ⟨hg, A, c, ws, (hk.2 g _ _ _ h1 hne (by decide)).trans h1, h2.dk (by decide) hne2 hk, h3⟩

set_option maxRecDepth 100000 in
set_option maxHeartbeats 2000000 in
theorem rowput_any (bw gw bd gd B c : Nat) (A : Option Addr) (t : List UInt8) (l : Row) (rows : List Row) (w : World) (hl : l ∈ rows) (hwd : Wid w bw gw rows) (hd : Dr w bd gd t) (hw : bd ≤ w.heap.size) (hr : Rf sv w B A c l) (hB : B ≤ bd) (hs : sumL l ≤ 4000000) :
    Calls Tryd.prog 47 #[.pointer (some ⟨gd, 0, none⟩), .slice A l.length c, .pointer (some ⟨gw, 0, none⟩)] w fun e w' => e = .returned (.tuple #[]) ∧ Dr w' bd gd (t ++ (rowP (wd rows) l l.length ++ [10])) ∧ Dk bd gd w w' := by
  have hlen : l.length ≤ 4000000 := Nat.le_trans (sumL_len l) hs
  have HS := Lib.hid hs
  have HM := Lib.hid hl
  clear hs hl
  go_enter Tryd.func47, Tryd.ntmps47
  go_wp2_with fail
  go_loopw [9] (fun i wr => ∃ k : Nat, k ≤ l.length ∧ i = .int .i64 k ∧ Dr wr bd gd (t ++ rowP (wd rows) l k) ∧ Dk bd gd w wr) (fun i _ => l.length - (intOf i).toNat)
  case atStart => exact ⟨0, Nat.zero_le _, rfl, by rw [show rowP (wd rows) l 0 = [] from rfl, List.append_nil]; exact hd, Dk.refl _ _ _⟩
  case round =>
    obtain ⟨k, hk, rfl, hd0, hk0⟩ := hrel
    have hbr : Below B w wr := hk0.1.mono hB
    have hwr := Nat.le_trans hw hk0.1.size
    by_cases hlt : k < l.length
    · obtain ⟨b, o, rfl, hbb, hc⟩ := (hr.below hbr).at_ hlt
      have hcx := hc k hlt
      have hxl := sumL_get l k hlt
      have hp := rowP_succ (wd rows) l k hlt
      have hcw : cellW l k = l[k].length + 2 := cellW_in hlt
      obtain ⟨x, hx⟩ : ∃ x, x = l[k] := ⟨_, rfl⟩
      rw [← hx] at hcx hxl hp hcw
      have hxl2 : x.length ≤ 4000000 := by have := HS.out; omega
      unfold sv at hcx
      have HCW := Lib.hid hcw
      clear hc hx hxl hcw
      by_cases hlast : k + 1 < l.length
      · rw [if_pos hlast] at hp
        have HP := Lib.hid hp
        have hli : (k : Int) < (l.length : Int) - 1 := by omega
        clear hp
        go_wp2_with fail
        refine (put_any bd gd _ x _ hd0 hwr (by omega)).mono ?_
        rintro e w1 ⟨rfl, hd1, hk1⟩
        have hk01 := hk0.trans hk1
        obtain ⟨hg, A2, c2, ws, h1, h2, h3, h4, h5⟩ := hwd.dk hd hk01
        have hkw : k < ws.length := by have := h3.le l HM.out; omega
        have hn := h3.at_ k hkw
        have hge : x.length + 2 ≤ wd rows k := by rw [← HCW.out]; exact wd_ge HM.out k
        have hnb := h4 _ (List.getElem_mem hkw)
        have c0 := h1.cell 0
        simp only [List.getElem?_toArray, List.getElem?_cons_zero] at c0
        rcases h2.form with ⟨_, _, hnil⟩ | ⟨gr, rfl, hg1, hg2, hg3, hg4⟩
        · rw [hnil] at hkw; simp at hkw
        have hcr := World.ownsRow.cellAt h2 k (by omega)
        rw [List.getElem?_map, List.getElem?_eq_getElem hkw] at hcr
        simp only [Option.map_some, iv, hn] at hcr
        rw [hn] at hnb
        obtain ⟨W, hW⟩ : ∃ W, W = wd rows k := ⟨_, rfl⟩
        rw [← hW] at hcr hge hnb
        have HW := Lib.hid hW
        have hwi : ((W : Int) - x.length) = ((W - x.length : Nat) : Int) := by omega
        have HWI := Lib.hid hwi
        have hw1 := Nat.le_trans hwr hk1.1.size
        clear h3 h4 hn h1 h2 hW hwi
        go_wp2_with fail
        rw [HWI.out]
        refine (pad_any bd gd (W - x.length) _ _ hd1 hw1 (by omega)).mono ?_
        rintro e w2 ⟨rfl, hd2, hk2⟩
        go_wp2_with fail
        go_roundw
        case rel => exact ⟨k + 1, by omega, by go_num, by rw [HP.out, ← HW.out]; simpa [List.append_assoc] using hd2, hk01.trans hk2⟩
        case measure => simp [intOf]; omega
      · rw [if_neg hlast] at hp
        have HP := Lib.hid hp
        have hli : ¬ (k : Int) < (l.length : Int) - 1 := by omega
        clear hp
        go_wp2_with fail
        refine (put_any bd gd _ x _ hd0 hwr (by omega)).mono ?_
        rintro e w1 ⟨rfl, hd1, hk1⟩
        go_wp2_with fail
        go_roundw
        case rel => exact ⟨k + 1, by omega, by go_num, by rw [HP.out, List.append_nil, ← List.append_assoc]; exact hd1, hk0.trans hk1⟩
        case measure => simp [intOf]; omega
    · obtain rfl : k = l.length := by omega
      go_wp2_with fail
      refine (put_any bd gd _ [10] _ hd0 hwr (by simp)).mono ?_
      rintro e w1 ⟨rfl, hd1, hk1⟩
      go_wp2_with fail
      go_end0
      exact ⟨rfl, by rw [← List.append_assoc]; exact hd1, hk0.trans hk1⟩

set_option maxRecDepth 100000 in
set_option maxHeartbeats 2000000 in
theorem table_any (A : Option Addr) (c : Nat) (rows : List Rw) (w : World) (hr : RfR w w.heap.size A c rows) (hs : sumR (txts rows) ≤ 4000000) :
    Calls Tryd.prog 16 #[.slice A rows.length c] w (TextErr w (tableM (txts rows))) := by
  have hlen : rows.length ≤ 4000000 := by have := sumR_len (txts rows); rw [txts_len] at this; omega
  have HS := Lib.hid hs
  clear hs
  have hrowsum : ∀ k (h : k < rows.length), sumL rows[k].l ≤ 4000000 := by
    intro k h
    have h1 := sumR_get (txts rows) k (by rw [txts_len]; exact h)
    have h2 : (txts rows)[k]'(by rw [txts_len]; exact h) = rows[k].l := by simp [txts]
    rw [h2] at h1
    have h3 : (rows[k].l.map fun y => y.length + 1).sum = sumL rows[k].l := rfl
    have := HS.out
    omega
  have HRS := Lib.hid hrowsum
  clear hrowsum
  go_enter Tryd.func16, Tryd.ntmps16
  go_wp2_with fail
  go_loop [12] (fun i => ∃ k : Nat, k ≤ rows.length ∧ i = .int .i64 k ∧ Hid (∀ r ∈ (txts rows).take k, areWordsB r = true)) (fun i => rows.length - (intOf i).toNat)
  case atStart => exact ⟨0, Nat.zero_le _, rfl, by simp [Hid]⟩
  case round =>
    obtain ⟨k, hk, rfl, hpre⟩ := hrel
    by_cases hlt : k < rows.length
    · have hltt : k < (txts rows).length := by rw [txts_len]; exact hlt
      obtain ⟨b, o, rfl, hbb, hc⟩ := hr.top.at_ hlt
      have hcx := hc k hlt
      have hrow := hr.row rows[k] (List.getElem_mem hlt)
      have hsm := HRS.out k hlt
      have hgt : (txts rows)[k]'hltt = rows[k].l := by simp [txts]
      have hm : rows[k].l ∈ txts rows := by rw [← hgt]; exact List.getElem_mem hltt
      have hst := fun h => take_mem_succ (P := fun r => areWordsB r = true) (txts rows) k hltt hpre.out h
      rw [hgt] at hst
      obtain ⟨xA, xc, xl, hx⟩ : ∃ a c l, rows[k] = Rw.mk a c l := ⟨_, _, _, rfl⟩
      rw [hx] at hcx hrow hsm hm hst
      dsimp only at hrow hsm hm hst
      unfold Rw.v at hcx
      have HST := Lib.hid hst
      have HM := Lib.hid hm
      clear hc hx hgt hm hst
      cases hw : areWordsB xl with
      | false =>
        have HE := Lib.hid (tableM_bad HM.out hw)
        have HW := Lib.hid hw
        clear hw
        go_wp2_with fail
        refine (areWords_any xA xc _ xl _ hrow (by omega)).mono ?_
        rintro e w' ⟨rfl, rfl⟩
        rw [HW.out]
        go_wp2_with fail
        go_ret2
        rw [HE.out]
        exact ⟨rfl, Below.refl _ _⟩
      | true =>
        have HW := Lib.hid hw
        clear hw
        go_wp2_with fail
        refine (areWords_any xA xc _ xl _ hrow (by omega)).mono ?_
        rintro e w' ⟨rfl, rfl⟩
        rw [HW.out]
        go_wp2_with fail
        go_round
        case rel => exact ⟨k + 1, by omega, by go_num, HST.out HW.out⟩
        case measure => simp [intOf]; omega
    · obtain rfl : k = rows.length := by omega
      have hall : ∀ r ∈ txts rows, areWordsB r = true := by have := hpre.out; rwa [← txts_len, List.take_of_length_le (Nat.le_refl _)] at this
      have HALL := Lib.hid hall
      clear hall hpre hlt
      by_cases hm : 512 < rows.length
      · have HE := Lib.hid (tableM_big HALL.out (.inl (by rw [txts_len]; exact hm)))
        have hi : (512 : Int) < rows.length := by omega
        go_wp2_with fail
        go_ret2
        rw [HE.out]
        exact ⟨rfl, Below.refl _ _⟩
      have hi : ¬ (512 : Int) < rows.length := by omega
      have HE : Hid (tableM (txts rows) = finM (tabP (wd (txts rows)) (txts rows) (txts rows).length)) := by
        show _ = _
        by_cases hb : 16384 < (tabP (wd (txts rows)) (txts rows) (txts rows).length).length
        · rw [tableM_big HALL.out (.inr hb)]
          unfold finM
          rw [if_pos hb]
        · rw [tableM_good HALL.out (by rw [txts_len]; rw [txts_len] at hb; rintro (h | h) <;> omega)]
          unfold finM
          rw [if_neg hb]
      clear hm
      go_wp2_with fail
      refine (layout_any A c rows _ ((hr.below (below_new w _)).more (by simp)) HS.out).mono ?_
      rintro e w1 ⟨rfl, hwid, hb1⟩
      simp only [World.size_alloc] at hwid
      have hb01 : Below w.heap.size w w1 := (below_new w _).trans (hb1.mono (by simp))
      have hdr1 : Dr w1 w.heap.size w.heap.size [] := by
        obtain ⟨hg, A2, c2, l2, over, h1, h2, h3⟩ := (Dr.start (w := w))
        exact ⟨hg, A2, c2, l2, over, h1.below hb1 h1.lt, h2.below (Nat.le_refl _) hb1, h3⟩
      go_wp2_with fail
      go_loopw [27] (fun i wr => ∃ k : Nat, k ≤ rows.length ∧ i = .int .i64 k ∧ Dr wr w.heap.size w.heap.size (tabP (wd (txts rows)) (txts rows) k) ∧ Dk w.heap.size w.heap.size w1 wr) (fun i _ => rows.length - (intOf i).toNat)
      case atStart => exact ⟨0, Nat.zero_le _, rfl, hdr1, Dk.refl _ _ _⟩
      case round =>
        obtain ⟨k, hk2, rfl, hd0, hk0⟩ := hrel
        have hb0 : Below w.heap.size w wr := hb01.trans hk0.1
        by_cases hlt : k < rows.length
        · have hltt : k < (txts rows).length := by rw [txts_len]; exact hlt
          obtain ⟨b, o, rfl, hbb, hc⟩ := (hr.below hb0).top.at_ hlt
          have hcx := hc k hlt
          have hrow := (hr.below hb0).row rows[k] (List.getElem_mem hlt)
          have hsm := HRS.out k hlt
          have hgt : (txts rows)[k]'hltt = rows[k].l := by simp [txts]
          have hm : rows[k].l ∈ txts rows := by rw [← hgt]; exact List.getElem_mem hltt
          have hp := tabP_succ (wd (txts rows)) (txts rows) k hltt
          rw [hgt] at hp
          obtain ⟨xA, xc, xl, hx⟩ : ∃ a c l, rows[k] = Rw.mk a c l := ⟨_, _, _, rfl⟩
          rw [hx] at hcx hrow hsm hm hp
          dsimp only at hrow hsm hm hp
          unfold Rw.v at hcx
          have HP := Lib.hid hp
          have HM := Lib.hid hm
          clear hc hx hgt hm hp
          go_wp2_with fail
          ((with_reducible refine (rowput_any _ _ w.heap.size w.heap.size _ xc xA _ xl (txts rows) _ HM.out (hwid.dk hdr1 hk0) hd0 hb0.size hrow (Nat.le_refl _) hsm).mono ?_))
          rintro e w2 ⟨rfl, hd2, hk2'⟩
          go_wp2_with fail
          go_roundw
          case rel => exact ⟨k + 1, by omega, by go_num, by rw [HP.out]; exact hd2, hk0.trans hk2'⟩
          case measure => simp [intOf]; omega
        · obtain rfl : k = rows.length := by omega
          go_wp2_with fail
          refine (finish_any _ _ _ _ hd0).mono ?_
          rintro e w2 ⟨rfl, rfl⟩
          go_wp2_with fail
          go_ret2
          rw [HE.out, txts_len]
          exact ⟨rfl, hb0⟩
end Go.Proofs.YtnnenhcofibhoaaDoor
