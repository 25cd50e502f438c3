/- words' layout. -/
import Derived.Test.YtnnenhcofibhoaaDoorRow
import Derived.Test.YtnnenhcofibhoaaDoorWord
import Derived.Test.YtnnenhcofibhoaaDoorPureTab
import Derived.RegionTactic
import Derived.ChangeAlike
import Derived.BigRegion
import Derived.StillTailTactics
namespace Go.Proofs.YtnnenhcofibhoaaDoor
open Go.RowKit
set_option linter.unusedVariables false

theorem infoI : (Tryd.prog.info? 3).map (fun i => (i.zero, i.size, i.bytes)) = some (some (.int .i64 0), 1, 8) := by kernel_rfl

theorem Ow.stored {w : World} {base g c : Nat} {xs : List Nat} (h : Ow iv w base 3 (some ⟨g, 0, none⟩) c xs) (j n : Nat) : Ow iv (w.setCell ⟨g, j, none⟩ (.int .i64 (n : Int))) base 3 (some ⟨g, 0, none⟩) c (xs.set j n) := by
  have h2 := World.ownsRow.stored (u := iv n) h j
  unfold Ow
  rw [List.length_set, List.map_set]
  exact h2.1

theorem txts_len (rows : List Rw) : (txts rows).length = rows.length := by simp [txts]

/-- The box g holds the widths that rows rs ask. -/
structure Wid (w : World) (base g : Nat) (rs : List Row) : Prop where
  ge : base ≤ g
  here : ∃ A c ws, Blk w g 44 #[.slice A ws.length c] ∧ Ow iv w base 3 A c ws ∧ WSt ws rs ∧ (∀ n ∈ ws, n ≤ 4000002) ∧ ws.length ≤ 4000000

theorem below_drew (B : Nat) (w : World) : Below B w w.drew := ⟨rfl, rfl, rfl, Nat.le_refl _, fun _ _ => rfl⟩
/-- A width is written. -/
theorem wid_set {wr : World} {base g gw c2 j n : Nat} {ws : List Nat} {rs : List Row} {r : Row} {y : List UInt8} {m : Int} (hg : base ≤ g) (h1 : Blk wr g 44 #[.slice (some ⟨gw, 0, none⟩) ws.length c2]) (h2 : Ow iv wr base 3 (some ⟨gw, 0, none⟩) c2 ws)
    (h3 : WSt ws (rs ++ [r.take j])) (h4 : ∀ n ∈ ws, n ≤ 4000002) (h5 : ws.length ≤ 4000000) (hjl : j < r.length) (hjw : j < ws.length) (hn : n = ws[j]) (hy : y = r[j]) (hyl : y.length ≤ 4000000) (hm : m = ((max n (y.length + 2) : Nat) : Int)) :
    Wid (wr.setCell ⟨gw, j, none⟩ (.int .i64 m)).drew base g (rs ++ [r.take (j + 1)]) ∧ Below base wr (wr.setCell ⟨gw, j, none⟩ (.int .i64 m)).drew := by
  have hne := ow_blk_ne h2 h1 (by decide)
  have hge := h2.blk_ge gw rfl
  subst hm
  refine ⟨⟨hg, some ⟨gw, 0, none⟩, c2, ws.set j (max n (y.length + 2)), ?_, ?_, ?_, ?_, by rw [List.length_set]; exact h5⟩, ?_⟩
  · rw [List.length_set]
    exact (h1.far (p := ⟨gw, j, none⟩) (fun e => hne (congrArg some e)) _)
  · exact (h2.stored j _)
  · rw [hn, hy]; exact h3.grow hjl hjw
  · intro q hq
    rcases List.mem_or_eq_of_mem_set hq with h | h
    · exact h4 q h
    · have := h4 _ (List.getElem_mem hjw)
      rw [← hn] at this
      omega
  · exact ((Below.refl base wr).setCell (p := ⟨gw, j, none⟩) hge.1 _).trans (below_drew _ _)

set_option maxRecDepth 100000 in
set_option maxHeartbeats 2000000 in
theorem layout_any (A : Option Addr) (c : Nat) (rows : List Rw) (w : World) (hr : RfR w w.heap.size A c rows) (hs : sumR (txts rows) ≤ 4000000) :
    Calls Tryd.prog 35 #[.slice A rows.length c] w fun e w' => e = .returned (.func (.func 47) #[] #[.pointer (some ⟨w.heap.size, 0, none⟩)]) ∧ Wid w' w.heap.size w.heap.size (txts rows) ∧ Below w.heap.size w w' := by
  obtain ⟨i0, hi, hz0, hz1, hz2⟩ := info_parts infoI
  have hlen : rows.length ≤ 4000000 := by have := sumR_len (txts rows); rw [txts_len] at this; omega
  have HS := Lib.hid hs
  clear hs
  go_enter Tryd.func35, Tryd.ntmps35
  go_wp2_with fail
  go_loopw [10] (fun i wr => ∃ k : Nat, k ≤ rows.length ∧ i = .int .i64 k ∧ Hid (Wid wr w.heap.size w.heap.size ((txts rows).take k)) ∧ Below w.heap.size w wr) (fun i _ => rows.length - (intOf i).toNat)
  case atStart => exact ⟨0, Nat.zero_le _, rfl, ⟨Nat.le_refl _, none, 0, [], Blk.new _ _ _, Ow.nil _ _ _, WSt.start, (fun _ h => by cases h), by simp⟩, below_new _ _⟩
  case round =>
    obtain ⟨k, hk, rfl, hw0, hb⟩ := hrel
    by_cases hlt : k < rows.length
    · obtain ⟨b, o, rfl, hbb, hc⟩ := (hr.below hb).top.at_ hlt
      have hcx := hc k hlt
      have hrow := hr.row rows[k] (List.getElem_mem hlt)
      have hsum := sumR_get (txts rows) k (by simpa [txts] using hlt)
      have htk : (txts rows).take (k + 1) = (txts rows).take k ++ [rows[k].l] := by
        rw [List.take_succ_eq_append_getElem (by simpa [txts] using hlt)]
        simp [txts]
      have hgt : (txts rows)[k]'(by simpa [txts] using hlt) = rows[k].l := by simp [txts]
      rw [hgt] at hsum
      obtain ⟨xA, xc, xl, hx⟩ : ∃ a c l, rows[k] = Rw.mk a c l := ⟨_, _, _, rfl⟩
      rw [hx] at hcx hrow hsum htk
      dsimp only at hrow hsum htk
      have hxs : sumL xl ≤ 4000000 := by
        have h1 := HS.out
        have h2 : (xl.map fun y => y.length + 1).sum = sumL xl := rfl
        omega
      unfold Rw.v at hcx
      have HTK := Lib.hid htk
      have HXS := Lib.hid hxs
      have hxl : xl.length ≤ 4000000 := Nat.le_trans (sumL_len _) hxs
      clear hc hx hsum htk hgt hxs
      go_wp2_with fail
      obtain ⟨wo, hwo⟩ : ∃ wo : World, wo = wr := ⟨_, rfl⟩
      subst hwo
      go_loopw [16] (fun i wr => ∃ j : Nat, j ≤ xl.length ∧ i = .int .i64 j ∧ Hid (Wid wr w.heap.size w.heap.size ((txts rows).take k ++ [xl.take j])) ∧ Below w.heap.size w wr) (fun i _ => xl.length - (intOf i).toNat)
      case atStart =>
        obtain ⟨hg, A2, c2, ws, h1, h2, h3, h4⟩ := hw0.out
        exact ⟨0, Nat.zero_le _, rfl, ⟨hg, A2, c2, ws, h1, h2, by rw [List.take_zero]; exact h3.row, h4⟩, hb⟩
      case round =>
        obtain ⟨j, hj, rfl, hwj, hbj⟩ := hrel
        by_cases hjl : j < xl.length
        · obtain ⟨b2, o2, hA, hb2, hc2⟩ := (hrow.below hbj).at_ hjl
          have hcy := hc2 j hjl
          have hyl := sumL_get xl j hjl
          obtain ⟨y, hy⟩ : ∃ y, y = xl[j] := ⟨_, rfl⟩
          rw [← hy] at hcy hyl
          have hyl2 : y.length ≤ 4000000 := by have := HXS.out; omega
          have HY := Lib.hid hy
          unfold sv at hcy
          clear hc2 hy hyl
          obtain ⟨hg, A2, c2, ws, h1, h2, h3, h4, h5⟩ := hwj.out
          have hjw : j ≤ ws.length := by have := h3.le (xl.take j) (by simp); rw [List.length_take] at this; omega
          have H3 := Lib.hid h3
          have H4 := Lib.hid h4
          clear h3 h4 hwj
          have c0 := h1.cell 0
          have f0 := h1.frozen 0
          simp only [List.getElem?_toArray, List.getElem?_cons_zero] at c0
          have hbs := hbj.size
          by_cases hje : j = ws.length
          · have hjb : ((j : Int) == (ws.length : Nat)) = true := by rw [beq_iff_eq]; omega
            have hxj : xl.length ≤ 4000000 := hxl
            have hws : ws.length ≤ 4000000 := h5
            have HJ := Lib.hid hje
            clear hje
            subst hA
            have hne := ow_blk_ne h2 h1 (by decide)
            go_wp2_with (at_builtin; refine wpList_append_f _ iv_one rfl _ _ 44 rfl w.heap.size 3 8 i0 _ Tryd.underlying44 hi hz0 hz1 hz2 (by omega) rfl ws [0] rfl rfl (h2.alloc _) (rf_one (f := iv) _ 0 _) (by simp; omega) (by simp; omega) ?_; intro A3 c3 w3 r3 hr3 h2' hg3 _; have h1' := (h1.alloc (.cells #[iv 0] 3)).grown hg3 hne; have c0' := h1'.cell 0; have f0' := h1'.frozen 0; simp only [List.getElem?_toArray, List.getElem?_cons_zero] at c0')
            have hb3 : Below w.heap.size w w3 := (hbj.alloc hbs _).trans (below_of_grown hg3 (by simp; omega) (fun k e => (h2.blk_ge k e).1))
            generalize hW4 : w3.setCell ⟨w.heap.size, 0, none⟩ (.slice A3 r3.length c3) = w4
            have hb4 : Below w.heap.size w w4 := by rw [← hW4]; exact hb3.setCell (p := ⟨w.heap.size, 0, none⟩) (Nat.le_refl _) _
            have h1n : Blk w4 w.heap.size 44 #[.slice A3 r3.length c3] := by rw [← hW4]; exact h1'.set_ 0 _
            have h2n : Ow iv w4 w.heap.size 3 A3 c3 r3 := by
              rw [← hW4]
              exact h2'.kept (grown_set w3 ⟨w.heap.size, 0, none⟩ _) (.inr (ow_blk_ne h2' h1' (by decide)).symm)
            have h3n : WSt r3 ((txts rows).take k ++ [xl.take j]) := by rw [hr3.out]; exact H3.out.more
            have h4n : ∀ n ∈ r3, n ≤ 4000002 := by
              rw [hr3.out]
              intro n hn
              rcases List.mem_append.1 hn with h | h
              · exact H4.out n h
              · simp at h; omega
            have h5n : r3.length ≤ 4000000 := by have := hr3.out; have := HJ.out; rw [hr3.out]; simp; omega
            have hjn : j < r3.length := by have := HJ.out; rw [hr3.out]; simp; omega
            have hcyn : w4.cell? ⟨b2, o2 + j, none⟩ = some (.string ⟨y.toArray⟩) := by
              have := ((hrow.below hb4).cell _ rfl j hjl).2
              rw [add_plain] at this
              rw [this, ← HY.out]
              rfl
            clear h1 h2 H3 H4 h5 c0 f0 h1' h2' c0' f0' hne hr3 HJ hg3 hW4 hb3 hjw hcy
            have HB4 := Lib.hid hb4
            have H3 := Lib.hid h3n
            have H4 := Lib.hid h4n
            clear h3n h4n
            have h1 := h1n
            have h2 := h2n
            have h5 := h5n
            have hjlt := hjn
            clear h1n h2n h5n hjn
            have c0 := h1.cell 0
            have f0 := h1.frozen 0
            simp only [List.getElem?_toArray, List.getElem?_cons_zero] at c0
            have hform := h2.form
            rcases hform with ⟨_, _, hnil⟩ | ⟨gw, rfl, hg1, hg2, hg3, hg4⟩
            · rw [hnil] at hjlt; simp at hjlt
            have hcw := (World.ownsRow.cellAt h2 j (by omega))
            have hfw := (World.ownsRow.frozenAt h2 j)
            rw [List.getElem?_map, List.getElem?_eq_getElem hjlt] at hcw
            obtain ⟨n, hn⟩ : ∃ n, n = r3[j] := ⟨_, rfl⟩
            have hnb := H4.out _ (List.getElem_mem hjlt)
            rw [← hn] at hcw hnb
            simp only [Option.map_some, iv] at hcw
            have HN := Lib.hid hn
            clear hn
            go_region
            go_wp2_with fail
            go_roundw
            case rel =>
              obtain ⟨q1, q2⟩ := wid_set hg h1 h2 H3.out H4.out h5 hjl hjlt HN.out HY.out hyl2 (m := max (n : Int) ((y.length : Int) + 2)) (by omega)
              exact ⟨j + 1, by omega, by go_num, q1, hb4.trans q2⟩
            case measure => simp [intOf]; omega
          · have hjlt : j < ws.length := by omega
            have hjb : ((j : Int) == (ws.length : Nat)) = false := by rw [beq_eq_false_iff_ne]; omega
            have hform := h2.form
            rcases hform with ⟨_, _, hnil⟩ | ⟨gw, rfl, hg1, hg2, hg3, hg4⟩
            · rw [hnil] at hjlt; simp at hjlt
            have hcw := (World.ownsRow.cellAt h2 j (by omega))
            have hfw := (World.ownsRow.frozenAt h2 j)
            rw [List.getElem?_map, List.getElem?_eq_getElem hjlt] at hcw
            obtain ⟨n, hn⟩ : ∃ n, n = ws[j] := ⟨_, rfl⟩
            have hnb := H4.out _ (List.getElem_mem hjlt)
            rw [← hn] at hcw hnb
            simp only [Option.map_some, iv] at hcw
            have HN := Lib.hid hn
            clear hn
            clear hje
            subst hA
            go_wp2_with fail
            go_region
            go_wp2_with fail
            go_roundw
            case rel =>
              obtain ⟨q1, q2⟩ := wid_set hg h1 h2 H3.out H4.out h5 hjl hjlt HN.out HY.out hyl2 (m := max (n : Int) ((y.length : Int) + 2)) (by omega)
              exact ⟨j + 1, by omega, by go_num, q1, hbj.trans q2⟩
            case measure => simp [intOf]; omega
        · obtain rfl : j = xl.length := by omega
          rw [List.take_of_length_le (Nat.le_refl _), ← HTK.out] at hwj
          go_wp2_with fail
          go_roundw
          case rel => exact ⟨k + 1, by omega, by go_num, hwj, hbj⟩
          case measure => simp [intOf]; omega
    · obtain rfl : k = rows.length := by omega
      have hfin := hw0.out
      rw [← txts_len, List.take_of_length_le (Nat.le_refl _)] at hfin
      have HF := Lib.hid hfin
      clear hfin hw0
      go_wp2_with fail
      go_ret
      exact ⟨rfl, HF.out, hb⟩
end Go.Proofs.YtnnenhcofibhoaaDoor
