/- The reference's Lot. -/
import Derived.Test.YtipclieldokfnaaDoorRefS
namespace Go.Proofs.YtipclieldokfnaaDoor
open Go.RowKit
set_option linter.unusedVariables false

theorem lotReqs_take_snoc (n j : Nat) (h : j < n - 1) : (lotReqs n).take (j + 1) = (lotReqs n).take j ++ [(n - 1 - j, n - j)] := by
  have hl : j < (lotReqs n).length := by rw [lotReqs_len]; exact h
  rw [List.take_succ_eq_append_getElem hl, lotReqs_get n hl]
theorem lot_fail {s : List UInt8} {n j : Nat} (h : j < n - 1) (hd : drawnM s (n - 1 - j) (n - j) = none) : numsM s (lotReqs n) = none := by
  have hl : j < (lotReqs n).length := by rw [lotReqs_len]; exact h
  refine numsM_none s (j := j) hl ?_
  rw [lotReqs_get n hl]; exact hd
/-- The lot after j exchanges depends on the first j numbers alone. -/
theorem lotS_snoc (n : Nat) (xs : List Nat) (x : Nat) : ∀ j, j ≤ xs.length → lotS n (xs ++ [x]) j = lotS n xs j
  | 0, _ => rfl
  | j + 1, h => by
    rw [lotS, lotS, lotS_snoc n xs x j (by omega)]
    congr 1
    rw [getD_lt (by simp; omega), getD_lt (by omega), List.getElem_append_left (by omega)]
/-- What holds of the reference's own list: the numbers so far have been drawn, and their exchanges made. -/
def LotIs (s : List UInt8) (n j : Nat) (L : List Nat) : Prop := ∃ xs, numsM s ((lotReqs n).take j) = some xs ∧ L = lotS n xs j
theorem LotIs.next {s : List UInt8} {n j x : Nat} {L : List Nat} (h : LotIs s n j L) (hj : j < n - 1) (hd : drawnM s (n - 1 - j) (n - j) = some x) : LotIs s n (j + 1) (swp L (n - 1 - j) x) := by
  obtain ⟨xs, h1, rfl⟩ := h
  have hl : xs.length = j := by rw [numsM_len s h1, List.length_take, lotReqs_len]; omega
  refine ⟨xs ++ [x], by rw [lotReqs_take_snoc n j hj, numsM_snoc, h1, hd], ?_⟩
  rw [lotS, lotS_snoc n xs x j (by omega)]
  congr 1
  rw [getD_lt (by simp; omega), List.getElem_append_right (by omega)]
  simp
theorem LotIs.all {s : List UInt8} {n : Nat} {L : List Nat} (h : LotIs s n (n - 1) L) : (L, (0 : Int)) = (match numsM s (lotReqs n) with | some xs => (lotS n xs (n - 1), 0) | none => ([], 6)) := by
  obtain ⟨xs, h1, rfl⟩ := h
  rw [List.take_of_length_le (by rw [lotReqs_len]; exact Nat.le_refl _)] at h1
  rw [h1]
theorem LotIs.len {s : List UInt8} {n j : Nat} {L : List Nat} (h : LotIs s n j L) : L.length = n := by
  obtain ⟨xs, _, rfl⟩ := h
  exact lotS_len n xs j
/-- A store into a slice of the call's own. -/
theorem Ow.stored {α : Type} {f : α → Value} {w : World} {base e c g : Nat} {L : List α} (h : Ow f w base e (some ⟨g, 0, none⟩) c L) (i : Nat) (x : α) (hi : i < L.length) (v : Value) (hv : v = f x) :
    Ow f (w.setCell ⟨g, i, none⟩ v) base e (some ⟨g, 0, none⟩) c (L.set i x) ∧ w.grownBy (w.setCell ⟨g, i, none⟩ v) (some g) := by
  subst hv
  have := World.ownsRow.stored h i (f x)
  refine ⟨?_, this.2⟩
  have h1 := this.1
  unfold Ow
  rw [List.length_set, List.map_set]
  exact h1
theorem Ow.frozenAt {α : Type} {f : α → Value} {w : World} {base e c g : Nat} {L : List α} (h : Ow f w base e (some ⟨g, 0, none⟩) c L) (i : Nat) : w.frozen? ⟨g, i, none⟩ = false := World.ownsRow.frozenAt h i
theorem Ow.cellAt {α : Type} {f : α → Value} {w : World} {base e c g : Nat} {L : List α} (h : Ow f w base e (some ⟨g, 0, none⟩) c L) {i : Nat} (hi : i < L.length) : w.cell? ⟨g, i, none⟩ = some (f L[i]) := by
  have := World.ownsRow.cellAt h i (by omega)
  rw [this]
  simp [hi]

set_option maxRecDepth 100000 in
set_option maxHeartbeats 2000000 in
theorem refLot_ok (s : List UInt8) (n : Nat) (w : World) (hs : s.length = 32) (hn : n ≤ 64) :
    Calls Tryd.prog 20 #[ab s, .int .i64 n] w (IntsErr w (lotM s n)) := by
  have HS := Lib.hid hs
  have hbw := fun (o : Obj) => below_new w o
  have HD := Lib.hid (show ∀ (i : Nat) (wx : World), i < n → Calls Tryd.prog 37 #[ab s, .int .u32 i, .int .u64 ((i : Int) + 1)] wx fun e w' => e = .returned (.tuple #[.int .u64 ((drawnA s i (i + 1)).1 : Nat), .bool (drawnA s i (i + 1)).2]) ∧ Below wx.heap.size wx w' from
    fun i wx hi => by
      have := refDrawn_any s i (i + 1) wx hs (by omega) (by omega) (by omega)
      rw [show ((i + 1 : Nat) : Int) = (i : Int) + 1 by omega] at this
      exact this)
  unfold ab at HD ⊢
  obtain ⟨cs, hcs⟩ : ∃ cs, (s.map bv).toArray = cs := ⟨_, rfl⟩
  have HCS := Lib.hid hcs
  have HBX := Lib.hid (Hb.new bv w 22 s cs hcs)
  rw [hcs] at HD ⊢
  obtain ⟨i0, hi0, hz0, hz1, hz2⟩ := info_parts iInfo
  have HI0 := Lib.hid hi0
  have HZ0 := Lib.hid hz0
  have HZ1 := Lib.hid hz1
  have HZ2 := Lib.hid hz2
  have HM := Lib.hid (show lotM s (n : Int) = match numsM s (lotReqs n) with | some xs => (lotS n xs (n - 1), 0) | none => ([], 6) by
    unfold lotM
    rw [if_pos ⟨by omega, by omega⟩, Int.toNat_natCast]; rfl)
  have d1 : decide ((n : Int) < 0) = false := by simp
  have d2 : decide ((64 : Int) < (n : Int)) = false := by simp; omega
  clear hcs hs hi0 hz0 hz1 hz2
  go_enter Tryd.func20, Tryd.ntmps20
  go_wp2_with fail
  clear d1 d2
  have H0 := Lib.hid (show Below (w.heap.size + 1) (w.alloc (.cells cs 22)) (w.alloc (.cells cs 22)) from Below.refl _ _)
  go_loopw [6, 7] (fun v i wr => ∃ (k : Nat) (A1 : Option Addr) (c1 : Nat) (l : List Nat), k ≤ n ∧ i = .int .i64 k ∧ v = .slice A1 l.length c1 ∧ l.length ≤ 64 ∧ Hid (l = List.range k) ∧ Hid (Ow iv wr (w.heap.size + 1) 3 A1 c1 l) ∧ Hid (Below (w.heap.size + 1) (w.alloc (.cells cs 22)) wr))
    (fun _ i _ => n - (intOf i).toNat)
  case atStart => exact ⟨0, none, 0, [], by omega, rfl, rfl, by simp, rfl, Ow.nil _ _ _, H0.out⟩
  case round =>
    clear H0
    obtain ⟨k, A1, c1, l, hk, rfl, rfl, hl, hle, how, hbk⟩ := hrel
    have hsz : w.heap.size + 1 ≤ wr.heap.size := by have := hbk.out.size; simpa using this
    by_cases hkn : k = n
    · have HL0 := Lib.hid (show LotIs s n 0 l from ⟨[], rfl, by rw [hle.out, hkn]; rfl⟩)
      have hll : l.length = n := by rw [hle.out, hkn]; simp
      have HLL := Lib.hid hll
      subst hkn
      rw [hll]
      clear hll hle hl hk
      go_wp2_with fail
      go_loopw [8] (fun i wr => ∃ (j : Nat) (L : List Nat), j ≤ k - 1 ∧ i = .int .i64 ((k : Int) - 1 - (j : Int)) ∧ Hid (LotIs s k j L) ∧ Hid (Ow iv wr (w.heap.size + 1) 3 A1 c1 L) ∧ Hid (Below (w.heap.size + 1) (w.alloc (.cells cs 22)) wr)) (fun i _ => (intOf i).toNat)
      case atStart => exact ⟨0, l, by omega, by simp, HL0.out, how.out, hbk.out⟩
      case round =>
        clear how hbk HL0 hsz
        obtain ⟨j, L, hj, rfl, hLI, how, hbk⟩ := hrel
        have hsz : w.heap.size + 1 ≤ wr.heap.size := by have := hbk.out.size; simpa using this
        have hb0 := Lib.hid ((hbw (.cells cs 22)).trans (hbk.out.mono (by omega)))
        by_cases hjk : j = k - 1
        · have hd : decide ((1 : Int) ≤ (k : Int) - 1 - (j : Int)) = false := by simp; omega
          have HA := Lib.hid (show (L, (0 : Int)) = lotM s k by rw [HM.out]; rw [hjk] at hLI; exact hLI.out.all)
          have hLn := hLI.out.len
          clear hjk
          go_wp2_with fail
          go_ret2
          refine ⟨A1, c1, L, 0, by rw [hLn]; rfl, HA.out, how.out.lower (by omega), hb0.out⟩
        · obtain ⟨i, hi⟩ : ∃ i, i = k - 1 - j := ⟨_, rfl⟩
          have hii : (k : Int) - 1 - (j : Int) = (i : Int) := by omega
          have hi1 : (1 : Int) ≤ (i : Int) := by omega
          have hi64 : (i : Int) ≤ 64 := by omega
          have hik : i < k := by omega
          have hkj : k - j = i + 1 := by omega
          have hjlt : j < k - 1 := by omega
          have hBX := HBX.out.below hbk.out (by omega)
          have hLn := hLI.out.len
          have HLN := Lib.hid hLn
          rw [hii]
          have HII := Lib.hid hii
          have HJL := Lib.hid hjlt
          cases hdr : drawnM s i (i + 1) with
          | none =>
            have HA := Lib.hid (drawnA_none hdr)
            have HN := Lib.hid (show (([] : List Nat), (6 : Int)) = lotM s k by rw [HM.out, lot_fail hjlt (by rw [← hi, hkj]; exact hdr)])
            clear hdr hi hii hkj hLn hjlt
            go_wp2_with ((with_reducible refine wpList_load_hb rfl _ (.tmp 2) rfl _ rfl hBX Tryd.underlying22 (by rw [HS.out]; exact size32) ?_); rw [HCS.out])
            refine (HD.out i wr hik).mono ?_
            rintro e w2 ⟨rfl, hb2⟩
            rw [HA.out]
            have HB2 := Lib.hid (hb0.out.trans (hb2.mono hb0.out.size))
            clear hb2 hBX
            go_wp2_with fail
            go_ret2
            exact ⟨none, 0, [], 6, rfl, HN.out, Ow.nil _ _ _, HB2.out⟩
          | some x =>
            have HA := Lib.hid (drawnA_some hdr)
            have hx := drawn_lt (by omega) hdr
            have HNX := Lib.hid (hLI.out.next hjlt (by rw [← hi, hkj]; exact hdr))
            rw [← hi] at HNX
            have hLi : i < L.length := by omega
            have hLx : x < L.length := by omega
            have hxk : x < k := by omega
            obtain ⟨g, rfl⟩ : ∃ g, A1 = some ⟨g, 0, none⟩ := by
              rcases how.out.2 with ⟨hv, h0⟩ | ⟨g, cap, cur, hv, _⟩
              · omega
              · simp only [Value.slice.injEq] at hv
                exact ⟨g, hv.1⟩
            obtain ⟨va, hva⟩ : ∃ va, va = L[i]'(by omega) := ⟨_, rfl⟩
            obtain ⟨vb, hvb⟩ : ∃ vb, vb = L[x]'(by omega) := ⟨_, rfl⟩
            have HSW := Lib.hid (show swp L i x = (L.set i vb).set x va by unfold swp; rw [getD_lt hLx, getD_lt hLi, hva, hvb])
            have HVA := Lib.hid hva
            have HVB := Lib.hid hvb
            clear hdr hi hii hkj hLn hva hvb hjlt
            go_wp2_with ((with_reducible refine wpList_load_hb rfl _ (.tmp 2) rfl _ rfl hBX Tryd.underlying22 (by rw [HS.out]; exact size32) ?_); rw [HCS.out])
            refine (HD.out i wr hik).mono ?_
            rintro e w2 ⟨rfl, hb2⟩
            rw [HA.out]
            have HB2 := Lib.hid (hbk.out.trans (hb2.mono hsz))
            have how2 := how.out.below (Nat.le_refl _) hb2
            have hsz2 : w.heap.size + 1 ≤ w2.heap.size := Nat.le_trans hsz hb2.size
            have hgl := how2.blk_ge g rfl
            have ci := how2.cellAt hLi
            have cx := how2.cellAt hLx
            rw [← HVA.out] at ci
            rw [← HVB.out] at cx
            simp only [iv] at ci cx
            have fi := how2.frozenAt i
            have fx := how2.frozenAt x
            have HO2 := Lib.hid how2
            clear hb2 hBX how2
            by_cases hix : i = x
            · subst hix
              have hv : va = vb := by
                have h := Option.some.inj (ci.symm.trans cx)
                injection h with _ h
                omega
              subst hv
              clear cx fx hxk
              go_wp2_with fail
              go_roundw
              case rel =>
                have h1 := HO2.out.stored i va hLi (.int .i64 va) rfl
                have h2 := h1.1.stored i va (by rw [List.length_set]; exact hLi) (.int .i64 va) rfl
                rw [← HSW.out] at h2
                refine ⟨j + 1, swp L i i, by have := HJL.out; omega, by congr 1; have := HII.out; omega, HNX.out, h2.1, ?_⟩
                exact (HB2.out.setCell (p := ⟨g, i, none⟩) hgl.1 _).setCell (p := ⟨g, i, none⟩) hgl.1 _
              case measure => simp [intOf]; omega
            · have hix2 : ¬ x = i := fun e => hix e.symm
              go_wp2_with fail
              go_roundw
              case rel =>
                have h1 := HO2.out.stored i vb hLi (.int .i64 vb) rfl
                have h2 := h1.1.stored x va (by rw [List.length_set]; exact hLx) (.int .i64 va) rfl
                rw [← HSW.out] at h2
                refine ⟨j + 1, swp L i x, by have := HJL.out; omega, by congr 1; have := HII.out; omega, HNX.out, h2.1, ?_⟩
                exact (HB2.out.setCell (p := ⟨g, i, none⟩) hgl.1 _).setCell (p := ⟨g, x, none⟩) hgl.1 _
              case measure => simp [intOf]; omega
    · have hlt : k < n := by omega
      have hl2 : l.length < 64 := by rw [hle.out]; simp; omega
      go_wp2_with (at_builtin; refine wpList_append_f _ iv_one rfl _ _ 28 rfl (w.heap.size + 1) 3 8 i0 _ Tryd.underlying28 HI0.out HZ0.out HZ1.out HZ2.out (by omega) rfl l [k] rfl rfl (how.out.alloc _) (rf_one _ k _) (by simp; omega) (by simp; omega) ?_; intro A3 c3 w3 l3 hl3 hown3 hg3 hb3)
      have hbn : Below (w.heap.size + 1) (w.alloc (.cells cs 22)) w3 := (hbk.out.alloc hsz _).grown hg3 (by simp; omega) (fun g hg => (how.out.blk_ge g hg).1)
      go_roundw
      case rel =>
        refine ⟨k + 1, A3, c3, l3, by omega, by go_num, rfl, by rw [hl3.out]; simp; omega, ?_, hown3, hbn⟩
        show _ = _
        rw [hl3.out, hle.out, List.range_succ]
      case measure => simp [intOf]; omega

set_option maxRecDepth 100000 in
set_option maxHeartbeats 1000000 in
theorem refLot_any (s : List UInt8) (n : Int) (w : World) (hs : s.length = 32) (hn : (Lit.int .i64 n).wf = true) :
    Calls Tryd.prog 20 #[ab s, .int .i64 n] w (IntsErr w (lotM s n)) := by
  by_cases hr : 0 ≤ n ∧ n ≤ 64
  · obtain ⟨k, rfl⟩ := Int.eq_ofNat_of_zero_le hr.1
    exact refLot_ok s k w hs (by omega)
  · have hM : lotM s n = ([], 2) := by unfold lotM; rw [if_neg hr]
    rw [hM]
    unfold ab
    obtain ⟨cs, hcs⟩ : ∃ cs, (s.map bv).toArray = cs := ⟨_, rfl⟩
    rw [hcs]
    by_cases h1 : n < 0
    · clear hM hcs hs hn hr
      go_enter Tryd.func20, Tryd.ntmps20
      go_wp2_with fail
      go_ret2
      exact ⟨none, 0, [], 2, rfl, rfl, Ow.nil _ _ _, below_new _ _⟩
    · have d1 : decide (n < 0) = false := by simp; omega
      have h2 : 64 < n := by omega
      clear hM hcs hs hn hr h1
      go_enter Tryd.func20, Tryd.ntmps20
      go_wp2_with fail
      go_ret2
      exact ⟨none, 0, [], 2, rfl, rfl, Ow.nil _ _ _, below_new _ _⟩
end Go.Proofs.YtipclieldokfnaaDoor
