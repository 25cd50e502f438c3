/- fair's Lot; draw's Lot. -/
import Derived.Test.YtipclieldokfnaaDoorLots
namespace Go.Proofs.YtipclieldokfnaaDoor
open Go.RowKit
set_option linter.unusedVariables false

theorem hb_made_iv (w : World) (n : Nat) : Hb iv (w.alloc (.cells (madeCells #[.int .i64 0] (n * 1)) 3)) w.heap.size 3 (List.replicate n 0) := by
  have e : ((List.replicate n (0 : Nat)).map iv).toArray = madeCells #[.int .i64 0] (n * 1) := by
    apply Array.toList_inj.1
    rw [toList_madeCells_one, List.map_replicate, Nat.mul_one]
    rfl
  exact Hb.new iv w _ _ _ e
theorem wpList_make_iv (w : World) {ops : Array Oper} {rest : List Oper} {o : Oper} {a : Act} {Q : Exit → Act → World → Prop}
    (hg : o.guard = none) (l c : Operand) (hop : o.op = Op.makeSlice 28 l c) (n : Nat) (hl : a.eval l = .int .i64 n) (hc : a.eval c = .int .i64 n) (hn : n ≤ 1000000)
    (hK : ∀ w', Hb iv w' w.heap.size 3 (List.replicate n 0) → Below w.heap.size w w' → w.heap.size < w'.heap.size → wpList Tryd.prog ops Q rest (a.put o.dst (.slice (some ⟨w.heap.size, 0, none⟩) n n)) w') :
    wpList Tryd.prog ops Q (o :: rest) a w := by
  obtain ⟨i, hi, hz0, hz1, hz2⟩ := info_parts iInfo
  refine wpList_plain hg fun K hK' => ?_
  have hrun := run_make (P := Tryd.prog) w 28 3 i _ Tryd.underlying28 hi hz0 .i64 .i64 (n : Int) (n : Int) (by omega) (by omega) (by rw [hz2]; omega) (by omega)
  simp only [Int.toNat_natCast] at hrun
  rw [hz1] at hrun
  unfold Oper.wp
  simp [execOp, hop, hl, hc, hrun, Result.andThen]
  refine hK' _ _ (hK _ ?_ (below_new _ _) (by simp))
  have := hb_made_iv w n
  rwa [Nat.mul_one] at this
/-- A block that the call made, as a slice of its own. -/
theorem Hb.ow {α : Type} {f : α → Value} {w : World} {g t base : Nat} {L : List α} (h : Hb f w g t L) (hb : base ≤ g) (hm : L.length ≤ 1000000) : Ow f w base t (some ⟨g, 0, none⟩) L.length L := by
  refine ⟨by simp, .inr ⟨g, L.length, (L.map f).toArray, rfl, hb, h.heap, Nat.le_refl _, by unfold maxLen; omega, by simp, by simp; exact List.take_of_length_le (by simp)⟩⟩

/-- What a call answers that returns ints and an error. -/
def IntsErr (w : World) (q : List Nat × Int) (e : Ending) (w' : World) : Prop :=
  ∃ A' c' r er, e = .returned (.tuple #[.slice A' r.length c', .int .i64 er]) ∧ (r, er) = q ∧ Ow iv w' w.heap.size 3 A' c' r ∧ Below w.heap.size w w'
theorem IntsErr.up {w w1 w' : World} {q : List Nat × Int} {e : Ending} (h : IntsErr w1 q e w') (hb : Below w.heap.size w w1) : IntsErr w q e w' := by
  obtain ⟨A', c', r, er, h1, h2, h3, h4⟩ := h
  exact ⟨A', c', r, er, h1, h2, h3.lower hb.size, hb.trans (h4.mono hb.size)⟩

set_option maxRecDepth 100000 in
set_option maxHeartbeats 2000000 in
theorem fairLot_any (s : List UInt8) (n : Nat) (w : World) (hs : s.length = 32) (hn : n ≤ 64) (hT : Tab w) :
    Calls Tryd.prog 34 #[.int .i64 n, .func (.func 33) #[ab s] #[]] w (IntsErr w (lotM s n)) := by
  have HD := Lib.hid (show ∀ (A : Option Addr) (c : Nat) (rs : List (Nat × Nat)) (wx : World), rs = lotReqs n → Below w.heap.size w wx → Rq wx wx.heap.size A c rs → Calls Tryd.prog 33 #[ab s, .slice A rs.length c] wx (NumsErr wx (numsA s (lotReqs n))) from
    fun A c rs wx hrs hb hr => by
      subst hrs
      exact draw_any s _ A c _ wx hs hr (Nat.le_refl _) (lotReqs_ok hn) (by rw [lotReqs_len]; omega) (hT.below hb))
  unfold ab at HD ⊢
  obtain ⟨cs, hcs⟩ : ∃ cs, (s.map bv).toArray = cs := ⟨_, rfl⟩
  rw [hcs] at HD ⊢
  clear hcs hT hs
  go_enter Tryd.func34, Tryd.ntmps34
  go_wp2_with fail
  refine (lotRequests_any n w hn).mono ?_
  rintro e w1 ⟨A1, c1, rs, rfl, hrs, hq1, hb1⟩
  have HRS := Lib.hid hrs
  have hrq := hq1.rd
  have hrl : rs.length ≤ 64 := by rw [hrs, lotReqs_len]; omega
  clear hrs
  go_wp2_with fail
  refine (HD.out A1 c1 rs w1 HRS.out hb1 hrq).mono ?_
  rintro e w2 ⟨A2, c2, xs, er, rfl, hx, hown2, hb2⟩
  have hbw2 := hb1.trans (hb2.mono hb1.size)
  have HM := Lib.hid (show lotM s (n : Int) = match numsM s (lotReqs n) with | some xs => (lotS n xs (n - 1), 0) | none => ([], 6) by
    unfold lotM
    rw [if_pos ⟨by omega, by omega⟩, Int.toNat_natCast]; rfl)
  unfold numsA at hx
  cases hnm : numsM s (lotReqs n) with
  | none =>
    rw [hnm] at hx HM
    obtain ⟨rfl, rfl⟩ := Prod.mk.inj hx
    clear hx hnm hown2
    go_wp2_with fail
    go_ret2
    rw [HM.out]
    exact ⟨none, 0, [], 6, rfl, rfl, Ow.nil _ _ _, hbw2⟩
  | some ys =>
    rw [hnm] at hx HM
    obtain ⟨rfl, rfl⟩ := Prod.mk.inj hx
    have HXS := Lib.hid hnm
    have hxl := numsM_len s hnm
    rw [lotReqs_len] at hxl
    have HXL := Lib.hid hxl
    have hrx := hown2.rd
    have hrq2 := (hrq.below hb2).more hb2.size
    have HRX := Lib.hid hrx
    have HRQ := Lib.hid hrq2
    have hlo := hbw2.size
    clear hx hnm hxl hrx hrq hrq2 hown2 hb1 hb2 hq1
    go_wp2_with (at_make; refine wpList_make_iv _ rfl _ _ rfl n rfl rfl (by omega) ?_; intro w3 hu3 hb3 hs3)
    have HB3 := Lib.hid (hbw2.trans (hb3.mono hbw2.size))
    have HB23 := Lib.hid hb3
    go_loopw [30] (fun i wr => ∃ k : Nat, k ≤ n ∧ i = .int .i64 k ∧ Hid (Hb iv wr w2.heap.size 3 (upTo n k)) ∧ Hid (Below w2.heap.size w2 wr)) (fun i _ => n - (intOf i).toNat)
    case atStart => exact ⟨0, by omega, rfl, by show Hb _ _ _ _ _; unfold upTo; simpa using hu3, hb3⟩
    case round =>
      clear hu3 hb3
      obtain ⟨k, hk, rfl, hH, hbk⟩ := hrel
      by_cases hkn : k = n
      · have hL := hH.out
        rw [hkn, upTo_all] at hL
        have H0 := Lib.hid hL
        clear hL
        subst hkn
        have hrl2 : rs.length = k - 1 := by rw [HRS.out, lotReqs_len]
        have HRL := Lib.hid hrl2
        have hle1 : rs.length ≤ k - 1 := by omega
        have hle2 : k - 1 ≤ rs.length := by omega
        clear hrl2 hk
        go_wp2_with fail
        go_loopw [40] (fun i wr => ∃ j : Nat, j ≤ k - 1 ∧ i = .int .i64 j ∧ Hid (Hb iv wr w2.heap.size 3 (lotS k xs j)) ∧ Hid (Below w2.heap.size w2 wr)) (fun i _ => k - (intOf i).toNat)
        case atStart => exact ⟨0, by omega, rfl, H0.out, hbk.out⟩
        case round =>
          clear H0 hH hbk
          obtain ⟨j, hj, rfl, hJ, hbj⟩ := hrel
          by_cases hjk : j = k - 1
          · have hnl : decide (j < rs.length) = false := by simp; omega
            go_wp2_with fail
            go_ret2
            rw [HM.out]
            have hL := hJ.out
            rw [hjk] at hL
            refine ⟨some ⟨w2.heap.size, 0, none⟩, k, lotS k xs (k - 1), 0, ?_, rfl, ?_, ?_⟩
            · rw [lotS_len]; rfl
            · have := hL.ow (base := w.heap.size) hlo (by rw [lotS_len]; omega)
              rwa [lotS_len] at this
            · exact hbw2.trans (hbj.out.mono hlo)
          · have hjl : j < rs.length := by omega
            obtain ⟨b1, o1, rfl, hb1, hcq⟩ := (HRQ.out.below hbj.out).at_ hjl
            obtain ⟨q1, q2⟩ := hcq j hjl
            have hjx : j < xs.length := by rw [HXL.out]; omega
            obtain ⟨b2, o2, rfl, hb2, hcx⟩ := (HRX.out.below hbj.out).at_ hjx
            have qx := hcx j hjx
            have hxn := nums_lt HXS.out (show j < k - 1 by omega)
            rw [getD_lt hjx] at hxn
            obtain ⟨i, hi⟩ : ∃ i, i = k - 1 - j := ⟨_, rfl⟩
            obtain ⟨x, hx⟩ : ∃ x, x = xs[j] := ⟨_, rfl⟩
            have hr1 : (rs[j]'hjl).1 = i := by
              have : rs[j]'hjl = (lotReqs k)[j]'(by rw [lotReqs_len]; omega) := by congr 1 <;> exact HRS.out
              rw [this, lotReqs_get, hi]
            rw [hr1] at q1
            rw [← hx] at qx hxn
            have hik : i < k := by omega
            have hxk : x < k := by omega
            have hLl := lotS_len k xs j
            have ci := hJ.out.cell (i := i) (by omega)
            have cx := hJ.out.cell (i := x) (by omega)
            have hfi := hJ.out.frozen i
            have hfx := hJ.out.frozen x
            have HS1 := Lib.hid (show lotS k xs (j + 1) = ((lotS k xs j).set i ((lotS k xs j)[x]'(by omega))).set x ((lotS k xs j)[i]'(by omega)) by
              show swp _ _ _ = _
              unfold swp
              rw [← hi, getD_lt hjx, ← hx, getD_lt (show x < (lotS k xs j).length by omega), getD_lt (show i < (lotS k xs j).length by omega)])
            obtain ⟨va, hva⟩ : ∃ va, va = (lotS k xs j)[i]'(by omega) := ⟨_, rfl⟩
            obtain ⟨vb, hvb⟩ : ∃ vb, vb = (lotS k xs j)[x]'(by omega) := ⟨_, rfl⟩
            rw [← hva] at ci HS1
            rw [← hvb] at cx HS1
            simp only [iv, qv] at ci cx qx
            have hlt := hJ.out.lt
            have hb1' : b1 < wr.heap.size := by omega
            have hb2' : b2 < wr.heap.size := by omega
            clear hcq hcx hi hx hr1 hLl hva hvb
            go_wp2_with fail
            go_quiet (fail)
            go_wp2_with fail
            by_cases hix : i = x
            · subst hix
              have hv : va = vb := by
                have h := Option.some.inj (ci.symm.trans cx)
                injection h with _ h
                omega
              subst hv
              clear cx hfx hxk
              go_region
              go_wp2_with fail
              go_roundw
              case rel =>
                refine ⟨j + 1, by omega, by go_num, ?_, ?_⟩
                · have h := (((hJ.out.alloc (.cells #[.int .u32 i, .int .u64 (rs[j]'hjl).2] 68)).drewN (nq + 1)).set_ i va _ rfl).set_ i va _ rfl
                  rw [← HS1.out] at h
                  exact h
                · exact (((hbj.out.alloc (Nat.le_of_lt hlt) _).trans (below_drewN _ _ (nq + 1))).setCell (p := ⟨w2.heap.size, i, none⟩) (Nat.le_refl _) _).setCell (p := ⟨w2.heap.size, i, none⟩) (Nat.le_refl _) _
              case measure => simp [intOf]; omega
            · have hix2 : ¬ x = i := fun e => hix e.symm
              go_region
              go_wp2_with fail
              go_roundw
              case rel =>
                refine ⟨j + 1, by omega, by go_num, ?_, ?_⟩
                · have h := (((hJ.out.alloc (.cells #[.int .u32 i, .int .u64 (rs[j]'hjl).2] 68)).drewN (nq + 1)).set_ i vb _ rfl).set_ x va _ rfl
                  rw [← HS1.out] at h
                  exact h
                · exact (((hbj.out.alloc (Nat.le_of_lt hlt) _).trans (below_drewN _ _ (nq + 1))).setCell (p := ⟨w2.heap.size, i, none⟩) (Nat.le_refl _) _).setCell (p := ⟨w2.heap.size, x, none⟩) (Nat.le_refl _) _
              case measure => simp [intOf]; omega
      · have hlt : k < n := by omega
        have hcell := hH.out.cell (i := k) (by rw [upTo_len (by omega)]; omega)
        have hfr := hH.out.frozen k
        go_wp2_with fail
        go_roundw
        case rel =>
          refine ⟨k + 1, by omega, by go_num, ?_, ?_⟩
          · have := hH.out.set_ k k (.int .i64 k) rfl
            rw [upTo_step hlt] at this
            exact this
          · exact hbk.out.setCell (p := ⟨w2.heap.size, k, none⟩) (Nat.le_refl _) _
        case measure => simp [intOf]; omega
set_option maxRecDepth 100000 in
set_option maxHeartbeats 1000000 in
theorem lot_any (s : List UInt8) (n : Int) (w : World) (hs : s.length = 32) (hn : (Lit.int .i64 n).wf = true) (hT : Tab w) :
    Calls Tryd.prog 13 #[ab s, .int .i64 n] w (IntsErr w (lotM s n)) := by
  have HS := Lib.hid hs
  have HT := Lib.hid hT
  have hmf : ∀ (fn : Fn) (first cap : Array Value) (w : World), (Instr.makeFunc fn first cap).run Tryd.prog w = .ok (.func fn first cap) w := fun _ _ _ _ => rfl
  have hbw := fun (o : Obj) => below_new w o
  have hfl := fun (k : Nat) (hk : k ≤ 64) => fairLot_any s k (w.alloc (.cells (s.map bv).toArray 22)) hs hk (hT.below (hbw _))
  unfold ab at hfl ⊢
  obtain ⟨cs, hcs⟩ : ∃ cs, (s.map bv).toArray = cs := ⟨_, rfl⟩
  have HCS := Lib.hid hcs
  have HBX := Lib.hid (Hb.new bv w 22 s cs hcs)
  rw [hcs] at hfl ⊢
  have HFL := Lib.hid hfl
  clear hcs hfl hs hT hn
  by_cases h1 : n < 0
  · have hM : lotM s n = ([], 2) := by unfold lotM; rw [if_neg (by omega)]
    rw [hM]
    clear hM
    go_enter Tryd.func13, Tryd.ntmps13
    go_wp2_with fail
    go_ret2
    exact ⟨none, 0, [], 2, rfl, rfl, Ow.nil _ _ _, hbw _⟩
  · have h1d : decide (n < 0) = false := by simp; omega
    by_cases h2 : 64 < n
    · have hM : lotM s n = ([], 2) := by unfold lotM; rw [if_neg (by omega)]
      rw [hM]
      clear hM
      go_enter Tryd.func13, Tryd.ntmps13
      go_wp2_with fail
      go_ret2
      exact ⟨none, 0, [], 2, rfl, rfl, Ow.nil _ _ _, hbw _⟩
    · obtain ⟨k, rfl⟩ := Int.eq_ofNat_of_zero_le (show 0 ≤ n by omega)
      have hk : k ≤ 64 := by omega
      have h2d : decide (64 < (k : Int)) = false := by simp; omega
      have h1e : decide ((k : Int) < 0) = false := by simp
      go_enter Tryd.func13, Tryd.ntmps13
      go_wp2_with ((with_reducible refine wpList_load_hb rfl _ (.tmp 2) rfl _ rfl HBX.out Tryd.underlying22 (by rw [HS.out]; exact size32) ?_); rw [HCS.out])
      refine (HFL.out k hk).mono ?_
      rintro e w1 ⟨A', c', r, er, rfl, h3, h4, h5⟩
      have H3 := Lib.hid h3
      clear h3
      go_wp2_with fail
      go_ret2
      exact IntsErr.up ⟨A', c', r, er, rfl, H3.out, h4, h5⟩ (hbw _)
end Go.Proofs.YtipclieldokfnaaDoor
