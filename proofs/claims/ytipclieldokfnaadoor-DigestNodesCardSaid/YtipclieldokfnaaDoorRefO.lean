/- The reference's Of. -/
import Derived.Test.YtipclieldokfnaaDoorAfter
import Derived.Test.YtipclieldokfnaaDoorRefP
import Derived.Test.YtipclieldokfnaaDoorApi
namespace Go.Proofs.YtipclieldokfnaaDoor
open Go.RowKit
set_option linter.unusedVariables false

theorem bytesOf_get : ∀ (S : List UInt32) (i : Nat) (h : i < 4 * S.length), (bytesOf S)[i]'(by rw [bytesOf_len]; exact h) = UInt8.ofNat ((S.getD (i / 4) 0).toNat / 2 ^ (8 * (3 - i % 4)))
  | [], i, h => by simp at h
  | x :: S, i, h => by
    simp only [bytesOf]
    by_cases h4 : i < 4
    · rw [List.getElem_append_left (by rw [beN_len]; exact h4), beN_get 4 _ h4, Nat.div_eq_of_lt h4, Nat.mod_eq_of_lt h4]
      rfl
    · rw [List.getElem_append_right (by rw [beN_len]; omega)]
      simp only [beN_len]
      rw [bytesOf_get S (i - 4) (by rw [List.length_cons] at h; omega)]
      have e1 : i / 4 = (i - 4) / 4 + 1 := by omega
      have e2 : i % 4 = (i - 4) % 4 := by omega
      rw [e1, e2]
      rfl
/-- The first i bytes, and zeros behind them. -/
def outB (L : List UInt8) (i : Nat) : List UInt8 := L.take i ++ List.replicate (32 - i) 0
theorem outB_len {L : List UInt8} (hL : L.length = 32) {i : Nat} (hi : i ≤ 32) : (outB L i).length = 32 := by
  unfold outB
  rw [List.length_append, List.length_take, List.length_replicate]; omega
theorem outB_all {L : List UInt8} (hL : L.length = 32) : outB L 32 = L := by
  unfold outB
  rw [List.take_of_length_le (by omega)]; simp
theorem outB_step {L : List UInt8} (hL : L.length = 32) {i : Nat} (hi : i < 32) : (outB L i).set i (L[i]) = outB L (i + 1) := by
  unfold outB
  have h1 : (L.take i).length = i := by rw [List.length_take]; omega
  rw [List.set_append_right (h := by omega), h1, Nat.sub_self, show 32 - i = (32 - (i + 1)) + 1 by omega, List.replicate_succ, List.set_cons_zero, List.take_succ_eq_append_getElem (by omega), List.append_assoc]
  rfl
theorem hbD' {w : World} {g t : Nat} {L : List UInt32} (h : Hb uv w g t L) {i : Nat} (hi : i < L.length) : w.cell? ⟨g, i, none⟩ = some (.int .u32 ((L.getD i 0).toNat : Int)) := hbD h hi

set_option maxRecDepth 100000 in
set_option maxHeartbeats 2000000 in
theorem of_any (A : Option Addr) (c B : Nat) (l : List UInt8) (w : World) (hr : Rf bv w B A c l) (hB : B ≤ w.heap.size) (hl : l.length ≤ 100000) :
    Calls Tryd.prog 39 #[.slice A l.length c] w fun e w' => e = .returned (ab (dig l)) ∧ Below w.heap.size w w' := by
  go_enter Tryd.func39, Tryd.ntmps39
  go_wp2_with fail
  refine (first_any _).mono ?_
  rintro e w1 ⟨rfl, hb1⟩
  have hz1 : Hb bv w1 w.heap.size 22 (List.replicate 32 0) := Hb.below (Hb.new bv w _ (List.replicate 32 0) _ z32) hb1 (by simp)
  have hbw1 := ((Below.refl _ w).alloc (Nat.le_refl _) _).trans (hb1.mono (by simp))
  have hs1 := hb1.size
  simp only [World.size_alloc] at hs1
  clear hb1
  obtain ⟨a, b, c1, d, e, f, g, h, hst⟩ := len8 start_len
  unfold aw
  rw [hst]
  have HST := Lib.hid hst
  clear hst
  simp only [List.map_cons, List.map_nil, uv]
  go_wp2_with fail
  refine (padded_any A c B l _ (hr.below (hbw1.mono hB |>.trans ((below_new w1 _).mono (by omega)))) (by rw [World.size_alloc]; omega) hl).mono ?_
  rintro e2 w2 ⟨A2, c2, rfl, ho2, hb2⟩
  have hst2 := Hb.below (Hb.new uv w1 _ [a, b, c1, d, e, f, g, h] _ rfl) hb2 (by simp)
  have hz2 := Hb.below (hz1.alloc _) hb2 (by simp; omega)
  have hbw2 := hbw1.trans (((below_new w1 _).trans (hb2.mono (by simp))).mono (by omega))
  have hs2 := hb2.size
  simp only [World.size_alloc] at ho2 hs2
  clear hb2 hz1 hbw1
  obtain ⟨p, hpe⟩ : ∃ p, p = padB l := ⟨_, rfl⟩
  obtain ⟨m, hm⟩ : ∃ m, p.length = 64 * m := ⟨(l.length + 72) / 64, by rw [hpe, padB_len]; omega⟩
  have hm1 : 1 ≤ m := by rw [hpe, padB_len] at hm; omega
  have hm2 : m ≤ 10000 := by rw [hpe, padB_len] at hm; omega
  have HM := Lib.hid (show m = blocksN l by unfold blocksN; rw [hpe, padB_len] at hm; omega)
  rw [← hpe] at ho2 ⊢
  have HP := Lib.hid hpe
  clear hpe
  have hform := ho2.form
  rcases hform with ⟨_, _, h0⟩ | ⟨gp, rfl, hgp1, hgp2, hcp, hcm⟩
  · rw [h0] at hm; simp at hm; omega
  have hrp := ho2.rd
  rw [hm] at hcp ⊢
  have HPL := Lib.hid hm
  clear hm ho2
  unfold maxLen at hcm
  go_wp2_with fail
  go_loopw [5] (fun i wr => ∃ j : Nat, j ≤ m ∧ i = .int .i64 (64 * (j : Int)) ∧ Hid (Hb uv wr w1.heap.size 88 (stA start p j)) ∧ Hid (Rf bv wr wr.heap.size (some ⟨gp, 0, none⟩) c2 p) ∧ Hid (Hb bv wr w.heap.size 22 (List.replicate 32 0)) ∧ Hid (Below w.heap.size w wr) ∧ Hid (w1.heap.size < wr.heap.size)) (fun i _ => 64 * m - (intOf i).toNat)
  case atStart =>
    exact ⟨0, by omega, rfl, by rw [show stA start p 0 = [a, b, c1, d, e, f, g, h] from HST.out]; exact hst2, hrp, hz2, hbw2, by show _ < _; omega⟩
  case round =>
    clear hst2 hrp hz2 hbw2
    obtain ⟨j, hj, rfl, hS, hR, hZ, hBw, hlt⟩ := hrel
    obtain ⟨va, vb, vc, vd, ve, vf, vg, vh, hV⟩ := len8 (stA_len p start_len j)
    have hvv := hS.out
    rw [hV] at hvv
    obtain ⟨g0, g1, g2, g3, g4, g5, g6, g7, gf⟩ := cells8 hvv
    have HVV := Lib.hid hvv
    have HV := Lib.hid hV
    clear hvv hV
    by_cases hjm : j = m
    · have HDE := Lib.hid (show dig l = bytesOf [va, vb, vc, vd, ve, vf, vg, vh] by rw [← HV.out, hjm, HM.out, HP.out]; rfl)
      have hDL : (dig l).length = 32 := dig_len l
      obtain ⟨D, hD⟩ : ∃ D, D = dig l := ⟨_, rfl⟩
      rw [← hD] at HDE hDL
      have HDG := Lib.hid hD
      have HDL := Lib.hid hDL
      have hjd : decide (64 * (j : Int) < 64 * (m : Int)) = false := by simp; omega
      clear hD hDL
      have hltr := hlt.out
      go_wp2_with fail
      go_loopw [7] (fun i wx => ∃ t : Nat, t ≤ 32 ∧ i = .int .i64 t ∧ Hid (Hb bv wx wr.heap.size 22 (outB D t)) ∧ Hid (Hb uv wx w1.heap.size 88 [va, vb, vc, vd, ve, vf, vg, vh]) ∧ Hid (Hb bv wx w.heap.size 22 (List.replicate 32 0)) ∧ Hid (Below w.heap.size w wx)) (fun i _ => 32 - (intOf i).toNat)
      case atStart => exact ⟨0, by omega, rfl, Hb.new bv wr _ _ _ z32, HVV.out.alloc _, hZ.out.alloc _, hBw.out.alloc hBw.out.size _⟩
      case round =>
        obtain ⟨t, ht, rfl, hO, hS2, hZ2, hB2⟩ := hrel
        by_cases h32 : t = 32
        · subst h32
          rw [outB_all HDL.out] at hO
          go_wp2_with (first
            | ((with_reducible refine wpList_load_hb rfl _ (.tmp 6) rfl _ rfl hO.out Tryd.underlying22 (by rw [HDL.out]; exact size32) ?_))
            | ((with_reducible refine wpList_store_hb bv_one rfl _ (.tmp 2) (.tmp 40) rfl _ D rfl rfl hZ2.out size32 (List.length_replicate ..) HDL.out ?_); intro w9 h9 hg9))
          refine bodyPost_cell (f := bv) (g := w.heap.size) (t := 22) (L := D) rfl rfl h9 Tryd.underlying22 (by rw [HDL.out]; exact size32) rfl ⟨by rw [← HDG.out]; rfl, ?_⟩
          exact hB2.out.grown hg9 hB2.out.size (fun k e => by cases e; omega)
        · have ht32 : t < 32 := by omega
          obtain ⟨q, hq⟩ : ∃ q, q = t / 4 := ⟨_, rfl⟩
          obtain ⟨r, hr'⟩ : ∃ r, r = t % 4 := ⟨_, rfl⟩
          have hq8 : q < 8 := by omega
          have hr4 : r < 4 := by omega
          have e1 : (t : Int) / 4 = (q : Int) := by omega
          have e2 : (t : Int) % 4 = (r : Int) := by omega
          have hcS := hS2.out.cell (i := q) (by simpa using hq8)
          obtain ⟨x, hx⟩ : ∃ x, x = [va, vb, vc, vd, ve, vf, vg, vh][q]'(by simpa using hq8) := ⟨_, rfl⟩
          rw [← hx] at hcS
          unfold uv at hcS
          have hget : D[t]? = some (UInt8.ofNat (x.toNat / 2 ^ (8 * (3 - r)))) := by
            rw [HDE.out, List.getElem?_eq_getElem (by rw [bytesOf_len]; simp; omega), bytesOf_get _ t (by simp; omega), ← hq, ← hr', hx]
            congr 4
            simp [List.getD, List.getElem?_eq_getElem (show q < [va, vb, vc, vd, ve, vf, vg, vh].length by simpa using hq8)]
          obtain ⟨hDt, hDe⟩ := List.getElem?_eq_some_iff.1 hget
          have HST := Lib.hid (outB_step HDL.out ht32)
          have HDV := Lib.hid hDe
          have hcO := hO.out.cell (i := t) (by rw [outB_len HDL.out ht]; exact ht32)
          have hfO := hO.out.frozen t
          have hx32 := u32_lt x
          obtain ⟨b0, hb0⟩ : ∃ b0, b0 = (outB D t)[t]'(by rw [outB_len HDL.out ht]; exact ht32) := ⟨_, rfl⟩
          rw [← hb0] at hcO
          unfold bv at hcO
          clear hq hr' hx hget hDe hb0
          rcases (show r = 0 ∨ r = 1 ∨ r = 2 ∨ r = 3 by omega) with rfl | rfl | rfl | rfl
          all_goals
            go_wp2_with fail
            go_roundw
            case rel =>
              refine ⟨t + 1, by omega, by go_num, ?_, hS2.out.grown (grown_set _ _ _) (by simp; omega), hZ2.out.grown (grown_set _ _ _) (by have := hZ2.out.lt; simp; omega), hB2.out.grown (grown_set _ _ _) hB2.out.size (fun k e => by cases e; dsimp only; omega)⟩
              rw [← HST.out]
              refine hO.out.set_ t _ _ ?_
              rw [HDV.out]
              unfold bv
              rw [u8_mod]
              refine congrArg (Value.int .u8) ?_
              first
                | (simp; done)
                | (simp; omega)
            case measure => simp [intOf]; omega
    · have hjm2 : j < m := by omega
      obtain ⟨va', vb', vc', vd', ve', vf', vg', vh', hV'⟩ := len8 (stA_len p start_len (j + 1))
      have HV' := Lib.hid hV'
      have hseg : (seg p (64 * j) 64).length = 64 := seg_len (by rw [HPL.out]; omega)
      have HC : Hid (∀ wx : World, (∀ q : Addr, q.block < wr.heap.size → wx.cell? q = wr.cell? q) → wr.heap.size ≤ wx.heap.size → Calls Tryd.prog 54 #[.agg #[.int .u32 (va.toNat : Int), .int .u32 (vb.toNat : Int), .int .u32 (vc.toNat : Int), .int .u32 (vd.toNat : Int), .int .u32 (ve.toNat : Int), .int .u32 (vf.toNat : Int), .int .u32 (vg.toNat : Int), .int .u32 (vh.toNat : Int)], .slice (some ⟨gp, 64 * j, none⟩) 64 (c2 - 64 * j)] wx fun e w' =>
          e = .returned (.agg #[.int .u32 (va'.toNat : Int), .int .u32 (vb'.toNat : Int), .int .u32 (vc'.toNat : Int), .int .u32 (vd'.toNat : Int), .int .u32 (ve'.toNat : Int), .int .u32 (vf'.toNat : Int), .int .u32 (vg'.toNat : Int), .int .u32 (vh'.toNat : Int)]) ∧ Below wx.heap.size wx w') := by
        intro wx hwx hsx
        have hpc := (hR.out.piece (64 * j) 64 (by rw [HPL.out]; omega)).keep hwx
        have h1 := after_any (stA start p j) _ _ _ (seg p (64 * j) 64) wx (stA_len p start_len j) hpc hsx hseg
        rw [show comp (stA start p j) (seg p (64 * j) 64) = stA start p (j + 1) from rfl, hV', HV.out] at h1
        rw [Nat.zero_add] at h1
        exact h1
      have hc64 : 64 * j + 64 ≤ c2 := by omega
      have f1 : (0 : Int) ≤ 64 * (j : Int) := by omega
      have f2 : 64 * (j : Int) ≤ 64 * (j : Int) + 64 := by omega
      have f3 : 64 * (j : Int) + 64 ≤ (c2 : Int) := by omega
      have f4 : (0 : Int) ≤ 64 * (j : Int) + 64 := by omega
      have f5 : ¬ c2 = 64 * j := by omega
      have n1 : (64 * (j : Int)).toNat = 64 * j := by omega
      have n2 : (64 * (j : Int) + 64).toNat = 64 * j + 64 := by omega
      have n3 : IntKind.i64.wrap (64 * (j : Int) + 64) = 64 * (j : Int) + 64 := by rw [IntKind.wrap_i64]; omega
      have HCD := Lib.hid (HC.out wr.drew (fun _ _ => rfl) (Nat.le_refl _))
      have hlt1 := hlt.out
      clear hV' hseg
      go_wp2_with fail
      go_region_law (go_simp; go_at_call 54; (with_reducible refine HCD.out.mono ?_); rintro e3 w3 ⟨rfl, hb3⟩; have hv3 : Hb uv w3 w1.heap.size 88 [va, vb, vc, vd, ve, vf, vg, vh] := (hb3.block _ HVV.out.lt).trans HVV.out; obtain ⟨k0, k1, k2, k3, k4, k5, k6, k7, kf⟩ := cells8 hv3)
      all_goals
        have hs3 : wr.heap.size ≤ w3.heap.size := hb3.size
        have hb3' : Below wr.heap.size wr w3 := ((Below.refl _ wr).drew).trans hb3
        obtain ⟨w4, hw4⟩ : ∃ w4, w4 = ((((((((w3.setCell ⟨w1.heap.size, 0, none⟩ (.int .u32 (va'.toNat : Int))).setCell ⟨w1.heap.size, 1, none⟩ (.int .u32 (vb'.toNat : Int))).setCell ⟨w1.heap.size, 2, none⟩ (.int .u32 (vc'.toNat : Int))).setCell ⟨w1.heap.size, 3, none⟩ (.int .u32 (vd'.toNat : Int))).setCell ⟨w1.heap.size, 4, none⟩ (.int .u32 (ve'.toNat : Int))).setCell ⟨w1.heap.size, 5, none⟩ (.int .u32 (vf'.toNat : Int))).setCell ⟨w1.heap.size, 6, none⟩ (.int .u32 (vg'.toNat : Int))).setCell ⟨w1.heap.size, 7, none⟩ (.int .u32 (vh'.toNat : Int))) := ⟨_, rfl⟩
        rw [← hw4]
        have hv4 : Hb uv w4 w1.heap.size 88 [va', vb', vc', vd', ve', vf', vg', vh'] := by rw [hw4]; exact set8 hv3 rfl _ _ _ _ _ _ _ _
        have hg4 : w3.grownBy w4 (some w1.heap.size) := by rw [hw4]; exact grown8 _ _ _ _ _ _ _ _ _ _
        clear hw4 k0 k1 k2 k3 k4 k5 k6 k7 kf
        go_wp2_with fail
        go_roundw
        case rel =>
          refine ⟨j + 1, by omega, by go_num, by rw [HV'.out]; exact hv4, ?_, (hZ.out.below hb3' hZ.out.lt).grown hg4 (by simp; omega), (hBw.out.trans (hb3'.mono hBw.out.size)).grown hg4 (hBw.out.trans (hb3'.mono hBw.out.size)).size (fun k e => by cases e; omega), ?_⟩
          · exact ((hR.out.below hb3').grown hg4 hs3 (fun _ => by simp [blk]; omega)).more (Nat.le_trans hs3 hg4.size)
          · have := hg4.size
            show _ < _
            omega
        case measure => simp [intOf]; omega
end Go.Proofs.YtipclieldokfnaaDoor
