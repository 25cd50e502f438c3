/- folded. -/
import Derived.Test.YtgglnbjioobebaaDoorTold
namespace Go.Proofs.YtgglnbjioobebaaDoor
open Go.RowKit
set_option linter.unusedVariables false

theorem wpList_store8 {P : Program} {w : World} {ops : Array Oper} {rest : List Oper} {o : Oper} {ac : Act} {Q : Exit → Act → World → Prop} (hgd : o.guard = none) (ty : TypeId) (x y : Operand) (ho : o.op = .store ty x y)
    (gb : Nat) (a b c d e f g h : UInt32) (hx : ac.eval x = .pointer (some ⟨gb, 0, none⟩))
    (hy : ac.eval y = .agg #[.int .u32 (a.toNat : Int), .int .u32 (b.toNat : Int), .int .u32 (c.toNat : Int), .int .u32 (d.toNat : Int), .int .u32 (e.toNat : Int), .int .u32 (f.toNat : Int), .int .u32 (g.toNat : Int), .int .u32 (h.toNat : Int)])
    {t : Nat} {a0 b0 c0 d0 e0 f0 g0 h0 : UInt32} (hH : Hb uv w gb t [a0, b0, c0, d0, e0, f0, g0, h0]) (hi : (P.info? ty).map (·.size) = some 8)
    (hK : ∀ w', Hb uv w' gb t [a, b, c, d, e, f, g, h] → w.grownBy w' (some gb) → wpList P ops Q rest (ac.put o.dst undef) w') : wpList P ops Q (o :: rest) ac w :=
  wpList_store_cs uv_one hgd ty x y ho gb [a, b, c, d, e, f, g, h] _ rfl hx hy hH hi rfl rfl hK

set_option maxHeartbeats 800000 in
theorem folded_any (S : List UInt32) (A : Option Addr) (c B : Nat) (p : List UInt8) (w : World) (hS : S.length = 8) (hr : Rf bv w B A c p) (hB : B ≤ w.heap.size) (hl : p.length ≤ 100000) (hT : Tab w) :
    Calls Tryd.prog 24 #[aw S, .slice A p.length c] w fun e w' => e = .returned (.tuple #[aw (stA S p (p.length / 64)), .bool true]) ∧ Below w.heap.size w w' := by
  obtain ⟨sa, sb, sc, sd, se, sf, sg, sh, rfl⟩ := len8 hS
  have HSL := Lib.hid hS
  have HT := Lib.hid hT
  have hcap := hr.cap
  have hcm := hr.capm
  unfold maxLen at hcm
  unfold aw
  simp only [List.map_cons, List.map_nil, uv]
  clear hS hT
  have hb2 := fun (o1 o2 : Obj) => ((Below.refl _ w).alloc (Nat.le_refl w.heap.size) o1).alloc (by simp) o2
  go_enter Tryd.func24, Tryd.ntmps24
  go_wp2_with fail
  go_loopw [6] (fun i wr => ∃ j : Nat, 64 * j ≤ p.length ∧ i = .int .i64 (64 * (j : Int)) ∧ Hid (Hb uv wr w.heap.size 30 (stA [sa, sb, sc, sd, se, sf, sg, sh] p j)) ∧ Hid (Hb uv wr (w.heap.size + 1) 30 [0, 0, 0, 0, 0, 0, 0, 0]) ∧ Hid (Below w.heap.size w wr)) (fun i _ => p.length - (intOf i).toNat)
  case atStart =>
    exact ⟨0, by omega, rfl, (Hb.new uv w _ [sa, sb, sc, sd, se, sf, sg, sh] _ rfl).alloc _, Hb.new1 uv w _ _ [0, 0, 0, 0, 0, 0, 0, 0] _ rfl, hb2 _ _⟩
  case round =>
    clear hb2
    obtain ⟨j, hj, rfl, hS, hZ, hBw⟩ := hrel
    obtain ⟨va, vb, vc, vd, ve, vf, vg, vh, hV⟩ := len8 (stA_len p HSL.out j)
    have hvv := hS.out
    rw [hV] at hvv
    obtain ⟨g0, g1, g2, g3, g4, g5, g6, g7, gf⟩ := cells8 hvv
    have HVV := Lib.hid hvv
    have HV := Lib.hid hV
    clear hvv hV
    by_cases hjm : 64 * j + 64 ≤ p.length
    · obtain ⟨b, o, rfl, hbb, _⟩ := hr.at_ (k := 0) (by omega)
      obtain ⟨va', vb', vc', vd', ve', vf', vg', vh', hV'⟩ := len8 (stA_len p HSL.out (j + 1))
      have hseg : (seg p (64 * j) 64).length = 64 := seg_len (by omega)
      have HV' := Lib.hid hV'
      have HC : Hid (∀ wx : World, Below wr.heap.size wr wx → Calls Tryd.prog 14 #[.agg #[.int .u32 (va.toNat : Int), .int .u32 (vb.toNat : Int), .int .u32 (vc.toNat : Int), .int .u32 (vd.toNat : Int), .int .u32 (ve.toNat : Int), .int .u32 (vf.toNat : Int), .int .u32 (vg.toNat : Int), .int .u32 (vh.toNat : Int)], .slice (some ⟨b, o + 64 * j, none⟩) 64 (c - 64 * j)] wx fun e w' =>
          e = .returned (.tuple #[.agg #[.int .u32 (va'.toNat : Int), .int .u32 (vb'.toNat : Int), .int .u32 (vc'.toNat : Int), .int .u32 (vd'.toNat : Int), .int .u32 (ve'.toNat : Int), .int .u32 (vf'.toNat : Int), .int .u32 (vg'.toNat : Int), .int .u32 (vh'.toNat : Int)], .int .i64 0]) ∧
            Hb uv w' w.heap.size 30 [va, vb, vc, vd, ve, vf, vg, vh] ∧ Hb uv w' (w.heap.size + 1) 30 [0, 0, 0, 0, 0, 0, 0, 0] ∧ Below w.heap.size w w' ∧ wr.heap.size ≤ w'.heap.size ∧ Below wx.heap.size wx w') := by
        intro wx hbx
        have hfr := hBw.out.trans (hbx.mono hBw.out.size)
        have hdr := (hr.below (hfr.mono hB)).piece (64 * j) 64 (by omega)
        have hCC := compX_any (stA [sa, sb, sc, sd, se, sf, sg, sh] p j) _ _ B (seg p (64 * j) 64) wx (stA_len p HSL.out j) hdr (Nat.le_trans hB hfr.size) (by omega) (HT.out.below hfr)
        rw [show compM (stA [sa, sb, sc, sd, se, sf, sg, sh] p j) (seg p (64 * j) 64) = (stA [sa, sb, sc, sd, se, sf, sg, sh] p (j + 1), 0) by unfold compM; rw [if_pos hseg]; rfl, hseg, HV.out, hV'] at hCC
        unfold aw at hCC
        simp only [List.map_cons, List.map_nil, uv] at hCC
        refine hCC.mono ?_
        rintro e w' ⟨he, hb⟩
        have h1 := (HVV.out.below hbx HVV.out.lt).below hb (Nat.lt_of_lt_of_le HVV.out.lt hbx.size)
        have h2 := (hZ.out.below hbx hZ.out.lt).below hb (Nat.lt_of_lt_of_le hZ.out.lt hbx.size)
        exact ⟨he, h1, h2, hfr.trans (hb.mono hfr.size), Nat.le_trans hbx.size hb.size, hb⟩
      have f1 : (0 : Int) ≤ 64 * (j : Int) := by omega
      have f2 : 64 * (j : Int) ≤ 64 * (j : Int) + 64 := by omega
      have f3 : 64 * (j : Int) + 64 ≤ (c : Int) := by omega
      have f4 : (0 : Int) ≤ 64 * (j : Int) + 64 := by omega
      have f5 : ¬ c = 64 * j := by omega
      have n1 : (64 * (j : Int)).toNat = 64 * j := by omega
      have n2 : (64 * (j : Int) + 64).toNat = 64 * j + 64 := by omega
      have n3 : IntKind.i64.wrap (64 * (j : Int) + 64) = 64 * (j : Int) + 64 := by rw [IntKind.wrap_i64]; omega
      have HNE := Lib.hid (show some w.heap.size ≠ some wr.heap.size by have := HVV.out.lt; simp; omega)
      have HNZ := Lib.hid (show some (w.heap.size + 1) ≠ some wr.heap.size by have := hZ.out.lt; simp; omega)
      have hlt0 := HVV.out.lt
      have hlt1 := hZ.out.lt
      clear hV' hseg
      go_wp2_with fail
      go_region_law (go_simp; go_at_call 14; refine (HC.out _ (by first | exact (Below.refl _ wr).drew | exact ((Below.refl _ wr).alloc (Nat.le_refl _) _).drew)).mono ?_; rintro e3 w3 ⟨rfl, hv3, hz3, hbw3, hs3, hb3⟩; obtain ⟨k0, k1, k2, k3, k4, k5, k6, k7, kf⟩ := cells8 hv3; try (have hx3 : Hb uv w3 wr.heap.size 30 [0, 0, 0, 0, 0, 0, 0, 0] := Hb.below (Hb.new uv wr 30 [0, 0, 0, 0, 0, 0, 0, 0] _ rfl).drew hb3 (by simp); obtain ⟨x0, x1, x2, x3, x4, x5, x6, x7, xf⟩ := cells8 hx3))
      all_goals
        first
          | (obtain ⟨w4, hw4⟩ : ∃ w4, w4 = w3.alloc (.cells #[.int .u32 (va'.toNat : Int), .int .u32 (vb'.toNat : Int), .int .u32 (vc'.toNat : Int), .int .u32 (vd'.toNat : Int), .int .u32 (ve'.toNat : Int), .int .u32 (vf'.toNat : Int), .int .u32 (vg'.toNat : Int), .int .u32 (vh'.toNat : Int)] 30) := ⟨_, rfl⟩
             rw [← hw4]
             have hv4 : Hb uv w4 w.heap.size 30 [va, vb, vc, vd, ve, vf, vg, vh] := by rw [hw4]; exact hv3.alloc _
             have hz4 : Hb uv w4 (w.heap.size + 1) 30 [0, 0, 0, 0, 0, 0, 0, 0] := by rw [hw4]; exact hz3.alloc _
             have hx4 : Hb uv w4 w3.heap.size 30 [va', vb', vc', vd', ve', vf', vg', vh'] := by rw [hw4]; exact Hb.new uv w3 _ _ _ rfl
             have hbw4 : Below w.heap.size w w4 := by rw [hw4]; exact hbw3.alloc hbw3.size _)
          | (obtain ⟨w4, hw4⟩ : ∃ w4, w4 = ((((((((w3.setCell ⟨wr.heap.size, 0, none⟩ (.int .u32 (va'.toNat : Int))).setCell ⟨wr.heap.size, 1, none⟩ (.int .u32 (vb'.toNat : Int))).setCell ⟨wr.heap.size, 2, none⟩ (.int .u32 (vc'.toNat : Int))).setCell ⟨wr.heap.size, 3, none⟩ (.int .u32 (vd'.toNat : Int))).setCell ⟨wr.heap.size, 4, none⟩ (.int .u32 (ve'.toNat : Int))).setCell ⟨wr.heap.size, 5, none⟩ (.int .u32 (vf'.toNat : Int))).setCell ⟨wr.heap.size, 6, none⟩ (.int .u32 (vg'.toNat : Int))).setCell ⟨wr.heap.size, 7, none⟩ (.int .u32 (vh'.toNat : Int))) := ⟨_, rfl⟩
             rw [← hw4]
             have hv4 : Hb uv w4 w.heap.size 30 [va, vb, vc, vd, ve, vf, vg, vh] := by rw [hw4]; exact hv3.grown (grown8 _ _ _ _ _ _ _ _ _ _) HNE.out
             have hz4 : Hb uv w4 (w.heap.size + 1) 30 [0, 0, 0, 0, 0, 0, 0, 0] := by rw [hw4]; exact hz3.grown (grown8 _ _ _ _ _ _ _ _ _ _) HNZ.out
             have hx4 : Hb uv w4 wr.heap.size 30 [va', vb', vc', vd', ve', vf', vg', vh'] := by rw [hw4]; exact set8 hx3 rfl _ _ _ _ _ _ _ _
             have hbw4 : Below w.heap.size w w4 := by rw [hw4]; exact hbw3.grown (grown8 _ _ _ _ _ _ _ _ _ _) hbw3.size (fun k e => by cases e; omega))
        obtain ⟨y0, y1, y2, y3, y4, y5, y6, y7, yf⟩ := cells8 hx4
        clear hw4 k0 k1 k2 k3 k4 k5 k6 k7 kf
        go_wp2_with ((with_reducible refine wpList_store8 rfl _ (.tmp 2) (.tmp 29) rfl _ va' vb' vc' vd' ve' vf' vg' vh' rfl rfl hv4 size8 ?_); intro w5 h5 hg5)
        go_roundw
        case rel =>
          refine ⟨j + 1, by omega, by go_num, ?_, hz4.grown hg5 (by simp), hbw4.grown hg5 hbw4.size (fun k e => by cases e; omega)⟩
          rw [HV'.out]
          exact h5
        case measure => simp [intOf]; omega
    · obtain ⟨z0, z1, z2, z3, z4, z5, z6, z7, zf⟩ := cells8 hZ.out
      have HF := Lib.hid (show stA [sa, sb, sc, sd, se, sf, sg, sh] p (p.length / 64) = [va, vb, vc, vd, ve, vf, vg, vh] by rw [← HV.out]; congr 1; omega)
      go_wp2_with fail
      refine bodyPost_cell_tmp (f := uv) (g := w.heap.size + 1) (t := 30) (L := [va, vb, vc, vd, ve, vf, vg, vh]) rfl rfl (set8 hZ.out rfl _ _ _ _ _ _ _ _) Tryd.underlying30 size8 rfl ⟨by rw [HF.out]; rfl, ?_⟩
      exact hBw.out.grown (grown8 _ _ _ _ _ _ _ _ _ _) hBw.out.size (fun k e => by cases e; omega)
end Go.Proofs.YtgglnbjioobebaaDoor
