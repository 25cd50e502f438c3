/- digest's compress; the table of constants. -/
import Derived.Test.YtipclieldokfnaaDoorTurn
import Derived.Test.YtipclieldokfnaaDoorSched
import Derived.Lib.AppendIntMem
import Derived.Lib.LaidTab
import Derived.Deep.RegionLaw
namespace Go.Proofs.YtipclieldokfnaaDoor
open Go.RowKit
set_option linter.unusedVariables false
attribute [local go_sem] w_add w_xor w_and w_or w_not

/-- The table, as integers. -/
def kkI : List Int := kk.map fun x => (x.toNat : Int)
/-- The table of constants holds, now and behind what the call makes. -/
abbrev Tab (w : World) : Prop := Lib.TabBelow Tryd.prog w.heap.size w "suffrage/digest.k" .u32 kkI
theorem Tab.below {w w' : World} (h : Tab w) (hb : Below w.heap.size w w') : Tab w' := fun w2 h2 => h w2 (hb.trans (h2.mono hb.size))
theorem gK : Tryd.prog.globalNamed "suffrage/digest.k" = some 0 := by kernel_rfl
theorem Tab.cell {w : World} (h : Tab w) {t : Nat} (ht : t < 64) : w.cell? ⟨0, t, none⟩ = some (.int .u32 ((kk.getD t 0).toNat : Int)) := by
  rw [h.here.cell gK t (by unfold kkI; rw [List.length_map, kk_len]; exact ht)]
  unfold kkI
  simp [List.getD, List.getElem?_map]
  cases kk[t]? <;> rfl

/-- The first i words with S's added. -/
def plusTo (V S : List UInt32) (i : Nat) : List UInt32 := (List.zipWith (· + ·) V S).take i ++ V.drop i
theorem plusTo_zero (V S : List UInt32) : plusTo V S 0 = V := rfl
theorem plusTo_len {V S : List UInt32} (h : V.length = 8) (hS : S.length = 8) {i : Nat} (hi : i ≤ 8) : (plusTo V S i).length = 8 := by
  unfold plusTo
  rw [List.length_append, List.length_take, List.length_zipWith, List.length_drop]; omega
theorem plusTo_all {V S : List UInt32} (h : V.length = 8) (hS : S.length = 8) : plusTo V S 8 = List.zipWith (· + ·) V S := by
  unfold plusTo
  rw [List.take_of_length_le (by rw [List.length_zipWith]; omega), List.drop_of_length_le (by omega), List.append_nil]
theorem plusTo_step {V S : List UInt32} (h : V.length = 8) (hS : S.length = 8) {i : Nat} (hi : i < 8) : (plusTo V S i).set i (V[i] + S[i]) = plusTo V S (i + 1) := by
  unfold plusTo
  have h1 : ((List.zipWith (· + ·) V S).take i).length = i := by rw [List.length_take, List.length_zipWith]; omega
  rw [List.set_append_right (h := by omega), h1, Nat.sub_self, List.drop_eq_getElem_cons (show i < V.length by omega), List.set_cons_zero,
    List.take_succ_eq_append_getElem (show i < (List.zipWith (· + ·) V S).length by rw [List.length_zipWith]; omega), List.append_assoc, List.getElem_zipWith]
  rfl
theorem plusTo_get {V S : List UInt32} (h : V.length = 8) (hS : S.length = 8) {i : Nat} (hi : i < 8) : (plusTo V S i)[i]'(by rw [plusTo_len h hS (by omega)]; exact hi) = V[i] := by
  unfold plusTo
  have h1 : ((List.zipWith (· + ·) V S).take i).length = i := by rw [List.length_take, List.length_zipWith]; omega
  rw [List.getElem_append_right (by omega)]
  simp [h1]

theorem Hb.new2 {α : Type} (f : α → Value) (w : World) (o o2 : Obj) (t : TypeId) (L : List α) (cs : Array Value) (h : (L.map f).toArray = cs) : Hb f (((w.alloc o).alloc o2).alloc (.cells cs t)) (w.heap.size + 1 + 1) t L := by
  have := Hb.new1 f (w.alloc o) o2 t L cs h
  rwa [World.size_alloc] at this
theorem size_alloc3 (w : World) (o1 o2 o3 : Obj) : (((w.alloc o1).alloc o2).alloc o3).heap.size = w.heap.size + 1 + 1 + 1 := by simp
theorem below_alloc3 (w : World) (o1 o2 o3 : Obj) : Below w.heap.size w (((w.alloc o1).alloc o2).alloc o3) := (((Below.refl _ w).alloc (Nat.le_refl _) _).alloc (by simp) _).alloc (by simp; omega) _
theorem idx_words {P : Program} {ty : TypeId} {L : List UInt32} {n : Nat} {e : TypeId} (hu : P.underlying ty = some (.array n e)) (he : (P.info? e).map (·.size) = some 1) (he2 : P.underlying e = some (.int .u32)) (hl : L.length = n) {t : Nat} (ht : t < n) (w : World) :
    (Instr.index ty (.agg (L.map uv).toArray) (.int .i64 (t : Int))).run P w = .ok (.int .u32 ((L.getD t 0).toNat : Int)) w := by
  have hz : (sizeOf e).run P w = .ok 1 w := by
    cases hq : P.info? e with
    | none => simp [hq] at he
    | some i => simp [hq] at he; simp [sizeOf, typeInfo, hq, he]
  unfold Instr.index
  simp only [asIntOf, Sem.run_bind, Sem.run_pure, Result.andThen_ok, run_underlying hu]
  rw [if_pos ⟨by omega, by omega⟩]
  simp only [Sem.run_bind, hz, Result.andThen_ok]
  have hx : (L.map uv).toArray[(t : Int).toNat * 1]? = some (uv (L.getD t 0)) := by
    have ht' : t < L.length := by omega
    simp [List.getD, ht']
  simp only [part, isAgg, Sem.run_bind, run_underlying he2, Result.andThen_ok, Sem.run_pure, hx]
  rfl
theorem cells8 {w : World} {g T : Nat} {a b c d e f i j : UInt32} (h : Hb uv w g T [a, b, c, d, e, f, i, j]) :
    w.cell? ⟨g, 0, none⟩ = some (.int .u32 (a.toNat : Int)) ∧ w.cell? ⟨g, 1, none⟩ = some (.int .u32 (b.toNat : Int)) ∧ w.cell? ⟨g, 2, none⟩ = some (.int .u32 (c.toNat : Int)) ∧ w.cell? ⟨g, 3, none⟩ = some (.int .u32 (d.toNat : Int)) ∧
    w.cell? ⟨g, 4, none⟩ = some (.int .u32 (e.toNat : Int)) ∧ w.cell? ⟨g, 5, none⟩ = some (.int .u32 (f.toNat : Int)) ∧ w.cell? ⟨g, 6, none⟩ = some (.int .u32 (i.toNat : Int)) ∧ w.cell? ⟨g, 7, none⟩ = some (.int .u32 (j.toNat : Int)) ∧
    ∀ k, w.frozen? ⟨g, k, none⟩ = false :=
  ⟨h.cell (i := 0) (by simp), h.cell (i := 1) (by simp), h.cell (i := 2) (by simp), h.cell (i := 3) (by simp), h.cell (i := 4) (by simp), h.cell (i := 5) (by simp), h.cell (i := 6) (by simp), h.cell (i := 7) (by simp), h.frozen⟩
/-- Eight stores, one cell after another. -/
theorem set8 {w : World} {g T : Nat} {L : List UInt32} (h : Hb uv w g T L) (hl : L.length = 8) (a b c d e f i j : UInt32) :
    Hb uv ((((((((w.setCell ⟨g, 0, none⟩ (.int .u32 (a.toNat : Int))).setCell ⟨g, 1, none⟩ (.int .u32 (b.toNat : Int))).setCell ⟨g, 2, none⟩ (.int .u32 (c.toNat : Int))).setCell ⟨g, 3, none⟩ (.int .u32 (d.toNat : Int))).setCell
      ⟨g, 4, none⟩ (.int .u32 (e.toNat : Int))).setCell ⟨g, 5, none⟩ (.int .u32 (f.toNat : Int))).setCell ⟨g, 6, none⟩ (.int .u32 (i.toNat : Int))).setCell ⟨g, 7, none⟩ (.int .u32 (j.toNat : Int))) g T [a, b, c, d, e, f, i, j] := by
  obtain ⟨a', b', c', d', e', f', i', j', rfl⟩ := len8 hl
  exact (((((((h.set_ 0 a _ rfl).set_ 1 b _ rfl).set_ 2 c _ rfl).set_ 3 d _ rfl).set_ 4 e _ rfl).set_ 5 f _ rfl).set_ 6 i _ rfl).set_ 7 j _ rfl
theorem grown8 (w : World) (g : Nat) (v0 v1 v2 v3 v4 v5 v6 v7 : Value) : w.grownBy ((((((((w.setCell ⟨g, 0, none⟩ v0).setCell ⟨g, 1, none⟩ v1).setCell ⟨g, 2, none⟩ v2).setCell ⟨g, 3, none⟩ v3).setCell ⟨g, 4, none⟩ v4).setCell ⟨g, 5, none⟩ v5).setCell ⟨g, 6, none⟩ v6).setCell ⟨g, 7, none⟩ v7) (some g) :=
  grown_setCell (grown_setCell (grown_setCell (grown_setCell (grown_setCell (grown_setCell (grown_setCell (grown_setCell (grown_refl _ _) _ _) _ _) _ _) _ _) _ _) _ _) _ _) _ _
set_option maxHeartbeats 2000000 in
theorem compress_any (S : List UInt32) (A : Option Addr) (c B : Nat) (l : List UInt8) (w : World) (hS : S.length = 8) (hr : Rf bv w B A c l) (hB : B ≤ w.heap.size) (hl : l.length = 64) (hT : Tab w) :
    Calls Tryd.prog 62 #[aw S, .slice A 64 c] w fun e w' => e = .returned (aw (comp S l)) ∧ Below w.heap.size w w' := by
  obtain ⟨a, b, c1, d, e, f, g, h, rfl⟩ := len8 hS
  obtain ⟨S, hSe⟩ : ∃ S, S = [a, b, c1, d, e, f, g, h] := ⟨_, rfl⟩
  have HSL := Lib.hid hS
  have HL := Lib.hid hl
  have HT := Lib.hid hT
  clear hS hl hT
  obtain ⟨W, hW⟩ : ∃ W, W = sched l 64 := ⟨_, rfl⟩
  have HW := Lib.hid hW
  clear hW
  unfold aw
  simp only [List.map_cons, List.map_nil, uv]
  go_enter Tryd.func62, Tryd.ntmps62
  go_wp2_with fail
  refine (schedule_any A c B l _ (hr.below ((below_alloc3 w _ _ _).mono hB)) (by rw [size_alloc3]; omega) HL.out).mono ?_
  rintro e1 w1 ⟨rfl, hb1⟩
  have hv1 := Hb.below (Hb.new2 uv w _ _ _ [a, b, c1, d, e, f, g, h] _ rfl) hb1 (by rw [size_alloc3]; omega)
  have hs1 := Hb.below ((((Hb.new uv w _ [a, b, c1, d, e, f, g, h] _ rfl).alloc _).alloc _)) hb1 (by rw [size_alloc3]; omega)
  have hz1 := Hb.below ((Hb.new1 uv w _ _ [0, 0, 0, 0, 0, 0, 0, 0] _ rfl).alloc _) hb1 (by rw [size_alloc3]; omega)
  have hbw := (below_alloc3 w _ _ _).trans (hb1.mono (by rw [size_alloc3]; omega))
  rw [← HW.out]
  clear hb1
  unfold aw
  obtain ⟨cs, hcs⟩ : ∃ cs, cs = (W.map uv).toArray := ⟨_, rfl⟩
  rw [← hcs]
  have HX : ∀ (t : Nat) (ht : t < 64) w, (Instr.index 106 (.agg cs) (.int .i64 (t : Int))).run Tryd.prog w = .ok (.int .u32 ((W.getD t 0).toNat : Int)) w := by
    intro t ht w
    rw [hcs]
    exact idx_words Tryd.underlying106 (by kernel_rfl) Tryd.underlying27 (by rw [HW.out, sched_len]) ht w
  have HIX := Lib.hid HX
  clear HX hcs
  go_wp2_with fail
  go_loopw [12] (fun i wr => ∃ t : Nat, t ≤ 64 ∧ i = .int .i64 t ∧ Hid (Hb uv wr (w.heap.size + 1 + 1) 88 (turns W [a, b, c1, d, e, f, g, h] t)) ∧ Hid (Hb uv wr w.heap.size 88 [a, b, c1, d, e, f, g, h]) ∧
    Hid (Hb uv wr (w.heap.size + 1) 88 [0, 0, 0, 0, 0, 0, 0, 0]) ∧ Hid (Below w.heap.size w wr)) (fun i _ => 64 - (intOf i).toNat)
  case atStart => exact ⟨0, by omega, rfl, hv1, hs1, hz1, hbw⟩
  case round =>
    clear hv1 hs1 hz1 hbw
    obtain ⟨t, ht, rfl, hv, hs, hz, hbw⟩ := hrel
    by_cases h64 : t = 64
    · have e64 : (t : Int) = 64 := by omega
      rw [h64] at hv
      rw [e64]
      clear e64 h64 ht t
      have HVL := turns_len W HSL.out 64
      obtain ⟨V, hVe⟩ : ∃ V, V = turns W [a, b, c1, d, e, f, g, h] 64 := ⟨_, rfl⟩
      rw [← hVe] at hv HVL
      have HVe := Lib.hid hVe
      have HVLen := Lib.hid HVL
      clear hVe HVL
      go_wp2_with fail
      go_loopw [24] (fun i wr => ∃ t : Nat, t ≤ 8 ∧ i = .int .i64 t ∧ Hid (Hb uv wr (w.heap.size + 1 + 1) 88 (plusTo V [a, b, c1, d, e, f, g, h] t)) ∧ Hid (Hb uv wr w.heap.size 88 [a, b, c1, d, e, f, g, h]) ∧
        Hid (Hb uv wr (w.heap.size + 1) 88 [0, 0, 0, 0, 0, 0, 0, 0]) ∧ Hid (Below w.heap.size w wr)) (fun i _ => 8 - (intOf i).toNat)
      case atStart => exact ⟨0, by omega, rfl, hv, hs, hz, hbw⟩
      case round =>
        clear hv hs hz hbw
        obtain ⟨t, ht, rfl, hv, hs, hz, hbw⟩ := hrel
        by_cases h8 : t = 8
        · have HP := Lib.hid (show plusTo V [a, b, c1, d, e, f, g, h] 8 = comp [a, b, c1, d, e, f, g, h] l by rw [plusTo_all HVLen.out HSL.out, HVe.out, HW.out]; rfl)
          rw [h8, HP.out] at hv
          have e8 : (t : Int) = 8 := by omega
          rw [e8]
          clear e8 h8 ht t
          obtain ⟨va, vb, vc, vd, ve, vf, vg, vh, hV⟩ := len8 (comp_len l HSL.out)
          have hvv := hv.out
          rw [hV] at hvv
          obtain ⟨g0, g1, g2, g3, g4, g5, g6, g7, gf⟩ := cells8 hvv
          obtain ⟨z0, z1, z2, z3, z4, z5, z6, z7, zf⟩ := cells8 hz.out
          have HCL := Lib.hid hV
          clear hv hV hvv
          go_wp2_with fail
          refine bodyPost_cell (f := uv) (g := w.heap.size + 1) (t := 88) (L := [va, vb, vc, vd, ve, vf, vg, vh]) rfl rfl (set8 hz.out rfl _ _ _ _ _ _ _ _) Tryd.underlying88 size8 rfl ⟨by rw [HCL.out], ?_⟩
          exact hbw.out.grown (grown8 _ _ _ _ _ _ _ _ _ _) hbw.out.size (fun k e => by cases e; omega)
        · have ht8 : t < 8 := by omega
          have hc1 := hv.out.cell (i := t) (by rw [plusTo_len HVLen.out HSL.out (by omega)]; omega)
          have hc2 := hs.out.cell (i := t) (by rw [HSL.out]; omega)
          rw [plusTo_get HVLen.out HSL.out ht8] at hc1
          have hfv := hv.out.frozen t
          obtain ⟨x, hx⟩ : ∃ x, x = V[t]'(by rw [HVLen.out]; omega) := ⟨_, rfl⟩
          obtain ⟨y, hy⟩ : ∃ y, y = [a, b, c1, d, e, f, g, h][t]'(by rw [HSL.out]; omega) := ⟨_, rfl⟩
          rw [← hx] at hc1
          rw [← hy] at hc2
          unfold uv at hc1 hc2
          have HP := Lib.hid (show (plusTo V [a, b, c1, d, e, f, g, h] t).set t (wadd x y) = plusTo V [a, b, c1, d, e, f, g, h] (t + 1) by rw [hx, hy]; exact plusTo_step HVLen.out HSL.out ht8)
          clear hx hy
          go_wp2_with fail
          go_region
          all_goals
            go_wp2_with fail
            go_roundw
            case rel =>
              refine ⟨t + 1, by omega, by go_num, ?_, ?_, ?_, ?_⟩
              · rw [← HP.out]
                exact (Hb.drewN hv.out _).set_ t (wadd x y) _ rfl
              · exact (hs.out.drewN _).away (by show w.heap.size ≠ w.heap.size + 1 + 1; omega) _
              · exact (hz.out.drewN _).away (by show w.heap.size + 1 ≠ w.heap.size + 1 + 1; omega) _
              · exact (hbw.out.trans (below_drewN _ _ _)).setCell (p := ⟨w.heap.size + 1 + 1, t, none⟩) (by show _ ≤ w.heap.size + 1 + 1; omega) _
            case measure => simp [intOf]; omega
    · have hix := HIX.out t (by omega)
      have hkt := Tab.cell (HT.out.below hbw.out) (show t < 64 by omega)
      obtain ⟨kt, hkte⟩ : ∃ kt, kt = kk.getD t 0 := ⟨_, rfl⟩
      obtain ⟨wt, hwte⟩ : ∃ wt, wt = W.getD t 0 := ⟨_, rfl⟩
      rw [← hkte] at hkt
      rw [← hwte] at hix
      obtain ⟨va, vb, vc, vd, ve, vf, vg, vh, hV⟩ := len8 (turns_len W HSL.out t)
      obtain ⟨va', vb', vc', vd', ve', vf', vg', vh', hV'⟩ := len8 (turn_len (wadd kt wt) (turns_len W HSL.out t))
      have HTN := Lib.hid (show turns W [a, b, c1, d, e, f, g, h] (t + 1) = [va', vb', vc', vd', ve', vf', vg', vh'] by rw [← hV', turns, hkte, hwte]; rfl)
      have HC : Hid (∀ wx : World, Calls Tryd.prog 74 #[.agg #[.int .u32 (va.toNat : Int), .int .u32 (vb.toNat : Int), .int .u32 (vc.toNat : Int), .int .u32 (vd.toNat : Int), .int .u32 (ve.toNat : Int), .int .u32 (vf.toNat : Int), .int .u32 (vg.toNat : Int), .int .u32 (vh.toNat : Int)], .int .u32 ((wadd kt wt).toNat : Int)] wx fun e w' =>
          e = .returned (.agg #[.int .u32 (va'.toNat : Int), .int .u32 (vb'.toNat : Int), .int .u32 (vc'.toNat : Int), .int .u32 (vd'.toNat : Int), .int .u32 (ve'.toNat : Int), .int .u32 (vf'.toNat : Int), .int .u32 (vg'.toNat : Int), .int .u32 (vh'.toNat : Int)]) ∧ Below wx.heap.size wx w') := by
        intro wx
        have h1 := turn_any (turns W [a, b, c1, d, e, f, g, h] t) (wadd kt wt) wx (turns_len W HSL.out t)
        rw [hV', hV] at h1
        exact h1
      have hvv := hv.out
      rw [hV] at hvv
      obtain ⟨g0, g1, g2, g3, g4, g5, g6, g7, gf⟩ := cells8 hvv
      have HVV := Lib.hid hvv
      clear hV hV' hvv hkte hwte
      go_wp2_with fail
      go_region_law (go_simp; go_at_call 74; (with_reducible refine (HC.out _).mono ?_); rintro e2 w2 ⟨rfl, hb2⟩; have hv2 : Hb uv w2 (w.heap.size + 1 + 1) 88 [va, vb, vc, vd, ve, vf, vg, vh] := (hb2.block _ HVV.out.lt).trans HVV.out; obtain ⟨k0, k1, k2, k3, k4, k5, k6, k7, kf⟩ := cells8 hv2)
      all_goals
        go_wp2_with fail
        go_roundw
        case rel =>
          refine ⟨t + 1, by omega, by go_num, ?_, ?_, ?_, ?_⟩
          · rw [HTN.out]
            exact set8 hv2 rfl _ _ _ _ _ _ _ _
          · exact Hb.grown ((hb2.block _ hs.out.lt).trans hs.out) (grown8 _ _ _ _ _ _ _ _ _ _) (by simp; omega)
          · exact Hb.grown ((hb2.block _ hz.out.lt).trans hz.out) (grown8 _ _ _ _ _ _ _ _ _ _) (by simp)
          · exact (hbw.out.drew.trans (hb2.mono hbw.out.drew.size)).grown (grown8 _ _ _ _ _ _ _ _ _ _) (hbw.out.drew.trans (hb2.mono hbw.out.drew.size)).size (fun k e => by cases e; omega)
        case measure => simp [intOf]; omega
end Go.Proofs.YtipclieldokfnaaDoor
