/- octet's Split, which ranges over the function that fields returns. -/
import Derived.Test.YtdjifopdlkppoaaDoorOcRefSplit
import Derived.Test.YtdjifopdlkppoaaDoorOcRange
namespace Go.Proofs.YtdjifopdlkppoaaDoor.Oc
open Go.RowKit Go.Shelf
set_option linter.unusedVariables false
attribute [local go_sem] Oper.semAt_some

/-- What fields yields: an element and an error. -/
structure Yd where
  x : El
  e : Int
abbrev Yd.encs (y : Yd) : Array Value := #[.slice y.x.A y.x.l.length y.x.c, .int .i64 y.e]
def els (ys : List Yd) : List El := ys.map (·.x)
theorem els_len (ys : List Yd) : (els ys).length = ys.length := by simp [els]
theorem els_snoc (ys : List Yd) (y : Yd) : els (ys ++ [y]) = els ys ++ [y.x] := by simp [els]

/-- 'pre' has come, all of it right, and p is the place behind it. -/
def Came (l : List UInt8) (p : Nat) (pre : List Yd) : Prop := (∀ y ∈ pre, y.e = 0) ∧ SplitAt l p (els pre)
/-- The last that has come says that no field follows. -/
def Failed (l : List UInt8) (pre : List Yd) : Prop := ∃ init y p, pre = init ++ [y] ∧ Came l p init ∧ p < l.length ∧ y.e = 10 ∧ ∀ x r, x.length ≤ 65535 → l.drop p ≠ fld x ++ r

/-- What the body of Split's loop keeps: all blocks below B0 but the one of the list. -/
def KeepSplit (B0 Bl : Nat) (W W' : World) : Prop := W.heap.size ≤ W'.heap.size ∧ ∀ k, k < B0 → k ≠ Bl → W'.heap[k]? = W.heap[k]?
theorem KeepSplit.cell {B0 Bl : Nat} {W W' : World} (h : KeepSplit B0 Bl W W') {q : Addr} (h1 : q.block < B0) (h2 : q.block ≠ Bl) : W'.cell? q = W.cell? q := World.cell?_of_block (w := W) (h.2 q.block h1 h2)

theorem fields_call (A : Option Addr) (c n : Nat) (w : World) :
    Calls Tryd.prog 61 #[.slice A n c] w fun e w' => e = .returned (.func (.func 72) #[] #[.pointer (some ⟨w.heap.size, 0, none⟩)]) ∧ w' = w.alloc (.cells #[.slice A n c] 37) := by
  go_enter Tryd.func61, Tryd.ntmps61
  go_wp2
  go_ret
  exact ⟨rfl, rfl⟩

set_option maxRecDepth 100000 in
set_option maxHeartbeats 2000000 in
theorem fields_seq (A : Option Addr) (c n₀ Bn Bl B0 : Nat) (l : List UInt8) (w : World) (n : Nat) (hn : 3 ≤ n) (hr : Rd w n₀ A c l) (hl : l.length ≤ 200000) (hBn : w.cell? ⟨Bn, 0, none⟩ = some (.slice A l.length c)) (hn0 : n₀ ≤ Bl) (hne : Bn ≠ Bl) (hB : Bn < B0) (hBl : n₀ ≤ B0) (hw : w.heap.size = B0) :
    SeqNew Fence.wide n Tryd.prog 72 #[.pointer (some ⟨Bn, 0, none⟩)] Yd.encs (KeepSplit B0 Bl) (fun y W => Own W B0 5 y.x.A y.x.c y.x.l ∧ y.x.l.length ≤ 200000)
      (fun ys => (∃ p, Came l p ys ∧ ¬ p < l.length) ∨ Failed l ys) (fun pre => (∃ p, Came l p pre) ∨ Failed l pre) 200000 w := by
  intro L J Jx W hW hJ hJx hY h0
  refine callsIn_of_wp Tryd.func72 rfl trivial ?_ rfl
  simp only [Tryd.ntmps72, List.size_toArray, List.length_cons, List.length_nil, Nat.reduceAdd, Nat.reduceSub, Array.replicate_succ, Array.replicate_zero, List.push_toArray, List.append_toArray, List.nil_append, List.cons_append]
  gi_wp2
  gi_loopw [3] (fun i wr => ∃ (pre : List Yd) (p : Nat), i = .int .i64 p ∧ Came l p pre ∧ J pre wr ∧ Rd wr n₀ A c l ∧ wr.cell? ⟨Bn, 0, none⟩ = some (.slice A l.length c) ∧ B0 ≤ wr.heap.size)
    (fun i _ => l.length - (intOf i).toNat)
  case atStart =>
    exact ⟨[], 0, rfl, ⟨(fun _ h => by cases h), SplitAt.start l⟩, h0, (hr.below (hW.mono (by omega))), (hW.cell (p := ⟨Bn, 0, none⟩) (by rw [hw]; exact hB)).trans hBn, by have := hW.size; omega⟩
  case round =>
    obtain ⟨pre, p, rfl, hcame, hJp, hrp, hcp, hsz⟩ := hrel
    have hple := hcame.2.le
    have hcnt := hcame.2.count
    rw [els_len] at hcnt
    have hJK : ∀ {W2 : World}, Below wr.heap.size wr W2 → J pre W2 := fun hb => hJ _ _ _ hJp (grown_of_below hb (Nat.le_refl _) none)
    by_cases hlt : p < l.length
    · have hT := takeField_any A c l p wr (hrp.more (by omega)) hl (by omega) (by omega)
      rcases takeFieldM_spec l p hple with ⟨x, hx, hxl, hq, hd⟩ | ⟨hq, hno⟩
      · rw [hq] at hT
        have HT := Lib.hid hT
        have HD := Lib.hid hd
        clear hT hd hq
        gi_wp2_with fail
        refine ⟨trivial, fun _ => by omega, (callsIn_wide.2 HT.out).mono ?_⟩
        rintro e w2 ⟨A2, c2, r2, rfl, hr2, hown2, hb2⟩
        obtain rfl : r2 = x := hr2
        have hs2 := hb2.size
        have hst := hcame.2.step (x := ⟨A2, c2, r2⟩) hx HD.out
        have hcame' : Came l (p + 2 + r2.length) (pre ++ [⟨⟨A2, c2, r2⟩, 0⟩]) := ⟨fun y hy => by
          rcases List.mem_append.1 hy with h | h
          · exact hcame.1 y h
          · simp at h; subst h; rfl, by rw [els_snoc]; exact hst⟩
        obtain ⟨fn, tmps, assign, body, hy, hR⟩ := hY pre ⟨⟨A2, c2, r2⟩, 0⟩ w2 (hJK hb2) ⟨hown2.lower hsz, by show r2.length ≤ _; omega⟩ (by omega)
        dsimp only [Yd.encs] at hy
        have hcp2 := (hb2.cell (p := ⟨Bn, 0, none⟩) (by show Bn < _; omega)).trans hcp
        have hrp2 := hrp.keep (w' := w2) (fun q hq => hb2.cell (by omega))
        gi_wp2_with fail
        refine ⟨fun _ => by omega, hR.mono ?_⟩
        rintro e W3 (⟨rfl, hJ3, hk3⟩ | ⟨rfl, hx3⟩)
        · have hcp3 := (hk3.cell (q := ⟨Bn, 0, none⟩) hB hne).trans hcp2
          have hrp3 := hrp2.keep (w' := W3) (fun q hq => hk3.cell (by omega) (by omega))
          have hs3 := hk3.1
          clear hR hy
          gi_wp2_with fail
          go_roundw
          case rel => exact ⟨_, p + 2 + r2.length, by go_num, hcame', hJ3, hrp3, hcp3, by omega⟩
          case measure => simp [intOf]; omega
        · clear hR hy
          gi_wp2_with fail
          refine bodyPost_ret (results_none rfl _ _ _) rfl ?_
          exact ⟨⟨_, rfl⟩, .inr ⟨_, .inl ⟨_, hcame'⟩, hx3⟩⟩
      · rw [hq] at hT
        have HT := Lib.hid hT
        have HNO := Lib.hid hno
        clear hT hno hq
        gi_wp2_with fail
        refine ⟨trivial, fun _ => by omega, (callsIn_wide.2 HT.out).mono ?_⟩
        rintro e w2 ⟨A2, c2, r2, rfl, hr2, hown2, hb2⟩
        have hs2 := hb2.size
        have hl2 : r2.length ≤ 200000 := by rw [hr2]; simp
        have hfail : Failed l (pre ++ [⟨⟨A2, c2, r2⟩, 10⟩]) := ⟨pre, _, p, rfl, hcame, hlt, rfl, HNO.out⟩
        obtain ⟨fn, tmps, assign, body, hy, hR⟩ := hY pre ⟨⟨A2, c2, r2⟩, 10⟩ w2 (hJK hb2) ⟨hown2.lower hsz, hl2⟩ (by omega)
        dsimp only [Yd.encs] at hy
        clear hr2
        gi_wp2_with fail
        refine ⟨fun _ => by omega, hR.mono ?_⟩
        rintro e W3 (⟨rfl, hJ3, hk3⟩ | ⟨rfl, hx3⟩)
        · clear hR hy
          gi_wp2_with fail
          refine bodyPost_ret (results_none rfl _ _ _) rfl ?_
          exact ⟨⟨_, rfl⟩, .inl ⟨_, .inr hfail, hJ3⟩⟩
        · clear hR hy
          gi_wp2_with fail
          refine bodyPost_ret (results_none rfl _ _ _) rfl ?_
          exact ⟨⟨_, rfl⟩, .inr ⟨_, .inr hfail, hx3⟩⟩
    · gi_wp2_with fail
      go_end0
      exact ⟨⟨_, rfl⟩, .inl ⟨pre, .inl ⟨p, hcame, hlt⟩, hJp⟩⟩
end Go.Proofs.YtdjifopdlkppoaaDoor.Oc
