/- words' pieces (an iterator) and Words, which ranges over it. -/
import Derived.Test.YtnnenhcofibhoaaDoorWord
import Derived.Test.YtnnenhcofibhoaaDoorRange
namespace Go.Proofs.YtnnenhcofibhoaaDoor
open Go.RowKit Go.Shelf
set_option linter.unusedVariables false
attribute [local go_sem] Oper.semAt_some

/-- What the body of the loop keeps: all blocks below B0 but the one of the list. -/
def KeepSplit (B0 Bl : Nat) (W W' : World) : Prop := W.heap.size ≤ W'.heap.size ∧ ∀ k, k < B0 → k ≠ Bl → W'.heap[k]? = W.heap[k]?
theorem KeepSplit.cell {B0 Bl : Nat} {W W' : World} (h : KeepSplit B0 Bl W W') {q : Addr} (h1 : q.block < B0) (h2 : q.block ≠ Bl) : W'.cell? q = W.cell? q := World.cell?_of_block (w := W) (h.2 q.block h1 h2)

/-- All pieces of a line. -/
def piecesM (s : List UInt8) : List (List UInt8) := if s = [] then [] else splitC 32 s
def AllOf (s : List UInt8) (ys : List (List UInt8)) : Prop := ys = piecesM s
def Front (s : List UInt8) (pre : List (List UInt8)) : Prop := s ≠ [] ∧ ∃ rest, splitC 32 s = pre ++ rest
abbrev encS (x : List UInt8) : Array Value := #[.string ⟨x.toArray⟩]

theorem pieces_call (s : List UInt8) (w : World) :
    Calls Tryd.prog 25 #[.string ⟨s.toArray⟩] w fun e w' => e = .returned (.func (.func 38) #[] #[.pointer (some ⟨w.heap.size, 0, none⟩)]) ∧ w' = w.alloc (.cells #[.string ⟨s.toArray⟩] 9) := by
  go_enter Tryd.func25, Tryd.ntmps25
  go_wp2
  go_ret
  exact ⟨rfl, rfl⟩

def moreM : Value → Value → Nat
  | r, .bool true => strLen r + 1
  | _, _ => 0

set_option maxRecDepth 100000 in
set_option maxHeartbeats 2000000 in
theorem pieces_seq (Bn Bl B0 : Nat) (s : List UInt8) (w : World) (n : Nat) (hn : 3 ≤ n) (hl : s.length ≤ 200000) (hBn : w.cell? ⟨Bn, 0, none⟩ = some (.string ⟨s.toArray⟩)) (hne : Bn ≠ Bl) (hB : Bn < B0) (hw : w.heap.size = B0) :
    SeqNew Fence.wide n Tryd.prog 38 #[.pointer (some ⟨Bn, 0, none⟩)] encS (KeepSplit B0 Bl) (fun x _ => x.length ≤ 200000)
      (AllOf s) (Front s) 300000 w := by
  intro L J Jx W hW hJ hJx hY h0
  have hcB : W.cell? ⟨Bn, 0, none⟩ = some (.string ⟨s.toArray⟩) := (hW.cell (p := ⟨Bn, 0, none⟩) (by rw [hw]; exact hB)).trans hBn
  have hWs : B0 ≤ W.heap.size := by have := hW.size; omega
  have hst : ∃ more : Bool, more = !s.isEmpty ∧ (more = true → s ≠ []) ∧ (more = false → s = []) := by
    cases s with
    | nil => exact ⟨false, rfl, by simp, by simp⟩
    | cons a t => exact ⟨true, rfl, by simp, by simp⟩
  obtain ⟨more0, hm0, hm1, hm2⟩ := hst
  have HM0 := Lib.hid hm0.symm
  have HM1 := Lib.hid hm1
  have HM2 := Lib.hid hm2
  clear hm0 hm1 hm2
  refine callsIn_of_wp Tryd.func38 rfl trivial ?_ rfl
  simp only [Tryd.ntmps38, List.size_toArray, List.length_cons, List.length_nil, Nat.reduceAdd, Nat.reduceSub, Array.replicate_succ, Array.replicate_zero, List.push_toArray, List.append_toArray, List.nil_append, List.cons_append]
  gi_wp2_with fail
  refine wpIn_wide.2 ?_
  go_quiet (fail)
  gi_wp2_with fail
  gi_loopw [3, 4] (fun r m wr => ∃ (pre : List (List UInt8)) (rest : List UInt8) (more : Bool), r = .string ⟨rest.toArray⟩ ∧ m = .bool more ∧ Hid (more = true → s ≠ [] ∧ splitC 32 s = pre ++ splitC 32 rest) ∧ Hid (more = false → pre = piecesM s) ∧ Hid (more = true → pre.length + rest.length ≤ s.length) ∧ J pre wr ∧ wr.cell? ⟨Bn, 0, none⟩ = some (.string ⟨s.toArray⟩) ∧ B0 ≤ wr.heap.size)
    (fun r m _ => moreM r m)
  case atStart =>
    exact ⟨[], s, more0, rfl, congrArg _ HM0.out, fun h => ⟨HM1.out h, rfl⟩, fun h => by rw [HM2.out h]; rfl, (fun _ => by simp), hJ _ _ _ h0 (grown_of_below (below_drewN _ W nq) (Nat.le_refl _) none), hcB, hWs⟩
  case round =>
    obtain ⟨pre, rest, more, rfl, rfl, hsp, hdn, hlen, hJp, hcp, hsz⟩ := hrel
    clear hcB
    cases more with
    | false =>
      gi_wp2_with fail
      go_end0
      exact ⟨⟨_, rfl⟩, .inl ⟨pre, hdn.out trivial, hJp⟩⟩
    | true =>
      have hs0 := Lib.hid (hsp.out rfl)
      have hlen2 := hlen.out rfl
      have hrl : rest.length ≤ 200000 := by omega
      by_cases hc : (32 : UInt8) ∈ rest
      · obtain ⟨x, r, hx, hno, _⟩ := indexByte_some hc
        have hxr : rest.length = x.length + (r.length + 1) := by rw [hx]; simp
        have HX := Lib.hid hx
        have HXR := Lib.hid hxr
        have hpl : pre.length < 300000 := by omega
        clear hx hxr
        gi_wp2_with fail
        refine ⟨trivial, fun _ => by omega, (callsIn_wide.2 (cut_yes rest x r 32 _ (by omega) HX.out hno)).mono ?_⟩
        rintro e w1 ⟨rfl, n1, rfl⟩
        have hxl : x.length ≤ 200000 := by have := HXR.out; omega
        obtain ⟨fn, tmps, assign, body, hy, hR⟩ := hY pre x (wr.drewN n1) (hJ _ _ _ hJp (grown_of_below (below_drewN _ wr n1) (Nat.le_refl _) none)) hxl hpl
        gi_wp2_with fail
        refine ⟨fun _ => by omega, hR.mono ?_⟩
        rintro e W3 (⟨rfl, hJ3, hk3⟩ | ⟨rfl, hx3⟩)
        · have hcp3 := (hk3.cell (q := ⟨Bn, 0, none⟩) hB hne).trans hcp
          have hs3 : wr.heap.size ≤ W3.heap.size := hk3.1
          clear hR hy
          gi_wp2_with fail
          go_roundw
          case rel =>
            refine ⟨pre ++ [x], r, true, rfl, rfl, fun _ => ⟨hs0.out.1, ?_⟩, (fun h => by cases h), fun _ => ?_, hJ3, hcp3, by omega⟩
            · rw [hs0.out.2, HX.out, splitC_cut _ hno, List.append_assoc]; rfl
            · have := HXR.out; simp; omega
          case measure => have := HXR.out; simp [moreM, strLen, ByteArray.size]; omega
        · clear hR hy
          gi_wp2_with fail
          refine bodyPost_ret (results_none rfl _ _ _) rfl ?_
          exact ⟨⟨_, rfl⟩, .inr ⟨_, ⟨hs0.out.1, splitC 32 r, by rw [hs0.out.2, HX.out, splitC_cut _ hno, List.append_assoc]; rfl⟩, hx3⟩⟩
      · have hpl : pre.length < 300000 := by omega
        have HS := Lib.hid (splitC_one hc)
        gi_wp2_with fail
        refine ⟨trivial, fun _ => by omega, (callsIn_wide.2 (cut_no rest 32 _ hc)).mono ?_⟩
        rintro e w1 ⟨rfl, n1, rfl⟩
        obtain ⟨fn, tmps, assign, body, hy, hR⟩ := hY pre rest (wr.drewN n1) (hJ _ _ _ hJp (grown_of_below (below_drewN _ wr n1) (Nat.le_refl _) none)) hrl hpl
        gi_wp2_with fail
        refine ⟨fun _ => by omega, hR.mono ?_⟩
        rintro e W3 (⟨rfl, hJ3, hk3⟩ | ⟨rfl, hx3⟩)
        · have hcp3 := (hk3.cell (q := ⟨Bn, 0, none⟩) hB hne).trans hcp
          have hs3 : wr.heap.size ≤ W3.heap.size := hk3.1
          clear hR hy
          gi_wp2_with fail
          go_roundw
          case rel =>
            refine ⟨pre ++ [rest], [], false, rfl, rfl, (fun h => by cases h), fun _ => ?_, (fun h => by cases h), hJ3, hcp3, by omega⟩
            unfold piecesM
            rw [if_neg hs0.out.1, hs0.out.2, HS.out]
          case measure => simp [moreM, strLen]
        · clear hR hy
          gi_wp2_with fail
          refine bodyPost_ret (results_none rfl _ _ _) rfl ?_
          exact ⟨⟨_, rfl⟩, .inr ⟨_, ⟨hs0.out.1, [], by rw [hs0.out.2, HS.out]; simp⟩, hx3⟩⟩
end Go.Proofs.YtnnenhcofibhoaaDoor
