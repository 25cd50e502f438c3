/- digest's blocks: the function that yields whole blocks; start. -/
import Derived.Test.YtipclieldokfnaaDoorComp
import Derived.Test.YtipclieldokfnaaDoorPad
import Derived.Test.YtipclieldokfnaaDoorArrIn
namespace Go.Proofs.YtipclieldokfnaaDoor
open Go.RowKit Go.Shelf
set_option linter.unusedVariables false
attribute [local go_sem] Oper.semAt_some

/-- What the body of the loop keeps: all blocks below B0 but the one of the state. -/
def KeepSt (B0 Bl : Nat) (W W' : World) : Prop := W.heap.size ≤ W'.heap.size ∧ ∀ k, k < B0 → k ≠ Bl → W'.heap[k]? = W.heap[k]?
/-- Block j of m blocks, as a slice. -/
abbrev bEnc (g m : Nat) (j : Nat) : Array Value := #[.slice (some ⟨g, 64 * j, none⟩) 64 (64 * (m - j))]

theorem blocks_call (A : Option Addr) (c n : Nat) (w : World) :
    Calls Tryd.prog 60 #[.slice A n c] w fun e w' => e = .returned (.func (.func 72) #[] #[.pointer (some ⟨w.heap.size, 0, none⟩)]) ∧ w' = w.alloc (.cells #[.slice A n c] 36) := by
  go_enter Tryd.func60, Tryd.ntmps60
  go_wp2
  go_ret
  exact ⟨rfl, rfl⟩

set_option maxRecDepth 100000 in
set_option maxHeartbeats 2000000 in
theorem blocks_seq (g m Bn Bl B0 : Nat) (w : World) (n : Nat) (hn : 3 ≤ n) (hm : m ≤ 10000) (hBn : w.cell? ⟨Bn, 0, none⟩ = some (.slice (some ⟨g, 0, none⟩) (64 * m) (64 * m))) (hB : Bn < B0) (hw : w.heap.size = B0) :
    SeqNew Fence.wide n Tryd.prog 72 #[.pointer (some ⟨Bn, 0, none⟩)] (bEnc g m) (KeepSt B0 Bl) (fun j _ => j < m)
      (fun xs => xs = List.range m) (fun _ => True) 200000 w := by
  intro L J Jx W hW hJ hJx hY h0
  have hcn := (hW.cell (p := ⟨Bn, 0, none⟩) (by rw [hw]; exact hB)).trans hBn
  refine callsIn_of_wp Tryd.func72 rfl trivial ?_ rfl
  simp only [Tryd.ntmps72, List.size_toArray, List.length_cons, List.length_nil, Nat.reduceAdd, Nat.reduceSub, Array.replicate_succ, Array.replicate_zero, List.push_toArray, List.append_toArray, List.nil_append, List.cons_append]
  gi_wp2
  gi_loopw [3] (fun v wr => ∃ (j k : Nat) (A' : Option Addr), j + k = m ∧ v = .slice A' (64 * k) (64 * k) ∧ (0 < k → A' = some ⟨g, 64 * j, none⟩) ∧ Hid (J (List.range j) wr))
    (fun v _ => match v with | .slice _ n _ => n | _ => 0)
  case atStart =>
    exact ⟨0, m, some ⟨g, 0, none⟩, by omega, rfl, fun _ => rfl, h0⟩
  case round =>
    obtain ⟨j, k, A', hjk, rfl, hA, hJp⟩ := hrel
    rcases k with _ | k
    · obtain rfl : j = m := by omega
      clear hY
      simp only [Nat.mul_zero]
      gi_wp2_with fail
      exact ⟨rfl, _, results_none rfl _ _ _, ⟨_, rfl⟩, .inl ⟨_, rfl, hJp.out⟩⟩
    · obtain rfl := hA (by omega)
      obtain ⟨fn, tmps, assign, body, hy, hR⟩ := hY (List.range j) j wr hJp.out (by omega) (by rw [List.length_range]; omega)
      dsimp only [bEnc] at hy
      rw [show m - j = k + 1 by omega] at hy
      rw [← List.range_succ] at hR
      clear hY
      gi_wp2_with fail
      refine ⟨fun _ => by omega, hR.mono ?_⟩
      rintro e W3 (⟨rfl, hJ3, hk3⟩ | ⟨rfl, hx3⟩)
      · clear hR hy
        have HJ3 := Lib.hid hJ3
        clear hJ3 hk3
        by_cases hk : k = 0
        · subst hk
          gi_wp2_with fail
          go_roundw
          case rel => exact ⟨j + 1, 0, _, by omega, by rfl, (fun h => by omega), HJ3.out⟩
          case measure => simp
        · have hk1 : 0 < k := by omega
          gi_wp2_with fail
          go_roundw
          case rel => exact ⟨j + 1, k, _, by omega, by rw [show 64 * (k + 1) - 64 = 64 * k by omega], (fun h => by rw [show 64 * (j + 1) = 64 * j + 64 by omega]), HJ3.out⟩
          case measure => simp; omega
      · clear hR hy
        gi_wp2_with fail
        refine bodyPost_ret (results_none rfl _ _ _) rfl ?_
        exact ⟨⟨_, rfl⟩, .inr ⟨_, trivial, hx3⟩⟩

set_option maxHeartbeats 400000 in
theorem start_any (w : World) : Calls Tryd.prog 59 #[] w fun e w' => e = .returned (aw start) ∧ Below w.heap.size w w' := by
  go_enter Tryd.func59, Tryd.ntmps59
  go_wp2_with fail
  refine bodyPost_cell (f := uv) (g := w.heap.size) (t := 88) (L := start) rfl rfl ?_ Tryd.underlying88 size8 rfl ⟨rfl, ?_⟩
  · exact Hb.new uv w _ start _ (by kernel_rfl)
  · exact (Below.refl _ w).alloc (Nat.le_refl _) _

end Go.Proofs.YtipclieldokfnaaDoor
