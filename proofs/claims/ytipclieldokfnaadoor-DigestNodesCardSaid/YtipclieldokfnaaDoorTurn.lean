/- digest's turn. -/
import Derived.Test.YtipclieldokfnaaDoorWord
namespace Go.Proofs.YtipclieldokfnaaDoor
open Go.RowKit
set_option linter.unusedVariables false
attribute [local go_sem] w_add w_xor w_and w_or w_not

set_option maxHeartbeats 1000000 in
theorem turn_any (L : List UInt32) (n : UInt32) (w : World) (hl : L.length = 8) :
    Calls Tryd.prog 74 #[aw L, uv n] w fun e w' => e = .returned (aw (turn L n)) ∧ Below w.heap.size w w' := by
  obtain ⟨a, b, c, d, e, f, g, h, rfl⟩ := len8 hl
  unfold aw
  simp only [List.map_cons, List.map_nil, uv]
  have hsg : IntKind.u32.signed = false := rfl
  go_enter Tryd.func74, Tryd.ntmps74
  go_wp2_with fail
  go_quiet (fail)
  go_wp2_with ((go_at_call 77; refine (rotr_c _ _ _ (by decide)).mono ?_; rintro e w' ⟨rfl, rfl⟩))
  refine bodyPost_cell (f := uv) (g := w.heap.size + 1) (t := 88) (L := turn [a, b, c, d, e, f, g, h] n) rfl rfl ?_ Tryd.underlying88 size8 rfl ⟨rfl, ?_⟩
  · exact (((((((((Hb.new1 uv w _ _ [0, 0, 0, 0, 0, 0, 0, 0] _ rfl).drewN nq).set_ 0 _ _ rfl).set_ 1 _ _ rfl).set_ 2 _ _ rfl).set_ 3 _ _ rfl).set_ 4 _ _ rfl).set_ 5 _ _ rfl).set_ 6 _ _ rfl).set_ 7 _ _ rfl
  · repeat refine Below.setCell ?_ (Nat.le_succ _) _
    exact (((Below.refl _ w).alloc (Nat.le_refl _) _).alloc (by simp) _).trans (below_drewN _ _ _)
end Go.Proofs.YtipclieldokfnaaDoor
