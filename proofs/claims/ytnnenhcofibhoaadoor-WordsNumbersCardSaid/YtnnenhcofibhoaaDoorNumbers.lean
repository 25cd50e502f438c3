/- The walk of the law WordsNumbers. -/
import Derived.Test.YtnnenhcofibhoaaDoorRefNum2
namespace Go.Proofs.YtnnenhcofibhoaaDoor
open Go.RowKit
set_option linter.unusedVariables false

set_option maxRecDepth 100000 in
set_option maxHeartbeats 1000000 in
theorem numbers_walk (x0 : List UInt8) (a1 : Int) (w : World) (w0 : x0.length ≤ 140737488351232) (w1 : (Lit.int .i64 a1).wf = true) (hT : Tab w) :
    Calls Tryd.prog 4 #[.string ⟨x0.toArray⟩, .int .i64 a1] w fun e w' => e = .returned (.bool true) ∧ Below w.heap.size w w' := by
  have hb := bounds_i64 w1
  have HB := Lib.hid hb
  clear w1 hb
  by_cases h1 : 20000 < x0.length
  · have hi1 : (20000 : Int) < x0.length := by omega
    go_enter Tryd.func4, Tryd.ntmps4
    go_wp2_with fail
    go_ret
    exact ⟨rfl, Below.refl _ _⟩
  have hi1 : ¬ (20000 : Int) < x0.length := by omega
  have hl0 : x0.length ≤ 20000 := by omega
  clear w0 h1
  go_enter Tryd.func4, Tryd.ntmps4
  go_wp2_with fail
  refine (number_any x0 _ (by omega)).mono ?_
  rintro e w' ⟨rfl, rfl⟩
  go_wp2_with fail
  refine (refNumber_any x0 _ (by omega)).mono ?_
  rintro e w' ⟨rfl, rfl⟩
  go_wp2_with fail
  refine (show_any a1 _ (by have := HB.out; omega) (by have := HB.out; omega) hT).mono ?_
  rintro e w1 ⟨rfl, hb1⟩
  go_wp2_with fail
  refine (refShow_any a1 _ (by have := HB.out; omega) (by have := HB.out; omega)).mono ?_
  rintro e w2 ⟨rfl, hb2⟩
  go_wp2_with fail
  go_ret
  exact ⟨rfl, hb1.trans (hb2.mono hb1.size)⟩
end Go.Proofs.YtnnenhcofibhoaaDoor
