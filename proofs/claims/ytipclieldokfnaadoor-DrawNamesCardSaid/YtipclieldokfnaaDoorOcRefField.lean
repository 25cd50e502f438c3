/- The reference's PutField and TakeField answer what octet's do. -/
import Derived.Test.YtipclieldokfnaaDoorOcField
namespace Go.Proofs.YtipclieldokfnaaDoor.Oc
open Go.RowKit
set_option linter.unusedVariables false

set_option maxHeartbeats 400000 in
theorem refField_any (A : Option Addr) (c : Nat) (f : List UInt8) (w : World) (hr : Rd w w.heap.size A c f) (hf : f.length ≤ 100000) :
    Calls Tryd.prog 51 #[.slice A f.length c] w fun e w' => ∃ A' c' r, e = .returned (.slice A' r.length c') ∧ r = fld f ∧ Own w' w.heap.size 5 A' c' r ∧ Below w.heap.size w w' := by
  obtain ⟨i0, hi, hz0, hz1, hz2⟩ := info_parts info5
  go_enter Tryd.func51, Tryd.ntmps51
  go_wp2_with fail
  refine (digits_any f.length 2 _ (by omega) (by omega)).mono ?_
  rintro e w1 ⟨A1, c1, r1, rfl, hr1, hown1, hb1⟩
  have hl1 : r1.length ≤ 2 := by rw [hr1, be_len]; omega
  have HR1 := Lib.hid hr1
  have hs1 := hb1.size
  have hrd := hr.below hb1
  clear hr1
  go_wp2_with (at_builtin; refine wpList_append_bytes _ rfl _ _ 36 rfl w.heap.size 5 i0 _ Tryd.underlying36 hi hz0 hz1 hz2 rfl r1 f rfl rfl hown1 hrd (by omega) (by omega) ?_; intro A3 c3 w3 r3 hr3 hown3 hg3 hb3)
  go_ret
  exact ⟨A3, c3, r3, rfl, by rw [hr3.out, HR1.out, fld], hown3, hb1.trans (below_of_grown hg3 hs1 (fun k hk => (hown1.blk_ge k hk).1))⟩

end Go.Proofs.YtipclieldokfnaaDoor.Oc
