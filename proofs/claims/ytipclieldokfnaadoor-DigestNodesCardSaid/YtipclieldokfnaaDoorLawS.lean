/- The reference's Sum; DigestSum. -/
import Derived.Test.YtipclieldokfnaaDoorRefO
import Derived.Test.YtipclieldokfnaaDoorEq
namespace Go.Proofs.YtipclieldokfnaaDoor
open Go.RowKit
set_option linter.unusedVariables false

theorem greatX_any (A : Option Addr) (c : Nat) (l : List UInt8) (w : World) :
    Calls Tryd.prog 27 #[.slice A l.length c] w fun e w' => e = .returned (.bool (decide ((8292 : Int) < (l.length : Int)))) ∧ w = w' := by
  go_enter Tryd.func27, Tryd.ntmps27
  go_wp2_with fail
  go_ret
  exact ⟨rfl, rfl⟩
end Go.Proofs.YtipclieldokfnaaDoor
