/- The reference's SameFields, Split and Join. -/
import Derived.Test.YtdjifopdlkppoaaDoorOcList
namespace Go.Proofs.YtdjifopdlkppoaaDoor.Oc
open Go.RowKit
set_option linter.unusedVariables false

theorem str_bytes' {B c : Nat} {A : Option Addr} {l : List UInt8} {w : World} (h : Rd w B A c l) : (convert 37 9 (.slice A l.length c)).run Tryd.prog w = .ok (.string ⟨l.toArray⟩) w :=
  run_string_bytes (P := Tryd.prog) w 37 9 5 Tryd.underlying37 Tryd.underlying5 Tryd.underlying9 h

end Go.Proofs.YtdjifopdlkppoaaDoor.Oc
