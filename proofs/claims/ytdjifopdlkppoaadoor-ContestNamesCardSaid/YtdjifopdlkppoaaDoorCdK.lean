/- What contest's calls answer, proved of the landed code. -/
import Derived.Test.YtdjifopdlkppoaaDoorCdR
import Derived.Test.YtdjifopdlkppoaaDoorCdY
import Derived.Test.YtdjifopdlkppoaaDoorCdT
import Derived.Test.YtdjifopdlkppoaaDoorTwin
namespace Go.Proofs.YtdjifopdlkppoaaDoor
open Go.RowKit
set_option linter.unusedVariables false

theorem same_world {w : World} {e : Ending} {w' : World} {v : Value} (h : e = .returned v ∧ w = w') : e = .returned v ∧ Below w.heap.size w w' := by
  obtain ⟨h1, rfl⟩ := h
  exact ⟨h1, Below.refl _ _⟩
theorem con : Con Tab where
  keep := fun h hb => h.below (Nat.le_refl _) hb
  check := fun x A c w h hT => check_any x A c w h hT
  kind := fun r w hr hT => (kind_any r w hr hT).mono fun _ _ h => same_world h
  most := fun r n w hr hn hT => (most_any r n w hr hn hT).mono fun _ _ h => same_world h
  word := fun r w hr hT => (word_any r w hr hT).mono fun _ _ h => same_world h
  rule := fun y w hy hT => (rule_any y w hy hT).mono fun _ _ h => same_world h
  place := fun x y A c w hc _ hT => place_any x y A c w hc hT
  bytes := fun x A c w hc hT => bytes_any x A c w hc hT
  read := fun l A c w hr hl hT => read_any l A c w hr hl hT
  same := fun x y A A2 c c2 w hx hy _ => same_any x y A A2 c c2 w hx hy
  twin := fun x A c w hx hl _ => twin_any x A c w hx hl
end Go.Proofs.YtdjifopdlkppoaaDoor
