/-
  DERIVED. GIVEN WITH THE SEED: THE CARDS: each row of YtdjifopdlkppoaaDoorRows.lean that lists a variable, with what it lists TIED to the program's text (the seventh form; the later family's looks); each row that meets fmt, with fmt's text TOLD by the authors' own Lean function (tested against real Go, not proved from fmt's source: count such statements apart). THE CARD IS WHAT COUNTS. Prove the row's statement (the work); the ties are given (YtdjifopdlkppoaaDoorTie.lean); close each card by the builder's one call (the guide's Derived/Test/ToyasCard.lean, 'card_holds'). Laid BY PROGRAM, IN A SANDBOX (cutbox-door.mjs). By AI agents, Wed Nov 11 2026. No macro, syntax, notation, axiom, sorry.
-/
import Derived.Test.YtdjifopdlkppoaaDoorRows
import GoSem.ClaimSeven
namespace Go.Proofs.YtdjifopdlkppoaaDoor
namespace Rows

/-- THE TIED CARD OF 'suffragelaw07.ContestNames'. -/
def contestNamesCard : Claim7 := { stood := { row := contestNamesRow, standIns := [], harness := (true, "9d7894ed32947fc80dd76ef8fb7640f9d6399c0c9bf1c6af55930c8119b7e3fa"), looks := false }, kinds := [], alts := [], laidByText := true, laidKinds := [.data], laidTests := true, laidLooks := .later }
def ContestNamesCardSaid : Prop := Claim7.holds Tryd.pinned (.plain (OpenSpec.ofChange contestNamesSpec)) contestNamesCard

/-- THE TIED CARD OF 'suffragelaw07.ContestTells'. -/
def contestTellsCard : Claim7 := { stood := { row := contestTellsRow, standIns := [], harness := (true, "9d7894ed32947fc80dd76ef8fb7640f9d6399c0c9bf1c6af55930c8119b7e3fa"), looks := false }, kinds := [], alts := [], laidByText := true, laidKinds := [.data], laidTests := true, laidLooks := .later }
def ContestTellsCardSaid : Prop := Claim7.holds Tryd.pinned (.plain (OpenSpec.ofChange contestTellsSpec)) contestTellsCard

/-- THE TIED CARD OF 'suffragelaw07.ContestRules'. -/
def contestRulesCard : Claim7 := { stood := { row := contestRulesRow, standIns := [], harness := (true, "9d7894ed32947fc80dd76ef8fb7640f9d6399c0c9bf1c6af55930c8119b7e3fa"), looks := false }, kinds := [], alts := [], laidByText := true, laidKinds := [.data], laidTests := true, laidLooks := .later }
def ContestRulesCardSaid : Prop := Claim7.holds Tryd.pinned (.plain (OpenSpec.ofChange contestRulesSpec)) contestRulesCard

/-- THE TIED CARD OF 'suffragelaw07.ContestBytes'. -/
def contestBytesCard : Claim7 := { stood := { row := contestBytesRow, standIns := [], harness := (true, "9d7894ed32947fc80dd76ef8fb7640f9d6399c0c9bf1c6af55930c8119b7e3fa"), looks := false }, kinds := [], alts := [], laidByText := true, laidKinds := [.data], laidTests := true, laidLooks := .later }
def ContestBytesCardSaid : Prop := Claim7.holds Tryd.pinned (.plain (OpenSpec.ofChange contestBytesSpec)) contestBytesCard

/-- THE TIED CARD OF 'suffragelaw07.ContestBack'. -/
def contestBackCard : Claim7 := { stood := { row := contestBackRow, standIns := [], harness := (true, "9d7894ed32947fc80dd76ef8fb7640f9d6399c0c9bf1c6af55930c8119b7e3fa"), looks := false }, kinds := [], alts := [], laidByText := true, laidKinds := [.data], laidTests := true, laidLooks := .later }
def ContestBackCardSaid : Prop := Claim7.holds Tryd.pinned (.plain (OpenSpec.ofChange contestBackSpec)) contestBackCard

/-- THE TIED CARD OF 'suffragelaw07.ContestWords'. -/
def contestWordsCard : Claim7 := { stood := { row := contestWordsRow, standIns := [], harness := (true, "9d7894ed32947fc80dd76ef8fb7640f9d6399c0c9bf1c6af55930c8119b7e3fa"), looks := false }, kinds := [], alts := [], laidByText := true, laidKinds := [.data], laidTests := true, laidLooks := .later }
def ContestWordsCardSaid : Prop := Claim7.holds Tryd.pinned (.plain (OpenSpec.ofChange contestWordsSpec)) contestWordsCard

/-- THE TIED CARD OF 'suffragelaw07.ContestSeats'. -/
def contestSeatsCard : Claim7 := { stood := { row := contestSeatsRow, standIns := [], harness := (true, "9d7894ed32947fc80dd76ef8fb7640f9d6399c0c9bf1c6af55930c8119b7e3fa"), looks := false }, kinds := [], alts := [], laidByText := true, laidKinds := [.data], laidTests := true, laidLooks := .later }
def ContestSeatsCardSaid : Prop := Claim7.holds Tryd.pinned (.plain (OpenSpec.ofChange contestSeatsSpec)) contestSeatsCard

/-- THE SECOND FORM's CARD OF 'suffragelaw07.ContestNames'. -/
def contestNamesUptoCard : Claim7 := { stood := { row := contestNamesUptoRow, standIns := [], harness := (true, "9d7894ed32947fc80dd76ef8fb7640f9d6399c0c9bf1c6af55930c8119b7e3fa"), looks := false }, kinds := [], alts := [], laidByText := true, laidKinds := [.data], laidTests := true, laidLooks := .later }
def ContestNamesUptoCardSaid : Prop := Claim7.holds Tryd.pinned (.plain (OpenSpec.upto contestNamesSpec)) contestNamesUptoCard

/-- THE SECOND FORM's CARD OF 'suffragelaw07.ContestTells'. -/
def contestTellsUptoCard : Claim7 := { stood := { row := contestTellsUptoRow, standIns := [], harness := (true, "9d7894ed32947fc80dd76ef8fb7640f9d6399c0c9bf1c6af55930c8119b7e3fa"), looks := false }, kinds := [], alts := [], laidByText := true, laidKinds := [.data], laidTests := true, laidLooks := .later }
def ContestTellsUptoCardSaid : Prop := Claim7.holds Tryd.pinned (.plain (OpenSpec.upto contestTellsSpec)) contestTellsUptoCard

/-- THE SECOND FORM's CARD OF 'suffragelaw07.ContestRules'. -/
def contestRulesUptoCard : Claim7 := { stood := { row := contestRulesUptoRow, standIns := [], harness := (true, "9d7894ed32947fc80dd76ef8fb7640f9d6399c0c9bf1c6af55930c8119b7e3fa"), looks := false }, kinds := [], alts := [], laidByText := true, laidKinds := [.data], laidTests := true, laidLooks := .later }
def ContestRulesUptoCardSaid : Prop := Claim7.holds Tryd.pinned (.plain (OpenSpec.upto contestRulesSpec)) contestRulesUptoCard

/-- THE SECOND FORM's CARD OF 'suffragelaw07.ContestBytes'. -/
def contestBytesUptoCard : Claim7 := { stood := { row := contestBytesUptoRow, standIns := [], harness := (true, "9d7894ed32947fc80dd76ef8fb7640f9d6399c0c9bf1c6af55930c8119b7e3fa"), looks := false }, kinds := [], alts := [], laidByText := true, laidKinds := [.data], laidTests := true, laidLooks := .later }
def ContestBytesUptoCardSaid : Prop := Claim7.holds Tryd.pinned (.plain (OpenSpec.upto contestBytesSpec)) contestBytesUptoCard

/-- THE SECOND FORM's CARD OF 'suffragelaw07.ContestBack'. -/
def contestBackUptoCard : Claim7 := { stood := { row := contestBackUptoRow, standIns := [], harness := (true, "9d7894ed32947fc80dd76ef8fb7640f9d6399c0c9bf1c6af55930c8119b7e3fa"), looks := false }, kinds := [], alts := [], laidByText := true, laidKinds := [.data], laidTests := true, laidLooks := .later }
def ContestBackUptoCardSaid : Prop := Claim7.holds Tryd.pinned (.plain (OpenSpec.upto contestBackSpec)) contestBackUptoCard

/-- THE SECOND FORM's CARD OF 'suffragelaw07.ContestWords'. -/
def contestWordsUptoCard : Claim7 := { stood := { row := contestWordsUptoRow, standIns := [], harness := (true, "9d7894ed32947fc80dd76ef8fb7640f9d6399c0c9bf1c6af55930c8119b7e3fa"), looks := false }, kinds := [], alts := [], laidByText := true, laidKinds := [.data], laidTests := true, laidLooks := .later }
def ContestWordsUptoCardSaid : Prop := Claim7.holds Tryd.pinned (.plain (OpenSpec.upto contestWordsSpec)) contestWordsUptoCard

/-- THE SECOND FORM's CARD OF 'suffragelaw07.ContestSeats'. -/
def contestSeatsUptoCard : Claim7 := { stood := { row := contestSeatsUptoRow, standIns := [], harness := (true, "9d7894ed32947fc80dd76ef8fb7640f9d6399c0c9bf1c6af55930c8119b7e3fa"), looks := false }, kinds := [], alts := [], laidByText := true, laidKinds := [.data], laidTests := true, laidLooks := .later }
def ContestSeatsUptoCardSaid : Prop := Claim7.holds Tryd.pinned (.plain (OpenSpec.upto contestSeatsSpec)) contestSeatsUptoCard
end Rows
end Go.Proofs.YtdjifopdlkppoaaDoor
