/-
  DERIVED. GIVEN WITH THE SEED: THE CARDS: each row of YtikhffdbjelanaaDoorRows.lean that lists a variable, with what it lists TIED to the program's text (the seventh form; the later family's looks); each row that meets fmt, with fmt's text TOLD by the authors' own Lean function (tested against real Go, not proved from fmt's source: count such statements apart). THE CARD IS WHAT COUNTS. Prove the row's statement (the work); the ties are given (YtikhffdbjelanaaDoorTie.lean); close each card by the builder's one call (the guide's Derived/Test/ToyasCard.lean, 'card_holds'). Laid BY PROGRAM, IN A SANDBOX (cutbox-door.mjs). By AI agents, Wed Nov 11 2026. No macro, syntax, notation, axiom, sorry.
-/
import Derived.Test.YtikhffdbjelanaaDoorRows
import GoSem.ClaimSeven
namespace Go.Proofs.YtikhffdbjelanaaDoor
namespace Rows

/-- THE TIED CARD OF 'suffragelaw24.RollNames'. -/
def rollNamesCard : Claim7 := { stood := { row := rollNamesRow, standIns := [], harness := (true, "24472167d6541970e77f5d7a3f15c01e2c60e718fd70807317412009e6b97dee"), looks := false }, kinds := [], alts := [], laidByText := true, laidKinds := [.data], laidTests := true, laidLooks := .later }
def RollNamesCardSaid : Prop := Claim7.holds Tryd.pinned (.plain (OpenSpec.ofChange rollNamesSpec)) rollNamesCard

/-- THE TIED CARD OF 'suffragelaw24.RollTells'. -/
def rollTellsCard : Claim7 := { stood := { row := rollTellsRow, standIns := [], harness := (true, "24472167d6541970e77f5d7a3f15c01e2c60e718fd70807317412009e6b97dee"), looks := false }, kinds := [], alts := [], laidByText := true, laidKinds := [.data], laidTests := true, laidLooks := .later }
def RollTellsCardSaid : Prop := Claim7.holds Tryd.pinned (.plain (OpenSpec.ofChange rollTellsSpec)) rollTellsCard

/-- THE TIED CARD OF 'suffragelaw24.RollDoes'. -/
def rollDoesCard : Claim7 := { stood := { row := rollDoesRow, standIns := [], harness := (true, "24472167d6541970e77f5d7a3f15c01e2c60e718fd70807317412009e6b97dee"), looks := false }, kinds := [], alts := [], laidByText := true, laidKinds := [.data], laidTests := true, laidLooks := .later }
def RollDoesCardSaid : Prop := Claim7.holds Tryd.pinned (.plain (OpenSpec.ofChange rollDoesSpec)) rollDoesCard

/-- THE TIED CARD OF 'suffragelaw24.RollBytes'. -/
def rollBytesCard : Claim7 := { stood := { row := rollBytesRow, standIns := [], harness := (true, "24472167d6541970e77f5d7a3f15c01e2c60e718fd70807317412009e6b97dee"), looks := false }, kinds := [], alts := [], laidByText := true, laidKinds := [.data], laidTests := true, laidLooks := .later }
def RollBytesCardSaid : Prop := Claim7.holds Tryd.pinned (.plain (OpenSpec.ofChange rollBytesSpec)) rollBytesCard

/-- THE TIED CARD OF 'suffragelaw24.RollOnce'. -/
def rollOnceCard : Claim7 := { stood := { row := rollOnceRow, standIns := [], harness := (true, "24472167d6541970e77f5d7a3f15c01e2c60e718fd70807317412009e6b97dee"), looks := false }, kinds := [], alts := [], laidByText := true, laidKinds := [.data], laidTests := true, laidLooks := .later }
def RollOnceCardSaid : Prop := Claim7.holds Tryd.pinned (.plain (OpenSpec.ofChange rollOnceSpec)) rollOnceCard

/-- THE TIED CARD OF 'suffragelaw24.RollOthers'. -/
def rollOthersCard : Claim7 := { stood := { row := rollOthersRow, standIns := [], harness := (true, "24472167d6541970e77f5d7a3f15c01e2c60e718fd70807317412009e6b97dee"), looks := false }, kinds := [], alts := [], laidByText := true, laidKinds := [.data], laidTests := true, laidLooks := .later }
def RollOthersCardSaid : Prop := Claim7.holds Tryd.pinned (.plain (OpenSpec.ofChange rollOthersSpec)) rollOthersCard

/-- THE TIED CARD OF 'suffragelaw24.RollCounts'. -/
def rollCountsCard : Claim7 := { stood := { row := rollCountsRow, standIns := [], harness := (true, "24472167d6541970e77f5d7a3f15c01e2c60e718fd70807317412009e6b97dee"), looks := false }, kinds := [], alts := [], laidByText := true, laidKinds := [.data], laidTests := true, laidLooks := .later }
def RollCountsCardSaid : Prop := Claim7.holds Tryd.pinned (.plain (OpenSpec.ofChange rollCountsSpec)) rollCountsCard

/-- THE TIED CARD OF 'suffragelaw24.RollBack'. -/
def rollBackCard : Claim7 := { stood := { row := rollBackRow, standIns := [], harness := (true, "24472167d6541970e77f5d7a3f15c01e2c60e718fd70807317412009e6b97dee"), looks := false }, kinds := [], alts := [], laidByText := true, laidKinds := [.data], laidTests := true, laidLooks := .later }
def RollBackCardSaid : Prop := Claim7.holds Tryd.pinned (.plain (OpenSpec.ofChange rollBackSpec)) rollBackCard

/-- THE SECOND FORM's CARD OF 'suffragelaw24.RollNames'. -/
def rollNamesUptoCard : Claim7 := { stood := { row := rollNamesUptoRow, standIns := [], harness := (true, "24472167d6541970e77f5d7a3f15c01e2c60e718fd70807317412009e6b97dee"), looks := false }, kinds := [], alts := [], laidByText := true, laidKinds := [.data], laidTests := true, laidLooks := .later }
def RollNamesUptoCardSaid : Prop := Claim7.holds Tryd.pinned (.plain (OpenSpec.upto rollNamesSpec)) rollNamesUptoCard

/-- THE SECOND FORM's CARD OF 'suffragelaw24.RollTells'. -/
def rollTellsUptoCard : Claim7 := { stood := { row := rollTellsUptoRow, standIns := [], harness := (true, "24472167d6541970e77f5d7a3f15c01e2c60e718fd70807317412009e6b97dee"), looks := false }, kinds := [], alts := [], laidByText := true, laidKinds := [.data], laidTests := true, laidLooks := .later }
def RollTellsUptoCardSaid : Prop := Claim7.holds Tryd.pinned (.plain (OpenSpec.upto rollTellsSpec)) rollTellsUptoCard

/-- THE SECOND FORM's CARD OF 'suffragelaw24.RollDoes'. -/
def rollDoesUptoCard : Claim7 := { stood := { row := rollDoesUptoRow, standIns := [], harness := (true, "24472167d6541970e77f5d7a3f15c01e2c60e718fd70807317412009e6b97dee"), looks := false }, kinds := [], alts := [], laidByText := true, laidKinds := [.data], laidTests := true, laidLooks := .later }
def RollDoesUptoCardSaid : Prop := Claim7.holds Tryd.pinned (.plain (OpenSpec.upto rollDoesSpec)) rollDoesUptoCard

/-- THE SECOND FORM's CARD OF 'suffragelaw24.RollBytes'. -/
def rollBytesUptoCard : Claim7 := { stood := { row := rollBytesUptoRow, standIns := [], harness := (true, "24472167d6541970e77f5d7a3f15c01e2c60e718fd70807317412009e6b97dee"), looks := false }, kinds := [], alts := [], laidByText := true, laidKinds := [.data], laidTests := true, laidLooks := .later }
def RollBytesUptoCardSaid : Prop := Claim7.holds Tryd.pinned (.plain (OpenSpec.upto rollBytesSpec)) rollBytesUptoCard

/-- THE SECOND FORM's CARD OF 'suffragelaw24.RollOnce'. -/
def rollOnceUptoCard : Claim7 := { stood := { row := rollOnceUptoRow, standIns := [], harness := (true, "24472167d6541970e77f5d7a3f15c01e2c60e718fd70807317412009e6b97dee"), looks := false }, kinds := [], alts := [], laidByText := true, laidKinds := [.data], laidTests := true, laidLooks := .later }
def RollOnceUptoCardSaid : Prop := Claim7.holds Tryd.pinned (.plain (OpenSpec.upto rollOnceSpec)) rollOnceUptoCard

/-- THE SECOND FORM's CARD OF 'suffragelaw24.RollOthers'. -/
def rollOthersUptoCard : Claim7 := { stood := { row := rollOthersUptoRow, standIns := [], harness := (true, "24472167d6541970e77f5d7a3f15c01e2c60e718fd70807317412009e6b97dee"), looks := false }, kinds := [], alts := [], laidByText := true, laidKinds := [.data], laidTests := true, laidLooks := .later }
def RollOthersUptoCardSaid : Prop := Claim7.holds Tryd.pinned (.plain (OpenSpec.upto rollOthersSpec)) rollOthersUptoCard

/-- THE SECOND FORM's CARD OF 'suffragelaw24.RollCounts'. -/
def rollCountsUptoCard : Claim7 := { stood := { row := rollCountsUptoRow, standIns := [], harness := (true, "24472167d6541970e77f5d7a3f15c01e2c60e718fd70807317412009e6b97dee"), looks := false }, kinds := [], alts := [], laidByText := true, laidKinds := [.data], laidTests := true, laidLooks := .later }
def RollCountsUptoCardSaid : Prop := Claim7.holds Tryd.pinned (.plain (OpenSpec.upto rollCountsSpec)) rollCountsUptoCard

/-- THE SECOND FORM's CARD OF 'suffragelaw24.RollBack'. -/
def rollBackUptoCard : Claim7 := { stood := { row := rollBackUptoRow, standIns := [], harness := (true, "24472167d6541970e77f5d7a3f15c01e2c60e718fd70807317412009e6b97dee"), looks := false }, kinds := [], alts := [], laidByText := true, laidKinds := [.data], laidTests := true, laidLooks := .later }
def RollBackUptoCardSaid : Prop := Claim7.holds Tryd.pinned (.plain (OpenSpec.upto rollBackSpec)) rollBackUptoCard
end Rows
end Go.Proofs.YtikhffdbjelanaaDoor
