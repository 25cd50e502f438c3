/-
  DERIVED. GIVEN WITH THE SEED: THE CARDS: each row of YtejphpcngbjgjaaDoorRows.lean that lists a variable, with what it lists TIED to the program's text (the seventh form; the later family's looks); each row that meets fmt, with fmt's text TOLD by the authors' own Lean function (tested against real Go, not proved from fmt's source: count such statements apart). THE CARD IS WHAT COUNTS. Prove the row's statement (the work); the ties are given (YtejphpcngbjgjaaDoorTie.lean); close each card by the builder's one call (the guide's Derived/Test/ToyasCard.lean, 'card_holds'). Laid BY PROGRAM, IN A SANDBOX (cutbox-door.mjs). By AI agents, Wed Nov 11 2026. No macro, syntax, notation, axiom, sorry.
-/
import Derived.Test.YtejphpcngbjgjaaDoorRows
import GoSem.ClaimSeven
namespace Go.Proofs.YtejphpcngbjgjaaDoor
namespace Rows

/-- THE TIED CARD OF 'suffragelaw25.SheetTells'. -/
def sheetTellsCard : Claim7 := { stood := { row := sheetTellsRow, standIns := [], harness := (true, "628f762c1651c343ba4626317ea4b5ba25d7b5e2389ba33b04664adfc089e112"), looks := false }, kinds := [], alts := [], laidByText := true, laidKinds := [.data], laidTests := true, laidLooks := .later }
def SheetTellsCardSaid : Prop := Claim7.holds Tryd.pinned (.plain (OpenSpec.ofChange sheetTellsSpec)) sheetTellsCard

/-- THE TIED CARD OF 'suffragelaw25.SheetReads'. -/
def sheetReadsCard : Claim7 := { stood := { row := sheetReadsRow, standIns := [], harness := (true, "628f762c1651c343ba4626317ea4b5ba25d7b5e2389ba33b04664adfc089e112"), looks := false }, kinds := [], alts := [], laidByText := true, laidKinds := [.data], laidTests := true, laidLooks := .later }
def SheetReadsCardSaid : Prop := Claim7.holds Tryd.pinned (.plain (OpenSpec.ofChange sheetReadsSpec)) sheetReadsCard

/-- THE TIED CARD OF 'suffragelaw25.SheetSteady'. -/
def sheetSteadyCard : Claim7 := { stood := { row := sheetSteadyRow, standIns := [], harness := (true, "628f762c1651c343ba4626317ea4b5ba25d7b5e2389ba33b04664adfc089e112"), looks := false }, kinds := [], alts := [], laidByText := true, laidKinds := [.data], laidTests := true, laidLooks := .later }
def SheetSteadyCardSaid : Prop := Claim7.holds Tryd.pinned (.plain (OpenSpec.ofChange sheetSteadySpec)) sheetSteadyCard

/-- THE TIED CARD OF 'suffragelaw25.SheetOrder'. -/
def sheetOrderCard : Claim7 := { stood := { row := sheetOrderRow, standIns := [], harness := (true, "628f762c1651c343ba4626317ea4b5ba25d7b5e2389ba33b04664adfc089e112"), looks := false }, kinds := [], alts := [], laidByText := true, laidKinds := [.data], laidTests := true, laidLooks := .later }
def SheetOrderCardSaid : Prop := Claim7.holds Tryd.pinned (.plain (OpenSpec.ofChange sheetOrderSpec)) sheetOrderCard

/-- THE SECOND FORM's CARD OF 'suffragelaw25.SheetTells'. -/
def sheetTellsUptoCard : Claim7 := { stood := { row := sheetTellsUptoRow, standIns := [], harness := (true, "628f762c1651c343ba4626317ea4b5ba25d7b5e2389ba33b04664adfc089e112"), looks := false }, kinds := [], alts := [], laidByText := true, laidKinds := [.data], laidTests := true, laidLooks := .later }
def SheetTellsUptoCardSaid : Prop := Claim7.holds Tryd.pinned (.plain (OpenSpec.upto sheetTellsSpec)) sheetTellsUptoCard

/-- THE SECOND FORM's CARD OF 'suffragelaw25.SheetReads'. -/
def sheetReadsUptoCard : Claim7 := { stood := { row := sheetReadsUptoRow, standIns := [], harness := (true, "628f762c1651c343ba4626317ea4b5ba25d7b5e2389ba33b04664adfc089e112"), looks := false }, kinds := [], alts := [], laidByText := true, laidKinds := [.data], laidTests := true, laidLooks := .later }
def SheetReadsUptoCardSaid : Prop := Claim7.holds Tryd.pinned (.plain (OpenSpec.upto sheetReadsSpec)) sheetReadsUptoCard

/-- THE SECOND FORM's CARD OF 'suffragelaw25.SheetSteady'. -/
def sheetSteadyUptoCard : Claim7 := { stood := { row := sheetSteadyUptoRow, standIns := [], harness := (true, "628f762c1651c343ba4626317ea4b5ba25d7b5e2389ba33b04664adfc089e112"), looks := false }, kinds := [], alts := [], laidByText := true, laidKinds := [.data], laidTests := true, laidLooks := .later }
def SheetSteadyUptoCardSaid : Prop := Claim7.holds Tryd.pinned (.plain (OpenSpec.upto sheetSteadySpec)) sheetSteadyUptoCard

/-- THE SECOND FORM's CARD OF 'suffragelaw25.SheetOrder'. -/
def sheetOrderUptoCard : Claim7 := { stood := { row := sheetOrderUptoRow, standIns := [], harness := (true, "628f762c1651c343ba4626317ea4b5ba25d7b5e2389ba33b04664adfc089e112"), looks := false }, kinds := [], alts := [], laidByText := true, laidKinds := [.data], laidTests := true, laidLooks := .later }
def SheetOrderUptoCardSaid : Prop := Claim7.holds Tryd.pinned (.plain (OpenSpec.upto sheetOrderSpec)) sheetOrderUptoCard
end Rows
end Go.Proofs.YtejphpcngbjgjaaDoor
