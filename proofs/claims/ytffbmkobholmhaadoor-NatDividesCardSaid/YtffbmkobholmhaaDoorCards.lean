/-
  DERIVED. GIVEN WITH THE SEED: THE CARDS: each row of YtffbmkobholmhaaDoorRows.lean that lists a variable, with what it lists TIED to the program's text (the seventh form; the later family's looks); each row that meets fmt, with fmt's text TOLD by the authors' own Lean function (tested against real Go, not proved from fmt's source: count such statements apart). THE CARD IS WHAT COUNTS. Prove the row's statement (the work); the ties are given (YtffbmkobholmhaaDoorTie.lean); close each card by the builder's one call (the guide's Derived/Test/ToyasCard.lean, 'card_holds'). Laid BY PROGRAM, IN A SANDBOX (cutbox-door.mjs). By AI agents, Wed Nov 11 2026. No macro, syntax, notation, axiom, sorry.
-/
import Derived.Test.YtffbmkobholmhaaDoorRows
import GoSem.ClaimSeven
namespace Go.Proofs.YtffbmkobholmhaaDoor
namespace Rows

/-- THE TIED CARD OF 'suffragelaw03.NatTells'. -/
def natTellsCard : Claim7 := { stood := { row := natTellsRow, standIns := [], harness := (true, "84814acf731d46626a19f2b1cad3a72be11c968a78f07c8cc561dc527de14a95"), looks := false }, kinds := [], alts := [], laidByText := true, laidKinds := [.data, .pinned], laidTests := true, laidLooks := .later }
def NatTellsCardSaid : Prop := Claim7.holds Tryd.pinned (.plain (OpenSpec.ofChange natTellsSpec)) natTellsCard

/-- THE TIED CARD OF 'suffragelaw03.NatDivides'. -/
def natDividesCard : Claim7 := { stood := { row := natDividesRow, standIns := [], harness := (true, "84814acf731d46626a19f2b1cad3a72be11c968a78f07c8cc561dc527de14a95"), looks := false }, kinds := [], alts := [], laidByText := true, laidKinds := [.data, .pinned], laidTests := true, laidLooks := .later }
def NatDividesCardSaid : Prop := Claim7.holds Tryd.pinned (.plain (OpenSpec.ofChange natDividesSpec)) natDividesCard

/-- THE TIED CARD OF 'suffragelaw03.NatRing'. -/
def natRingCard : Claim7 := { stood := { row := natRingRow, standIns := [], harness := (true, "84814acf731d46626a19f2b1cad3a72be11c968a78f07c8cc561dc527de14a95"), looks := false }, kinds := [], alts := [], laidByText := true, laidKinds := [.data, .pinned], laidTests := true, laidLooks := .later }
def NatRingCardSaid : Prop := Claim7.holds Tryd.pinned (.plain (OpenSpec.ofChange natRingSpec)) natRingCard

/-- THE TIED CARD OF 'suffragelaw03.NatLess'. -/
def natLessCard : Claim7 := { stood := { row := natLessRow, standIns := [], harness := (true, "84814acf731d46626a19f2b1cad3a72be11c968a78f07c8cc561dc527de14a95"), looks := false }, kinds := [], alts := [], laidByText := true, laidKinds := [.data, .pinned], laidTests := true, laidLooks := .later }
def NatLessCardSaid : Prop := Claim7.holds Tryd.pinned (.plain (OpenSpec.ofChange natLessSpec)) natLessCard

/-- THE TIED CARD OF 'suffragelaw03.NatRest'. -/
def natRestCard : Claim7 := { stood := { row := natRestRow, standIns := [], harness := (true, "84814acf731d46626a19f2b1cad3a72be11c968a78f07c8cc561dc527de14a95"), looks := false }, kinds := [], alts := [], laidByText := true, laidKinds := [.data, .pinned], laidTests := true, laidLooks := .later }
def NatRestCardSaid : Prop := Claim7.holds Tryd.pinned (.plain (OpenSpec.ofChange natRestSpec)) natRestCard

/-- THE TIED CARD OF 'suffragelaw03.NatCommon'. -/
def natCommonCard : Claim7 := { stood := { row := natCommonRow, standIns := [], harness := (true, "84814acf731d46626a19f2b1cad3a72be11c968a78f07c8cc561dc527de14a95"), looks := false }, kinds := [], alts := [], laidByText := true, laidKinds := [.data, .pinned], laidTests := true, laidLooks := .later }
def NatCommonCardSaid : Prop := Claim7.holds Tryd.pinned (.plain (OpenSpec.ofChange natCommonSpec)) natCommonCard

/-- THE TIED CARD OF 'suffragelaw03.NatText'. -/
def natTextCard : Claim7 := { stood := { row := natTextRow, standIns := [], harness := (true, "84814acf731d46626a19f2b1cad3a72be11c968a78f07c8cc561dc527de14a95"), looks := false }, kinds := [], alts := [], laidByText := true, laidKinds := [.data, .pinned], laidTests := true, laidLooks := .later }
def NatTextCardSaid : Prop := Claim7.holds Tryd.pinned (.plain (OpenSpec.ofChange natTextSpec)) natTextCard

/-- THE TIED CARD OF 'suffragelaw03.NatWords'. -/
def natWordsCard : Claim7 := { stood := { row := natWordsRow, standIns := [], harness := (true, "84814acf731d46626a19f2b1cad3a72be11c968a78f07c8cc561dc527de14a95"), looks := false }, kinds := [], alts := [], laidByText := true, laidKinds := [.data, .pinned], laidTests := true, laidLooks := .later }
def NatWordsCardSaid : Prop := Claim7.holds Tryd.pinned (.plain (OpenSpec.ofChange natWordsSpec)) natWordsCard

/-- THE SECOND FORM's CARD OF 'suffragelaw03.NatTells'. -/
def natTellsUptoCard : Claim7 := { stood := { row := natTellsUptoRow, standIns := [], harness := (true, "84814acf731d46626a19f2b1cad3a72be11c968a78f07c8cc561dc527de14a95"), looks := false }, kinds := [], alts := [], laidByText := true, laidKinds := [.data, .pinned], laidTests := true, laidLooks := .later }
def NatTellsUptoCardSaid : Prop := Claim7.holds Tryd.pinned (.plain (OpenSpec.upto natTellsSpec)) natTellsUptoCard

/-- THE SECOND FORM's CARD OF 'suffragelaw03.NatDivides'. -/
def natDividesUptoCard : Claim7 := { stood := { row := natDividesUptoRow, standIns := [], harness := (true, "84814acf731d46626a19f2b1cad3a72be11c968a78f07c8cc561dc527de14a95"), looks := false }, kinds := [], alts := [], laidByText := true, laidKinds := [.data, .pinned], laidTests := true, laidLooks := .later }
def NatDividesUptoCardSaid : Prop := Claim7.holds Tryd.pinned (.plain (OpenSpec.upto natDividesSpec)) natDividesUptoCard

/-- THE SECOND FORM's CARD OF 'suffragelaw03.NatRing'. -/
def natRingUptoCard : Claim7 := { stood := { row := natRingUptoRow, standIns := [], harness := (true, "84814acf731d46626a19f2b1cad3a72be11c968a78f07c8cc561dc527de14a95"), looks := false }, kinds := [], alts := [], laidByText := true, laidKinds := [.data, .pinned], laidTests := true, laidLooks := .later }
def NatRingUptoCardSaid : Prop := Claim7.holds Tryd.pinned (.plain (OpenSpec.upto natRingSpec)) natRingUptoCard

/-- THE SECOND FORM's CARD OF 'suffragelaw03.NatLess'. -/
def natLessUptoCard : Claim7 := { stood := { row := natLessUptoRow, standIns := [], harness := (true, "84814acf731d46626a19f2b1cad3a72be11c968a78f07c8cc561dc527de14a95"), looks := false }, kinds := [], alts := [], laidByText := true, laidKinds := [.data, .pinned], laidTests := true, laidLooks := .later }
def NatLessUptoCardSaid : Prop := Claim7.holds Tryd.pinned (.plain (OpenSpec.upto natLessSpec)) natLessUptoCard

/-- THE SECOND FORM's CARD OF 'suffragelaw03.NatRest'. -/
def natRestUptoCard : Claim7 := { stood := { row := natRestUptoRow, standIns := [], harness := (true, "84814acf731d46626a19f2b1cad3a72be11c968a78f07c8cc561dc527de14a95"), looks := false }, kinds := [], alts := [], laidByText := true, laidKinds := [.data, .pinned], laidTests := true, laidLooks := .later }
def NatRestUptoCardSaid : Prop := Claim7.holds Tryd.pinned (.plain (OpenSpec.upto natRestSpec)) natRestUptoCard

/-- THE SECOND FORM's CARD OF 'suffragelaw03.NatCommon'. -/
def natCommonUptoCard : Claim7 := { stood := { row := natCommonUptoRow, standIns := [], harness := (true, "84814acf731d46626a19f2b1cad3a72be11c968a78f07c8cc561dc527de14a95"), looks := false }, kinds := [], alts := [], laidByText := true, laidKinds := [.data, .pinned], laidTests := true, laidLooks := .later }
def NatCommonUptoCardSaid : Prop := Claim7.holds Tryd.pinned (.plain (OpenSpec.upto natCommonSpec)) natCommonUptoCard

/-- THE SECOND FORM's CARD OF 'suffragelaw03.NatText'. -/
def natTextUptoCard : Claim7 := { stood := { row := natTextUptoRow, standIns := [], harness := (true, "84814acf731d46626a19f2b1cad3a72be11c968a78f07c8cc561dc527de14a95"), looks := false }, kinds := [], alts := [], laidByText := true, laidKinds := [.data, .pinned], laidTests := true, laidLooks := .later }
def NatTextUptoCardSaid : Prop := Claim7.holds Tryd.pinned (.plain (OpenSpec.upto natTextSpec)) natTextUptoCard

/-- THE SECOND FORM's CARD OF 'suffragelaw03.NatWords'. -/
def natWordsUptoCard : Claim7 := { stood := { row := natWordsUptoRow, standIns := [], harness := (true, "84814acf731d46626a19f2b1cad3a72be11c968a78f07c8cc561dc527de14a95"), looks := false }, kinds := [], alts := [], laidByText := true, laidKinds := [.data, .pinned], laidTests := true, laidLooks := .later }
def NatWordsUptoCardSaid : Prop := Claim7.holds Tryd.pinned (.plain (OpenSpec.upto natWordsSpec)) natWordsUptoCard
end Rows
end Go.Proofs.YtffbmkobholmhaaDoor
