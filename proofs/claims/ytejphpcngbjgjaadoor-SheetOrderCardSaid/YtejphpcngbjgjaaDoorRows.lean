/-
  NARROWER THAN 'FOR EVERY INPUT', by the rows' own cells (each row's printed sentence says how): SheetTells: laid · SheetReads: laid · SheetSteady: laid · SheetOrder: laid.
  DERIVED. THE GIVEN ROWS OF THIS SEAT. 4 by the template 'for every input the law returns true; each argument reads behind the call as it read before'; 0 by the template 'total and deterministic' (their statements: YtejphpcngbjgjaaDoorTotals.lean).
  GIVEN WITH THE SEED: the statements are not yours to turn. If you find one false, say at which input.
  Laid BY PROGRAM, IN A SANDBOX (cutbox-rows.mjs): the forced cells as the released guide's own fill.sh prints them over the translation 920645f36ef410ea… (all of the seat's roots in one cut). By AI agents, Wed Nov 11 2026. No macro, syntax, notation, axiom, sorry.
-/
import Derived.Test.YtejphpcngbjgjaaDoorChecked
import GoSem.Claim
import GoSem.ClaimJoined
import GoSem.ClaimMapViews
import Derived.JoinedTies
import Derived.KernelRfl
namespace Go.Proofs.YtejphpcngbjgjaaDoor
/- THE CELL 'sum', in the pinned program and in every row, IS THE sha256 OF THE DUMP (.gsa) THAT YtejphpcngbjgjaaDoorProg.lean LOADS. Nothing in Lean hashes anything: it is a label: what it is worth is what the hold of that sum in a sandbox is worth. -/
noncomputable def Tryd.pinned : Pinned := { name := "ytejphpcngbjgjaadoor", sum := "920645f36ef410ea45817affd23eb8540669ba68621e2a4d52740038c1bd67a5", checked := Tryd.checked }
namespace Rows
def none {H : Type} : Left H := { results := [], args := [] }

/- WHAT THE LISTED PACKAGE-LEVEL VARIABLES READ AS WHEN THE CALL BEGINS. Each datum BY PROGRAM (the guide's laid-datum.mjs) off the statement by which the dump's own 'gosem.cut.vars' lays the variable. In a bare row this is a premise. The card (YtejphpcngbjgjaaDoorCards.lean) ties it to the program's text. -/
def laid_suffrage_contest_rules {H : Type} : DataW H := .agg [.agg [.lit (.string []), .lit (.int .u8 0), .lit (.bool false), .lit (.int .i64 0)], .agg [.lit (.string [112, 108, 117, 114, 97, 108, 105, 116, 121]), .lit (.int .u8 2), .lit (.bool true), .lit (.int .i64 1)], .agg [.lit (.string [97, 112, 112, 114, 111, 118, 97, 108]), .lit (.int .u8 2), .lit (.bool false), .lit (.int .i64 1)], .agg [.lit (.string [115, 99, 111, 114, 101]), .lit (.int .u8 3), .lit (.bool false), .lit (.int .i64 1)], .agg [.lit (.string [98, 111, 114, 100, 97]), .lit (.int .u8 1), .lit (.bool false), .lit (.int .i64 1)], .agg [.lit (.string [99, 111, 112, 101, 108, 97, 110, 100]), .lit (.int .u8 1), .lit (.bool false), .lit (.int .i64 0)], .agg [.lit (.string [109, 105, 110, 105, 109, 97, 120]), .lit (.int .u8 1), .lit (.bool false), .lit (.int .i64 0)], .agg [.lit (.string [115, 99, 104, 117, 108, 122, 101]), .lit (.int .u8 1), .lit (.bool false), .lit (.int .i64 0)], .agg [.lit (.string [112, 97, 105, 114, 115]), .lit (.int .u8 1), .lit (.bool false), .lit (.int .i64 0)], .agg [.lit (.string [114, 117, 110, 111, 102, 102]), .lit (.int .u8 1), .lit (.bool false), .lit (.int .i64 0)], .agg [.lit (.string [99, 111, 111, 109, 98, 115]), .lit (.int .u8 1), .lit (.bool false), .lit (.int .i64 0)], .agg [.lit (.string [103, 114, 101, 103, 111, 114, 121]), .lit (.int .u8 1), .lit (.bool false), .lit (.int .i64 1)], .agg [.lit (.string [109, 101, 101, 107]), .lit (.int .u8 1), .lit (.bool false), .lit (.int .i64 1)], .agg [.lit (.string [112, 104, 114, 97, 103, 109, 101, 110]), .lit (.int .u8 2), .lit (.bool false), .lit (.int .i64 1)], .agg [.lit (.string [100, 104, 111, 110, 100, 116]), .lit (.int .u8 2), .lit (.bool true), .lit (.int .i64 2)], .agg [.lit (.string [115, 97, 105, 110, 116, 101]), .lit (.int .u8 2), .lit (.bool true), .lit (.int .i64 2)], .agg [.lit (.string [104, 97, 114, 101]), .lit (.int .u8 2), .lit (.bool true), .lit (.int .i64 2)]]

/-- 'suffragelaw25.SheetTells': WHATEVER THE INPUT: true; the input reads as it did. -/
def sheetTellsSpec : ChangeSpec := { name := "sheetTells", fn := fun _ => fun
  | [d1, d2] => { results := [.lit (.bool true)], args := [d1, d2] }
  | _ => none }
def sheetTellsRow : OpenClaim := { program := "ytejphpcngbjgjaadoor", sum := "920645f36ef410ea45817affd23eb8540669ba68621e2a4d52740038c1bd67a5", func := "suffrage/suffragelaw25.SheetTells", spec := "sheetTells", unfollowed := true, recurses := true, named := ["suffrage/contest.rules"], apart := false, laid := [("suffrage/contest.rules", laid_suffrage_contest_rules)] }
def SheetTellsSaid : Prop := sheetTellsRow.holds Tryd.pinned (OpenSpec.ofChange sheetTellsSpec)

/-- ITS FALSE NEIGHBOUR: 'it returns false'. Refute it at one input. -/
def sheetTellsWrong : ChangeSpec := { name := "sheetTells", fn := fun _ => fun
  | [d1, d2] => { results := [.lit (.bool false)], args := [d1, d2] }
  | _ => none }
def SheetTellsWrongFalsely : Prop := sheetTellsRow.holds Tryd.pinned (OpenSpec.ofChange sheetTellsWrong)

/-- 'suffragelaw25.SheetReads': WHATEVER THE INPUT: true; the input reads as it did. -/
def sheetReadsSpec : ChangeSpec := { name := "sheetReads", fn := fun _ => fun
  | [d1, d2, d3, d4] => { results := [.lit (.bool true)], args := [d1, d2, d3, d4] }
  | _ => none }
def sheetReadsRow : OpenClaim := { program := "ytejphpcngbjgjaadoor", sum := "920645f36ef410ea45817affd23eb8540669ba68621e2a4d52740038c1bd67a5", func := "suffrage/suffragelaw25.SheetReads", spec := "sheetReads", unfollowed := true, recurses := true, named := ["suffrage/contest.rules"], apart := false, laid := [("suffrage/contest.rules", laid_suffrage_contest_rules)] }
def SheetReadsSaid : Prop := sheetReadsRow.holds Tryd.pinned (OpenSpec.ofChange sheetReadsSpec)

/-- ITS FALSE NEIGHBOUR: 'it returns false'. Refute it at one input. -/
def sheetReadsWrong : ChangeSpec := { name := "sheetReads", fn := fun _ => fun
  | [d1, d2, d3, d4] => { results := [.lit (.bool false)], args := [d1, d2, d3, d4] }
  | _ => none }
def SheetReadsWrongFalsely : Prop := sheetReadsRow.holds Tryd.pinned (OpenSpec.ofChange sheetReadsWrong)

/-- 'suffragelaw25.SheetSteady': WHATEVER THE INPUT: true; the input reads as it did. -/
def sheetSteadySpec : ChangeSpec := { name := "sheetSteady", fn := fun _ => fun
  | [d1, d2, d3, d4, d5] => { results := [.lit (.bool true)], args := [d1, d2, d3, d4, d5] }
  | _ => none }
def sheetSteadyRow : OpenClaim := { program := "ytejphpcngbjgjaadoor", sum := "920645f36ef410ea45817affd23eb8540669ba68621e2a4d52740038c1bd67a5", func := "suffrage/suffragelaw25.SheetSteady", spec := "sheetSteady", unfollowed := true, recurses := true, named := ["suffrage/contest.rules"], apart := false, laid := [("suffrage/contest.rules", laid_suffrage_contest_rules)] }
def SheetSteadySaid : Prop := sheetSteadyRow.holds Tryd.pinned (OpenSpec.ofChange sheetSteadySpec)

/-- ITS FALSE NEIGHBOUR: 'it returns false'. Refute it at one input. -/
def sheetSteadyWrong : ChangeSpec := { name := "sheetSteady", fn := fun _ => fun
  | [d1, d2, d3, d4, d5] => { results := [.lit (.bool false)], args := [d1, d2, d3, d4, d5] }
  | _ => none }
def SheetSteadyWrongFalsely : Prop := sheetSteadyRow.holds Tryd.pinned (OpenSpec.ofChange sheetSteadyWrong)

/-- 'suffragelaw25.SheetOrder': WHATEVER THE INPUT: true; the input reads as it did. -/
def sheetOrderSpec : ChangeSpec := { name := "sheetOrder", fn := fun _ => fun
  | [d1, d2, d3, d4] => { results := [.lit (.bool true)], args := [d1, d2, d3, d4] }
  | _ => none }
def sheetOrderRow : OpenClaim := { program := "ytejphpcngbjgjaadoor", sum := "920645f36ef410ea45817affd23eb8540669ba68621e2a4d52740038c1bd67a5", func := "suffrage/suffragelaw25.SheetOrder", spec := "sheetOrder", unfollowed := true, recurses := true, named := ["suffrage/contest.rules"], apart := false, laid := [("suffrage/contest.rules", laid_suffrage_contest_rules)] }
def SheetOrderSaid : Prop := sheetOrderRow.holds Tryd.pinned (OpenSpec.ofChange sheetOrderSpec)

/-- ITS FALSE NEIGHBOUR: 'it returns false'. Refute it at one input. -/
def sheetOrderWrong : ChangeSpec := { name := "sheetOrder", fn := fun _ => fun
  | [d1, d2, d3, d4] => { results := [.lit (.bool false)], args := [d1, d2, d3, d4] }
  | _ => none }
def SheetOrderWrongFalsely : Prop := sheetOrderRow.holds Tryd.pinned (OpenSpec.ofChange sheetOrderWrong)

/- THE SECOND FORM. 'bulk': how many values and letters a reading holds, each counted each time it is reached (what is shared counts as often as it is met; a slice's spare places count too). A statement '..UptoSaid' is the law's where the arguments, and the package variables that the reading takes, are together of bulk at most 1048576: NARROWER than '..Said'. Prove '..Said' where nothing that the law and all that it calls make is longer than what came in: it says more and counts as full. Else prove '..UptoSaid'. A law counts once. -/
mutual
def uptoBulk {H : Type} : DataW H → Nat
  | .lit (.string bytes) => bytes.length + 1
  | .lit _ => 1
  | .nil => 1
  | .ptr d => uptoBulk d + 1
  | .slice elems spare => uptoBulkAll elems + uptoBulkAll spare + 1
  | .agg parts => uptoBulkAll parts + 1
  | .iface _ d => uptoBulk d + 1
  | .map entries => uptoBulkEntries entries + 1
  | .held _ => 1
def uptoBulkAll {H : Type} : List (DataW H) → Nat
  | [] => 0
  | d :: r => uptoBulk d + uptoBulkAll r
def uptoBulkEntries {H : Type} : List (Lit × DataW H) → Nat
  | [] => 0
  | x :: r => uptoBulkEntry x + uptoBulkEntries r
def uptoBulkEntry {H : Type} : Lit × DataW H → Nat
  | (.string bytes, d) => bytes.length + uptoBulk d + 1
  | (_, d) => uptoBulk d + 1
 end
def uptoSmall : (H : Type) → List (DataW H) → Bool := fun _ ds => decide (uptoBulkAll ds ≤ 1048576)
def OpenSpec.upto (s : _root_.Go.ChangeSpec) : _root_.Go.OpenSpec := { _root_.Go.OpenSpec.ofChange s with cond := some uptoSmall }

/-- 'suffragelaw25.SheetTells', WHERE WHAT IT READS IS OF BULK AT MOST 1048576: true; the input reads as it did. -/
def sheetTellsUptoRow : OpenClaim := { program := "ytejphpcngbjgjaadoor", sum := "920645f36ef410ea45817affd23eb8540669ba68621e2a4d52740038c1bd67a5", func := "suffrage/suffragelaw25.SheetTells", spec := "sheetTells", unfollowed := true, recurses := true, named := ["suffrage/contest.rules"], apart := false, laid := [("suffrage/contest.rules", laid_suffrage_contest_rules)], narrowed := true }
def SheetTellsUptoSaid : Prop := sheetTellsUptoRow.holds Tryd.pinned (OpenSpec.upto sheetTellsSpec)

/-- 'suffragelaw25.SheetReads', WHERE WHAT IT READS IS OF BULK AT MOST 1048576: true; the input reads as it did. -/
def sheetReadsUptoRow : OpenClaim := { program := "ytejphpcngbjgjaadoor", sum := "920645f36ef410ea45817affd23eb8540669ba68621e2a4d52740038c1bd67a5", func := "suffrage/suffragelaw25.SheetReads", spec := "sheetReads", unfollowed := true, recurses := true, named := ["suffrage/contest.rules"], apart := false, laid := [("suffrage/contest.rules", laid_suffrage_contest_rules)], narrowed := true }
def SheetReadsUptoSaid : Prop := sheetReadsUptoRow.holds Tryd.pinned (OpenSpec.upto sheetReadsSpec)

/-- 'suffragelaw25.SheetSteady', WHERE WHAT IT READS IS OF BULK AT MOST 1048576: true; the input reads as it did. -/
def sheetSteadyUptoRow : OpenClaim := { program := "ytejphpcngbjgjaadoor", sum := "920645f36ef410ea45817affd23eb8540669ba68621e2a4d52740038c1bd67a5", func := "suffrage/suffragelaw25.SheetSteady", spec := "sheetSteady", unfollowed := true, recurses := true, named := ["suffrage/contest.rules"], apart := false, laid := [("suffrage/contest.rules", laid_suffrage_contest_rules)], narrowed := true }
def SheetSteadyUptoSaid : Prop := sheetSteadyUptoRow.holds Tryd.pinned (OpenSpec.upto sheetSteadySpec)

/-- 'suffragelaw25.SheetOrder', WHERE WHAT IT READS IS OF BULK AT MOST 1048576: true; the input reads as it did. -/
def sheetOrderUptoRow : OpenClaim := { program := "ytejphpcngbjgjaadoor", sum := "920645f36ef410ea45817affd23eb8540669ba68621e2a4d52740038c1bd67a5", func := "suffrage/suffragelaw25.SheetOrder", spec := "sheetOrder", unfollowed := true, recurses := true, named := ["suffrage/contest.rules"], apart := false, laid := [("suffrage/contest.rules", laid_suffrage_contest_rules)], narrowed := true }
def SheetOrderUptoSaid : Prop := sheetOrderUptoRow.holds Tryd.pinned (OpenSpec.upto sheetOrderSpec)

end Rows
end Go.Proofs.YtejphpcngbjgjaaDoor
