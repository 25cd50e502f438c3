/-
  NARROWER THAN 'FOR EVERY INPUT', by the rows' own cells (each row's printed sentence says how): ContestNames: laid · ContestTells: laid · ContestRules: laid · ContestBytes: laid · ContestBack: laid · ContestWords: laid · ContestSeats: laid.
  DERIVED. THE GIVEN ROWS OF THIS SEAT. 7 by the template 'for every input the law returns true; each argument reads behind the call as it read before'; 0 by the template 'total and deterministic' (their statements: YtdjifopdlkppoaaDoorTotals.lean).
  GIVEN WITH THE SEED: the statements are not yours to turn. If you find one false, say at which input.
  Laid BY PROGRAM, IN A SANDBOX (cutbox-rows.mjs): the forced cells as the released guide's own fill.sh prints them over the translation 78e52837dda0c2e2… (all of the seat's roots in one cut). By AI agents, Wed Nov 11 2026. No macro, syntax, notation, axiom, sorry.
-/
import Derived.Test.YtdjifopdlkppoaaDoorChecked
import GoSem.Claim
import GoSem.ClaimJoined
import GoSem.ClaimMapViews
import Derived.JoinedTies
import Derived.KernelRfl
namespace Go.Proofs.YtdjifopdlkppoaaDoor
/- THE CELL 'sum', in the pinned program and in every row, IS THE sha256 OF THE DUMP (.gsa) THAT YtdjifopdlkppoaaDoorProg.lean LOADS. Nothing in Lean hashes anything: it is a label: what it is worth is what the hold of that sum in a sandbox is worth. -/
noncomputable def Tryd.pinned : Pinned := { name := "ytdjifopdlkppoaadoor", sum := "78e52837dda0c2e2231df36ea0216cc5929541c417a20a2a9f03c3fba8ffea10", checked := Tryd.checked }
namespace Rows
def none {H : Type} : Left H := { results := [], args := [] }

/- WHAT THE LISTED PACKAGE-LEVEL VARIABLES READ AS WHEN THE CALL BEGINS. Each datum BY PROGRAM (the guide's laid-datum.mjs) off the statement by which the dump's own 'gosem.cut.vars' lays the variable. In a bare row this is a premise. The card (YtdjifopdlkppoaaDoorCards.lean) ties it to the program's text. -/
def laid_suffrage_contest_rules {H : Type} : DataW H := .agg [.agg [.lit (.string []), .lit (.int .u8 0), .lit (.bool false), .lit (.int .i64 0)], .agg [.lit (.string [112, 108, 117, 114, 97, 108, 105, 116, 121]), .lit (.int .u8 2), .lit (.bool true), .lit (.int .i64 1)], .agg [.lit (.string [97, 112, 112, 114, 111, 118, 97, 108]), .lit (.int .u8 2), .lit (.bool false), .lit (.int .i64 1)], .agg [.lit (.string [115, 99, 111, 114, 101]), .lit (.int .u8 3), .lit (.bool false), .lit (.int .i64 1)], .agg [.lit (.string [98, 111, 114, 100, 97]), .lit (.int .u8 1), .lit (.bool false), .lit (.int .i64 1)], .agg [.lit (.string [99, 111, 112, 101, 108, 97, 110, 100]), .lit (.int .u8 1), .lit (.bool false), .lit (.int .i64 0)], .agg [.lit (.string [109, 105, 110, 105, 109, 97, 120]), .lit (.int .u8 1), .lit (.bool false), .lit (.int .i64 0)], .agg [.lit (.string [115, 99, 104, 117, 108, 122, 101]), .lit (.int .u8 1), .lit (.bool false), .lit (.int .i64 0)], .agg [.lit (.string [112, 97, 105, 114, 115]), .lit (.int .u8 1), .lit (.bool false), .lit (.int .i64 0)], .agg [.lit (.string [114, 117, 110, 111, 102, 102]), .lit (.int .u8 1), .lit (.bool false), .lit (.int .i64 0)], .agg [.lit (.string [99, 111, 111, 109, 98, 115]), .lit (.int .u8 1), .lit (.bool false), .lit (.int .i64 0)], .agg [.lit (.string [103, 114, 101, 103, 111, 114, 121]), .lit (.int .u8 1), .lit (.bool false), .lit (.int .i64 1)], .agg [.lit (.string [109, 101, 101, 107]), .lit (.int .u8 1), .lit (.bool false), .lit (.int .i64 1)], .agg [.lit (.string [112, 104, 114, 97, 103, 109, 101, 110]), .lit (.int .u8 2), .lit (.bool false), .lit (.int .i64 1)], .agg [.lit (.string [100, 104, 111, 110, 100, 116]), .lit (.int .u8 2), .lit (.bool true), .lit (.int .i64 2)], .agg [.lit (.string [115, 97, 105, 110, 116, 101]), .lit (.int .u8 2), .lit (.bool true), .lit (.int .i64 2)], .agg [.lit (.string [104, 97, 114, 101]), .lit (.int .u8 2), .lit (.bool true), .lit (.int .i64 2)]]

/-- 'suffragelaw07.ContestNames': WHATEVER THE INPUT: true; the input reads as it did. -/
def contestNamesSpec : ChangeSpec := { name := "contestNames", fn := fun _ => fun
  | [] => { results := [.lit (.bool true)], args := [] }
  | _ => none }
def contestNamesRow : OpenClaim := { program := "ytdjifopdlkppoaadoor", sum := "78e52837dda0c2e2231df36ea0216cc5929541c417a20a2a9f03c3fba8ffea10", func := "suffrage/suffragelaw07.ContestNames", spec := "contestNames", unfollowed := true, recurses := true, named := ["suffrage/contest.rules"], apart := false, laid := [("suffrage/contest.rules", laid_suffrage_contest_rules)] }
def ContestNamesSaid : Prop := contestNamesRow.holds Tryd.pinned (OpenSpec.ofChange contestNamesSpec)

/-- ITS FALSE NEIGHBOUR: 'it returns false'. Refute it at one input. -/
def contestNamesWrong : ChangeSpec := { name := "contestNames", fn := fun _ => fun
  | [] => { results := [.lit (.bool false)], args := [] }
  | _ => none }
def ContestNamesWrongFalsely : Prop := contestNamesRow.holds Tryd.pinned (OpenSpec.ofChange contestNamesWrong)

/-- 'suffragelaw07.ContestTells': WHATEVER THE INPUT: true; the input reads as it did. -/
def contestTellsSpec : ChangeSpec := { name := "contestTells", fn := fun _ => fun
  | [d1, d2, d3] => { results := [.lit (.bool true)], args := [d1, d2, d3] }
  | _ => none }
def contestTellsRow : OpenClaim := { program := "ytdjifopdlkppoaadoor", sum := "78e52837dda0c2e2231df36ea0216cc5929541c417a20a2a9f03c3fba8ffea10", func := "suffrage/suffragelaw07.ContestTells", spec := "contestTells", named := ["suffrage/contest.rules"], apart := false, laid := [("suffrage/contest.rules", laid_suffrage_contest_rules)] }
def ContestTellsSaid : Prop := contestTellsRow.holds Tryd.pinned (OpenSpec.ofChange contestTellsSpec)

/-- ITS FALSE NEIGHBOUR: 'it returns false'. Refute it at one input. -/
def contestTellsWrong : ChangeSpec := { name := "contestTells", fn := fun _ => fun
  | [d1, d2, d3] => { results := [.lit (.bool false)], args := [d1, d2, d3] }
  | _ => none }
def ContestTellsWrongFalsely : Prop := contestTellsRow.holds Tryd.pinned (OpenSpec.ofChange contestTellsWrong)

/-- 'suffragelaw07.ContestRules': WHATEVER THE INPUT: true; the input reads as it did. -/
def contestRulesSpec : ChangeSpec := { name := "contestRules", fn := fun _ => fun
  | [d1, d2, d3] => { results := [.lit (.bool true)], args := [d1, d2, d3] }
  | _ => none }
def contestRulesRow : OpenClaim := { program := "ytdjifopdlkppoaadoor", sum := "78e52837dda0c2e2231df36ea0216cc5929541c417a20a2a9f03c3fba8ffea10", func := "suffrage/suffragelaw07.ContestRules", spec := "contestRules", named := ["suffrage/contest.rules"], apart := false, laid := [("suffrage/contest.rules", laid_suffrage_contest_rules)] }
def ContestRulesSaid : Prop := contestRulesRow.holds Tryd.pinned (OpenSpec.ofChange contestRulesSpec)

/-- ITS FALSE NEIGHBOUR: 'it returns false'. Refute it at one input. -/
def contestRulesWrong : ChangeSpec := { name := "contestRules", fn := fun _ => fun
  | [d1, d2, d3] => { results := [.lit (.bool false)], args := [d1, d2, d3] }
  | _ => none }
def ContestRulesWrongFalsely : Prop := contestRulesRow.holds Tryd.pinned (OpenSpec.ofChange contestRulesWrong)

/-- 'suffragelaw07.ContestBytes': WHATEVER THE INPUT: true; the input reads as it did. -/
def contestBytesSpec : ChangeSpec := { name := "contestBytes", fn := fun _ => fun
  | [d1, d2] => { results := [.lit (.bool true)], args := [d1, d2] }
  | _ => none }
def contestBytesRow : OpenClaim := { program := "ytdjifopdlkppoaadoor", sum := "78e52837dda0c2e2231df36ea0216cc5929541c417a20a2a9f03c3fba8ffea10", func := "suffrage/suffragelaw07.ContestBytes", spec := "contestBytes", unfollowed := true, recurses := true, named := ["suffrage/contest.rules"], apart := false, laid := [("suffrage/contest.rules", laid_suffrage_contest_rules)] }
def ContestBytesSaid : Prop := contestBytesRow.holds Tryd.pinned (OpenSpec.ofChange contestBytesSpec)

/-- ITS FALSE NEIGHBOUR: 'it returns false'. Refute it at one input. -/
def contestBytesWrong : ChangeSpec := { name := "contestBytes", fn := fun _ => fun
  | [d1, d2] => { results := [.lit (.bool false)], args := [d1, d2] }
  | _ => none }
def ContestBytesWrongFalsely : Prop := contestBytesRow.holds Tryd.pinned (OpenSpec.ofChange contestBytesWrong)

/-- 'suffragelaw07.ContestBack': WHATEVER THE INPUT: true; the input reads as it did. -/
def contestBackSpec : ChangeSpec := { name := "contestBack", fn := fun _ => fun
  | [d1, d2] => { results := [.lit (.bool true)], args := [d1, d2] }
  | _ => none }
def contestBackRow : OpenClaim := { program := "ytdjifopdlkppoaadoor", sum := "78e52837dda0c2e2231df36ea0216cc5929541c417a20a2a9f03c3fba8ffea10", func := "suffrage/suffragelaw07.ContestBack", spec := "contestBack", unfollowed := true, recurses := true, named := ["suffrage/contest.rules"], apart := false, laid := [("suffrage/contest.rules", laid_suffrage_contest_rules)] }
def ContestBackSaid : Prop := contestBackRow.holds Tryd.pinned (OpenSpec.ofChange contestBackSpec)

/-- ITS FALSE NEIGHBOUR: 'it returns false'. Refute it at one input. -/
def contestBackWrong : ChangeSpec := { name := "contestBack", fn := fun _ => fun
  | [d1, d2] => { results := [.lit (.bool false)], args := [d1, d2] }
  | _ => none }
def ContestBackWrongFalsely : Prop := contestBackRow.holds Tryd.pinned (OpenSpec.ofChange contestBackWrong)

/-- 'suffragelaw07.ContestWords': WHATEVER THE INPUT: true; the input reads as it did. -/
def contestWordsSpec : ChangeSpec := { name := "contestWords", fn := fun _ => fun
  | [d1, d2, d3, d4] => { results := [.lit (.bool true)], args := [d1, d2, d3, d4] }
  | _ => none }
def contestWordsRow : OpenClaim := { program := "ytdjifopdlkppoaadoor", sum := "78e52837dda0c2e2231df36ea0216cc5929541c417a20a2a9f03c3fba8ffea10", func := "suffrage/suffragelaw07.ContestWords", spec := "contestWords", named := ["suffrage/contest.rules"], apart := false, laid := [("suffrage/contest.rules", laid_suffrage_contest_rules)] }
def ContestWordsSaid : Prop := contestWordsRow.holds Tryd.pinned (OpenSpec.ofChange contestWordsSpec)

/-- ITS FALSE NEIGHBOUR: 'it returns false'. Refute it at one input. -/
def contestWordsWrong : ChangeSpec := { name := "contestWords", fn := fun _ => fun
  | [d1, d2, d3, d4] => { results := [.lit (.bool false)], args := [d1, d2, d3, d4] }
  | _ => none }
def ContestWordsWrongFalsely : Prop := contestWordsRow.holds Tryd.pinned (OpenSpec.ofChange contestWordsWrong)

/-- 'suffragelaw07.ContestSeats': WHATEVER THE INPUT: true; the input reads as it did. -/
def contestSeatsSpec : ChangeSpec := { name := "contestSeats", fn := fun _ => fun
  | [d1, d2] => { results := [.lit (.bool true)], args := [d1, d2] }
  | _ => none }
def contestSeatsRow : OpenClaim := { program := "ytdjifopdlkppoaadoor", sum := "78e52837dda0c2e2231df36ea0216cc5929541c417a20a2a9f03c3fba8ffea10", func := "suffrage/suffragelaw07.ContestSeats", spec := "contestSeats", named := ["suffrage/contest.rules"], apart := false, laid := [("suffrage/contest.rules", laid_suffrage_contest_rules)] }
def ContestSeatsSaid : Prop := contestSeatsRow.holds Tryd.pinned (OpenSpec.ofChange contestSeatsSpec)

/-- ITS FALSE NEIGHBOUR: 'it returns false'. Refute it at one input. -/
def contestSeatsWrong : ChangeSpec := { name := "contestSeats", fn := fun _ => fun
  | [d1, d2] => { results := [.lit (.bool false)], args := [d1, d2] }
  | _ => none }
def ContestSeatsWrongFalsely : Prop := contestSeatsRow.holds Tryd.pinned (OpenSpec.ofChange contestSeatsWrong)

/- THE SECOND FORM. 'bulk': how many values and letters a reading holds, each counted each time it is reached (what is shared counts as often as it is met; a slice's spare places count too). A statement '..UptoSaid' is the law's where the arguments, and the package variables that the reading takes, are together of bulk at most 1048576: NARROWER than '..Said'. Prove '..Said' where nothing that the law and all that it calls make is longer than what came in: it says more and counts as full. Else prove '..UptoSaid'. A law counts once. -/
mutual
def uptoBulk {H : Type} : DataW H → Nat
  | .lit (.string bytes) => bytes.length + 1
  | .lit _ => 1
  | .nil => 1
  | .ptr d => uptoBulk d + 1
  | .slice elems spare => uptoBulkAll elems + uptoBulkAll spare + 1
  | .agg parts => uptoBulkAll parts + 1
  | .iface _ d => uptoBulk d + 1
  | .map entries => uptoBulkEntries entries + 1
  | .held _ => 1
def uptoBulkAll {H : Type} : List (DataW H) → Nat
  | [] => 0
  | d :: r => uptoBulk d + uptoBulkAll r
def uptoBulkEntries {H : Type} : List (Lit × DataW H) → Nat
  | [] => 0
  | x :: r => uptoBulkEntry x + uptoBulkEntries r
def uptoBulkEntry {H : Type} : Lit × DataW H → Nat
  | (.string bytes, d) => bytes.length + uptoBulk d + 1
  | (_, d) => uptoBulk d + 1
 end
def uptoSmall : (H : Type) → List (DataW H) → Bool := fun _ ds => decide (uptoBulkAll ds ≤ 1048576)
def OpenSpec.upto (s : _root_.Go.ChangeSpec) : _root_.Go.OpenSpec := { _root_.Go.OpenSpec.ofChange s with cond := some uptoSmall }

/-- 'suffragelaw07.ContestNames', WHERE WHAT IT READS IS OF BULK AT MOST 1048576: true; the input reads as it did. -/
def contestNamesUptoRow : OpenClaim := { program := "ytdjifopdlkppoaadoor", sum := "78e52837dda0c2e2231df36ea0216cc5929541c417a20a2a9f03c3fba8ffea10", func := "suffrage/suffragelaw07.ContestNames", spec := "contestNames", unfollowed := true, recurses := true, named := ["suffrage/contest.rules"], apart := false, laid := [("suffrage/contest.rules", laid_suffrage_contest_rules)], narrowed := true }
def ContestNamesUptoSaid : Prop := contestNamesUptoRow.holds Tryd.pinned (OpenSpec.upto contestNamesSpec)

/-- 'suffragelaw07.ContestTells', WHERE WHAT IT READS IS OF BULK AT MOST 1048576: true; the input reads as it did. -/
def contestTellsUptoRow : OpenClaim := { program := "ytdjifopdlkppoaadoor", sum := "78e52837dda0c2e2231df36ea0216cc5929541c417a20a2a9f03c3fba8ffea10", func := "suffrage/suffragelaw07.ContestTells", spec := "contestTells", named := ["suffrage/contest.rules"], apart := false, laid := [("suffrage/contest.rules", laid_suffrage_contest_rules)], narrowed := true }
def ContestTellsUptoSaid : Prop := contestTellsUptoRow.holds Tryd.pinned (OpenSpec.upto contestTellsSpec)

/-- 'suffragelaw07.ContestRules', WHERE WHAT IT READS IS OF BULK AT MOST 1048576: true; the input reads as it did. -/
def contestRulesUptoRow : OpenClaim := { program := "ytdjifopdlkppoaadoor", sum := "78e52837dda0c2e2231df36ea0216cc5929541c417a20a2a9f03c3fba8ffea10", func := "suffrage/suffragelaw07.ContestRules", spec := "contestRules", named := ["suffrage/contest.rules"], apart := false, laid := [("suffrage/contest.rules", laid_suffrage_contest_rules)], narrowed := true }
def ContestRulesUptoSaid : Prop := contestRulesUptoRow.holds Tryd.pinned (OpenSpec.upto contestRulesSpec)

/-- 'suffragelaw07.ContestBytes', WHERE WHAT IT READS IS OF BULK AT MOST 1048576: true; the input reads as it did. -/
def contestBytesUptoRow : OpenClaim := { program := "ytdjifopdlkppoaadoor", sum := "78e52837dda0c2e2231df36ea0216cc5929541c417a20a2a9f03c3fba8ffea10", func := "suffrage/suffragelaw07.ContestBytes", spec := "contestBytes", unfollowed := true, recurses := true, named := ["suffrage/contest.rules"], apart := false, laid := [("suffrage/contest.rules", laid_suffrage_contest_rules)], narrowed := true }
def ContestBytesUptoSaid : Prop := contestBytesUptoRow.holds Tryd.pinned (OpenSpec.upto contestBytesSpec)

/-- 'suffragelaw07.ContestBack', WHERE WHAT IT READS IS OF BULK AT MOST 1048576: true; the input reads as it did. -/
def contestBackUptoRow : OpenClaim := { program := "ytdjifopdlkppoaadoor", sum := "78e52837dda0c2e2231df36ea0216cc5929541c417a20a2a9f03c3fba8ffea10", func := "suffrage/suffragelaw07.ContestBack", spec := "contestBack", unfollowed := true, recurses := true, named := ["suffrage/contest.rules"], apart := false, laid := [("suffrage/contest.rules", laid_suffrage_contest_rules)], narrowed := true }
def ContestBackUptoSaid : Prop := contestBackUptoRow.holds Tryd.pinned (OpenSpec.upto contestBackSpec)

/-- 'suffragelaw07.ContestWords', WHERE WHAT IT READS IS OF BULK AT MOST 1048576: true; the input reads as it did. -/
def contestWordsUptoRow : OpenClaim := { program := "ytdjifopdlkppoaadoor", sum := "78e52837dda0c2e2231df36ea0216cc5929541c417a20a2a9f03c3fba8ffea10", func := "suffrage/suffragelaw07.ContestWords", spec := "contestWords", named := ["suffrage/contest.rules"], apart := false, laid := [("suffrage/contest.rules", laid_suffrage_contest_rules)], narrowed := true }
def ContestWordsUptoSaid : Prop := contestWordsUptoRow.holds Tryd.pinned (OpenSpec.upto contestWordsSpec)

/-- 'suffragelaw07.ContestSeats', WHERE WHAT IT READS IS OF BULK AT MOST 1048576: true; the input reads as it did. -/
def contestSeatsUptoRow : OpenClaim := { program := "ytdjifopdlkppoaadoor", sum := "78e52837dda0c2e2231df36ea0216cc5929541c417a20a2a9f03c3fba8ffea10", func := "suffrage/suffragelaw07.ContestSeats", spec := "contestSeats", named := ["suffrage/contest.rules"], apart := false, laid := [("suffrage/contest.rules", laid_suffrage_contest_rules)], narrowed := true }
def ContestSeatsUptoSaid : Prop := contestSeatsUptoRow.holds Tryd.pinned (OpenSpec.upto contestSeatsSpec)

end Rows
end Go.Proofs.YtdjifopdlkppoaaDoor
