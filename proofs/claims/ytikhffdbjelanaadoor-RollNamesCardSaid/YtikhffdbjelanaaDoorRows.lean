/-
  NARROWER THAN 'FOR EVERY INPUT', by the rows' own cells (each row's printed sentence says how): RollNames: laid · RollTells: laid · RollDoes: laid · RollBytes: laid · RollOnce: laid · RollOthers: laid · RollCounts: laid · RollBack: laid.
  DERIVED. THE GIVEN ROWS OF THIS SEAT. 8 by the template 'for every input the law returns true; each argument reads behind the call as it read before'; 0 by the template 'total and deterministic' (their statements: YtikhffdbjelanaaDoorTotals.lean).
  GIVEN WITH THE SEED: the statements are not yours to turn. If you find one false, say at which input.
  Laid BY PROGRAM, IN A SANDBOX (cutbox-rows.mjs): the forced cells as the released guide's own fill.sh prints them over the translation 600c0e35e6d19d8d… (all of the seat's roots in one cut). By AI agents, Wed Nov 11 2026. No macro, syntax, notation, axiom, sorry.
-/
import Derived.Test.YtikhffdbjelanaaDoorChecked
import GoSem.Claim
import GoSem.ClaimJoined
import GoSem.ClaimMapViews
import Derived.JoinedTies
import Derived.KernelRfl
namespace Go.Proofs.YtikhffdbjelanaaDoor
/- THE CELL 'sum', in the pinned program and in every row, IS THE sha256 OF THE DUMP (.gsa) THAT YtikhffdbjelanaaDoorProg.lean LOADS. Nothing in Lean hashes anything: it is a label: what it is worth is what the hold of that sum in a sandbox is worth. -/
noncomputable def Tryd.pinned : Pinned := { name := "ytikhffdbjelanaadoor", sum := "600c0e35e6d19d8d0d0ed0285b0b969f20769fb55ba1d8f70f377ea8ec0df941", checked := Tryd.checked }
namespace Rows
def none {H : Type} : Left H := { results := [], args := [] }

/- WHAT THE LISTED PACKAGE-LEVEL VARIABLES READ AS WHEN THE CALL BEGINS. Each datum BY PROGRAM (the guide's laid-datum.mjs) off the statement by which the dump's own 'gosem.cut.vars' lays the variable. In a bare row this is a premise. The card (YtikhffdbjelanaaDoorCards.lean) ties it to the program's text. -/
def laid_suffrage_contest_rules {H : Type} : DataW H := .agg [.agg [.lit (.string []), .lit (.int .u8 0), .lit (.bool false), .lit (.int .i64 0)], .agg [.lit (.string [112, 108, 117, 114, 97, 108, 105, 116, 121]), .lit (.int .u8 2), .lit (.bool true), .lit (.int .i64 1)], .agg [.lit (.string [97, 112, 112, 114, 111, 118, 97, 108]), .lit (.int .u8 2), .lit (.bool false), .lit (.int .i64 1)], .agg [.lit (.string [115, 99, 111, 114, 101]), .lit (.int .u8 3), .lit (.bool false), .lit (.int .i64 1)], .agg [.lit (.string [98, 111, 114, 100, 97]), .lit (.int .u8 1), .lit (.bool false), .lit (.int .i64 1)], .agg [.lit (.string [99, 111, 112, 101, 108, 97, 110, 100]), .lit (.int .u8 1), .lit (.bool false), .lit (.int .i64 0)], .agg [.lit (.string [109, 105, 110, 105, 109, 97, 120]), .lit (.int .u8 1), .lit (.bool false), .lit (.int .i64 0)], .agg [.lit (.string [115, 99, 104, 117, 108, 122, 101]), .lit (.int .u8 1), .lit (.bool false), .lit (.int .i64 0)], .agg [.lit (.string [112, 97, 105, 114, 115]), .lit (.int .u8 1), .lit (.bool false), .lit (.int .i64 0)], .agg [.lit (.string [114, 117, 110, 111, 102, 102]), .lit (.int .u8 1), .lit (.bool false), .lit (.int .i64 0)], .agg [.lit (.string [99, 111, 111, 109, 98, 115]), .lit (.int .u8 1), .lit (.bool false), .lit (.int .i64 0)], .agg [.lit (.string [103, 114, 101, 103, 111, 114, 121]), .lit (.int .u8 1), .lit (.bool false), .lit (.int .i64 1)], .agg [.lit (.string [109, 101, 101, 107]), .lit (.int .u8 1), .lit (.bool false), .lit (.int .i64 1)], .agg [.lit (.string [112, 104, 114, 97, 103, 109, 101, 110]), .lit (.int .u8 2), .lit (.bool false), .lit (.int .i64 1)], .agg [.lit (.string [100, 104, 111, 110, 100, 116]), .lit (.int .u8 2), .lit (.bool true), .lit (.int .i64 2)], .agg [.lit (.string [115, 97, 105, 110, 116, 101]), .lit (.int .u8 2), .lit (.bool true), .lit (.int .i64 2)], .agg [.lit (.string [104, 97, 114, 101]), .lit (.int .u8 2), .lit (.bool true), .lit (.int .i64 2)]]

/-- 'suffragelaw24.RollNames': WHATEVER THE INPUT: true; the input reads as it did. -/
def rollNamesSpec : ChangeSpec := { name := "rollNames", fn := fun _ => fun
  | [] => { results := [.lit (.bool true)], args := [] }
  | _ => none }
def rollNamesRow : OpenClaim := { program := "ytikhffdbjelanaadoor", sum := "600c0e35e6d19d8d0d0ed0285b0b969f20769fb55ba1d8f70f377ea8ec0df941", func := "suffrage/suffragelaw24.RollNames", spec := "rollNames", inPlace := ["slices.overlaps[suffrage/api.Voter]"], unfollowed := true, recurses := true, named := ["suffrage/contest.rules"], apart := false, laid := [("suffrage/contest.rules", laid_suffrage_contest_rules)] }
def RollNamesSaid : Prop := rollNamesRow.holds Tryd.pinned (OpenSpec.ofChange rollNamesSpec)

/-- ITS FALSE NEIGHBOUR: 'it returns false'. Refute it at one input. -/
def rollNamesWrong : ChangeSpec := { name := "rollNames", fn := fun _ => fun
  | [] => { results := [.lit (.bool false)], args := [] }
  | _ => none }
def RollNamesWrongFalsely : Prop := rollNamesRow.holds Tryd.pinned (OpenSpec.ofChange rollNamesWrong)

/-- 'suffragelaw24.RollTells': WHATEVER THE INPUT: true; the input reads as it did. -/
def rollTellsSpec : ChangeSpec := { name := "rollTells", fn := fun _ => fun
  | [d1, d2, d3] => { results := [.lit (.bool true)], args := [d1, d2, d3] }
  | _ => none }
def rollTellsRow : OpenClaim := { program := "ytikhffdbjelanaadoor", sum := "600c0e35e6d19d8d0d0ed0285b0b969f20769fb55ba1d8f70f377ea8ec0df941", func := "suffrage/suffragelaw24.RollTells", spec := "rollTells", inPlace := ["slices.overlaps[suffrage/api.Voter]"], unfollowed := true, recurses := true, named := ["suffrage/contest.rules"], apart := false, laid := [("suffrage/contest.rules", laid_suffrage_contest_rules)] }
def RollTellsSaid : Prop := rollTellsRow.holds Tryd.pinned (OpenSpec.ofChange rollTellsSpec)

/-- ITS FALSE NEIGHBOUR: 'it returns false'. Refute it at one input. -/
def rollTellsWrong : ChangeSpec := { name := "rollTells", fn := fun _ => fun
  | [d1, d2, d3] => { results := [.lit (.bool false)], args := [d1, d2, d3] }
  | _ => none }
def RollTellsWrongFalsely : Prop := rollTellsRow.holds Tryd.pinned (OpenSpec.ofChange rollTellsWrong)

/-- 'suffragelaw24.RollDoes': WHATEVER THE INPUT: true; the input reads as it did. -/
def rollDoesSpec : ChangeSpec := { name := "rollDoes", fn := fun _ => fun
  | [d1, d2] => { results := [.lit (.bool true)], args := [d1, d2] }
  | _ => none }
def rollDoesRow : OpenClaim := { program := "ytikhffdbjelanaadoor", sum := "600c0e35e6d19d8d0d0ed0285b0b969f20769fb55ba1d8f70f377ea8ec0df941", func := "suffrage/suffragelaw24.RollDoes", spec := "rollDoes", unfollowed := true, recurses := true, named := ["suffrage/contest.rules"], apart := false, laid := [("suffrage/contest.rules", laid_suffrage_contest_rules)] }
def RollDoesSaid : Prop := rollDoesRow.holds Tryd.pinned (OpenSpec.ofChange rollDoesSpec)

/-- ITS FALSE NEIGHBOUR: 'it returns false'. Refute it at one input. -/
def rollDoesWrong : ChangeSpec := { name := "rollDoes", fn := fun _ => fun
  | [d1, d2] => { results := [.lit (.bool false)], args := [d1, d2] }
  | _ => none }
def RollDoesWrongFalsely : Prop := rollDoesRow.holds Tryd.pinned (OpenSpec.ofChange rollDoesWrong)

/-- 'suffragelaw24.RollBytes': WHATEVER THE INPUT: true; the input reads as it did. -/
def rollBytesSpec : ChangeSpec := { name := "rollBytes", fn := fun _ => fun
  | [d1, d2] => { results := [.lit (.bool true)], args := [d1, d2] }
  | _ => none }
def rollBytesRow : OpenClaim := { program := "ytikhffdbjelanaadoor", sum := "600c0e35e6d19d8d0d0ed0285b0b969f20769fb55ba1d8f70f377ea8ec0df941", func := "suffrage/suffragelaw24.RollBytes", spec := "rollBytes", unfollowed := true, recurses := true, named := ["suffrage/contest.rules"], apart := false, laid := [("suffrage/contest.rules", laid_suffrage_contest_rules)] }
def RollBytesSaid : Prop := rollBytesRow.holds Tryd.pinned (OpenSpec.ofChange rollBytesSpec)

/-- ITS FALSE NEIGHBOUR: 'it returns false'. Refute it at one input. -/
def rollBytesWrong : ChangeSpec := { name := "rollBytes", fn := fun _ => fun
  | [d1, d2] => { results := [.lit (.bool false)], args := [d1, d2] }
  | _ => none }
def RollBytesWrongFalsely : Prop := rollBytesRow.holds Tryd.pinned (OpenSpec.ofChange rollBytesWrong)

/-- 'suffragelaw24.RollOnce': WHATEVER THE INPUT: true; the input reads as it did. -/
def rollOnceSpec : ChangeSpec := { name := "rollOnce", fn := fun _ => fun
  | [d1, d2, d3] => { results := [.lit (.bool true)], args := [d1, d2, d3] }
  | _ => none }
def rollOnceRow : OpenClaim := { program := "ytikhffdbjelanaadoor", sum := "600c0e35e6d19d8d0d0ed0285b0b969f20769fb55ba1d8f70f377ea8ec0df941", func := "suffrage/suffragelaw24.RollOnce", spec := "rollOnce", inPlace := ["slices.overlaps[suffrage/api.Voter]"], unfollowed := true, recurses := true, named := ["suffrage/contest.rules"], apart := false, laid := [("suffrage/contest.rules", laid_suffrage_contest_rules)] }
def RollOnceSaid : Prop := rollOnceRow.holds Tryd.pinned (OpenSpec.ofChange rollOnceSpec)

/-- ITS FALSE NEIGHBOUR: 'it returns false'. Refute it at one input. -/
def rollOnceWrong : ChangeSpec := { name := "rollOnce", fn := fun _ => fun
  | [d1, d2, d3] => { results := [.lit (.bool false)], args := [d1, d2, d3] }
  | _ => none }
def RollOnceWrongFalsely : Prop := rollOnceRow.holds Tryd.pinned (OpenSpec.ofChange rollOnceWrong)

/-- 'suffragelaw24.RollOthers': WHATEVER THE INPUT: true; the input reads as it did. -/
def rollOthersSpec : ChangeSpec := { name := "rollOthers", fn := fun _ => fun
  | [d1, d2, d3, d4] => { results := [.lit (.bool true)], args := [d1, d2, d3, d4] }
  | _ => none }
def rollOthersRow : OpenClaim := { program := "ytikhffdbjelanaadoor", sum := "600c0e35e6d19d8d0d0ed0285b0b969f20769fb55ba1d8f70f377ea8ec0df941", func := "suffrage/suffragelaw24.RollOthers", spec := "rollOthers", inPlace := ["slices.overlaps[suffrage/api.Voter]"], unfollowed := true, recurses := true, named := ["suffrage/contest.rules"], apart := false, laid := [("suffrage/contest.rules", laid_suffrage_contest_rules)] }
def RollOthersSaid : Prop := rollOthersRow.holds Tryd.pinned (OpenSpec.ofChange rollOthersSpec)

/-- ITS FALSE NEIGHBOUR: 'it returns false'. Refute it at one input. -/
def rollOthersWrong : ChangeSpec := { name := "rollOthers", fn := fun _ => fun
  | [d1, d2, d3, d4] => { results := [.lit (.bool false)], args := [d1, d2, d3, d4] }
  | _ => none }
def RollOthersWrongFalsely : Prop := rollOthersRow.holds Tryd.pinned (OpenSpec.ofChange rollOthersWrong)

/-- 'suffragelaw24.RollCounts': WHATEVER THE INPUT: true; the input reads as it did. -/
def rollCountsSpec : ChangeSpec := { name := "rollCounts", fn := fun _ => fun
  | [d1, d2, d3] => { results := [.lit (.bool true)], args := [d1, d2, d3] }
  | _ => none }
def rollCountsRow : OpenClaim := { program := "ytikhffdbjelanaadoor", sum := "600c0e35e6d19d8d0d0ed0285b0b969f20769fb55ba1d8f70f377ea8ec0df941", func := "suffrage/suffragelaw24.RollCounts", spec := "rollCounts", inPlace := ["slices.overlaps[suffrage/api.Voter]"], unfollowed := true, recurses := true, named := ["suffrage/contest.rules"], apart := false, laid := [("suffrage/contest.rules", laid_suffrage_contest_rules)] }
def RollCountsSaid : Prop := rollCountsRow.holds Tryd.pinned (OpenSpec.ofChange rollCountsSpec)

/-- ITS FALSE NEIGHBOUR: 'it returns false'. Refute it at one input. -/
def rollCountsWrong : ChangeSpec := { name := "rollCounts", fn := fun _ => fun
  | [d1, d2, d3] => { results := [.lit (.bool false)], args := [d1, d2, d3] }
  | _ => none }
def RollCountsWrongFalsely : Prop := rollCountsRow.holds Tryd.pinned (OpenSpec.ofChange rollCountsWrong)

/-- 'suffragelaw24.RollBack': WHATEVER THE INPUT: true; the input reads as it did. -/
def rollBackSpec : ChangeSpec := { name := "rollBack", fn := fun _ => fun
  | [d1, d2] => { results := [.lit (.bool true)], args := [d1, d2] }
  | _ => none }
def rollBackRow : OpenClaim := { program := "ytikhffdbjelanaadoor", sum := "600c0e35e6d19d8d0d0ed0285b0b969f20769fb55ba1d8f70f377ea8ec0df941", func := "suffrage/suffragelaw24.RollBack", spec := "rollBack", inPlace := ["slices.overlaps[suffrage/api.Voter]"], unfollowed := true, recurses := true, named := ["suffrage/contest.rules"], apart := false, laid := [("suffrage/contest.rules", laid_suffrage_contest_rules)] }
def RollBackSaid : Prop := rollBackRow.holds Tryd.pinned (OpenSpec.ofChange rollBackSpec)

/-- ITS FALSE NEIGHBOUR: 'it returns false'. Refute it at one input. -/
def rollBackWrong : ChangeSpec := { name := "rollBack", fn := fun _ => fun
  | [d1, d2] => { results := [.lit (.bool false)], args := [d1, d2] }
  | _ => none }
def RollBackWrongFalsely : Prop := rollBackRow.holds Tryd.pinned (OpenSpec.ofChange rollBackWrong)

/- THE SECOND FORM. 'bulk': how many values and letters a reading holds, each counted each time it is reached (what is shared counts as often as it is met; a slice's spare places count too). A statement '..UptoSaid' is the law's where the arguments, and the package variables that the reading takes, are together of bulk at most 1048576: NARROWER than '..Said'. Prove '..Said' where nothing that the law and all that it calls make is longer than what came in: it says more and counts as full. Else prove '..UptoSaid'. A law counts once. -/
mutual
def uptoBulk {H : Type} : DataW H → Nat
  | .lit (.string bytes) => bytes.length + 1
  | .lit _ => 1
  | .nil => 1
  | .ptr d => uptoBulk d + 1
  | .slice elems spare => uptoBulkAll elems + uptoBulkAll spare + 1
  | .agg parts => uptoBulkAll parts + 1
  | .iface _ d => uptoBulk d + 1
  | .map entries => uptoBulkEntries entries + 1
  | .held _ => 1
def uptoBulkAll {H : Type} : List (DataW H) → Nat
  | [] => 0
  | d :: r => uptoBulk d + uptoBulkAll r
def uptoBulkEntries {H : Type} : List (Lit × DataW H) → Nat
  | [] => 0
  | x :: r => uptoBulkEntry x + uptoBulkEntries r
def uptoBulkEntry {H : Type} : Lit × DataW H → Nat
  | (.string bytes, d) => bytes.length + uptoBulk d + 1
  | (_, d) => uptoBulk d + 1
 end
def uptoSmall : (H : Type) → List (DataW H) → Bool := fun _ ds => decide (uptoBulkAll ds ≤ 1048576)
def OpenSpec.upto (s : _root_.Go.ChangeSpec) : _root_.Go.OpenSpec := { _root_.Go.OpenSpec.ofChange s with cond := some uptoSmall }

/-- 'suffragelaw24.RollNames', WHERE WHAT IT READS IS OF BULK AT MOST 1048576: true; the input reads as it did. -/
def rollNamesUptoRow : OpenClaim := { program := "ytikhffdbjelanaadoor", sum := "600c0e35e6d19d8d0d0ed0285b0b969f20769fb55ba1d8f70f377ea8ec0df941", func := "suffrage/suffragelaw24.RollNames", spec := "rollNames", inPlace := ["slices.overlaps[suffrage/api.Voter]"], unfollowed := true, recurses := true, named := ["suffrage/contest.rules"], apart := false, laid := [("suffrage/contest.rules", laid_suffrage_contest_rules)], narrowed := true }
def RollNamesUptoSaid : Prop := rollNamesUptoRow.holds Tryd.pinned (OpenSpec.upto rollNamesSpec)

/-- 'suffragelaw24.RollTells', WHERE WHAT IT READS IS OF BULK AT MOST 1048576: true; the input reads as it did. -/
def rollTellsUptoRow : OpenClaim := { program := "ytikhffdbjelanaadoor", sum := "600c0e35e6d19d8d0d0ed0285b0b969f20769fb55ba1d8f70f377ea8ec0df941", func := "suffrage/suffragelaw24.RollTells", spec := "rollTells", inPlace := ["slices.overlaps[suffrage/api.Voter]"], unfollowed := true, recurses := true, named := ["suffrage/contest.rules"], apart := false, laid := [("suffrage/contest.rules", laid_suffrage_contest_rules)], narrowed := true }
def RollTellsUptoSaid : Prop := rollTellsUptoRow.holds Tryd.pinned (OpenSpec.upto rollTellsSpec)

/-- 'suffragelaw24.RollDoes', WHERE WHAT IT READS IS OF BULK AT MOST 1048576: true; the input reads as it did. -/
def rollDoesUptoRow : OpenClaim := { program := "ytikhffdbjelanaadoor", sum := "600c0e35e6d19d8d0d0ed0285b0b969f20769fb55ba1d8f70f377ea8ec0df941", func := "suffrage/suffragelaw24.RollDoes", spec := "rollDoes", unfollowed := true, recurses := true, named := ["suffrage/contest.rules"], apart := false, laid := [("suffrage/contest.rules", laid_suffrage_contest_rules)], narrowed := true }
def RollDoesUptoSaid : Prop := rollDoesUptoRow.holds Tryd.pinned (OpenSpec.upto rollDoesSpec)

/-- 'suffragelaw24.RollBytes', WHERE WHAT IT READS IS OF BULK AT MOST 1048576: true; the input reads as it did. -/
def rollBytesUptoRow : OpenClaim := { program := "ytikhffdbjelanaadoor", sum := "600c0e35e6d19d8d0d0ed0285b0b969f20769fb55ba1d8f70f377ea8ec0df941", func := "suffrage/suffragelaw24.RollBytes", spec := "rollBytes", unfollowed := true, recurses := true, named := ["suffrage/contest.rules"], apart := false, laid := [("suffrage/contest.rules", laid_suffrage_contest_rules)], narrowed := true }
def RollBytesUptoSaid : Prop := rollBytesUptoRow.holds Tryd.pinned (OpenSpec.upto rollBytesSpec)

/-- 'suffragelaw24.RollOnce', WHERE WHAT IT READS IS OF BULK AT MOST 1048576: true; the input reads as it did. -/
def rollOnceUptoRow : OpenClaim := { program := "ytikhffdbjelanaadoor", sum := "600c0e35e6d19d8d0d0ed0285b0b969f20769fb55ba1d8f70f377ea8ec0df941", func := "suffrage/suffragelaw24.RollOnce", spec := "rollOnce", inPlace := ["slices.overlaps[suffrage/api.Voter]"], unfollowed := true, recurses := true, named := ["suffrage/contest.rules"], apart := false, laid := [("suffrage/contest.rules", laid_suffrage_contest_rules)], narrowed := true }
def RollOnceUptoSaid : Prop := rollOnceUptoRow.holds Tryd.pinned (OpenSpec.upto rollOnceSpec)

/-- 'suffragelaw24.RollOthers', WHERE WHAT IT READS IS OF BULK AT MOST 1048576: true; the input reads as it did. -/
def rollOthersUptoRow : OpenClaim := { program := "ytikhffdbjelanaadoor", sum := "600c0e35e6d19d8d0d0ed0285b0b969f20769fb55ba1d8f70f377ea8ec0df941", func := "suffrage/suffragelaw24.RollOthers", spec := "rollOthers", inPlace := ["slices.overlaps[suffrage/api.Voter]"], unfollowed := true, recurses := true, named := ["suffrage/contest.rules"], apart := false, laid := [("suffrage/contest.rules", laid_suffrage_contest_rules)], narrowed := true }
def RollOthersUptoSaid : Prop := rollOthersUptoRow.holds Tryd.pinned (OpenSpec.upto rollOthersSpec)

/-- 'suffragelaw24.RollCounts', WHERE WHAT IT READS IS OF BULK AT MOST 1048576: true; the input reads as it did. -/
def rollCountsUptoRow : OpenClaim := { program := "ytikhffdbjelanaadoor", sum := "600c0e35e6d19d8d0d0ed0285b0b969f20769fb55ba1d8f70f377ea8ec0df941", func := "suffrage/suffragelaw24.RollCounts", spec := "rollCounts", inPlace := ["slices.overlaps[suffrage/api.Voter]"], unfollowed := true, recurses := true, named := ["suffrage/contest.rules"], apart := false, laid := [("suffrage/contest.rules", laid_suffrage_contest_rules)], narrowed := true }
def RollCountsUptoSaid : Prop := rollCountsUptoRow.holds Tryd.pinned (OpenSpec.upto rollCountsSpec)

/-- 'suffragelaw24.RollBack', WHERE WHAT IT READS IS OF BULK AT MOST 1048576: true; the input reads as it did. -/
def rollBackUptoRow : OpenClaim := { program := "ytikhffdbjelanaadoor", sum := "600c0e35e6d19d8d0d0ed0285b0b969f20769fb55ba1d8f70f377ea8ec0df941", func := "suffrage/suffragelaw24.RollBack", spec := "rollBack", inPlace := ["slices.overlaps[suffrage/api.Voter]"], unfollowed := true, recurses := true, named := ["suffrage/contest.rules"], apart := false, laid := [("suffrage/contest.rules", laid_suffrage_contest_rules)], narrowed := true }
def RollBackUptoSaid : Prop := rollBackUptoRow.holds Tryd.pinned (OpenSpec.upto rollBackSpec)

end Rows
end Go.Proofs.YtikhffdbjelanaaDoor
