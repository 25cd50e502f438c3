/- The order in which the last statement of the law's examples may be worked out. Written by tools/wakes17.py. -/
import Derived.Test.YtefoccjphbbmhaaQf
import Derived.StillTailTactics
import Derived.Deep.RegionWith
namespace Go.Proofs.Ytefoccjphbbmhaa
open Go.RowKit
set_option linter.unusedVariables false

/-- The operations of the statement. -/
def opsW : Array Oper := ([{ dst := some 95, op := Op.move (Operand.tmp 2), type := 22, pos := "law.go:35", after := #[], guard := none },
  { dst := some 96, op := Op.binOp BinOp.eql 22 (Operand.tmp 95) (Operand.const (Value.int IntKind.i64 0)) 22, type := 4, pos := "law.go:35", after := #[{ on := 0, ground := Ground.data }], guard := none },
  { dst := some 97, op := Op.move (Operand.tmp 96), type := 4, pos := "law.go:35", after := #[{ on := 1, ground := Ground.data }], guard := none },
  { dst := some 98, op := Op.move (Operand.tmp 1), type := 3, pos := "law.go:35", after := #[{ on := 2, ground := Ground.guard }], guard := some (2, true) },
  { dst := some 99, op := Op.binOp BinOp.eql 3 (Operand.tmp 98) (Operand.const (Value.int IntKind.i64 26)) 3, type := 4, pos := "law.go:35", after := #[{ on := 3, ground := Ground.data }, { on := 2, ground := Ground.guard }], guard := some (2, true) },
  { dst := some 100, op := Op.pick (Operand.tmp 97) (Operand.tmp 99) (Operand.const (Value.bool false)), type := 4, pos := "law.go:35", after := #[{ on := 2, ground := Ground.data }, { on := 4, ground := Ground.data }], guard := none },
  { dst := some 101, op := Op.move (Operand.tmp 100), type := 4, pos := "law.go:35", after := #[{ on := 5, ground := Ground.data }, { on := 2, ground := Ground.chain }], guard := none },
  { dst := some 102, op := Op.move (Operand.tmp 4), type := 22, pos := "law.go:35", after := #[{ on := 6, ground := Ground.guard }], guard := some (6, true) },
  { dst := some 103, op := Op.binOp BinOp.eql 22 (Operand.tmp 102) (Operand.const (Value.int IntKind.i64 0)) 22, type := 4, pos := "law.go:35", after := #[{ on := 7, ground := Ground.data }, { on := 6, ground := Ground.guard }], guard := some (6, true) },
  { dst := some 104, op := Op.pick (Operand.tmp 101) (Operand.tmp 103) (Operand.const (Value.bool false)), type := 4, pos := "law.go:35", after := #[{ on := 6, ground := Ground.data }, { on := 8, ground := Ground.data }], guard := none },
  { dst := some 105, op := Op.move (Operand.tmp 104), type := 4, pos := "law.go:35", after := #[{ on := 9, ground := Ground.data }, { on := 6, ground := Ground.chain }], guard := none },
  { dst := some 106, op := Op.load 27 (Operand.tmp 3), type := 27, pos := "law.go:35", after := #[{ on := 10, ground := Ground.guard }], guard := some (10, true) },
  { dst := some 107, op := Op.call { callee := Callee.value (Operand.func 32), args := #[Operand.const (Value.int IntKind.i64 100), Operand.const (Value.int IntKind.i64 3)], argTypes := #[2, 2] }, type := 27, pos := "law.go:35", after := #[{ on := 10, ground := Ground.chain }, { on := 10, ground := Ground.guard }], guard := some (10, true) },
  { dst := some 108, op := Op.call { callee := Callee.value (Operand.func 13), args := #[Operand.tmp 106, Operand.tmp 107], argTypes := #[27, 27] }, type := 4, pos := "law.go:35", after := #[{ on := 11, ground := Ground.data }, { on := 12, ground := Ground.data }, { on := 12, ground := Ground.chain }, { on := 10, ground := Ground.guard }], guard := some (10, true) },
  { dst := some 109, op := Op.pick (Operand.tmp 105) (Operand.tmp 108) (Operand.const (Value.bool false)), type := 4, pos := "law.go:35", after := #[{ on := 10, ground := Ground.data }, { on := 13, ground := Ground.data }], guard := none },
  { dst := some 110, op := Op.move (Operand.tmp 109), type := 4, pos := "law.go:35", after := #[{ on := 14, ground := Ground.data }, { on := 13, ground := Ground.chain }], guard := none },
  { dst := some 111, op := Op.move (Operand.tmp 6), type := 22, pos := "law.go:35", after := #[{ on := 15, ground := Ground.guard }], guard := some (15, true) },
  { dst := some 112, op := Op.binOp BinOp.eql 22 (Operand.tmp 111) (Operand.const (Value.int IntKind.i64 0)) 22, type := 4, pos := "law.go:35", after := #[{ on := 16, ground := Ground.data }, { on := 15, ground := Ground.guard }], guard := some (15, true) },
  { dst := some 113, op := Op.pick (Operand.tmp 110) (Operand.tmp 112) (Operand.const (Value.bool false)), type := 4, pos := "law.go:35", after := #[{ on := 15, ground := Ground.data }, { on := 17, ground := Ground.data }], guard := none },
  { dst := some 114, op := Op.move (Operand.tmp 113), type := 4, pos := "law.go:35", after := #[{ on := 18, ground := Ground.data }, { on := 15, ground := Ground.chain }], guard := none },
  { dst := some 115, op := Op.load 27 (Operand.tmp 5), type := 27, pos := "law.go:35", after := #[{ on := 19, ground := Ground.guard }], guard := some (19, true) },
  { dst := some 116, op := Op.call { callee := Callee.value (Operand.func 32), args := #[Operand.const (Value.int IntKind.i64 25), Operand.const (Value.int IntKind.i64 1)], argTypes := #[2, 2] }, type := 27, pos := "law.go:35", after := #[{ on := 19, ground := Ground.chain }, { on := 19, ground := Ground.guard }], guard := some (19, true) },
  { dst := some 117, op := Op.call { callee := Callee.value (Operand.func 13), args := #[Operand.tmp 115, Operand.tmp 116], argTypes := #[27, 27] }, type := 4, pos := "law.go:35", after := #[{ on := 20, ground := Ground.data }, { on := 21, ground := Ground.data }, { on := 21, ground := Ground.chain }, { on := 19, ground := Ground.guard }], guard := some (19, true) },
  { dst := some 118, op := Op.pick (Operand.tmp 114) (Operand.tmp 117) (Operand.const (Value.bool false)), type := 4, pos := "law.go:35", after := #[{ on := 19, ground := Ground.data }, { on := 22, ground := Ground.data }], guard := none },
  { dst := some 119, op := Op.move (Operand.tmp 118), type := 4, pos := "law.go:35", after := #[{ on := 23, ground := Ground.data }, { on := 22, ground := Ground.chain }], guard := none },
  { dst := some 120, op := Op.move (Operand.tmp 8), type := 22, pos := "law.go:35", after := #[{ on := 24, ground := Ground.guard }], guard := some (24, true) },
  { dst := some 121, op := Op.binOp BinOp.eql 22 (Operand.tmp 120) (Operand.const (Value.int IntKind.i64 2)) 22, type := 4, pos := "law.go:35", after := #[{ on := 25, ground := Ground.data }, { on := 24, ground := Ground.guard }], guard := some (24, true) },
  { dst := some 122, op := Op.pick (Operand.tmp 119) (Operand.tmp 121) (Operand.const (Value.bool false)), type := 4, pos := "law.go:35", after := #[{ on := 24, ground := Ground.data }, { on := 26, ground := Ground.data }], guard := none },
  { dst := some 123, op := Op.move (Operand.tmp 122), type := 4, pos := "law.go:35", after := #[{ on := 27, ground := Ground.data }, { on := 24, ground := Ground.chain }], guard := none },
  { dst := some 124, op := Op.move (Operand.tmp 10), type := 22, pos := "law.go:35", after := #[{ on := 28, ground := Ground.guard }], guard := some (28, true) },
  { dst := some 125, op := Op.binOp BinOp.eql 22 (Operand.tmp 124) (Operand.const (Value.int IntKind.i64 2)) 22, type := 4, pos := "law.go:35", after := #[{ on := 29, ground := Ground.data }, { on := 28, ground := Ground.guard }], guard := some (28, true) },
  { dst := some 126, op := Op.pick (Operand.tmp 123) (Operand.tmp 125) (Operand.const (Value.bool false)), type := 4, pos := "law.go:35", after := #[{ on := 28, ground := Ground.data }, { on := 30, ground := Ground.data }], guard := none },
  { dst := some 127, op := Op.move (Operand.tmp 126), type := 4, pos := "law.go:35", after := #[{ on := 31, ground := Ground.data }, { on := 28, ground := Ground.chain }], guard := none },
  { dst := some 128, op := Op.move (Operand.tmp 12), type := 22, pos := "law.go:35", after := #[{ on := 32, ground := Ground.guard }], guard := some (32, true) },
  { dst := some 129, op := Op.binOp BinOp.eql 22 (Operand.tmp 128) (Operand.const (Value.int IntKind.i64 0)) 22, type := 4, pos := "law.go:35", after := #[{ on := 33, ground := Ground.data }, { on := 32, ground := Ground.guard }], guard := some (32, true) },
  { dst := some 130, op := Op.pick (Operand.tmp 127) (Operand.tmp 129) (Operand.const (Value.bool false)), type := 4, pos := "law.go:35", after := #[{ on := 32, ground := Ground.data }, { on := 34, ground := Ground.data }], guard := none },
  { dst := some 131, op := Op.move (Operand.tmp 130), type := 4, pos := "law.go:35", after := #[{ on := 35, ground := Ground.data }, { on := 32, ground := Ground.chain }], guard := none },
  { dst := some 132, op := Op.move (Operand.tmp 11), type := 3, pos := "law.go:35", after := #[{ on := 36, ground := Ground.guard }], guard := some (36, true) },
  { dst := some 133, op := Op.binOp BinOp.eql 3 (Operand.tmp 132) (Operand.const (Value.int IntKind.i64 1)) 3, type := 4, pos := "law.go:35", after := #[{ on := 37, ground := Ground.data }, { on := 36, ground := Ground.guard }], guard := some (36, true) },
  { dst := some 134, op := Op.pick (Operand.tmp 131) (Operand.tmp 133) (Operand.const (Value.bool false)), type := 4, pos := "law.go:35", after := #[{ on := 36, ground := Ground.data }, { on := 38, ground := Ground.data }], guard := none },
  { dst := some 135, op := Op.move (Operand.tmp 134), type := 4, pos := "law.go:35", after := #[{ on := 39, ground := Ground.data }, { on := 36, ground := Ground.chain }], guard := none },
  { dst := some 136, op := Op.move (Operand.tmp 14), type := 22, pos := "law.go:35", after := #[{ on := 40, ground := Ground.guard }], guard := some (40, true) },
  { dst := some 137, op := Op.binOp BinOp.eql 22 (Operand.tmp 136) (Operand.const (Value.int IntKind.i64 0)) 22, type := 4, pos := "law.go:35", after := #[{ on := 41, ground := Ground.data }, { on := 40, ground := Ground.guard }], guard := some (40, true) },
  { dst := some 138, op := Op.pick (Operand.tmp 135) (Operand.tmp 137) (Operand.const (Value.bool false)), type := 4, pos := "law.go:35", after := #[{ on := 40, ground := Ground.data }, { on := 42, ground := Ground.data }], guard := none },
  { dst := some 139, op := Op.move (Operand.tmp 138), type := 4, pos := "law.go:35", after := #[{ on := 43, ground := Ground.data }, { on := 40, ground := Ground.chain }], guard := none },
  { dst := some 140, op := Op.move (Operand.tmp 13), type := 3, pos := "law.go:35", after := #[{ on := 44, ground := Ground.guard }], guard := some (44, true) },
  { dst := some 141, op := Op.binOp BinOp.eql 3 (Operand.tmp 140) (Operand.const (Value.int IntKind.i64 2)) 3, type := 4, pos := "law.go:35", after := #[{ on := 45, ground := Ground.data }, { on := 44, ground := Ground.guard }], guard := some (44, true) },
  { dst := some 142, op := Op.pick (Operand.tmp 139) (Operand.tmp 141) (Operand.const (Value.bool false)), type := 4, pos := "law.go:35", after := #[{ on := 44, ground := Ground.data }, { on := 46, ground := Ground.data }], guard := none },
  { dst := some 143, op := Op.move (Operand.tmp 142), type := 4, pos := "law.go:35", after := #[{ on := 47, ground := Ground.data }, { on := 44, ground := Ground.chain }], guard := none },
  { dst := some 144, op := Op.move (Operand.tmp 16), type := 22, pos := "law.go:35", after := #[{ on := 48, ground := Ground.guard }], guard := some (48, true) },
  { dst := some 145, op := Op.binOp BinOp.eql 22 (Operand.tmp 144) (Operand.const (Value.int IntKind.i64 0)) 22, type := 4, pos := "law.go:35", after := #[{ on := 49, ground := Ground.data }, { on := 48, ground := Ground.guard }], guard := some (48, true) },
  { dst := some 146, op := Op.pick (Operand.tmp 143) (Operand.tmp 145) (Operand.const (Value.bool false)), type := 4, pos := "law.go:35", after := #[{ on := 48, ground := Ground.data }, { on := 50, ground := Ground.data }], guard := none },
  { dst := some 147, op := Op.move (Operand.tmp 146), type := 4, pos := "law.go:35", after := #[{ on := 51, ground := Ground.data }, { on := 48, ground := Ground.chain }], guard := none },
  { dst := some 148, op := Op.move (Operand.tmp 15), type := 3, pos := "law.go:35", after := #[{ on := 52, ground := Ground.guard }], guard := some (52, true) },
  { dst := some 149, op := Op.binOp BinOp.eql 3 (Operand.tmp 148) (Operand.const (Value.int IntKind.i64 666666666)) 3, type := 4, pos := "law.go:35", after := #[{ on := 53, ground := Ground.data }, { on := 52, ground := Ground.guard }], guard := some (52, true) },
  { dst := some 150, op := Op.pick (Operand.tmp 147) (Operand.tmp 149) (Operand.const (Value.bool false)), type := 4, pos := "law.go:35", after := #[{ on := 52, ground := Ground.data }, { on := 54, ground := Ground.data }], guard := none },
  { dst := some 151, op := Op.move (Operand.tmp 150), type := 4, pos := "law.go:35", after := #[{ on := 55, ground := Ground.data }, { on := 52, ground := Ground.chain }], guard := none },
  { dst := some 152, op := Op.move (Operand.tmp 18), type := 22, pos := "law.go:35", after := #[{ on := 56, ground := Ground.guard }], guard := some (56, true) },
  { dst := some 153, op := Op.binOp BinOp.eql 22 (Operand.tmp 152) (Operand.const (Value.int IntKind.i64 40)) 22, type := 4, pos := "law.go:35", after := #[{ on := 57, ground := Ground.data }, { on := 56, ground := Ground.guard }], guard := some (56, true) },
  { dst := some 154, op := Op.pick (Operand.tmp 151) (Operand.tmp 153) (Operand.const (Value.bool false)), type := 4, pos := "law.go:35", after := #[{ on := 56, ground := Ground.data }, { on := 58, ground := Ground.data }], guard := none },
  { dst := some 155, op := Op.move (Operand.tmp 154), type := 4, pos := "law.go:35", after := #[{ on := 59, ground := Ground.data }, { on := 56, ground := Ground.chain }], guard := none },
  { dst := some 156, op := Op.move (Operand.tmp 20), type := 22, pos := "law.go:35", after := #[{ on := 60, ground := Ground.guard }], guard := some (60, true) },
  { dst := some 157, op := Op.binOp BinOp.eql 22 (Operand.tmp 156) (Operand.const (Value.int IntKind.i64 30)) 22, type := 4, pos := "law.go:35", after := #[{ on := 61, ground := Ground.data }, { on := 60, ground := Ground.guard }], guard := some (60, true) },
  { dst := some 158, op := Op.pick (Operand.tmp 155) (Operand.tmp 157) (Operand.const (Value.bool false)), type := 4, pos := "law.go:35", after := #[{ on := 60, ground := Ground.data }, { on := 62, ground := Ground.data }], guard := none },
  { dst := some 159, op := Op.move (Operand.tmp 158), type := 4, pos := "law.go:35", after := #[{ on := 63, ground := Ground.data }, { on := 60, ground := Ground.chain }], guard := none },
  { dst := some 160, op := Op.move (Operand.tmp 22), type := 22, pos := "law.go:35", after := #[{ on := 64, ground := Ground.guard }], guard := some (64, true) },
  { dst := some 161, op := Op.binOp BinOp.eql 22 (Operand.tmp 160) (Operand.const (Value.int IntKind.i64 0)) 22, type := 4, pos := "law.go:35", after := #[{ on := 65, ground := Ground.data }, { on := 64, ground := Ground.guard }], guard := some (64, true) },
  { dst := some 162, op := Op.pick (Operand.tmp 159) (Operand.tmp 161) (Operand.const (Value.bool false)), type := 4, pos := "law.go:35", after := #[{ on := 64, ground := Ground.data }, { on := 66, ground := Ground.data }], guard := none },
  { dst := some 163, op := Op.move (Operand.tmp 162), type := 4, pos := "law.go:35", after := #[{ on := 67, ground := Ground.data }, { on := 64, ground := Ground.chain }], guard := none },
  { dst := some 164, op := Op.load 27 (Operand.tmp 21), type := 27, pos := "law.go:35", after := #[{ on := 68, ground := Ground.guard }], guard := some (68, true) },
  { dst := some 165, op := Op.call { callee := Callee.value (Operand.func 32), args := #[Operand.const (Value.int IntKind.i64 1), Operand.const (Value.int IntKind.i64 2)], argTypes := #[2, 2] }, type := 27, pos := "law.go:35", after := #[{ on := 68, ground := Ground.chain }, { on := 68, ground := Ground.guard }], guard := some (68, true) },
  { dst := some 166, op := Op.call { callee := Callee.value (Operand.func 13), args := #[Operand.tmp 164, Operand.tmp 165], argTypes := #[27, 27] }, type := 4, pos := "law.go:35", after := #[{ on := 69, ground := Ground.data }, { on := 70, ground := Ground.data }, { on := 70, ground := Ground.chain }, { on := 68, ground := Ground.guard }], guard := some (68, true) },
  { dst := some 167, op := Op.pick (Operand.tmp 163) (Operand.tmp 166) (Operand.const (Value.bool false)), type := 4, pos := "law.go:35", after := #[{ on := 68, ground := Ground.data }, { on := 71, ground := Ground.data }], guard := none },
  { dst := some 168, op := Op.move (Operand.tmp 167), type := 4, pos := "law.go:35", after := #[{ on := 72, ground := Ground.data }, { on := 71, ground := Ground.chain }], guard := none },
  { dst := some 169, op := Op.move (Operand.tmp 24), type := 22, pos := "law.go:35", after := #[{ on := 73, ground := Ground.guard }], guard := some (73, true) },
  { dst := some 170, op := Op.binOp BinOp.eql 22 (Operand.tmp 169) (Operand.const (Value.int IntKind.i64 0)) 22, type := 4, pos := "law.go:35", after := #[{ on := 74, ground := Ground.data }, { on := 73, ground := Ground.guard }], guard := some (73, true) },
  { dst := some 171, op := Op.pick (Operand.tmp 168) (Operand.tmp 170) (Operand.const (Value.bool false)), type := 4, pos := "law.go:35", after := #[{ on := 73, ground := Ground.data }, { on := 75, ground := Ground.data }], guard := none },
  { dst := some 172, op := Op.move (Operand.tmp 171), type := 4, pos := "law.go:35", after := #[{ on := 76, ground := Ground.data }, { on := 73, ground := Ground.chain }], guard := none },
  { dst := some 173, op := Op.move (Operand.tmp 23), type := 3, pos := "law.go:35", after := #[{ on := 77, ground := Ground.guard }], guard := some (77, true) },
  { dst := some 174, op := Op.binOp BinOp.eql 3 (Operand.tmp 173) (Operand.const (Value.int IntKind.i64 666666666)) 3, type := 4, pos := "law.go:35", after := #[{ on := 78, ground := Ground.data }, { on := 77, ground := Ground.guard }], guard := some (77, true) },
  { dst := some 175, op := Op.pick (Operand.tmp 172) (Operand.tmp 174) (Operand.const (Value.bool false)), type := 4, pos := "law.go:35", after := #[{ on := 77, ground := Ground.data }, { on := 79, ground := Ground.data }], guard := none },
  { dst := some 176, op := Op.move (Operand.tmp 175), type := 4, pos := "law.go:35", after := #[{ on := 80, ground := Ground.data }, { on := 77, ground := Ground.chain }], guard := none },
  { dst := some 177, op := Op.move (Operand.tmp 26), type := 22, pos := "law.go:35", after := #[{ on := 81, ground := Ground.guard }], guard := some (81, true) },
  { dst := some 178, op := Op.binOp BinOp.eql 22 (Operand.tmp 177) (Operand.const (Value.int IntKind.i64 2)) 22, type := 4, pos := "law.go:35", after := #[{ on := 82, ground := Ground.data }, { on := 81, ground := Ground.guard }], guard := some (81, true) },
  { dst := some 179, op := Op.pick (Operand.tmp 176) (Operand.tmp 178) (Operand.const (Value.bool false)), type := 4, pos := "law.go:35", after := #[{ on := 81, ground := Ground.data }, { on := 83, ground := Ground.data }], guard := none },
  { dst := some 180, op := Op.move (Operand.tmp 179), type := 4, pos := "law.go:35", after := #[{ on := 84, ground := Ground.data }, { on := 81, ground := Ground.chain }], guard := none },
  { dst := some 181, op := Op.move (Operand.tmp 28), type := 22, pos := "law.go:35", after := #[{ on := 85, ground := Ground.guard }], guard := some (85, true) },
  { dst := some 182, op := Op.binOp BinOp.eql 22 (Operand.tmp 181) (Operand.const (Value.int IntKind.i64 30)) 22, type := 4, pos := "law.go:35", after := #[{ on := 86, ground := Ground.data }, { on := 85, ground := Ground.guard }], guard := some (85, true) },
  { dst := some 183, op := Op.pick (Operand.tmp 180) (Operand.tmp 182) (Operand.const (Value.bool false)), type := 4, pos := "law.go:35", after := #[{ on := 85, ground := Ground.data }, { on := 87, ground := Ground.data }], guard := none },
  { dst := some 184, op := Op.move (Operand.tmp 183), type := 4, pos := "law.go:35", after := #[{ on := 88, ground := Ground.data }, { on := 85, ground := Ground.chain }], guard := none },
  { dst := some 185, op := Op.move (Operand.tmp 30), type := 22, pos := "law.go:35", after := #[{ on := 89, ground := Ground.guard }], guard := some (89, true) },
  { dst := some 186, op := Op.binOp BinOp.eql 22 (Operand.tmp 185) (Operand.const (Value.int IntKind.i64 0)) 22, type := 4, pos := "law.go:35", after := #[{ on := 90, ground := Ground.data }, { on := 89, ground := Ground.guard }], guard := some (89, true) },
  { dst := some 187, op := Op.pick (Operand.tmp 184) (Operand.tmp 186) (Operand.const (Value.bool false)), type := 4, pos := "law.go:35", after := #[{ on := 89, ground := Ground.data }, { on := 91, ground := Ground.data }], guard := none },
  { dst := some 188, op := Op.move (Operand.tmp 187), type := 4, pos := "law.go:35", after := #[{ on := 92, ground := Ground.data }, { on := 89, ground := Ground.chain }], guard := none },
  { dst := some 189, op := Op.move (Operand.tmp 29), type := 3, pos := "law.go:35", after := #[{ on := 93, ground := Ground.guard }], guard := some (93, true) },
  { dst := some 190, op := Op.binOp BinOp.eql 3 (Operand.tmp 189) (Operand.const (Value.int IntKind.i64 1000000000000000)) 3, type := 4, pos := "law.go:35", after := #[{ on := 94, ground := Ground.data }, { on := 93, ground := Ground.guard }], guard := some (93, true) },
  { dst := some 191, op := Op.pick (Operand.tmp 188) (Operand.tmp 190) (Operand.const (Value.bool false)), type := 4, pos := "law.go:35", after := #[{ on := 93, ground := Ground.data }, { on := 95, ground := Ground.data }], guard := none },
  { dst := some 0, op := Op.assign (Operand.tmp 191), type := 4, pos := "law.go:35", after := ([{ on := 96, ground := Ground.data }, { on := 93, ground := Ground.chain }, { on := 0, ground := Ground.phase }, { on := 1, ground := Ground.phase }, { on := 2, ground := Ground.phase }, { on := 3, ground := Ground.phase }, { on := 4, ground := Ground.phase }, { on := 5, ground := Ground.phase }, { on := 6, ground := Ground.phase }, { on := 7, ground := Ground.phase }, { on := 8, ground := Ground.phase }, { on := 9, ground := Ground.phase }, { on := 10, ground := Ground.phase }, { on := 11, ground := Ground.phase }, { on := 12, ground := Ground.phase }, { on := 13, ground := Ground.phase }, { on := 14, ground := Ground.phase }, { on := 15, ground := Ground.phase }, { on := 16, ground := Ground.phase }, { on := 17, ground := Ground.phase }, { on := 18, ground := Ground.phase }, { on := 19, ground := Ground.phase }, { on := 20, ground := Ground.phase }, { on := 21, ground := Ground.phase }, { on := 22, ground := Ground.phase }, { on := 23, ground := Ground.phase }, { on := 24, ground := Ground.phase }, { on := 25, ground := Ground.phase }, { on := 26, ground := Ground.phase }, { on := 27, ground := Ground.phase }, { on := 28, ground := Ground.phase }, { on := 29, ground := Ground.phase }, { on := 30, ground := Ground.phase }, { on := 31, ground := Ground.phase }, { on := 32, ground := Ground.phase }, { on := 33, ground := Ground.phase }, { on := 34, ground := Ground.phase }, { on := 35, ground := Ground.phase }, { on := 36, ground := Ground.phase }, { on := 37, ground := Ground.phase }, { on := 38, ground := Ground.phase }, { on := 39, ground := Ground.phase }, { on := 40, ground := Ground.phase }, { on := 41, ground := Ground.phase }, { on := 42, ground := Ground.phase }, { on := 43, ground := Ground.phase }, { on := 44, ground := Ground.phase }, { on := 45, ground := Ground.phase }, { on := 46, ground := Ground.phase }].append [{ on := 47, ground := Ground.phase }, { on := 48, ground := Ground.phase }, { on := 49, ground := Ground.phase }, { on := 50, ground := Ground.phase }, { on := 51, ground := Ground.phase }, { on := 52, ground := Ground.phase }, { on := 53, ground := Ground.phase }, { on := 54, ground := Ground.phase }, { on := 55, ground := Ground.phase }, { on := 56, ground := Ground.phase }, { on := 57, ground := Ground.phase }, { on := 58, ground := Ground.phase }, { on := 59, ground := Ground.phase }, { on := 60, ground := Ground.phase }, { on := 61, ground := Ground.phase }, { on := 62, ground := Ground.phase }, { on := 63, ground := Ground.phase }, { on := 64, ground := Ground.phase }, { on := 65, ground := Ground.phase }, { on := 66, ground := Ground.phase }, { on := 67, ground := Ground.phase }, { on := 68, ground := Ground.phase }, { on := 69, ground := Ground.phase }, { on := 70, ground := Ground.phase }, { on := 71, ground := Ground.phase }, { on := 72, ground := Ground.phase }, { on := 73, ground := Ground.phase }, { on := 74, ground := Ground.phase }, { on := 75, ground := Ground.phase }, { on := 76, ground := Ground.phase }, { on := 77, ground := Ground.phase }, { on := 78, ground := Ground.phase }, { on := 79, ground := Ground.phase }, { on := 80, ground := Ground.phase }, { on := 81, ground := Ground.phase }, { on := 82, ground := Ground.phase }, { on := 83, ground := Ground.phase }, { on := 84, ground := Ground.phase }, { on := 85, ground := Ground.phase }, { on := 86, ground := Ground.phase }, { on := 87, ground := Ground.phase }, { on := 88, ground := Ground.phase }, { on := 89, ground := Ground.phase }, { on := 90, ground := Ground.phase }, { on := 91, ground := Ground.phase }, { on := 92, ground := Ground.phase }, { on := 93, ground := Ground.phase }, { on := 94, ground := Ground.phase }, { on := 95, ground := Ground.phase }, { on := 96, ground := Ground.phase }] : List Edge).toArray, guard := none }] : List Oper).toArray
/-- The first k of them are done. -/
def lW (k : Nat) : Array Bool := ((List.range 98).map fun j => decide (j < k)).toArray
def okW (i : Nat) : Bool := Region.free .any opsW (lW i) i && (Region.ready .any opsW (lW i)).contains i && ((lW i).setIfInBounds i true == lW (i + 1))
theorem chunkW_0 : (List.range' 0 7).all okW = true := by kernel_rfl
theorem chunkW_1 : (List.range' 7 7).all okW = true := by kernel_rfl
theorem chunkW_2 : (List.range' 14 7).all okW = true := by kernel_rfl
theorem chunkW_3 : (List.range' 21 7).all okW = true := by kernel_rfl
theorem chunkW_4 : (List.range' 28 7).all okW = true := by kernel_rfl
theorem chunkW_5 : (List.range' 35 7).all okW = true := by kernel_rfl
theorem chunkW_6 : (List.range' 42 7).all okW = true := by kernel_rfl
theorem chunkW_7 : (List.range' 49 7).all okW = true := by kernel_rfl
theorem chunkW_8 : (List.range' 56 7).all okW = true := by kernel_rfl
theorem chunkW_9 : (List.range' 63 7).all okW = true := by kernel_rfl
theorem chunkW_10 : (List.range' 70 7).all okW = true := by kernel_rfl
theorem chunkW_11 : (List.range' 77 7).all okW = true := by kernel_rfl
theorem chunkW_12 : (List.range' 84 7).all okW = true := by kernel_rfl
theorem chunkW_13 : (List.range' 91 7).all okW = true := by kernel_rfl
theorem factW (i : Nat) (h : i < 98) : okW i = true := by
  rcases (show (0 ≤ i ∧ i < 7) ∨ (7 ≤ i ∧ i < 14) ∨ (14 ≤ i ∧ i < 21) ∨ (21 ≤ i ∧ i < 28) ∨ (28 ≤ i ∧ i < 35) ∨ (35 ≤ i ∧ i < 42) ∨ (42 ≤ i ∧ i < 49) ∨ (49 ≤ i ∧ i < 56) ∨ (56 ≤ i ∧ i < 63) ∨ (63 ≤ i ∧ i < 70) ∨ (70 ≤ i ∧ i < 77) ∨ (77 ≤ i ∧ i < 84) ∨ (84 ≤ i ∧ i < 91) ∨ (91 ≤ i ∧ i < 98) by omega) with h | h | h | h | h | h | h | h | h | h | h | h | h | h
  · exact List.all_eq_true.1 chunkW_0 i (List.mem_range'_1.2 ⟨h.1, h.2⟩)
  · exact List.all_eq_true.1 chunkW_1 i (List.mem_range'_1.2 ⟨h.1, h.2⟩)
  · exact List.all_eq_true.1 chunkW_2 i (List.mem_range'_1.2 ⟨h.1, h.2⟩)
  · exact List.all_eq_true.1 chunkW_3 i (List.mem_range'_1.2 ⟨h.1, h.2⟩)
  · exact List.all_eq_true.1 chunkW_4 i (List.mem_range'_1.2 ⟨h.1, h.2⟩)
  · exact List.all_eq_true.1 chunkW_5 i (List.mem_range'_1.2 ⟨h.1, h.2⟩)
  · exact List.all_eq_true.1 chunkW_6 i (List.mem_range'_1.2 ⟨h.1, h.2⟩)
  · exact List.all_eq_true.1 chunkW_7 i (List.mem_range'_1.2 ⟨h.1, h.2⟩)
  · exact List.all_eq_true.1 chunkW_8 i (List.mem_range'_1.2 ⟨h.1, h.2⟩)
  · exact List.all_eq_true.1 chunkW_9 i (List.mem_range'_1.2 ⟨h.1, h.2⟩)
  · exact List.all_eq_true.1 chunkW_10 i (List.mem_range'_1.2 ⟨h.1, h.2⟩)
  · exact List.all_eq_true.1 chunkW_11 i (List.mem_range'_1.2 ⟨h.1, h.2⟩)
  · exact List.all_eq_true.1 chunkW_12 i (List.mem_range'_1.2 ⟨h.1, h.2⟩)
  · exact List.all_eq_true.1 chunkW_13 i (List.mem_range'_1.2 ⟨h.1, h.2⟩)
theorem noSelW : Region.noSelect opsW = true := by kernel_rfl
theorem sizeW : opsW.size = 98 := by kernel_rfl
theorem startW : Array.replicate 98 false = lW 0 := by kernel_rfl
theorem doneW : Region.ready .any opsW (lW 98) = [] := by kernel_rfl
theorem setW (i : Nat) (h : i < 98) : (lW i).setIfInBounds i true = lW (i + 1) := by
  have := factW i h
  simp only [okW, Bool.and_eq_true, beq_iff_eq] at this
  exact this.2
theorem readyW_12 : Region.ready .any opsW (lW 12) = [12] := by kernel_rfl
theorem readyW_13 : Region.ready .any opsW (lW 13) = [13] := by kernel_rfl
theorem readyW_21 : Region.ready .any opsW (lW 21) = [21] := by kernel_rfl
theorem readyW_22 : Region.ready .any opsW (lW 22) = [22] := by kernel_rfl
theorem readyW_70 : Region.ready .any opsW (lW 70) = [70] := by kernel_rfl
theorem readyW_71 : Region.ready .any opsW (lW 71) = [71] := by kernel_rfl
theorem takeW {Q : Exit → Act → World → Prop} {S : World → Prop} {i : Nat} {oi : Oper} {v : Value} {fuel : Nat} {a : Act} {w : World} (h98 : i < 98) (hi : opsW[i]? = some oi)
    (hQ : ∀ c a w, Q (.panic c) (a.put oi.dst v) w → Q (.panic c) a w) (hy : YieldsIf Try.prog opsW S oi v a) (hS : S w)
    (h : wpAnyH Try.prog .any opsW Q S fuel (lW (i + 1)) (a.put oi.dst v) w) : wpAnyH Try.prog .any opsW Q S (fuel + 1) (lW i) a w := by
  have := factW i h98
  simp only [okW, Bool.and_eq_true, beq_iff_eq] at this
  exact wpAnyH_take hi noSelW this.1.1 this.1.2 hQ hy hS (by rw [this.2]; exact h)
theorem regionW {Q : Exit → Act → World → Prop} {S : World → Prop} {id : Nat} {a : Act} {w : World} (hS : S w.drew)
    (h : S w.drew → wpAnyH Try.prog .any opsW Q S 98 (lW 0) a w.drew) : (Code.region id opsW true).wp Try.prog Q a w :=
  wp_region_held_drew (by kernel_rfl) hS (fun hs => by rw [sizeW, startW]; exact h hs)
end Go.Proofs.Ytefoccjphbbmhaa
