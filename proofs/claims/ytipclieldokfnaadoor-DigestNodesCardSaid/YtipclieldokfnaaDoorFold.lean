/- folded. -/
import Derived.Test.YtipclieldokfnaaDoorTold
namespace Go.Proofs.YtipclieldokfnaaDoor
open Go.RowKit
set_option linter.unusedVariables false

theorem wpList_store8 {P : Program} {w : World} {ops : Array Oper} {rest : List Oper} {o : Oper} {ac : Act} {Q : Exit → Act → World → Prop} (hgd : o.guard = none) (ty : TypeId) (x y : Operand) (ho : o.op = .store ty x y)
    (gb : Nat) (a b c d e f g h : UInt32) (hx : ac.eval x = .pointer (some ⟨gb, 0, none⟩))
    (hy : ac.eval y = .agg #[.int .u32 (a.toNat : Int), .int .u32 (b.toNat : Int), .int .u32 (c.toNat : Int), .int .u32 (d.toNat : Int), .int .u32 (e.toNat : Int), .int .u32 (f.toNat : Int), .int .u32 (g.toNat : Int), .int .u32 (h.toNat : Int)])
    {t : Nat} {a0 b0 c0 d0 e0 f0 g0 h0 : UInt32} (hH : Hb uv w gb t [a0, b0, c0, d0, e0, f0, g0, h0]) (hi : (P.info? ty).map (·.size) = some 8)
    (hK : ∀ w', Hb uv w' gb t [a, b, c, d, e, f, g, h] → w.grownBy w' (some gb) → wpList P ops Q rest (ac.put o.dst undef) w') : wpList P ops Q (o :: rest) ac w :=
  wpList_store_cs uv_one hgd ty x y ho gb [a, b, c, d, e, f, g, h] _ rfl hx hy hH hi rfl rfl hK

end Go.Proofs.YtipclieldokfnaaDoor
