/- The reference's k and After. -/
import Derived.Test.YtipclieldokfnaaDoorComp
import Derived.Deep.RegionHeld
namespace Go.Proofs.YtipclieldokfnaaDoor
open Go.RowKit
set_option linter.unusedVariables false
attribute [local go_sem] w_add w_xor w_and w_or w_not w_shr3 w_shr10

theorem wpList_store_kk {P : Program} {α : Type} {f : α → Value} {w : World} (hf : ∀ x, (f x).oneCell' = true) {ops : Array Oper} {rest : List Oper} {o : Oper} {a : Act} {Q : Exit → Act → World → Prop} (hgd : o.guard = none) (ty : TypeId) (x y : Operand) (ho : o.op = .store ty x y)
    (g : Nat) (L : List α) (cs : Array Value) (hcs : (L.map f).toArray = cs) (hx : a.eval x = .pointer (some ⟨g, 0, none⟩)) (hy : a.eval y = .agg cs) {t n : Nat} {L0 : List α} (hH : Hb f w g t L0) (hi : (P.info? ty).map (·.size) = some n)
    (h0 : L0.length = n) (h1 : L.length = n)
    (h : ∀ w', Hb f w' g t L → w.grownBy w' (some g) → wpList P ops Q rest (a.put o.dst undef) w') : wpList P ops Q (o :: rest) a w := by
  subst hcs
  exact wpList_store_hb hf hgd ty x y ho g L hx hy hH hi h0 h1 h

theorem rk_cells : (kk.map uv).toArray = #[.int .u32 1116352408, .int .u32 1899447441, .int .u32 3049323471, .int .u32 3921009573, .int .u32 961987163, .int .u32 1508970993, .int .u32 2453635748, .int .u32 2870763221, .int .u32 3624381080, .int .u32 310598401, .int .u32 607225278, .int .u32 1426881987, .int .u32 1925078388, .int .u32 2162078206, .int .u32 2614888103, .int .u32 3248222580, .int .u32 3835390401, .int .u32 4022224774, .int .u32 264347078, .int .u32 604807628, .int .u32 770255983, .int .u32 1249150122, .int .u32 1555081692, .int .u32 1996064986, .int .u32 2554220882, .int .u32 2821834349, .int .u32 2952996808, .int .u32 3210313671, .int .u32 3336571891, .int .u32 3584528711, .int .u32 113926993, .int .u32 338241895, .int .u32 666307205, .int .u32 773529912, .int .u32 1294757372, .int .u32 1396182291, .int .u32 1695183700, .int .u32 1986661051, .int .u32 2177026350, .int .u32 2456956037, .int .u32 2730485921, .int .u32 2820302411, .int .u32 3259730800, .int .u32 3345764771, .int .u32 3516065817, .int .u32 3600352804, .int .u32 4094571909, .int .u32 275423344, .int .u32 430227734, .int .u32 506948616, .int .u32 659060556, .int .u32 883997877, .int .u32 958139571, .int .u32 1322822218, .int .u32 1537002063, .int .u32 1747873779, .int .u32 1955562222, .int .u32 2024104815, .int .u32 2227730452, .int .u32 2361852424, .int .u32 2428436474, .int .u32 2756734187, .int .u32 3204031479, .int .u32 3329325298] := by kernel_rfl

set_option maxRecDepth 100000 in
set_option maxHeartbeats 1000000 in
theorem rk_any (w : World) : Calls Tryd.prog 71 #[] w fun e w' => e = .returned (aw kk) ∧ Below w.heap.size w w' := by
  go_enter Tryd.func71, Tryd.ntmps71
  go_wp2_with ((with_reducible refine wpList_store_kk uv_one rfl _ (.tmp 0) (.tmp 1) rfl _ kk _ rk_cells rfl rfl (Hb.new uv w _ (List.replicate 64 0) _ zeros64) size64 (List.length_replicate ..) kk_len ?_); intro w3 h3 hg3)
  refine bodyPost_cell (f := uv) (g := w.heap.size) (t := 106) (L := kk) rfl rfl h3 Tryd.underlying106 (by rw [kk_len]; exact size64) rfl ⟨rfl, (below_new w _).grown hg3 (below_new w _).size (fun k e => by cases e; omega)⟩
end Go.Proofs.YtipclieldokfnaaDoor
