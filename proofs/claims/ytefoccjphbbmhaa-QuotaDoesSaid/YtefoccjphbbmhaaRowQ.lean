/- An api.Ratio that came in, as the row's reading tells it. -/
import Derived.Test.YtefoccjphbbmhaaQv
import Derived.ProofKit
import Derived.OpenShut
import Derived.ChangeOld
import Derived.SizedLaws
import Derived.Lib.SmallJoins
namespace Go.Proofs.Ytefoccjphbbmhaa
open Go.Joins Go.ChangeShapes Go.WideShapes Go.RowKit Go.Deep Go.ChangeAt
set_option linter.unusedVariables false

theorem open_us' {H : Type} {enc : TypeId × Value → H} {W : World} {n : Nat} {v : Value} {x : DataW H × List MemPlace}
    (h : DataW.trod enc Try.prog W 0 (fun _ => true) true n 25 [v] = some x) : ∃ (A : Option Addr) (c : Nat) (xs : List UInt32), v = .slice A xs.length c ∧ Sl W A c xs := by
  have hv : ∃ A len c, v = .slice A len c := by
    rcases open_ints Try.underlying25 Try.underlying55 (by kernel_rfl) h with ⟨hcs, _⟩ | ⟨ad, l, c, zs, hcs, _⟩
    · exact ⟨none, 0, 0, (List.cons.inj hcs).1⟩
    · exact ⟨some ad, l, c, (List.cons.inj hcs).1⟩
  obtain ⟨A, len, c, rfl⟩ := hv
  obtain ⟨xs, rfl, hs⟩ := open_us h
  exact ⟨A, c, xs, rfl, hs⟩
set_option maxRecDepth 100000 in
theorem open_rq {H : Type} {enc : TypeId × Value → H} {W : World} {r : Reach} {b0 : Nat} {v : Value} {d : DataW H} {p : List MemPlace}
    (hv : Value.okWide Try.prog W r b0 27 v) (h : DataW.Trod enc Try.prog W 0 (fun _ => true) true 27 v d p) : ∃ (x : Rq) (A : Option Addr) (c : Nat) (B : Option Addr) (e : Nat), v = rqv A c B e x ∧ RqS W A c B e x := by
  obtain ⟨v0, v1, v2, y0, y1, y2, n, rfl, rfl, rfl, t0, t1, t2⟩ := open_agg3 Try.underlying27 (by kernel_rfl) (by kernel_rfl) hv h
  obtain ⟨b, hb, _⟩ := DataW.trod_bool Try.underlying4 t0
  obtain rfl := (List.cons.inj hb).1
  obtain ⟨A, c, xs, rfl, h1⟩ := open_us' t1
  obtain ⟨B, e, ys, rfl, h2⟩ := open_us' t2
  exact ⟨⟨b, xs, ys⟩, A, c, B, e, rfl, h1, h2⟩
end Go.Proofs.Ytefoccjphbbmhaa
