/- Each call of the reference, as the walks of the statements ask it. -/
import Derived.Test.YtffbmkobholmhaaDoorRefM
namespace Go.Proofs.YtffbmkobholmhaaDoor
open Go.RowKit
set_option linter.unusedVariables false

section
variable (A1 A2 : Option Addr) (c1 c2 n1 n2 : Nat) (a b : List UInt32) (w : World)
theorem radd_c (l : List UInt32) (er : Int) (hr1 : Hid (Sl w A1 c1 a)) (hr2 : Hid (Sl w A2 c2 b)) (h1 : Hid (a.length = n1)) (h2 : Hid (b.length = n2)) (hq : Hid (addM a b = (l, er))) :
    Calls Tryd.prog 23 #[.slice A1 n1 c1, .slice A2 n2 c2] w fun e w' => ResP w w' l er e := by
  obtain rfl := h1.out
  obtain rfl := h2.out
  exact (radd_any A1 A2 c1 c2 a b w hr1.out hr2.out).mono fun e w' h => resP_of hq.out h
theorem rsub_c (l : List UInt32) (er : Int) (hr1 : Hid (Sl w A1 c1 a)) (hr2 : Hid (Sl w A2 c2 b)) (h1 : Hid (a.length = n1)) (h2 : Hid (b.length = n2)) (hq : Hid (subM a b = (l, er))) :
    Calls Tryd.prog 25 #[.slice A1 n1 c1, .slice A2 n2 c2] w fun e w' => ResP w w' l er e := by
  obtain rfl := h1.out
  obtain rfl := h2.out
  exact (rsub_any A1 A2 c1 c2 a b w hr1.out hr2.out).mono fun e w' h => resP_of hq.out h
theorem rmul_c (l : List UInt32) (er : Int) (hr1 : Hid (Sl w A1 c1 a)) (hr2 : Hid (Sl w A2 c2 b)) (h1 : Hid (a.length = n1)) (h2 : Hid (b.length = n2)) (hq : Hid (mulM a b = (l, er))) :
    Calls Tryd.prog 27 #[.slice A1 n1 c1, .slice A2 n2 c2] w fun e w' => ResP w w' l er e := by
  obtain rfl := h1.out
  obtain rfl := h2.out
  exact (rmul_any A1 A2 c1 c2 a b w hr1.out hr2.out).mono fun e w' h => resP_of hq.out h
theorem rcmp_c (v er : Int) (hr1 : Hid (Sl w A1 c1 a)) (hr2 : Hid (Sl w A2 c2 b)) (h1 : Hid (a.length = n1)) (h2 : Hid (b.length = n2)) (hq : Hid (cmpM a b = (v, er))) :
    Calls Tryd.prog 15 #[.slice A1 n1 c1, .slice A2 n2 c2] w fun e w' => e = .returned (.tuple #[.int .i64 v, .int .i64 er]) ∧ Below w.heap.size w w' := by
  obtain rfl := h1.out
  obtain rfl := h2.out
  have h := rcmp_any A1 A2 c1 c2 a b w hr1.out hr2.out
  rw [hq.out] at h
  exact h
theorem rcheck_c (v : Int) (hr1 : Hid (Sl w A1 c1 a)) (h1 : Hid (a.length = n1)) (hq : Hid (chk a = v)) :
    Calls Tryd.prog 17 #[.slice A1 n1 c1] w fun e w' => e = .returned (.int .i64 v) ∧ w = w' := by
  obtain rfl := h1.out
  have h := rcheck_any A1 c1 _ a w hr1.out
  rw [hq.out] at h
  exact h
theorem rword_c (v : Nat) (er : Int) (hr1 : Hid (Sl w A1 c1 a)) (h1 : Hid (a.length = n1)) (hq : Hid (wordM a = (v, er))) :
    Calls Tryd.prog 13 #[.slice A1 n1 c1] w fun e w' => e = .returned (.tuple #[.int .u64 v, .int .i64 er]) ∧ w = w' := by
  obtain rfl := h1.out
  have h := rword_any A1 c1 _ a w hr1.out
  rw [hq.out] at h
  exact h
end
theorem rof_c (n : Nat) (w : World) (l : List UInt32) (hn : n < 18446744073709551616) (hq : Hid (limbs n = l)) :
    Calls Tryd.prog 21 #[.int .u64 n] w fun e w' => ∃ A c, e = .returned (.slice A l.length c) ∧ Sl w' A c l ∧ Below w.heap.size w w' := by
  obtain rfl := hq.out
  exact rof_any n w hn
end Go.Proofs.YtffbmkobholmhaaDoor
