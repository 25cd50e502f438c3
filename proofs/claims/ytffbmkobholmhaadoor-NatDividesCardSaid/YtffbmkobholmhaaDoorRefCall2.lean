/- The rest of the reference's calls, as the walk of NatDivides asks them. -/
import Derived.Test.YtffbmkobholmhaaDoorRefT
namespace Go.Proofs.YtffbmkobholmhaaDoor
open Go.RowKit
set_option linter.unusedVariables false

section
variable (A1 A2 : Option Addr) (c1 c2 n1 n2 : Nat) (a b : List UInt32) (w : World)
theorem rdiv_c (q r : List UInt32) (er : Int) (hr1 : Hid (Sl w A1 c1 a)) (hr2 : Hid (Sl w A2 c2 b)) (h1 : Hid (a.length = n1)) (h2 : Hid (b.length = n2)) (hq : Hid (divM a b = ((q, r), er))) :
    Calls Tryd.prog 29 #[.slice A1 n1 c1, .slice A2 n2 c2] w fun e w' => Res2P w w' q r er e := by
  refine (rdiv_any A1 A2 c1 c2 n1 n2 a b w hr1.out hr2.out h1.out h2.out).mono fun e w' h => ?_
  rw [hq.out] at h
  exact h
theorem rgcd_c (l : List UInt32) (er : Int) (hr1 : Hid (Sl w A1 c1 a)) (hr2 : Hid (Sl w A2 c2 b)) (h1 : Hid (a.length = n1)) (h2 : Hid (b.length = n2)) (hq : Hid (gcdM a b = (l, er))) :
    Calls Tryd.prog 36 #[.slice A1 n1 c1, .slice A2 n2 c2] w fun e w' => ResP w w' l er e :=
  (rgcd_any A1 A2 c1 c2 n1 n2 a b w hr1.out hr2.out h1.out h2.out).mono fun e w' h => resP_of hq.out h
theorem rtext_c (t : List UInt8) (er : Int) (hr1 : Hid (Sl w A1 c1 a)) (h1 : Hid (a.length = n1)) (hq : Hid (textM a = (t, er))) :
    Calls Tryd.prog 31 #[.slice A1 n1 c1] w fun e w' => e = .returned (.tuple #[.string ⟨t.toArray⟩, .int .i64 er]) ∧ Below w.heap.size w w' := by
  have h := rtext_any A1 c1 n1 a w hr1.out h1.out
  rw [hq.out] at h
  exact h
end
theorem rread_c (s : List UInt8) (w : World) (l : List UInt32) (er : Int) (hl : s.length ≤ 100000) (hq : Hid (readM s = (l, er))) :
    Calls Tryd.prog 33 #[.string ⟨s.toArray⟩] w fun e w' => ResP w w' l er e :=
  (rread_any s w hl).mono fun e w' h => resP_of hq.out h
theorem rlong_c (A : Option Addr) (n c : Nat) (w : World) (v : Bool) (hq : Hid (decide (24 < n ∧ n ≤ 96) = v)) : Calls Tryd.prog 34 #[.slice A n c] w fun e w' => e = .returned (.bool v) ∧ w = w' := by
  have h := rlong_any A n c w
  rw [hq.out] at h
  exact h
end Go.Proofs.YtffbmkobholmhaaDoor
