/- What contest's calls answer, as one premise: T stands for 'the package's own tables hold what their text says'. Each law is proved from it; behind the landed code 'con : Con Tab' is proved. -/
import Derived.Test.YtdjifopdlkppoaaDoorRefSa
namespace Go.Proofs.YtdjifopdlkppoaaDoor
open Go.RowKit
set_option linter.unusedVariables false

/-- What a contest that comes in is known to be. -/
structure CtOk (w : World) (A : Option Addr) (c : Nat) (x : Ct) : Prop where
  rd : Rf sv w w.heap.size A c x.cands
  name : x.name.length ≤ 140737488351232
  cands : ∀ y ∈ x.cands, y.length ≤ 140737488351232
  rule : x.rule ≤ 255
  seats : -9223372036854775808 ≤ x.seats ∧ x.seats ≤ 9223372036854775807
theorem CtOk.below {w w' : World} {A : Option Addr} {c : Nat} {x : Ct} (h : CtOk w A c x) (hb : Below w.heap.size w w') : CtOk w' A c x := ⟨(h.rd.below hb).more hb.size, h.name, h.cands, h.rule, h.seats⟩

/-- A list of bytes and an error: the list is the call's own. -/
def BytesErr7 (w : World) (q : List UInt8 × Int) (e : Ending) (w' : World) : Prop :=
  ∃ (A : Option Addr) (c : Nat) (r : List UInt8) (er : Int), e = .returned (.tuple #[.slice A r.length c, .int .i64 er]) ∧ (r, er) = q ∧ Ow bv w' w.heap.size 5 A c r ∧ Below w.heap.size w w'
/-- A contest and an error: its candidates' list reads. -/
def CtErr7 (w : World) (q : Ct × Int) (e : Ending) (w' : World) : Prop :=
  ∃ (A : Option Addr) (c : Nat) (x : Ct) (er : Int), e = .returned (.tuple #[cv A c x, .int .i64 er]) ∧ (x, er) = q ∧ Rf sv w' w'.heap.size A c x.cands ∧ Below w.heap.size w w'

structure Con (T : World → Prop) : Prop where
  keep : ∀ {w w' : World}, T w → Below w.heap.size w w' → T w'
  check : ∀ (x : Ct) (A : Option Addr) (c : Nat) (w : World), CtOk w A c x → T w → Calls Tryd.prog 12 #[cv A c x] w fun e w' => e = .returned (.int .i64 (checkM x)) ∧ Below w.heap.size w w'
  kind : ∀ (r : Nat) (w : World), r ≤ 255 → T w → Calls Tryd.prog 33 #[.int .u8 r] w fun e w' => e = .returned (.tuple #[.int .u8 ((kindE r).1 : Nat), .int .i64 (kindE r).2]) ∧ Below w.heap.size w w'
  most : ∀ (r : Nat) (n : Int) (w : World), r ≤ 255 → (Lit.int .i64 n).wf = true → T w → Calls Tryd.prog 35 #[.int .u8 r, .int .i64 n] w fun e w' => e = .returned (.tuple #[.int .i64 (mostM r n).1, .int .i64 (mostM r n).2]) ∧ Below w.heap.size w w'
  word : ∀ (r : Nat) (w : World), r ≤ 255 → T w → Calls Tryd.prog 37 #[.int .u8 r] w fun e w' => e = .returned (.tuple #[.string ⟨(wordM r).1.toArray⟩, .int .i64 (wordM r).2]) ∧ Below w.heap.size w w'
  rule : ∀ (y : List UInt8) (w : World), y.length ≤ 140737488351232 → T w → Calls Tryd.prog 23 #[.string ⟨y.toArray⟩] w fun e w' => e = .returned (.tuple #[.int .u8 ((ruleM y).1 : Nat), .int .i64 (ruleM y).2]) ∧ Below w.heap.size w w'
  place : ∀ (x : Ct) (y : List UInt8) (A : Option Addr) (c : Nat) (w : World), CtOk w A c x → y.length ≤ 140737488351232 → T w → Calls Tryd.prog 22 #[cv A c x, .string ⟨y.toArray⟩] w fun e w' => e = .returned (.tuple #[.int .i64 (placeM x y).1, .int .i64 (placeM x y).2]) ∧ Below w.heap.size w w'
  bytes : ∀ (x : Ct) (A : Option Addr) (c : Nat) (w : World), CtOk w A c x → T w → Calls Tryd.prog 40 #[cv A c x] w (BytesErr7 w (bytesM x))
  read : ∀ (l : List UInt8) (A : Option Addr) (c : Nat) (w : World), Rf bv w w.heap.size A c l → l.length ≤ 100000 → T w → Calls Tryd.prog 24 #[.slice A l.length c] w (CtErr7 w (readM l))
  same : ∀ (x y : Ct) (A A2 : Option Addr) (c c2 : Nat) (w : World), CtOk w A c x → CtOk w A2 c2 y → T w → Calls Tryd.prog 31 #[cv A c x, cv A2 c2 y] w fun e w' => e = .returned (.bool (decide (x = y))) ∧ Below w.heap.size w w'
  twin : ∀ (x : Ct) (A : Option Addr) (c : Nat) (w : World), CtOk w A c x → x.cands.length ≤ 1000000 → T w → Calls Tryd.prog 29 #[cv A c x] w fun e w' => ∃ (A' : Option Addr) (c' : Nat), e = .returned (cv A' c' x) ∧ Ow sv w' w.heap.size 9 A' c' x.cands ∧ Below w.heap.size w w'

set_option maxRecDepth 100000 in
set_option maxHeartbeats 1000000 in
theorem contestRules_any {T : World → Prop} (K : Con T) (r : Nat) (n : Int) (y : List UInt8) (w : World) (hr : r ≤ 255) (hn : (Lit.int .i64 n).wf = true) (hy : y.length ≤ 140737488351232) (hT : T w) :
    Calls Tryd.prog 5 #[.int .u8 r, .int .i64 n, .string ⟨y.toArray⟩] w fun e w' => e = .returned (.bool true) ∧ Below w.heap.size w w' := by
  by_cases hb : 1000 < y.length
  · have hbd : decide ((1000 : Int) < (y.length : Int)) = true := by simp; omega
    clear hb
    go_enter Tryd.func5, Tryd.ntmps5
    go_wp2_with fail
    go_ret
    exact ⟨rfl, Below.refl _ _⟩
  · have hbd : decide ((1000 : Int) < (y.length : Int)) = false := by simp; omega
    have HK := Lib.hid K
    have HT := Lib.hid hT
    have HY := Lib.hid (show y.length ≤ 4000000000 by omega)
    obtain ⟨k, e, hk⟩ : ∃ k e, kindE r = (k, e) := ⟨_, _, rfl⟩
    obtain ⟨m, f, hm⟩ : ∃ m f, mostM r n = (m, f) := ⟨_, _, rfl⟩
    obtain ⟨s, g, hs⟩ : ∃ s g, wordM r = (s, g) := ⟨_, _, rfl⟩
    obtain ⟨u, h, hu⟩ : ∃ u h, ruleM y = (u, h) := ⟨_, _, rfl⟩
    have C1 := Lib.hid (fun wx h => K.kind r wx hr h)
    have C2 := Lib.hid (fun wx => refKind_any r wx hr)
    have C3 := Lib.hid (fun wx h => K.most r n wx hr hn h)
    have C4 := Lib.hid (fun wx => refMost_any r n wx hr hn)
    have C5 := Lib.hid (fun wx h => K.word r wx hr h)
    have C6 := Lib.hid (fun wx => refWord_any r wx hr)
    have C7 := Lib.hid (fun wx h => K.rule y wx hy h)
    have C8 := Lib.hid (fun wx => refRule_any y wx HY.out)
    rw [hk] at C1 C2
    rw [hm] at C3 C4
    rw [hs] at C5 C6
    rw [hu] at C7 C8
    have HR := Lib.hid hr
    clear hb hk hm hs hu hr hn hy hT K
    go_enter Tryd.func5, Tryd.ntmps5
    go_wp2_with fail
    refine (C1.out _ HT.out).mono ?_
    rintro e w1 ⟨rfl, hb1⟩
    have B1 := Lib.hid hb1
    clear hb1
    go_wp2_with fail
    refine (C2.out _).mono ?_
    rintro e w2 ⟨rfl, rfl⟩
    go_wp2_with fail
    refine (C3.out _ (HK.out.keep HT.out B1.out)).mono ?_
    rintro e w3 ⟨rfl, hb⟩
    have B3 := Lib.hid (B1.out.trans (hb.mono B1.out.size))
    clear hb
    go_wp2_with fail
    refine (C4.out _).mono ?_
    rintro e w4 ⟨rfl, rfl⟩
    go_wp2_with fail
    refine (C5.out _ (HK.out.keep HT.out B3.out)).mono ?_
    rintro e w5 ⟨rfl, hb⟩
    have B5 := Lib.hid (B3.out.trans (hb.mono B3.out.size))
    clear hb
    go_wp2_with fail
    refine (C6.out _).mono ?_
    rintro e w6 ⟨rfl, hb⟩
    have B6 := Lib.hid (B5.out.trans (hb.mono B5.out.size))
    clear hb
    go_wp2_with fail
    refine (C7.out _ (HK.out.keep HT.out B6.out)).mono ?_
    rintro e w7 ⟨rfl, hb⟩
    have B7 := Lib.hid (B6.out.trans (hb.mono B6.out.size))
    clear hb
    go_wp2_with fail
    refine (C8.out _).mono ?_
    rintro e w8 ⟨rfl, hb⟩
    have B8 := Lib.hid (B7.out.trans (hb.mono B7.out.size))
    clear hb
    go_wp2_with fail
    go_ret
    exact ⟨rfl, B8.out⟩
end Go.Proofs.YtdjifopdlkppoaaDoor
