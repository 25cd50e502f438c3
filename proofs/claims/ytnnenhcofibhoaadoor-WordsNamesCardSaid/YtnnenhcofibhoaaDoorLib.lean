/- The library's calls: strings.Cut at one byte, strings.Count at one byte, strings.Clone, strings.Repeat. -/
import Derived.Test.YtnnenhcofibhoaaDoorMem
import Derived.Test.YtnnenhcofibhoaaDoorPure
import Derived.Test.YtnnenhcofibhoaaDoorShelf
import Derived.Test.YtnnenhcofibhoaaDoorProg
import Derived.BigQuiet
import Derived.Deep.QuietTactic
import Derived.Outline
namespace Go.Proofs.YtnnenhcofibhoaaDoor
open Go.RowKit
set_option linter.unusedVariables false
attribute [local go_sem] mk_get mk_append mk_extract

set_option maxRecDepth 100000 in
set_option maxHeartbeats 400000 in
theorem litecut_yes (l x r : List UInt8) (c : UInt8) (w : World) (hl : l.length ≤ 4000000000) (h : l = x ++ c :: r) (hc : c ∉ x) :
    Calls Tryd.prog 45 #[.string ⟨l.toArray⟩, .string ⟨#[c]⟩] w fun e w' => e = .returned (.tuple #[.string ⟨x.toArray⟩, .string ⟨r.toArray⟩, .bool true]) ∧ ∃ n, w' = w.drewN n := by
  have hi : Lib.indexByte l c = x.length := by
    obtain ⟨x', r', e', hn', hi'⟩ := indexByte_some (l := l) (c := c) (by rw [h]; simp)
    have h1 := splitC_cut r hc
    have h2 := splitC_cut r' hn'
    rw [← h] at h1
    rw [← e', h1] at h2
    rw [hi', (List.cons.inj h2).1]
  have hlen : l.length = x.length + (r.length + 1) := by rw [h]; simp
  have hx : l.take x.length = x := by rw [h]; simp
  have hr : (l.drop (x.length + 1)).take (l.length - (x.length + 1)) = r := by
    rw [hlen, h]
    have e1 : (x ++ c :: r).drop (x.length + 1) = r := by
      rw [List.drop_append]
      simp
    rw [e1]
    exact List.take_of_length_le (by omega)
  have HL : l.length ≥ x.length + 1 := by omega
  have HX := Lib.hid hx
  have HR := Lib.hid hr
  have HI := Lib.hid hi
  have HN := Lib.hid hlen
  clear hx hr hi h hc hlen
  go_enter Tryd.func45, Tryd.ntmps45
  go_wp2_with fail
  refine (Tryd.stringslite_Index_one ⟨l.toArray⟩ c _).mono ?_
  rintro e w' ⟨rfl, hw⟩
  subst hw
  rw [show Lib.indexByte (⟨l.toArray⟩ : ByteArray).data.toList c = (x.length : Int) from HI.out]
  go_wp2_with fail
  go_quiet (fail)
  go_wp2_with fail
  go_ret3
  refine ⟨?_, nq, rfl⟩
  show Ending.returned (.tuple #[.string ⟨(l.take x.length).toArray⟩, .string ⟨((l.drop (x.length + 1)).take (l.length - (x.length + 1))).toArray⟩, .bool true]) = _
  rw [HX.out, HR.out]
set_option maxRecDepth 100000 in
set_option maxHeartbeats 400000 in
theorem litecut_no (l : List UInt8) (c : UInt8) (w : World) (hc : c ∉ l) :
    Calls Tryd.prog 45 #[.string ⟨l.toArray⟩, .string ⟨#[c]⟩] w fun e w' => e = .returned (.tuple #[.string ⟨l.toArray⟩, .string ⟨#[]⟩, .bool false]) ∧ ∃ n, w' = w.drewN n := by
  have HI := Lib.hid (indexByte_none.2 hc)
  clear hc
  go_enter Tryd.func45, Tryd.ntmps45
  go_wp2_with fail
  refine (Tryd.stringslite_Index_one ⟨l.toArray⟩ c _).mono ?_
  rintro e w' ⟨rfl, hw⟩
  subst hw
  rw [show Lib.indexByte (⟨l.toArray⟩ : ByteArray).data.toList c = -1 from HI.out]
  go_wp2_with fail
  go_ret3
  exact ⟨rfl, 0, rfl⟩
set_option maxRecDepth 100000 in
set_option maxHeartbeats 400000 in
theorem cut_yes (l x r : List UInt8) (c : UInt8) (w : World) (hl : l.length ≤ 4000000000) (h : l = x ++ c :: r) (hc : c ∉ x) :
    Calls Tryd.prog 31 #[.string ⟨l.toArray⟩, .string ⟨#[c]⟩] w fun e w' => e = .returned (.tuple #[.string ⟨x.toArray⟩, .string ⟨r.toArray⟩, .bool true]) ∧ ∃ n, w' = w.drewN n := by
  have H := Lib.hid h
  clear h
  go_enter Tryd.func31, Tryd.ntmps31
  go_wp2_with fail
  refine (litecut_yes l x r c _ hl H.out hc).mono ?_
  rintro e w' ⟨rfl, n, rfl⟩
  go_wp2_with fail
  go_ret3
  exact ⟨rfl, n, rfl⟩
set_option maxRecDepth 100000 in
set_option maxHeartbeats 400000 in
theorem cut_no (l : List UInt8) (c : UInt8) (w : World) (hc : c ∉ l) :
    Calls Tryd.prog 31 #[.string ⟨l.toArray⟩, .string ⟨#[c]⟩] w fun e w' => e = .returned (.tuple #[.string ⟨l.toArray⟩, .string ⟨#[]⟩, .bool false]) ∧ ∃ n, w' = w.drewN n := by
  go_enter Tryd.func31, Tryd.ntmps31
  go_wp2_with fail
  refine (litecut_no l c _ hc).mono ?_
  rintro e w' ⟨rfl, n, rfl⟩
  go_wp2_with fail
  go_ret3
  exact ⟨rfl, n, rfl⟩
theorem count_any (l : List UInt8) (c : UInt8) (w : World) :
    Calls Tryd.prog 30 #[.string ⟨l.toArray⟩, .string ⟨#[c]⟩] w fun e w' => e = .returned (.int .i64 (l.count c)) ∧ w = w' :=
  (Tryd.strings_Count_one ⟨l.toArray⟩ c w).mono fun e w' ⟨he, hw⟩ => ⟨he, hw.symm⟩
set_option maxRecDepth 100000 in
set_option maxHeartbeats 400000 in
theorem clone_any (l : List UInt8) (w : World) (hl : l.length ≤ 4000000000) :
    Calls Tryd.prog 27 #[.string ⟨l.toArray⟩] w fun e w' => e = .returned (.string ⟨l.toArray⟩) ∧ Below w.heap.size w w' := by
  go_enter Tryd.func27, Tryd.ntmps27
  go_wp2_with fail
  refine (Tryd.stringslite_Clone ⟨l.toArray⟩ _ (by simp [ByteArray.size]; omega)).mono ?_
  rintro e w' ⟨rfl, hb⟩
  go_wp2_with fail
  go_ret
  exact ⟨rfl, hb⟩
theorem repeat_any (n : Nat) (w : World) (hn : n ≤ 4000000000) :
    Calls Tryd.prog 52 #[.string ⟨#[32]⟩, .int .i64 n] w fun e w' => e = .returned (.string ⟨(List.replicate n (32 : UInt8)).toArray⟩) ∧ Below w.heap.size w w' := by
  have h : ∀ k, Lib.repeatL [32] k = List.replicate k (32 : UInt8) := by
    intro k
    induction k with
    | zero => rfl
    | succ k ih => rw [Lib.repeatL, ih]; rfl
  rw [← h]
  exact Tryd.strings_Repeat ⟨#[32]⟩ n w (by omega) (by show 1 * n ≤ _; omega)
end Go.Proofs.YtnnenhcofibhoaaDoor
