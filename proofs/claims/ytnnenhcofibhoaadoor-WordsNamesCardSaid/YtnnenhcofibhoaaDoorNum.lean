/- words' isNatural, Number, Show. -/
import Derived.Test.YtnnenhcofibhoaaDoorWord
import Derived.Test.YtnnenhcofibhoaaDoorPureNum
import Derived.Lib.AppendIntMem
namespace Go.Proofs.YtnnenhcofibhoaaDoor
open Go.RowKit
set_option linter.unusedVariables false
attribute [local go_sem] mk_get

set_option maxRecDepth 100000 in
set_option maxHeartbeats 400000 in
theorem isNatural_any (l : List UInt8) (w : World) (hl : l.length ≤ 4000000000) :
    Calls Tryd.prog 29 #[.string ⟨l.toArray⟩] w fun e w' => e = .returned (.bool (isNatB l)) ∧ w = w' := by
  by_cases h48 : l = [48]
  · subst h48
    go_enter Tryd.func29, Tryd.ntmps29
    go_wp2_with fail
    go_ret
    exact ⟨rfl, rfl⟩
  have hne : (l == [48]) = false := by simpa using h48
  cases hd : isOfB 48 57 l with
  | false =>
    have HD := Lib.hid hd
    have HQ := Lib.hid (isNatB_not h48 (.inl hd))
    clear hd h48
    go_enter Tryd.func29, Tryd.ntmps29
    go_wp2_with fail
    refine (isOf_any l 48 57 _ hl (by decide) (by decide)).mono ?_
    rintro e w' ⟨rfl, rfl⟩
    rw [HD.out]
    go_wp2_with fail
    go_ret
    exact ⟨by rw [HQ.out]; rfl, rfl⟩
  | true =>
    have hnn := ((isOfB_iff 48 57 l).1 hd).1
    have hpos : 0 < l.length := List.length_pos_iff.2 hnn
    have hh : l.head? = some l[0] := by rw [List.head?_eq_getElem?, List.getElem?_eq_getElem hpos]
    by_cases h0 : l[0] = 48
    · have hb : (((l[0].toNat : Nat) : Int) != 48) = false := by rw [h0]; rfl
      have HQ := Lib.hid (isNatB_not h48 (.inr (by rw [hh, h0])))
      have HD := Lib.hid hd
      clear hd h48 h0 hh hnn
      go_enter Tryd.func29, Tryd.ntmps29
      go_wp2_with fail
      refine (isOf_any l 48 57 _ hl (by decide) (by decide)).mono ?_
      rintro e w' ⟨rfl, rfl⟩
      rw [HD.out]
      go_wp2_with fail
      go_ret
      exact ⟨by rw [HQ.out]; rfl, rfl⟩
    · have hb : (((l[0].toNat : Nat) : Int) != 48) = true := by
        rw [bne_iff_ne]
        intro e
        exact h0 (UInt8.toNat_inj.1 (by have e2 : l[0].toNat = 48 := by omega
                                        exact e2))
      have HQ := Lib.hid (isNatB_yes hd (by rw [hh]; simpa using h0))
      have HD := Lib.hid hd
      clear hd h48 h0 hh hnn
      go_enter Tryd.func29, Tryd.ntmps29
      go_wp2_with fail
      refine (isOf_any l 48 57 _ hl (by decide) (by decide)).mono ?_
      rintro e w' ⟨rfl, rfl⟩
      rw [HD.out]
      go_wp2_with fail
      go_ret
      exact ⟨by rw [HQ.out]; rfl, rfl⟩

theorem cutPrefix_any (l : List UInt8) (w : World) :
    Calls Tryd.prog 28 #[.string ⟨l.toArray⟩, .string ⟨#[45]⟩] w fun e w' => e = .returned (.tuple #[.string ⟨(digD l).toArray⟩, .bool (negB l)]) ∧ w = w' := by
  refine (Tryd.strings_CutPrefix ⟨l.toArray⟩ ⟨#[45]⟩ w).mono ?_
  rintro e w' ⟨rfl, hw⟩
  refine ⟨?_, hw.symm⟩
  have hp : Lib.hasPrefix l [45] = negB l := by
    unfold Lib.hasPrefix negB
    cases l with
    | nil => rfl
    | cons b r =>
      by_cases hb : b = 45
      · subst hb; rfl
      · have h1 : (b == 45) = false := by simpa using hb
        have h2 : ((45 : UInt8) == b) = false := by simpa using fun e => hb e.symm
        simp [List.isPrefixOf, h1, h2]
  have ht : Lib.trimPrefix l [45] = digD l := by
    unfold Lib.trimPrefix digD
    rw [hp]
    cases negB l with
    | false => rfl
    | true => simp
  show Ending.returned (.tuple #[.string ⟨(Lib.trimPrefix l [45]).toArray⟩, .bool (Lib.hasPrefix l [45])]) = _
  rw [hp, ht]

theorem digD_len (l : List UInt8) : (digD l).length ≤ l.length := by
  unfold digD
  split
  · simp
  · exact Nat.le_refl _

def NumErr (q : Int × Int) (w : World) (e : Ending) (w' : World) : Prop := e = .returned (.tuple #[.int .i64 q.1, .int .i64 q.2]) ∧ w = w'

set_option maxRecDepth 100000 in
set_option maxHeartbeats 1000000 in
theorem number_any (l : List UInt8) (w : World) (hl : l.length ≤ 4000000000) :
    Calls Tryd.prog 12 #[.string ⟨l.toArray⟩] w (NumErr (numberM l) w) := by
  obtain ⟨d, hd⟩ : ∃ d, d = digD l := ⟨_, rfl⟩
  obtain ⟨ng, hng⟩ : ∃ ng, ng = negB l := ⟨_, rfl⟩
  have hdl : d.length ≤ 4000000000 := by have := digD_len l; rw [← hd] at this; omega
  have HD := Lib.hid hd
  have HG := Lib.hid hng
  clear hd hng
  cases hn : isNatB d with
  | false =>
    have HQ := Lib.hid (numberM_form (l := l) (.inl (by rw [← HD.out]; exact hn)))
    have HN := Lib.hid hn
    clear hn
    go_enter Tryd.func12, Tryd.ntmps12
    go_wp2_with fail
    refine (cutPrefix_any l _).mono ?_
    rintro e w' ⟨rfl, rfl⟩
    rw [← HD.out, ← HG.out]
    go_wp2_with fail
    refine (isNatural_any d _ hdl).mono ?_
    rintro e w' ⟨rfl, rfl⟩
    rw [HN.out]
    go_wp2_with fail
    go_ret2
    rw [HQ.out]
    exact ⟨rfl, rfl⟩
  | true =>
    have hdig := ((isOfB_iff 48 57 d).1 (isNatB_digits hn)).2
    have HN := Lib.hid hn
    have HDG := Lib.hid hdig
    clear hn hdig
    by_cases hz : ng = true ∧ d = [48]
    · obtain ⟨rfl, rfl⟩ := hz
      have HQ := Lib.hid (numberM_form (l := l) (.inr ⟨HG.out.symm, HD.out.symm⟩))
      go_enter Tryd.func12, Tryd.ntmps12
      go_wp2_with fail
      refine (cutPrefix_any l _).mono ?_
      rintro e w' ⟨rfl, rfl⟩
      rw [← HD.out, ← HG.out]
      go_wp2_with fail
      refine (isNatural_any [48] _ (by decide)).mono ?_
      rintro e w' ⟨rfl, rfl⟩
      rw [HN.out]
      go_wp2_with fail
      go_ret2
      rw [HQ.out]
      exact ⟨rfl, rfl⟩
    · have HZ := Lib.hid (show ¬ (negB l = true ∧ digD l = [48]) by rw [← HD.out, ← HG.out]; exact hz)
      have hcase : (ng = false) ∨ (ng = true ∧ (d == [48]) = false) := by
        cases ng with
        | false => exact .inl rfl
        | true => exact .inr ⟨rfl, by simpa using fun e => hz ⟨rfl, e⟩⟩
      clear hz
      rcases hcase with hg | ⟨hg, h48⟩
      all_goals
        subst hg
        go_enter Tryd.func12, Tryd.ntmps12
        go_wp2_with fail
        refine (cutPrefix_any l _).mono ?_
        rintro e w' ⟨rfl, rfl⟩
        rw [← HD.out, ← HG.out]
        go_wp2_with fail
        refine (isNatural_any d _ hdl).mono ?_
        rintro e w' ⟨rfl, rfl⟩
        rw [HN.out]
        go_wp2_with fail
        go_loop [6, 25] (fun v i => ∃ k n : Nat, k ≤ d.length ∧ i = .int .i64 k ∧ v = .int .i64 n ∧ Hid (n = valD (d.take k))) (fun _ i => d.length - (intOf i).toNat)
        case atStart => exact ⟨0, 0, Nat.zero_le _, rfl, rfl, rfl⟩
        case round =>
          obtain ⟨k, n, hk, rfl, rfl, hv⟩ := hrel
          by_cases hlt : k < d.length
          · by_cases hbig : 461168601842738790 < n
            · have HQ := Lib.hid (numberM_great (l := l) (by rw [← HD.out]; exact HN.out) HZ.out (by rw [← HD.out]; exact valD_over d k hlt (by rw [← hv.out]; exact hbig)))
              have hbi : (461168601842738790 : Int) < n := by omega
              clear hbig
              go_wp2_with fail
              go_ret2
              rw [HQ.out]
              exact ⟨rfl, rfl⟩
            · have hbi : ¬ (461168601842738790 : Int) < n := by omega
              have hc := HDG.out d[k] (List.getElem_mem hlt)
              have hc1 : (48 : Int) ≤ ((d[k].toNat : Nat) : Int) := by omega
              have hc2 : ((d[k].toNat : Nat) : Int) ≤ 57 := by omega
              have HT := Lib.hid (valD_take d k hlt)
              have HC := Lib.hid hc
              clear hbig hc
              go_wp2_with fail
              go_round
              case rel => exact ⟨k + 1, 10 * n + (d[k].toNat - 48), by omega, by go_num, by go_num, by show _ = _; rw [HT.out, hv.out]⟩
              case measure => simp [intOf]; omega
          · obtain rfl : k = d.length := by omega
            have hv2 : n = valD d := by have := hv.out; rwa [List.take_of_length_le (Nat.le_refl _)] at this
            by_cases hbig : 4611686018427387904 < n
            · have HQ := Lib.hid (numberM_great (l := l) (by rw [← HD.out]; exact HN.out) HZ.out (by rw [← HD.out, ← hv2]; exact hbig))
              have hbi : (4611686018427387904 : Int) < n := by omega
              clear hbig hv2
              go_wp2_with fail
              go_ret2
              rw [HQ.out]
              exact ⟨rfl, rfl⟩
            · have HQ := Lib.hid (numberM_good (l := l) (by rw [← HD.out]; exact HN.out) HZ.out (by rw [← HD.out, ← hv2]; exact hbig))
              have hbi : ¬ (4611686018427387904 : Int) < n := by omega
              have HV := Lib.hid hv2
              clear hbig hv2
              go_wp2_with fail
              go_ret2
              rw [HQ.out, ← HG.out, ← HD.out, ← HV.out]
              exact ⟨rfl, rfl⟩

/-- The library's table of powers of ten. -/
abbrev Tab (w : World) : Prop := Lib.TabBelow Tryd.prog w.heap.size w "internal/strconv.uint64pow10" .u64 Lib.pow10Tab
theorem Tab.below {w w' : World} (h : Tab w) (hb : Below w.heap.size w w') : Tab w' := fun w2 h2 => h w2 (hb.trans (h2.mono hb.size))
set_option maxRecDepth 100000 in
set_option maxHeartbeats 400000 in
theorem show_any (n : Int) (w : World) (h0 : -9223372036854775808 ≤ n) (h1 : n ≤ 9223372036854775807) (hT : Tab w) :
    Calls Tryd.prog 19 #[.int .i64 n] w fun e w' => e = .returned (.string ⟨(Lib.itoa n).toArray⟩) ∧ Below w.heap.size w w' := by
  have H0 := Lib.hid h0
  have H1 := Lib.hid h1
  clear h0 h1
  go_enter Tryd.func19, Tryd.ntmps19
  go_wp2_with fail
  refine (Tryd.strconv_Itoa n H0.out H1.out _ hT.here).mono ?_
  rintro e w' ⟨rfl, k, os, rfl⟩
  go_wp2_with fail
  go_ret
  exact ⟨rfl, Lib.below_grow _ w (Nat.le_refl _) k os⟩
end Go.Proofs.YtnnenhcofibhoaaDoor
