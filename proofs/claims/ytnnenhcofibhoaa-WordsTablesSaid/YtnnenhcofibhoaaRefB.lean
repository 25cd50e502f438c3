/- The reference's Words, Text, Line. -/
import Derived.Test.YtnnenhcofibhoaaRefA
namespace Go.Proofs.Ytnnenhcofibhoaa
open Go.RowKit
set_option linter.unusedVariables false
attribute [local go_sem] mk_get mk_append mk_extract

set_option maxRecDepth 100000 in
set_option maxHeartbeats 1000000 in
theorem refWords_any (s : List UInt8) (w : World) (hl : s.length ≤ 4000000) : Calls Try.prog 13 #[.string ⟨s.toArray⟩] w (ListErr w (wordsM s)) := by
  obtain ⟨i0, hi, hz0, hz1, hz2⟩ := info_parts infoS
  by_cases h1 : 16384 < s.length
  · rw [wordsM_big h1]
    have hi1 : (16384 : Int) < s.length := by omega
    go_enter Try.func13, Try.ntmps13
    go_wp2_with fail
    go_ret2
    exact listErr_bad 4 (Below.refl _ _)
  have hi1 : ¬ (16384 : Int) < s.length := by omega
  by_cases hs : s = []
  · subst hs
    rw [wordsM_nil]
    go_enter Try.func13, Try.ntmps13
    go_wp2_with fail
    go_ret2
    exact listErr_bad 0 (Below.refl _ _)
  have hne : ((s.length : Int) == 0) = false := by
    rw [beq_eq_false_iff_ne]
    intro e
    exact hs (List.eq_nil_of_length_eq_zero (by omega))
  have HB := Lib.hid h1
  have HS := Lib.hid hs
  clear h1 hs
  go_enter Try.func13, Try.ntmps13
  go_wp2_with fail
  go_loopw [4, 5, 6] (fun v f i wr => ∃ (out : List (List UInt8)) (fr k : Nat) (A' : Option Addr) (c' : Nat), k ≤ s.length + 1 ∧ fr ≤ k ∧ v = .slice A' out.length c' ∧ f = .int .i64 fr ∧ i = .int .i64 k ∧ Hid (k ≤ s.length → splitC 32 s = out ++ splitC 32 (s.drop fr)) ∧ Hid ((32 : UInt8) ∉ (s.drop fr).take (k - fr)) ∧ Hid (k = s.length + 1 → splitC 32 s = out) ∧ Hid (∀ x ∈ out, isWordB x = true) ∧ out.length ≤ k ∧ Ow sv wr w.heap.size 9 A' c' out ∧ Below w.heap.size w wr)
    (fun _ _ i _ => s.length + 1 - (intOf i).toNat)
  case atStart => exact ⟨[], 0, 0, none, 0, by omega, Nat.le_refl _, rfl, rfl, rfl, (fun _ => rfl), by simp [Hid], (fun h => by omega), (fun _ h => by cases h), by simp, Ow.nil _ _ _, Below.refl _ _⟩
  case round =>
    obtain ⟨out, fr, k, A1, c1, hk, hfk, rfl, rfl, rfl, hsp, hno, hdn, hwd, hol, hown, hb1⟩ := hrel
    have hbs := hb1.size
    by_cases hk1 : k = s.length + 1
    · have HE := Lib.hid (wordsM_done HB.out HS.out (hdn.out hk1) hwd.out)
      have hgt : ¬ (k : Int) ≤ s.length := by omega
      clear hk1
      go_wp2_with fail
      go_ret2
      rw [HE.out]
      exact ⟨A1, c1, out, rfl, rfl, hown, hb1⟩
    · have hk2 : k ≤ s.length := by omega
      have hsp2 := Lib.hid (hsp.out hk2)
      have hfi : (fr : Int) ≤ k := by omega
      have hki : (k : Int) ≤ s.length := by omega
      have hpl : ((s.drop fr).take (k - fr)).length ≤ 4000000000 := by simp; omega
      clear hk1
      obtain ⟨x, hx⟩ : ∃ x, x = (s.drop fr).take (k - fr) := ⟨_, rfl⟩
      have hcase : (k = s.length ∨ ∃ h : k < s.length, s[k] = 32) ∨ (∃ h : k < s.length, ¬ s[k] = 32) := by
        by_cases h : k < s.length
        · by_cases h32 : s[k] = 32
          · exact .inl (.inr ⟨h, h32⟩)
          · exact .inr ⟨h, h32⟩
        · exact .inl (.inl (by omega))
      rcases hcase with hend | ⟨hlt, h32⟩
      · -- a piece ends at k
        have hpe : ∃ tl, splitC 32 s = out ++ x :: tl ∧ (k < s.length → tl = splitC 32 (s.drop (k + 1))) ∧ (k = s.length → tl = []) := by
          rcases hend with e | ⟨h, h32⟩
          · refine ⟨[], ?_, by omega, fun _ => rfl⟩
            have hno2 := hno.out
            rw [e] at hno2
            rw [hsp2.out, piece_last (by omega) hno2, hx, e, List.take_of_length_le (by simp)]
          · exact ⟨_, by rw [hsp2.out, piece_end hfk h hno.out h32, hx], fun _ => rfl, by omega⟩
        obtain ⟨tl, hp1, hp2, hp3⟩ := hpe
        have HP1 := Lib.hid hp1
        have HP2 := Lib.hid hp2
        have HP3 := Lib.hid hp3
        have hxm : x ∈ splitC 32 s := by rw [hp1]; simp
        have HX := Lib.hid hx
        have hxl : x.length ≤ 4000000000 := by rw [hx]; exact hpl
        clear hp1 hp2 hp3 hpl
        have hbt : (k = s.length → ((k : Int) == s.length) = true) ∧ (k < s.length → ((k : Int) == s.length) = false) := ⟨fun e => by rw [beq_iff_eq]; omega, fun e => by rw [beq_eq_false_iff_ne]; omega⟩
        have HBT := Lib.hid hbt
        clear hbt
        cases hw : isWordB x with
        | false =>
          have HE := Lib.hid (wordsM_bad HB.out HS.out hxm hw)
          have HW := Lib.hid hw
          clear hw hxm
          rcases hend with hke | ⟨hlt, h32⟩
          · subst hke
            have hb := HBT.out.1 rfl
            go_wp2_with fail
            rw [← HX.out]
            refine (refWord_any x _ hxl).mono ?_
            rintro e w' ⟨rfl, rfl⟩
            rw [HW.out]
            go_wp2_with fail
            go_ret2
            rw [HE.out]
            exact listErr_bad 11 hb1
          · have hb := HBT.out.2 hlt
            have hc : (((s[k].toNat : Nat) : Int) == 32) = true := by rw [h32]; rfl
            clear h32
            go_wp2_with fail
            rw [← HX.out]
            refine (refWord_any x _ hxl).mono ?_
            rintro e w' ⟨rfl, rfl⟩
            rw [HW.out]
            go_wp2_with fail
            go_ret2
            rw [HE.out]
            exact listErr_bad 11 hb1
        | true =>
          have HW := Lib.hid hw
          have hwd2 : Hid (∀ y ∈ out ++ [x], isWordB y = true) := fun y hy => by
            rcases List.mem_append.1 hy with h | h
            · exact hwd.out y h
            · simp at h; rw [h]; exact hw
          clear hw hxm
          rcases hend with hke | ⟨hlt, h32⟩
          · subst hke
            have hb := HBT.out.1 rfl
            go_wp2_with fail
            rw [← HX.out]
            refine (refWord_any x _ hxl).mono ?_
            rintro e w' ⟨rfl, rfl⟩
            rw [HW.out]
            go_wp2_with (at_builtin; refine wpList_append_f _ sv_one rfl _ _ 22 rfl w.heap.size 9 16 i0 _ Try.underlying22 hi hz0 hz1 hz2 (by omega) rfl out [(s.drop fr).take (s.length - fr)] rfl rfl (hown.alloc _) (rf_one _ ((s.drop fr).take (s.length - fr)) _) (by simp; omega) (by simp; omega) ?_; intro A3 c3 w3 r3 hr3 hown3 hg3 _)
            go_roundw
            case rel =>
              have hr4 : r3 = out ++ [x] := by rw [hr3.out, HX.out]
              refine ⟨r3, s.length + 1, s.length + 1, A3, c3, by omega, by omega, rfl, by go_num, by go_num, (fun h => by omega), ?_, fun _ => ?_, ?_, ?_, hown3, ?_⟩
              · simp [Hid]
              · rw [HP1.out, HP3.out trivial, hr4]
              · rw [hr4]; exact hwd2
              · rw [hr4]; simp; omega
              · exact (hb1.alloc hbs _).trans (below_of_grown hg3 (by simp; omega) (fun k e => (hown.blk_ge k e).1))
            case measure => simp [intOf]
          · have hb := HBT.out.2 hlt
            have hc : (((s[k].toNat : Nat) : Int) == 32) = true := by rw [h32]; rfl
            clear h32
            go_wp2_with fail
            rw [← HX.out]
            refine (refWord_any x _ hxl).mono ?_
            rintro e w' ⟨rfl, rfl⟩
            rw [HW.out]
            go_wp2_with (at_builtin; refine wpList_append_f _ sv_one rfl _ _ 22 rfl w.heap.size 9 16 i0 _ Try.underlying22 hi hz0 hz1 hz2 (by omega) rfl out [(s.drop fr).take (k - fr)] rfl rfl (hown.alloc _) (rf_one _ ((s.drop fr).take (k - fr)) _) (by simp; omega) (by simp; omega) ?_; intro A3 c3 w3 r3 hr3 hown3 hg3 _)
            go_roundw
            case rel =>
              have hr4 : r3 = out ++ [x] := by rw [hr3.out, HX.out]
              refine ⟨r3, k + 1, k + 1, A3, c3, by omega, by omega, rfl, by go_num, by go_num, fun _ => ?_, ?_, (fun h => by omega), ?_, ?_, hown3, ?_⟩
              · rw [HP1.out, HP2.out hlt, hr4, List.append_assoc]; rfl
              · simp [Hid]
              · rw [hr4]; exact hwd2
              · rw [hr4]; simp; omega
              · exact (hb1.alloc hbs _).trans (below_of_grown hg3 (by simp; omega) (fun k e => (hown.blk_ge k e).1))
            case measure => simp [intOf]; omega
      · have hb : ((k : Int) == s.length) = false := by rw [beq_eq_false_iff_ne]; omega
        have hc : (((s[k].toNat : Nat) : Int) == 32) = false := by
          rw [beq_eq_false_iff_ne]
          intro e
          exact h32 (UInt8.toNat_inj.1 (by have e2 : s[k].toNat = 32 := by omega
                                           exact e2))
        have HP := Lib.hid (piece_on hfk hlt hno.out h32)
        clear h32 hx hpl
        go_wp2_with fail
        go_roundw
        case rel => exact ⟨out, fr, k + 1, A1, c1, by omega, by omega, rfl, rfl, by go_num, (fun _ => hsp2.out), HP, (fun h => by omega), hwd, by omega, hown, hb1⟩
        case measure => simp [intOf]; omega

theorem mem_take_len {α : Type} {P : α → Prop} (l : List α) (h : ∀ b ∈ l.take l.length, P b) : ∀ b ∈ l, P b := by rwa [List.take_of_length_le (Nat.le_refl _)] at h

set_option maxRecDepth 100000 in
set_option maxHeartbeats 1000000 in
theorem refText_any (A : Option Addr) (c B : Nat) (xs : List (List UInt8)) (w : World) (hr : Rf sv w B A c xs) (hl : sumL xs ≤ 4000000) :
    Calls Try.prog 10 #[.slice A xs.length c] w (TextErr w (textM xs)) := by
  have hlen := sumL_len xs
  have hxl : xs.length ≤ 4000000 := by omega
  have HL := Lib.hid hl
  clear hl hlen
  by_cases h1 : 512 < xs.length
  · rw [textM_big (.inl h1)]
    have hi1 : (512 : Int) < xs.length := by omega
    go_enter Try.func10, Try.ntmps10
    go_wp2_with fail
    go_ret2
    exact ⟨rfl, Below.refl _ _⟩
  have hi1 : ¬ (512 : Int) < xs.length := by omega
  have H1 := Lib.hid h1
  clear h1
  go_enter Try.func10, Try.ntmps10
  go_wp2_with fail
  go_loop [4, 5] (fun v i => ∃ k m : Nat, k ≤ xs.length ∧ i = .int .i64 k ∧ v = .int .i64 m ∧ Hid (m = sumL (xs.take k)) ∧ m ≤ 16384) (fun _ i => xs.length - (intOf i).toNat)
  case atStart => exact ⟨0, 0, Nat.zero_le _, rfl, rfl, rfl, by omega⟩
  case round =>
    obtain ⟨k, m, hk, rfl, rfl, hm, hm2⟩ := hrel
    by_cases hlt : k < xs.length
    · obtain ⟨b, o, rfl, hbb, hc⟩ := hr.at_ hlt
      have hcx := hc k hlt
      have hxl2 := sumL_get xs k hlt
      have ht := sumL_take xs k hlt
      obtain ⟨x, hx⟩ : ∃ x, x = xs[k] := ⟨_, rfl⟩
      rw [← hx] at hcx hxl2 ht
      have hxl3 : x.length ≤ 4000000 := by have := HL.out; omega
      unfold sv at hcx
      have HT := Lib.hid ht
      clear hc hx ht hxl2
      by_cases hbig : 16384 < m + x.length + 1
      · have HE := Lib.hid (textM_big (xs := xs) (.inr (by
          have h2 := sumL_take_le xs (k + 1)
          have h3 := HT.out
          have h4 := hm.out
          rw [flatL_len]
          omega)))
        have hbi : (16384 : Int) < (m : Int) + x.length + 1 := by omega
        go_wp2_with fail
        go_ret2
        rw [HE.out]
        exact ⟨rfl, Below.refl _ _⟩
      · have hbi : ¬ (16384 : Int) < (m : Int) + x.length + 1 := by omega
        go_wp2_with fail
        go_round
        case rel => exact ⟨k + 1, m + x.length + 1, by omega, by go_num, by go_num, by show _ = _; have h3 := HT.out; have h4 := hm.out; omega, by omega⟩
        case measure => simp [intOf]; omega
    · obtain rfl : k = xs.length := by omega
      have hbig : ¬ (512 < xs.length ∨ 16384 < (flatL xs).length) := by
        have h4 := hm.out
        rw [List.take_of_length_le (Nat.le_refl _)] at h4
        rw [flatL_len]
        rintro (h | h)
        · exact H1.out h
        · omega
      have HB := Lib.hid hbig
      clear hbig hm hlt
      go_wp2_with fail
      go_loop [6, 7] (fun v i => ∃ k : Nat, k ≤ xs.length ∧ i = .int .i64 k ∧ v = .string ⟨(flatL (xs.take k)).toArray⟩ ∧ Hid (∀ x ∈ xs.take k, (10 : UInt8) ∉ x)) (fun _ i => xs.length - (intOf i).toNat)
      case atStart => exact ⟨0, Nat.zero_le _, rfl, rfl, by simp [Hid]⟩
      case round =>
        obtain ⟨k, hk2, rfl, rfl, hno⟩ := hrel
        by_cases hlt : k < xs.length
        · obtain ⟨b, o, rfl, hbb, hc⟩ := hr.at_ hlt
          have hcx := hc k hlt
          have hxl2 := sumL_get xs k hlt
          have hm := List.getElem_mem hlt
          have ht := flatL_take xs k hlt
          have hs := fun h => take_mem_succ (P := fun x : List UInt8 => (10 : UInt8) ∉ x) xs k hlt hno.out h
          have htl : (flatL (xs.take k)).length ≤ 4000000 := by
            have h2 := sumL_take_le xs k
            have := HL.out
            rw [flatL_len]
            omega
          obtain ⟨x, hx⟩ : ∃ x, x = xs[k] := ⟨_, rfl⟩
          rw [← hx] at hcx hxl2 ht hm hs
          have hxl3 : x.length ≤ 4000000 := by have := HL.out; omega
          unfold sv at hcx
          have HT := Lib.hid ht
          have HM := Lib.hid hm
          have HS := Lib.hid hs
          obtain ⟨t, ht2⟩ : ∃ t, t = flatL (xs.take k) := ⟨_, rfl⟩
          rw [← ht2] at htl
          rw [← ht2]
          have HT2 := Lib.hid ht2
          clear hc hx ht hxl2 hm hs ht2
          go_wp2_with fail
          go_loop [8] (fun i => ∃ j : Nat, j ≤ x.length ∧ i = .int .i64 j ∧ Hid (∀ b ∈ x.take j, b ≠ 10)) (fun i => x.length - (intOf i).toNat)
          case atStart => exact ⟨0, Nat.zero_le _, rfl, by simp [Hid]⟩
          case round =>
            obtain ⟨j, hj, rfl, hjn⟩ := hrel
            by_cases hjl : j < x.length
            · by_cases h10 : x[j] = 10
              · have hbt : (((x[j].toNat : Nat) : Int) == 10) = true := by rw [h10]; rfl
                have HE := Lib.hid (textM_bad HB.out ⟨x, HM.out, by rw [← h10]; exact List.getElem_mem hjl⟩)
                clear h10
                go_wp2_with fail
                go_ret2
                rw [HE.out]
                exact ⟨rfl, Below.refl _ _⟩
              · have hbt : (((x[j].toNat : Nat) : Int) == 10) = false := by
                  rw [beq_eq_false_iff_ne]
                  intro e
                  exact h10 (UInt8.toNat_inj.1 (by have e2 : x[j].toNat = 10 := by omega
                                                   exact e2))
                have HN := Lib.hid (take_mem_succ (P := fun b => b ≠ 10) x j hjl hjn.out h10)
                clear h10
                go_wp2_with fail
                go_round
                case rel => exact ⟨j + 1, by omega, by go_num, HN⟩
                case measure => simp [intOf]; omega
            · obtain rfl : j = x.length := by omega
              have hx10 : (10 : UInt8) ∉ x := fun h => mem_take_len (P := fun b => b ≠ 10) x hjn.out 10 h rfl
              have HN := Lib.hid (HS.out hx10)
              have hsum : t.length + x.length ≤ 9000000 := by omega
              go_wp2_with fail
              go_round
              case rel => exact ⟨k + 1, by omega, by go_num, by rw [HT.out, ← HT2.out]; simp [List.append_assoc], HN⟩
              case measure => simp [intOf]; omega
        · obtain rfl : k = xs.length := by omega
          have HE := Lib.hid (textM_good HB.out (mem_take_len (P := fun x : List UInt8 => (10 : UInt8) ∉ x) xs hno.out))
          have HF : Hid (flatL (xs.take xs.length) = flatL xs) := by
            show _ = _
            rw [List.take_of_length_le (Nat.le_refl _)]
          go_wp2_with fail
          go_ret2
          rw [HE.out]
          exact ⟨by rw [← HF.out]; rfl, Below.refl _ _⟩

theorem joinW_take_le : ∀ (xs : List (List UInt8)) (k : Nat), (joinW (xs.take k)).length ≤ (joinW xs).length
  | [], k => by simp [joinW]
  | [x], 0 => by simp [joinW]
  | [x], k + 1 => by simp [joinW]
  | x :: y :: r, 0 => by simp [joinW]
  | x :: y :: r, 1 => by simp [joinW]
  | x :: y :: r, k + 2 => by
    have ih := joinW_take_le (y :: r) (k + 1)
    simp only [List.take_succ_cons] at ih
    simp only [List.take_succ_cons, joinW, List.length_append, List.length_cons]
    omega
theorem joinW_len_le : ∀ (xs : List (List UInt8)), (joinW xs).length ≤ sumL xs
  | [] => by simp [joinW]
  | [x] => by simp [joinW, sumL]
  | x :: y :: r => by
    have ih := joinW_len_le (y :: r)
    simp only [joinW, List.length_append, List.length_cons, sumL, List.map_cons, List.sum_cons] at ih ⊢
    omega

set_option maxRecDepth 100000 in
set_option maxHeartbeats 1000000 in
theorem refLine_any (A : Option Addr) (c B : Nat) (xs : List (List UInt8)) (w : World) (hr : Rf sv w B A c xs) (hl : sumL xs ≤ 4000000) :
    Calls Try.prog 15 #[.slice A xs.length c] w (TextErr w (lineM xs)) := by
  have hlen := sumL_len xs
  have hxl : xs.length ≤ 4000000 := by omega
  have HL := Lib.hid hl
  clear hl hlen
  go_enter Try.func15, Try.ntmps15
  go_wp2_with fail
  go_loop [4] (fun i => ∃ k : Nat, k ≤ xs.length ∧ i = .int .i64 k ∧ Hid (∀ x ∈ xs.take k, isWordB x = true)) (fun i => xs.length - (intOf i).toNat)
  case atStart => exact ⟨0, Nat.zero_le _, rfl, by simp [Hid]⟩
  case round =>
    obtain ⟨k, hk, rfl, hpre⟩ := hrel
    by_cases hlt : k < xs.length
    · obtain ⟨b, o, rfl, hbb, hc⟩ := hr.at_ hlt
      have hcx := hc k hlt
      have hxl2 := sumL_get xs k hlt
      have hm := List.getElem_mem hlt
      have hs := fun h => take_mem_succ (P := fun x => isWordB x = true) xs k hlt hpre.out h
      obtain ⟨x, hx⟩ : ∃ x, x = xs[k] := ⟨_, rfl⟩
      rw [← hx] at hcx hxl2 hm hs
      have hxl3 : x.length ≤ 4000000000 := by have := HL.out; omega
      unfold sv at hcx
      have HS := Lib.hid hs
      clear hc hx hs hxl2
      cases hw : isWordB x with
      | true =>
        have HW := Lib.hid hw
        clear hw
        go_wp2_with fail
        refine (refWord_any x _ hxl3).mono ?_
        rintro e w' ⟨rfl, rfl⟩
        rw [HW.out]
        go_wp2_with fail
        go_round
        case rel => exact ⟨k + 1, by omega, by go_num, HS.out HW.out⟩
        case measure => simp [intOf]; omega
      | false =>
        have HE := Lib.hid (lineM_bad hm hw)
        have HW := Lib.hid hw
        clear hw
        go_wp2_with fail
        refine (refWord_any x _ hxl3).mono ?_
        rintro e w' ⟨rfl, rfl⟩
        rw [HW.out]
        go_wp2_with fail
        go_ret2
        rw [HE.out]
        exact ⟨rfl, Below.refl _ _⟩
    · obtain rfl : k = xs.length := by omega
      have HW := Lib.hid (mem_take_len (P := fun x => isWordB x = true) xs hpre.out)
      clear hpre hlt
      go_wp2_with fail
      go_loop [5, 6] (fun v i => ∃ k : Nat, k ≤ xs.length ∧ i = .int .i64 k ∧ v = .string ⟨(joinW (xs.take k)).toArray⟩ ∧ Hid ((joinW (xs.take k)).length ≤ 16384)) (fun _ i => xs.length - (intOf i).toNat)
      case atStart => exact ⟨0, Nat.zero_le _, rfl, rfl, by simp [Hid, joinW]⟩
      case round =>
        obtain ⟨k, hk2, rfl, rfl, hle⟩ := hrel
        by_cases hlt : k < xs.length
        · obtain ⟨b, o, rfl, hbb, hc⟩ := hr.at_ hlt
          have hcx := hc k hlt
          have hxl2 := sumL_get xs k hlt
          have hj := joinW_take xs k hlt
          have hjl := joinW_take_le xs (k + 1)
          obtain ⟨x, hx⟩ : ∃ x, x = xs[k] := ⟨_, rfl⟩
          rw [← hx] at hcx hxl2 hj
          have hxl3 : x.length ≤ 4000000 := by have := HL.out; omega
          unfold sv at hcx
          obtain ⟨t, ht⟩ : ∃ t, t = joinW (xs.take k) := ⟨_, rfl⟩
          rw [← ht]
          rw [← ht] at hj
          have htl : t.length ≤ 16384 := by rw [ht]; exact hle.out
          have HT := Lib.hid ht
          clear hc hx hxl2 ht
          by_cases hk0 : k = 0
          · subst hk0
            simp only [Nat.add_zero] at hcx
            rw [if_pos rfl] at hj
            have ht0 : t = [] := HT.out
            subst ht0
            have HJ := Lib.hid hj
            by_cases hbig : 16384 < x.length
            · have HE := Lib.hid (lineM_big HW.out (by rw [hj] at hjl; omega))
              have hbi : (16384 : Int) < x.length := by omega
              clear hj hjl
              go_wp2_with fail
              go_ret2
              rw [HE.out]
              exact ⟨rfl, Below.refl _ _⟩
            · have hbi : ¬ (16384 : Int) < x.length := by omega
              clear hj hjl
              go_wp2_with fail
              go_round
              case rel => exact ⟨0 + 1, by omega, by go_num, by rw [HJ.out], by show _ ≤ _; rw [HJ.out]; omega⟩
              case measure => simp [intOf]; omega
          · rw [if_neg hk0] at hj
            have HJ := Lib.hid hj
            have hkp : 0 < k := by omega
            have hlj : (t ++ [32] ++ x).length = t.length + 1 + x.length := by simp; omega
            by_cases hbig : 16384 < t.length + 1 + x.length
            · have HE := Lib.hid (lineM_big HW.out (by rw [hj, hlj] at hjl; omega))
              have hbi : (16384 : Int) < (t.length : Int) + 1 + x.length := by omega
              clear hj hjl hk0 hlj
              go_wp2_with fail
              go_ret2
              rw [HE.out]
              exact ⟨rfl, Below.refl _ _⟩
            · have hbi : ¬ (16384 : Int) < (t.length : Int) + 1 + x.length := by omega
              have HLJ := Lib.hid hlj
              clear hj hjl hk0 hlj
              go_wp2_with fail
              go_round
              case rel => exact ⟨k + 1, by omega, by go_num, by rw [HJ.out]; simp, by show _ ≤ _; rw [HJ.out, HLJ.out]; omega⟩
              case measure => simp [intOf]; omega
        · obtain rfl : k = xs.length := by omega
          have HF : Hid (joinW (xs.take xs.length) = joinW xs) := by
            show _ = _
            rw [List.take_of_length_le (Nat.le_refl _)]
          have HE := Lib.hid (lineM_good HW.out (by have := hle.out; rw [HF.out] at this; omega))
          go_wp2_with fail
          go_ret2
          rw [HE.out]
          exact ⟨by rw [← HF.out]; rfl, Below.refl _ _⟩
end Go.Proofs.Ytnnenhcofibhoaa
