/- The reference's Lines and Words. -/
import Derived.Test.YtnnenhcofibhoaaRef
namespace Go.Proofs.Ytnnenhcofibhoaa
open Go.RowKit
set_option linter.unusedVariables false
attribute [local go_sem] mk_get mk_append mk_extract

set_option maxRecDepth 100000 in
set_option maxHeartbeats 400000 in
theorem refWord_any (l : List UInt8) (w : World) (hl : l.length ≤ 4000000000) :
    Calls Try.prog 26 #[.string ⟨l.toArray⟩] w fun e w' => e = .returned (.bool (isWordB l)) ∧ w = w' := by
  go_enter Try.func26, Try.ntmps26
  go_wp2_with fail
  go_loop [3] (fun i => ∃ k : Nat, k ≤ l.length ∧ i = .int .i64 k ∧ Hid (∀ b ∈ l.take k, 33 ≤ b.toNat ∧ b.toNat ≤ 126)) (fun i => l.length - (intOf i).toNat)
  case atStart => exact ⟨0, Nat.zero_le _, rfl, by simp [Hid]⟩
  case round =>
    obtain ⟨k, hk, rfl, hpre⟩ := hrel
    by_cases hlt : k < l.length
    · by_cases h1 : l[k].toNat < 33
      · have HB := Lib.hid (show isWordB l = false from isOfB_bad (List.getElem_mem hlt) (.inl h1))
        have h1i : ((l[k].toNat : Nat) : Int) < 33 := by omega
        have h1d : decide (((l[k].toNat : Nat) : Int) < 33) = true := by simpa using h1i
        go_wp2_with fail
        go_ret
        exact ⟨by rw [HB.out]; rfl, rfl⟩
      · have h1i : ¬ ((l[k].toNat : Nat) : Int) < 33 := by omega
        have h1d : decide (((l[k].toNat : Nat) : Int) < 33) = false := by simpa using h1i
        by_cases h2 : 126 < l[k].toNat
        · have HB := Lib.hid (show isWordB l = false from isOfB_bad (List.getElem_mem hlt) (.inr h2))
          have h2i : 126 < ((l[k].toNat : Nat) : Int) := by omega
          have h2d : decide (126 < ((l[k].toNat : Nat) : Int)) = true := by simpa using h2i
          go_wp2_with fail
          go_ret
          exact ⟨by rw [HB.out]; rfl, rfl⟩
        · have h2i : ¬ 126 < ((l[k].toNat : Nat) : Int) := by omega
          have h2d : decide (126 < ((l[k].toNat : Nat) : Int)) = false := by simpa using h2i
          have HN := Lib.hid (take_mem_succ (P := fun b => 33 ≤ b.toNat ∧ b.toNat ≤ 126) l k hlt hpre.out ⟨by omega, by omega⟩)
          go_wp2_with fail
          go_round
          case rel => exact ⟨k + 1, by omega, by go_num, HN⟩
          case measure => simp [intOf]; omega
    · obtain rfl : k = l.length := by omega
      by_cases hn : l = []
      · subst hn
        go_wp2_with fail
        go_ret
        exact ⟨rfl, rfl⟩
      · have hpos : 0 < l.length := List.length_pos_iff.2 hn
        have hq : isWordB l = true := (isOfB_iff 33 126 l).2 ⟨hn, by have := hpre.out; rwa [List.take_of_length_le (Nat.le_refl _)] at this⟩
        have HQ := Lib.hid hq
        clear hq hn
        go_wp2_with fail
        go_ret
        exact ⟨by rw [HQ.out]; simp, rfl⟩
theorem count_take (c : UInt8) (s : List UInt8) (k : Nat) (h : k < s.length) : (s.take (k + 1)).count c = (s.take k).count c + if s[k] = c then 1 else 0 := by
  rw [List.take_succ_eq_append_getElem h, List.count_append]
  simp [List.count_singleton]
/-- A piece that goes on. -/
theorem piece_on {c : UInt8} {s : List UInt8} {fr k : Nat} (h1 : fr ≤ k) (h2 : k < s.length) (hn : c ∉ (s.drop fr).take (k - fr)) (hk : ¬ s[k] = c) : c ∉ (s.drop fr).take (k + 1 - fr) := by
  have e : k + 1 - fr = (k - fr) + 1 := by omega
  have hl : k - fr < (s.drop fr).length := by simp; omega
  rw [e, List.take_succ_eq_append_getElem hl]
  intro hm
  rcases List.mem_append.1 hm with h | h
  · exact hn h
  · simp at h
    have e2 : fr + (k - fr) = k := by omega
    simp only [e2] at h
    exact hk h.symm
/-- A piece that ends. -/
theorem piece_end {c : UInt8} {s : List UInt8} {fr k : Nat} (h1 : fr ≤ k) (h2 : k < s.length) (hn : c ∉ (s.drop fr).take (k - fr)) (hk : s[k] = c) : splitC c (s.drop fr) = (s.drop fr).take (k - fr) :: splitC c (s.drop (k + 1)) := by
  have hl : k - fr < (s.drop fr).length := by simp; omega
  have e : s.drop fr = (s.drop fr).take (k - fr) ++ c :: s.drop (k + 1) := by
    conv => lhs; rw [← List.take_append_drop (k - fr) (s.drop fr)]
    congr 1
    rw [List.drop_drop]
    have e2 : fr + (k - fr) = k := by omega
    rw [e2, List.drop_eq_getElem_cons h2, hk]
  conv => lhs; rw [e]
  exact splitC_cut _ hn
theorem piece_last {c : UInt8} {s : List UInt8} {fr : Nat} (h1 : fr ≤ s.length) (hn : c ∉ (s.drop fr).take (s.length - fr)) : splitC c (s.drop fr) = [s.drop fr] := by
  rw [List.take_of_length_le (by simp)] at hn
  exact splitC_one hn

/-- The reference's answer of a list. -/
theorem last_split {s : List UInt8} (h : s ≠ []) : ∃ l c, s = l ++ [c] := ⟨s.dropLast, s.getLast h, (List.dropLast_concat_getLast h).symm⟩

set_option maxRecDepth 100000 in
set_option maxHeartbeats 1000000 in
theorem refLines_any (s : List UInt8) (w : World) (hl : s.length ≤ 4000000) : Calls Try.prog 8 #[.string ⟨s.toArray⟩] w (ListErr w (linesM s)) := by
  obtain ⟨i0, hi, hz0, hz1, hz2⟩ := info_parts infoS
  go_enter Try.func8, Try.ntmps8
  go_wp2_with fail
  go_loop [4, 5] (fun v i => ∃ k m : Nat, k ≤ s.length ∧ i = .int .i64 k ∧ v = .int .i64 m ∧ m ≤ k ∧ Hid (m = (s.take k).count 10)) (fun _ i => s.length - (intOf i).toNat)
  case atStart => exact ⟨0, 0, Nat.zero_le _, rfl, rfl, Nat.le_refl _, rfl⟩
  case round =>
    obtain ⟨k, m, hk, rfl, rfl, hmk, hm⟩ := hrel
    by_cases hlt : k < s.length
    · have hcnt := Lib.hid (count_take 10 s k hlt)
      by_cases h10 : s[k] = 10
      · have hb : (((s[k].toNat : Nat) : Int) == 10) = true := by rw [h10]; rfl
        have H10 := Lib.hid h10
        clear h10
        go_wp2_with fail
        go_round
        case rel => exact ⟨k + 1, m + 1, by omega, by go_num, by go_num, by omega, by show _ = _; rw [hcnt.out, if_pos H10.out, hm.out]⟩
        case measure => simp [intOf]; omega
      · have hb : (((s[k].toNat : Nat) : Int) == 10) = false := by
          rw [beq_eq_false_iff_ne]
          intro e
          exact h10 (UInt8.toNat_inj.1 (by have e2 : s[k].toNat = 10 := by omega
                                           exact e2))
        have H10 := Lib.hid h10
        clear h10
        go_wp2_with fail
        go_round
        case rel => exact ⟨k + 1, m, by omega, by go_num, rfl, by omega, by show _ = _; rw [hcnt.out, if_neg H10.out, hm.out]; rfl⟩
        case measure => simp [intOf]; omega
    · obtain rfl : k = s.length := by omega
      have hm2 : m = s.count 10 := by have := hm.out; rwa [List.take_of_length_le (Nat.le_refl _)] at this
      have HM := Lib.hid hm2
      clear hm hm2
      by_cases h1 : 16384 < s.length
      · have HE := Lib.hid (linesM_big (.inl h1))
        have hi1 : (16384 : Int) < s.length := by omega
        go_wp2_with fail
        go_ret2
        rw [HE.out]
        exact listErr_bad 4 (Below.refl _ _)
      have hi1 : ¬ (16384 : Int) < s.length := by omega
      by_cases h2 : 512 < m
      · have HE := Lib.hid (linesM_big (s := s) (.inr (by rw [← HM.out]; exact h2)))
        have hi2 : (512 : Int) < (m : Nat) := by omega
        go_wp2_with fail
        go_ret2
        rw [HE.out]
        exact listErr_bad 4 (Below.refl _ _)
      have hi2 : ¬ (512 : Int) < (m : Nat) := by omega
      have hbig : ¬ (16384 < s.length ∨ 512 < s.count 10) := by rw [← HM.out]; rintro (h | h) <;> omega
      have HB := Lib.hid hbig
      clear hbig
      clear h1 h2
      by_cases hp : 0 < s.length
      · obtain ⟨d, hd⟩ : ∃ d, d = s[s.length - 1] := ⟨_, rfl⟩
        have hlast : s.getLast? = some d := by rw [hd, List.getLast?_eq_getElem?, List.getElem?_eq_getElem (by omega)]
        have hpi : (0 : Int) < s.length := by omega
        have hpd : decide ((0 : Int) < s.length) = true := by simpa using hpi
        have hx0 : (0 : Int) ≤ (s.length : Int) - 1 := by omega
        have hx1 : (s.length : Int) - 1 < s.length := by omega
        have hltn : s.length - 1 < s.length := by omega
        have HG := Lib.hid hd.symm
        have HL := Lib.hid hlast
        clear hlast hd
        by_cases hd10 : d = 10
        · have hb : (((s[s.length - 1]'hltn).toNat : Int) != 10) = false := by rw [HG.out, hd10]; rfl
          have H10 := Lib.hid hd10
          clear hd10
          go_wp2_with fail
          go_loopw [6, 7, 8] (fun v f i wr => ∃ (out : List (List UInt8)) (fr k : Nat) (A' : Option Addr) (c' : Nat), k ≤ s.length ∧ fr ≤ k ∧ v = .slice A' out.length c' ∧ f = .int .i64 fr ∧ i = .int .i64 k ∧ Hid (splitC 10 s = out ++ splitC 10 (s.drop fr)) ∧ Hid ((10 : UInt8) ∉ (s.drop fr).take (k - fr)) ∧ out.length ≤ k ∧ Ow sv wr w.heap.size 9 A' c' out ∧ Below w.heap.size w wr)
            (fun _ _ i _ => s.length - (intOf i).toNat)
          case atStart => exact ⟨[], 0, 0, none, 0, Nat.zero_le _, Nat.le_refl _, rfl, rfl, rfl, rfl, by simp [Hid], by simp, Ow.nil _ _ _, Below.refl _ _⟩
          case round =>
            obtain ⟨out, fr, k, A1, c1, hk, hfk, rfl, rfl, rfl, hsp, hno, hol, hown, hb1⟩ := hrel
            clear hb hlt
            by_cases hlt : k < s.length
            · by_cases h10 : s[k] = 10
              · have hbt : (((s[k].toNat : Nat) : Int) == 10) = true := by rw [h10]; rfl
                have HP := Lib.hid (piece_end hfk hlt hno.out h10)
                have hfi : (fr : Int) ≤ k := by omega
                have hki : (k : Int) ≤ s.length := by omega
                clear h10
                have hbs := hb1.size
                go_wp2_with (at_builtin; refine wpList_append_f _ sv_one rfl _ _ 22 rfl w.heap.size 9 16 i0 _ Try.underlying22 hi hz0 hz1 hz2 (by omega) rfl out [(s.drop fr).take (k - fr)] rfl rfl (hown.alloc _) (rf_one _ ((s.drop fr).take (k - fr)) _) (by simp; omega) (by simp; omega) ?_; intro A3 c3 w3 r3 hr3 hown3 hg3 _)
                go_roundw
                case rel =>
                  refine ⟨r3, k + 1, k + 1, A3, c3, by omega, by omega, rfl, by go_num, by go_num, ?_, ?_, ?_, hown3, ?_⟩
                  · show _ = _
                    rw [hsp.out, HP.out, hr3.out, List.append_assoc]; rfl
                  · simp [Hid]
                  · rw [hr3.out]; simp; omega
                  · exact (hb1.alloc hbs _).trans (below_of_grown hg3 (by simp; omega) (fun k e => (hown.blk_ge k e).1))
                case measure => simp [intOf]; omega
              · have hbt : (((s[k].toNat : Nat) : Int) == 10) = false := by
                  rw [beq_eq_false_iff_ne]
                  intro e
                  exact h10 (UInt8.toNat_inj.1 (by have e2 : s[k].toNat = 10 := by omega
                                                   exact e2))
                have HP := Lib.hid (piece_on hfk hlt hno.out h10)
                clear h10
                go_wp2_with fail
                go_roundw
                case rel => exact ⟨out, fr, k + 1, A1, c1, by omega, by omega, rfl, rfl, by go_num, hsp, HP, by omega, hown, hb1⟩
                case measure => simp [intOf]; omega
            · obtain rfl : k = s.length := by omega
              have hpl := piece_last hfk hno.out
              have hfin : s.drop fr = [] := by
                have h1 : (splitC 10 s).getLast? = some [] := splitC_last.2 (.inr (by rw [HL.out, H10.out]))
                rw [hsp.out, hpl] at h1
                simpa using h1
              have HE := Lib.hid (linesM_done HB.out (by rw [hsp.out, hpl, hfin]))
              clear hpl hfin
              go_wp2_with fail
              go_ret2
              rw [HE.out]
              exact ⟨A1, c1, out, rfl, rfl, hown, hb1⟩
        · have hb : (((s[s.length - 1]'hltn).toNat : Int) != 10) = true := by
            rw [HG.out, bne_iff_ne]
            intro e
            exact hd10 (UInt8.toNat_inj.1 (by have e2 : d.toNat = 10 := by omega
                                              exact e2))
          have HE := Lib.hid (linesM_form HB.out (by intro e; rw [e] at hp; simp at hp) (by rw [HL.out]; simpa using hd10))
          clear hd10
          go_wp2_with fail
          go_ret2
          rw [HE.out]
          exact listErr_bad 11 (Below.refl _ _)
      · obtain rfl : s = [] := by cases s with
          | nil => rfl
          | cons a t => simp at hp
        have HE := Lib.hid (linesM_done (s := []) (ls := []) HB.out rfl)
        have hpi : ¬ (0 : Int) < (([] : List UInt8).length : Nat) := by simp
        go_wp2_with fail
        refine wp_loop_rounds 1 ?_
        rw [rounds_succ]
        go_wp2_with fail
        go_ret2
        rw [HE.out]
        exact ⟨none, 0, [], rfl, rfl, Ow.nil _ _ _, Below.refl _ _⟩
end Go.Proofs.Ytnnenhcofibhoaa
