/- words' Lines and Text. -/
import Derived.Test.YtnnenhcofibhoaaDoorDraft
namespace Go.Proofs.YtnnenhcofibhoaaDoor
open Go.RowKit
set_option linter.unusedVariables false

theorem infoS : (Tryd.prog.info? 9).map (fun i => (i.zero, i.size, i.bytes)) = some (some (.string ⟨#[]⟩), 1, 16) := by kernel_rfl

/-- A call answered a new list of texts and an error. -/
def ListErr (w : World) (q : List (List UInt8) × Int) (e : Ending) (w' : World) : Prop :=
  ∃ A' c' ls, e = .returned (.tuple #[.slice A' ls.length c', .int .i64 q.2]) ∧ ls = q.1 ∧ Ow sv w' w.heap.size 9 A' c' ls ∧ Below w.heap.size w w'
theorem listErr_bad {w w' : World} (er : Int) (hb : Below w.heap.size w w') : ListErr w ([], er) (.returned (.tuple #[.slice none 0 0, .int .i64 er])) w' :=
  ⟨none, 0, [], rfl, rfl, Ow.nil _ _ _, hb⟩
/-- A call answered a text and an error. -/
def TextErr (w : World) (q : List UInt8 × Int) (e : Ending) (w' : World) : Prop :=
  e = .returned (.tuple #[.string ⟨q.1.toArray⟩, .int .i64 q.2]) ∧ Below w.heap.size w w'

def strLen : Value → Nat
  | .string b => b.size
  | _ => 0

set_option maxRecDepth 100000 in
set_option maxHeartbeats 1000000 in
theorem lines_any (s : List UInt8) (w : World) (hl : s.length ≤ 4000000) : Calls Tryd.prog 14 #[.string ⟨s.toArray⟩] w (ListErr w (linesM s)) := by
  obtain ⟨i0, hi, hz0, hz1, hz2⟩ := info_parts infoS
  by_cases h1 : 16384 < s.length
  · rw [linesM_big (.inl h1)]
    have hi1 : (16384 : Int) < s.length := by omega
    go_enter Tryd.func14, Tryd.ntmps14
    go_wp2_with fail
    go_ret2
    exact listErr_bad 4 (Below.refl _ _)
  have hi1 : ¬ (16384 : Int) < s.length := by omega
  by_cases h2 : 512 < s.count 10
  · rw [linesM_big (.inr h2)]
    have hi2 : (512 : Int) < (s.count 10 : Nat) := by omega
    go_enter Tryd.func14, Tryd.ntmps14
    go_wp2_with fail
    refine (count_any s 10 _).mono ?_
    rintro e w' ⟨rfl, rfl⟩
    go_wp2_with fail
    go_ret2
    exact listErr_bad 4 (Below.refl _ _)
  have hi2 : ¬ (512 : Int) < (s.count 10 : Nat) := by omega
  have hbig : ¬ (16384 < s.length ∨ 512 < s.count 10) := by rintro (h | h) <;> omega
  have HB := Lib.hid hbig
  clear hbig
  go_enter Tryd.func14, Tryd.ntmps14
  go_wp2_with fail
  refine (count_any s 10 _).mono ?_
  rintro e w' ⟨rfl, rfl⟩
  go_wp2_with fail
  go_loopw [4, 5] (fun v r wr => ∃ (ls : List (List UInt8)) (rest : List UInt8) (A' : Option Addr) (c' : Nat), v = .slice A' ls.length c' ∧ r = .string ⟨rest.toArray⟩ ∧ Hid (splitC 10 s = ls ++ splitC 10 rest) ∧ ls.length + rest.length ≤ s.length ∧ Ow sv wr w.heap.size 9 A' c' ls ∧ Below w.heap.size w wr) (fun _ r _ => strLen r)
  case atStart => exact ⟨[], s, none, 0, rfl, rfl, rfl, by simp, Ow.nil _ _ _, Below.refl _ _⟩
  case round =>
    obtain ⟨ls, rest, A1, c1, rfl, rfl, hsp, hlen, hown, hb⟩ := hrel
    by_cases hr : rest = []
    · subst hr
      go_wp2_with fail
      go_ret2
      rw [linesM_done HB.out hsp.out]
      exact ⟨A1, c1, ls, rfl, rfl, hown, hb⟩
    · have hne : (rest == []) = false := by simpa using hr
      have hrl : rest.length ≤ 4000000 := by omega
      by_cases hc : (10 : UInt8) ∈ rest
      · obtain ⟨x, r, hx, hno, _⟩ := indexByte_some hc
        have hxr : rest.length = x.length + (r.length + 1) := by rw [hx]; simp
        have HX := Lib.hid hx
        have HXR := Lib.hid hxr
        have hlx : x.length ≤ 4000000 := by omega
        clear hx hxr hr
        go_wp2_with fail
        refine (cut_yes rest x r 10 _ (by omega) HX.out hno).mono ?_
        rintro e w1 ⟨rfl, n1, rfl⟩
        go_wp2_with fail
        refine (clone_any x _ (by omega)).mono ?_
        rintro e w2 ⟨rfl, hb2⟩
        have hbn : Below w.heap.size w w2 := (hb.trans (below_drewN _ wr n1)).trans (hb2.mono (by simpa using hb.size))
        have hs2 := hb2.size
        have hown2 : Ow sv w2 w.heap.size 9 A1 c1 ls := (hown.drewN n1).below (Nat.le_refl _) hb2
        go_wp2_with (at_builtin; refine wpList_append_f _ sv_one rfl _ _ 23 rfl w.heap.size 9 16 i0 _ Tryd.underlying23 hi hz0 hz1 hz2 (by omega) rfl ls [x] rfl rfl (hown2.alloc _) (rf_one _ x _) (by simp; omega) (by have := hbn.size; simp; omega) ?_; intro A3 c3 w3 r3 hr3 hown3 hg3 hb3)
        go_roundw
        case rel =>
          refine ⟨r3, r, A3, c3, rfl, rfl, ?_, ?_, hown3, ?_⟩
          · show _ = _
            rw [hsp.out, HX.out, splitC_cut _ hno, hr3.out, List.append_assoc]; rfl
          · have := HXR.out
            rw [hr3.out]; simp; omega
          · exact (hbn.alloc hbn.size _).trans (below_of_grown hg3 (by have := hbn.size; simp; omega) (fun k e => (hown2.blk_ge k e).1))
        case measure =>
          have := HXR.out
          simp [strLen, ByteArray.size]; omega
      · have HR := Lib.hid hr
        clear hr
        go_wp2_with fail
        refine (cut_no rest 10 _ hc).mono ?_
        rintro e w1 ⟨rfl, n1, rfl⟩
        go_wp2_with fail
        go_ret2
        rw [linesM_stuck HB.out (by rw [hsp.out, splitC_one hc]) HR.out]
        exact listErr_bad 11 (hb.trans (below_drewN _ wr n1))

theorem flatL_take (xs : List (List UInt8)) (k : Nat) (h : k < xs.length) : flatL (xs.take (k + 1)) = flatL (xs.take k) ++ xs[k] ++ [10] := by
  rw [List.take_succ_eq_append_getElem h, flatL_snoc]
theorem flatL_len_get : ∀ (xs : List (List UInt8)) (k : Nat) (h : k < xs.length), xs[k].length ≤ (flatL xs).length
  | x :: xs, 0, _ => by simp [flatL]
  | x :: xs, k + 1, h => by
    have := flatL_len_get xs k (by simpa using h)
    simp [flatL]
    omega

set_option maxRecDepth 100000 in
set_option maxHeartbeats 1000000 in
theorem text_any (A : Option Addr) (c : Nat) (xs : List (List UInt8)) (w : World) (hr : Rf sv w w.heap.size A c xs) (hl : xs.length ≤ 4000000) (hf : (flatL xs).length ≤ 4000000000) :
    Calls Tryd.prog 15 #[.slice A xs.length c] w (TextErr w (textM xs)) := by
  by_cases h1 : 512 < xs.length
  · rw [textM_big (.inl h1)]
    have hi1 : (512 : Int) < xs.length := by omega
    go_enter Tryd.func15, Tryd.ntmps15
    go_wp2_with fail
    go_ret2
    exact ⟨rfl, Below.refl _ _⟩
  have hi1 : ¬ (512 : Int) < xs.length := by omega
  have HF := Lib.hid hf
  clear hf
  go_enter Tryd.func15, Tryd.ntmps15
  go_wp2_with fail
  go_loopw [14] (fun i wr => ∃ k : Nat, k ≤ xs.length ∧ i = .int .i64 k ∧ Dr wr w.heap.size w.heap.size (flatL (xs.take k)) ∧ Below w.heap.size w wr) (fun i _ => xs.length - (intOf i).toNat)
  case atStart => exact ⟨0, Nat.zero_le _, rfl, Dr.start, below_new _ _⟩
  case round =>
    obtain ⟨k, hk, rfl, hd, hb⟩ := hrel
    by_cases hlt : k < xs.length
    · obtain ⟨b, o, rfl, hbb, hc⟩ := (hr.below hb).at_ hlt
      have hcx := hc k hlt
      have hxl := flatL_len_get xs k hlt
      have ht := flatL_take xs k hlt
      obtain ⟨x, hx⟩ : ∃ x, x = xs[k] := ⟨_, rfl⟩
      rw [← hx] at hcx hxl ht
      have hxl2 : x.length ≤ 4000000000 := Nat.le_trans hxl HF.out
      have HT := Lib.hid ht
      unfold sv at hcx
      clear hc hx hxl ht
      go_wp2_with fail
      refine (put_any w.heap.size w.heap.size _ x _ hd hb.size hxl2).mono ?_
      rintro e w1 ⟨rfl, hd1, hk1⟩
      go_wp2_with fail
      refine (put_any w.heap.size w.heap.size _ [10] _ hd1 (hb.trans hk1.1).size (by simp)).mono ?_
      rintro e w2 ⟨rfl, hd2, hk2⟩
      go_wp2_with fail
      go_roundw
      case rel => exact ⟨k + 1, by omega, by go_num, by rw [HT.out]; exact hd2, (hb.trans hk1.1).trans hk2.1⟩
      case measure => simp [intOf]; omega
    · obtain rfl : k = xs.length := by omega
      rw [List.take_of_length_le (Nat.le_refl _)] at hd
      by_cases h2 : 16384 < (flatL xs).length
      · have HE := Lib.hid (textM_big (.inr h2))
        have hq : finM (flatL xs) = ([], 4) := by unfold finM; rw [if_pos h2]
        have HQ := Lib.hid hq
        have hi0 : ¬ ((xs.length : Int) < 0) := by omega
        clear hq
        go_wp2_with fail
        refine (finish_any _ _ _ _ hd).mono ?_
        rintro e w1 ⟨rfl, rfl⟩
        rw [HQ.out]
        go_wp2_with fail
        refine (count_any [] 10 _).mono ?_
        rintro e w1 ⟨rfl, rfl⟩
        rw [List.count_nil]
        go_wp2_with fail
        go_ret2
        rw [HE.out]
        exact ⟨rfl, hb⟩
      · have hq : finM (flatL xs) = (flatL xs, 0) := by unfold finM; rw [if_neg h2]
        have HQ := Lib.hid hq
        have hbig : ¬ (512 < xs.length ∨ 16384 < (flatL xs).length) := by rintro (h | h) <;> omega
        have HB := Lib.hid hbig
        clear hq hbig
        by_cases hbad : ∃ x ∈ xs, (10 : UInt8) ∈ x
        · have hg := flatL_count_gt hbad
          have hi3 : (xs.length : Int) < ((flatL xs).count 10 : Nat) := by omega
          have HBAD := Lib.hid hbad
          have HE := Lib.hid (textM_bad HB.out HBAD.out)
          clear hbad hg
          go_wp2_with fail
          refine (finish_any _ _ _ _ hd).mono ?_
          rintro e w1 ⟨rfl, rfl⟩
          rw [HQ.out]
          go_wp2_with fail
          refine (count_any (flatL xs) 10 _).mono ?_
          rintro e w1 ⟨rfl, rfl⟩
          go_wp2_with fail
          go_ret2
          rw [HE.out]
          exact ⟨rfl, hb⟩
        · have hno : ∀ x ∈ xs, (10 : UInt8) ∉ x := fun x hx h10 => hbad ⟨x, hx, h10⟩
          have hg := flatL_count hno
          have hi3 : ¬ ((xs.length : Int) < ((flatL xs).count 10 : Nat)) := by omega
          have HE := Lib.hid (textM_good HB.out hno)
          clear hbad hg hno
          go_wp2_with fail
          refine (finish_any _ _ _ _ hd).mono ?_
          rintro e w1 ⟨rfl, rfl⟩
          rw [HQ.out]
          go_wp2_with fail
          refine (count_any (flatL xs) 10 _).mono ?_
          rintro e w1 ⟨rfl, rfl⟩
          go_wp2_with fail
          go_ret2
          rw [HE.out]
          exact ⟨rfl, hb⟩
end Go.Proofs.YtnnenhcofibhoaaDoor
