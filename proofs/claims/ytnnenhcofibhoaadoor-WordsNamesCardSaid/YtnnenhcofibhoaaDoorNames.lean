/- The law WordsNames: the calls at the law's own arguments. -/
import Derived.Test.YtnnenhcofibhoaaDoorAlive
import Derived.Laws.MakeOwn
import Derived.Laws.OwnMore
namespace Go.Proofs.YtnnenhcofibhoaaDoor
open Go.RowKit
set_option linter.unusedVariables false
attribute [local go_sem] mk_get mk_append mk_extract

def rp (c : UInt8) (n : Nat) : List UInt8 := List.replicate n c
theorem rp_len (c : UInt8) (n : Nat) : (rp c n).length = n := by simp [rp]
theorem rp_succ (c : UInt8) (n : Nat) : rp c n ++ [c] = rp c (n + 1) := by rw [rp, rp, List.replicate_succ']

set_option maxRecDepth 100000 in
set_option maxHeartbeats 400000 in
theorem repeated_any (c : UInt8) (n : Nat) (w : World) (hn : n ≤ 100000) :
    Calls Tryd.prog 13 #[.string ⟨#[c]⟩, .int .i64 (n : Int)] w fun e w' => (∃ t, Hid (t = rp c n) ∧ t.length = n ∧ e = .returned (.string ⟨t.toArray⟩)) ∧ w = w' := by
  go_enter Tryd.func13, Tryd.ntmps13
  go_wp2_with fail
  go_loop [5, 6] (fun v i => ∃ (k : Nat) (t : List UInt8), k ≤ n ∧ i = .int .i64 k ∧ v = .string ⟨t.toArray⟩ ∧ Hid (t = rp c k) ∧ t.length ≤ 100000) (fun _ i => n - (intOf i).toNat)
  case atStart => exact ⟨0, [], Nat.zero_le _, rfl, rfl, rfl, by simp⟩
  case round =>
    obtain ⟨k, t, hk, rfl, rfl, ht, htl⟩ := hrel
    by_cases hlt : k < n
    · have hlti : (k : Int) < n := by omega
      go_wp2_with fail
      go_round
      case rel => exact ⟨k + 1, t ++ [c], by omega, by go_num, by first | rfl | simp, by show _ = _; rw [ht.out, rp_succ], by have := congrArg List.length ht.out; rw [rp_len] at this; simp; omega⟩
      case measure => simp [intOf]; omega
    · obtain rfl : k = n := by omega
      have HT : Hid (t.length = k) := by show _ = _; rw [ht.out, rp_len]
      have hlti : ¬ (k : Int) < k := by omega
      go_wp2_with fail
      go_ret
      exact ⟨⟨t, ht, HT.out, rfl⟩, rfl⟩
theorem rep1 (w : World) : Calls Tryd.prog 13 #[.string ⟨#[97]⟩, .int .i64 16385] w fun e w' => (∃ t, Hid (t = rp 97 16385) ∧ t.length = 16385 ∧ e = .returned (.string ⟨t.toArray⟩)) ∧ w = w' := repeated_any 97 16385 w (by decide)
theorem rep2 (w : World) : Calls Tryd.prog 13 #[.string ⟨#[97]⟩, .int .i64 16384] w fun e w' => (∃ t, Hid (t = rp 97 16384) ∧ t.length = 16384 ∧ e = .returned (.string ⟨t.toArray⟩)) ∧ w = w' := repeated_any 97 16384 w (by decide)
theorem rep3 (w : World) : Calls Tryd.prog 13 #[.string ⟨#[10]⟩, .int .i64 513] w fun e w' => (∃ t, Hid (t = rp 10 513) ∧ t.length = 513 ∧ e = .returned (.string ⟨t.toArray⟩)) ∧ w = w' := repeated_any 10 513 w (by decide)
theorem rep4 (w : World) : Calls Tryd.prog 13 #[.string ⟨#[10]⟩, .int .i64 512] w fun e w' => (∃ t, Hid (t = rp 10 512) ∧ t.length = 512 ∧ e = .returned (.string ⟨t.toArray⟩)) ∧ w = w' := repeated_any 10 512 w (by decide)

set_option maxRecDepth 100000 in
set_option maxHeartbeats 400000 in
theorem line_true (s : List UInt8) (want : Int) (w : World) (hl : s.length ≤ 200000) (h : (wordsM s).2 = want) :
    Calls Tryd.prog 9 #[.string ⟨s.toArray⟩, .int .i64 want] w fun e w' => e = .returned (.bool true) ∧ Below w.heap.size w w' := by
  have H := Lib.hid h
  clear h
  go_enter Tryd.func9, Tryd.ntmps9
  go_wp2_with fail
  refine (words_any s w hl).mono ?_
  rintro e w2 ⟨A2, c2, ls, rfl, hls, hown, hb⟩
  rw [H.out]
  have HL := Lib.hid hls
  clear hls
  go_wp2_with fail
  go_ret
  exact ⟨rfl, hb⟩
set_option maxRecDepth 100000 in
set_option maxHeartbeats 400000 in
theorem num_true (s : List UInt8) (want : Int) (w : World) (hl : s.length ≤ 200000) (h : (numberM s).2 = want) :
    Calls Tryd.prog 11 #[.string ⟨s.toArray⟩, .int .i64 want] w fun e w' => e = .returned (.bool true) ∧ w = w' := by
  have H := Lib.hid h
  clear h
  go_enter Tryd.func11, Tryd.ntmps11
  go_wp2_with fail
  refine (number_any s w (by omega)).mono ?_
  rintro e w2 ⟨rfl, rfl⟩
  rw [H.out]
  go_wp2_with fail
  go_ret
  exact ⟨rfl, rfl⟩

theorem words_a1 {t : List UInt8} (h : t.length = 16385) : (wordsM t).2 = 4 := by rw [wordsM_big (by omega)]
theorem words_a2 {t : List UInt8} (h : t = rp 97 16384) : (wordsM t).2 = 0 := by
  have hl : t.length = 16384 := by rw [h, rp_len]
  rw [wordsM_word ((isOfB_iff 33 126 t).2 ⟨fun e => by rw [e] at hl; simp at hl, fun b hb => ?_⟩) (by omega)]
  rw [h] at hb
  rw [List.eq_of_mem_replicate hb]
  decide

/-- A call answered a new list of k elements and the error er. -/
def LenErr (w : World) (k : Nat) (er : Int) (e : Ending) (w' : World) : Prop :=
  ∃ A' c', e = .returned (.tuple #[.slice A' k c', .int .i64 er]) ∧ Below w.heap.size w w'
theorem lines_len (s : List UInt8) (w : World) (hl : s.length ≤ 4000000) {k : Nat} {er : Int} (h1 : (linesM s).1.length = k) (h2 : (linesM s).2 = er) : Calls Tryd.prog 14 #[.string ⟨s.toArray⟩] w (LenErr w k er) := by
  refine (lines_any s w hl).mono ?_
  rintro e w' ⟨A, c, ls, rfl, hls, _, hb⟩
  exact ⟨A, c, by rw [hls, h1, h2], hb⟩
theorem lines_a1 (w : World) : Calls Tryd.prog 14 #[.string ⟨#[97]⟩] w (LenErr w 0 11) := lines_len [97] w (by decide) (by decide) (by decide)
theorem flat_nils : ∀ n, flatL (List.replicate n []) = rp 10 n
  | 0 => rfl
  | n + 1 => by
    rw [List.replicate_succ', flatL_snoc, flat_nils n, List.append_nil, rp_succ]
theorem lines_a2 {t : List UInt8} (h : t = rp 10 513) (w : World) : Calls Tryd.prog 14 #[.string ⟨t.toArray⟩] w (LenErr w 0 4) := by
  have q : linesM t = ([], 4) := linesM_big (.inr (by rw [h, rp, List.count_replicate_self]; decide))
  exact lines_len t w (by rw [h, rp_len]; decide) (by rw [q]; rfl) (by rw [q])
theorem lines_a3 {t : List UInt8} (h : t = rp 10 512) (w : World) : Calls Tryd.prog 14 #[.string ⟨t.toArray⟩] w (LenErr w 512 0) := by
  have hf := flat_nils 512
  have q : linesM t = (List.replicate 512 [], 0) := linesM_textM (by
    rw [h, ← hf]
    exact textM_good (by rw [hf, rp_len, List.length_replicate]; decide) (fun x hx => by rw [List.eq_of_mem_replicate hx]; simp))
  exact lines_len t w (by rw [h, rp_len]; decide) (by rw [q]; exact List.length_replicate ..) (by rw [q])

theorem text_a1 (w : World) : Calls Tryd.prog 15 #[.slice (some ⟨w.heap.size, 0, none⟩) 1 1] (w.alloc (.cells #[.string ⟨#[97, 10, 98]⟩] 9))
    fun e w' => e = .returned (.tuple #[.string ⟨#[]⟩, .int .i64 11]) ∧ Below w.heap.size w w' := by
  have q : textM [[97, 10, 98]] = ([], 11) := by decide
  have h := text_any (some ⟨w.heap.size, 0, none⟩) 1 [[97, 10, 98]] _ (rf_block (f := sv) (Blk.new w 9 #[.string ⟨#[97, 10, 98]⟩]) [[97, 10, 98]] rfl (by decide)) (by decide) (by decide)
  rw [q] at h
  refine h.mono ?_
  rintro e w' ⟨rfl, hb⟩
  exact ⟨rfl, (below_new w _).trans (hb.mono (by simp))⟩

/-- n empty strings, as they lie when they have been made. -/
def Nils (n : Nat) (o : Obj) : Prop := o = .cells (madeCells #[.string ⟨#[]⟩] n) 9
theorem make_nils (n : Nat) (hn : n ≤ 200000) {o : Obj} (ho : Nils n o) (w : World) :
    (Instr.makeSlice 23 (.int .i64 (n : Int)) (.int .i64 (n : Int))).run Tryd.prog w = .ok (.slice (some ⟨w.heap.size, 0, none⟩) n n) (w.alloc o) := by
  obtain ⟨i0, hi, hz0, hz1, hz2⟩ := info_parts infoS
  have h := run_make (P := Tryd.prog) w 23 9 i0 _ Tryd.underlying23 hi hz0 .i64 .i64 n n (by omega) (by omega) (by rw [hz2]; omega) (by omega)
  unfold Nils at ho
  rw [h, ho]
  simp [hz1, Value.cells]
theorem flat_nils_len (n : Nat) : (flatL (List.replicate n [])).length = n := by rw [flat_nils, rp_len]
theorem text_a2 (w : World) {o : Obj} (ho : Nils 513 o) : Calls Tryd.prog 15 #[.slice (some ⟨w.heap.size, 0, none⟩) 513 513] (w.alloc o)
    fun e w' => e = .returned (.tuple #[.string ⟨#[]⟩, .int .i64 4]) ∧ Below w.heap.size w w' := by
  obtain ⟨xs, hxs⟩ : ∃ xs : List (List UInt8), xs = List.replicate 513 [] := ⟨_, rfl⟩
  have hl : xs.length = 513 := by rw [hxs, List.length_replicate]
  have q : textM xs = ([], 4) := textM_big (.inl (by omega))
  have hb : Blk (w.alloc o) w.heap.size 9 (madeCells #[.string ⟨#[]⟩] 513) := by
    unfold Nils at ho
    rw [ho]
    exact Blk.new w _ _
  have hr : Rf sv (w.alloc o) (w.alloc o).heap.size (some ⟨w.heap.size, 0, none⟩) xs.length xs := rf_block hb xs (by rw [toList_madeCells_one, hxs, List.map_replicate]; rfl) (by omega)
  have h := text_any (some ⟨w.heap.size, 0, none⟩) xs.length xs _ hr (by omega) (by rw [hxs, flat_nils_len]; decide)
  rw [q, hl] at h
  refine h.mono ?_
  rintro e w' ⟨rfl, hb2⟩
  exact ⟨rfl, (below_new w _).trans (hb2.mono (by simp))⟩

theorem tab_q1 : tableM [[], [[120]]] = ([10, 120, 10], 0) := by decide
theorem tab_q2 : tableM [[[97, 32, 98]]] = ([], 11) := by decide
theorem table_a1 (w : World) : Calls Tryd.prog 16 #[.slice (some ⟨w.heap.size + 1 + 1, 0, none⟩) 2 2]
    (((w.alloc (.cells #[] 9)).alloc (.cells #[.string ⟨#[120]⟩] 9)).alloc (.cells #[.slice (some ⟨w.heap.size, 0, none⟩) 0 0, .slice (some ⟨w.heap.size + 1, 0, none⟩) 1 1] 23))
    fun e w' => e = .returned (.tuple #[.string ⟨#[10, 120, 10]⟩, .int .i64 0]) ∧ Below w.heap.size w w' := by
  obtain ⟨W, hW⟩ : ∃ W, W = (((w.alloc (.cells #[] 9)).alloc (.cells #[.string ⟨#[120]⟩] 9)).alloc (.cells #[.slice (some ⟨w.heap.size, 0, none⟩) 0 0, .slice (some ⟨w.heap.size + 1, 0, none⟩) 1 1] 23)) := ⟨_, rfl⟩
  have hb : Below w.heap.size w W := by rw [hW]; exact (((Below.refl _ w).alloc (Nat.le_refl _) _).alloc (by simp) _).alloc (by simp; omega) _
  have b0 : Blk W w.heap.size 9 #[] := by
    rw [hW]; exact ((Blk.new w _ _).alloc _).alloc _
  have b1 : Blk W (w.heap.size + 1) 9 #[.string ⟨#[120]⟩] := by
    have h := (Blk.new (w.alloc (.cells #[] 9)) 9 #[.string ⟨#[120]⟩])
    rw [World.size_alloc] at h
    rw [hW]; exact h.alloc _
  have b2 : Blk W (w.heap.size + 1 + 1) 23 #[.slice (some ⟨w.heap.size, 0, none⟩) 0 0, .slice (some ⟨w.heap.size + 1, 0, none⟩) 1 1] := by
    have h := (Blk.new ((w.alloc (.cells #[] 9)).alloc (.cells #[.string ⟨#[120]⟩] 9)) 23 #[.slice (some ⟨w.heap.size, 0, none⟩) 0 0, .slice (some ⟨w.heap.size + 1, 0, none⟩) 1 1])
    rw [World.size_alloc, World.size_alloc] at h
    rw [hW]; exact h
  have r0 : Rf sv W W.heap.size (some ⟨w.heap.size, 0, none⟩) 0 [] := rf_block b0 [] rfl (by decide)
  have r1 : Rf sv W W.heap.size (some ⟨w.heap.size + 1, 0, none⟩) 1 [[120]] := rf_block b1 [[120]] rfl (by decide)
  have r2 : RfR W W.heap.size (some ⟨w.heap.size + 1 + 1, 0, none⟩) 2 [⟨some ⟨w.heap.size, 0, none⟩, 0, []⟩, ⟨some ⟨w.heap.size + 1, 0, none⟩, 1, [[120]]⟩] := by
    refine ⟨rf_block (f := Rw.v) b2 [⟨some ⟨w.heap.size, 0, none⟩, 0, []⟩, ⟨some ⟨w.heap.size + 1, 0, none⟩, 1, [[120]]⟩] rfl (by simp), fun x hx => ?_⟩
    simp at hx
    rcases hx with rfl | rfl
    · exact r0
    · exact r1
  rw [← hW]
  refine (table_any _ 2 [⟨some ⟨w.heap.size, 0, none⟩, 0, []⟩, ⟨some ⟨w.heap.size + 1, 0, none⟩, 1, [[120]]⟩] W r2 (by show sumR [[], [[120]]] ≤ _; decide)).mono ?_
  rintro e w' ⟨rfl, hb2⟩
  refine ⟨?_, hb.trans (hb2.mono hb.size)⟩
  show Ending.returned (.tuple #[.string ⟨(tableM [[], [[120]]]).1.toArray⟩, .int .i64 (tableM [[], [[120]]]).2]) = _
  rw [tab_q1]
theorem table_a2 (w : World) : Calls Tryd.prog 16 #[.slice (some ⟨w.heap.size + 1, 0, none⟩) 1 1]
    ((w.alloc (.cells #[.string ⟨#[97, 32, 98]⟩] 9)).alloc (.cells #[.slice (some ⟨w.heap.size, 0, none⟩) 1 1] 23))
    fun e w' => e = .returned (.tuple #[.string ⟨#[]⟩, .int .i64 11]) ∧ Below w.heap.size w w' := by
  obtain ⟨W, hW⟩ : ∃ W, W = ((w.alloc (.cells #[.string ⟨#[97, 32, 98]⟩] 9)).alloc (.cells #[.slice (some ⟨w.heap.size, 0, none⟩) 1 1] 23)) := ⟨_, rfl⟩
  have hb : Below w.heap.size w W := by rw [hW]; exact ((Below.refl _ w).alloc (Nat.le_refl _) _).alloc (by simp) _
  have b0 : Blk W w.heap.size 9 #[.string ⟨#[97, 32, 98]⟩] := by
    rw [hW]; exact (Blk.new w _ _).alloc _
  have b1 : Blk W (w.heap.size + 1) 23 #[.slice (some ⟨w.heap.size, 0, none⟩) 1 1] := by
    have h := (Blk.new (w.alloc (.cells #[.string ⟨#[97, 32, 98]⟩] 9)) 23 #[.slice (some ⟨w.heap.size, 0, none⟩) 1 1])
    rw [World.size_alloc] at h
    rw [hW]; exact h
  have r0 : Rf sv W W.heap.size (some ⟨w.heap.size, 0, none⟩) 1 [[97, 32, 98]] := rf_block b0 [[97, 32, 98]] rfl (by decide)
  have r2 : RfR W W.heap.size (some ⟨w.heap.size + 1, 0, none⟩) 1 [⟨some ⟨w.heap.size, 0, none⟩, 1, [[97, 32, 98]]⟩] := by
    refine ⟨rf_block (f := Rw.v) b1 [⟨some ⟨w.heap.size, 0, none⟩, 1, [[97, 32, 98]]⟩] rfl (by simp), fun x hx => ?_⟩
    simp at hx
    subst hx
    exact r0
  rw [← hW]
  refine (table_any _ 1 [⟨some ⟨w.heap.size, 0, none⟩, 1, [[97, 32, 98]]⟩] W r2 (by show sumR [[[97, 32, 98]]] ≤ _; decide)).mono ?_
  rintro e w' ⟨rfl, hb2⟩
  refine ⟨?_, hb.trans (hb2.mono hb.size)⟩
  show Ending.returned (.tuple #[.string ⟨(tableM [[[97, 32, 98]]]).1.toArray⟩, .int .i64 (tableM [[[97, 32, 98]]]).2]) = _
  rw [tab_q2]
theorem line_a1 (w : World) : Calls Tryd.prog 17 #[.slice none 0 0] w fun e w' => e = .returned (.tuple #[.string ⟨#[]⟩, .int .i64 0]) ∧ Below w.heap.size w w' := by
  have q : lineM [] = ([], 0) := by decide
  have h := line_any none 0 [] w (Rf.empty _ _) (by decide)
  rw [q] at h
  exact h
theorem itoa_least : Lib.itoa (-9223372036854775808) = [45, 57, 50, 50, 51, 51, 55, 50, 48, 51, 54, 56, 53, 52, 55, 55, 53, 56, 48, 56] := by
  have h := dec_valD 19 [57, 50, 50, 51, 51, 55, 50, 48, 51, 54, 56, 53, 52, 55, 55, 53, 56, 48, 56] rfl (by decide)
  rw [show valD [57, 50, 50, 51, 51, 55, 50, 48, 51, 54, 56, 53, 52, 55, 55, 53, 56, 48, 56] = 9223372036854775808 by decide] at h
  unfold Lib.itoa
  rw [if_pos (by decide)]
  show 45 :: Lib.decDigits 9223372036854775808 = _
  rw [h]
theorem show_least (w : World) (hT : Tab w) : Calls Tryd.prog 19 #[.int .i64 (-9223372036854775808)] w fun e w' => e = .returned (.string ⟨#[45, 57, 50, 50, 51, 51, 55, 50, 48, 51, 54, 56, 53, 52, 55, 55, 53, 56, 48, 56]⟩) ∧ Below w.heap.size w w' := by
  have h := show_any (-9223372036854775808) w (by decide) (by decide) hT
  rw [itoa_least] at h
  exact h
end Go.Proofs.YtnnenhcofibhoaaDoor
