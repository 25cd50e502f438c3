/- The walk of the law OctetNames: the calls at the law's own arguments. -/
import Derived.Test.YtncccgpjlmelmaaWhole
import Derived.Deep.RegionWith
import Derived.Laws.OwnMore
namespace Go.Proofs.Ytncccgpjlmelmaa
open Go.RowKit
set_option linter.unusedVariables false

def zs (n : Nat) : List UInt8 := List.replicate n 0
theorem zs_len (n : Nat) : (zs n).length = n := by simp [zs]
/-- n bytes that are 0, as they lie when they have been made. -/
def Zeros (n : Nat) (o : Obj) : Prop := o = .cells (madeCells #[.int .u8 0] n) 5
theorem zeros_rd {w : World} {g n : Nat} {o : Obj} (ho : Zeros n o) (h : w.heap[g]? = some o) (hn : n ≤ 200000) : Rd w w.heap.size (some ⟨g, 0, none⟩) n (zs n) := by
  unfold Zeros at ho
  rw [ho] at h
  have := rd_block h (zs n) (by rw [toList_madeCells_one]; simp [zs, bv]) (by rw [zs_len]; omega)
  rwa [zs_len] at this
theorem make_zeros (n : Nat) (hn : n ≤ 200000) {o : Obj} (ho : Zeros n o) (w : World) :
    (Instr.makeSlice 22 (.int .i64 (n : Int)) (.int .i64 (n : Int))).run Try.prog w = .ok (.slice (some ⟨w.heap.size, 0, none⟩) n n) (w.alloc o) := by
  obtain ⟨i0, hi, hz0, hz1, hz2⟩ := info_parts info5
  have h := run_make (P := Try.prog) w 22 5 i0 _ Try.underlying22 hi hz0 .i64 .i64 n n (by omega) (by omega) (by rw [hz2]; omega) (by omega)
  unfold Zeros at ho
  rw [h, ho]
  simp [hz1, Value.cells]

/-- A call answered new bytes or a new list of k elements and the error er. -/
def LenErr (w : World) (k : Nat) (er : Int) (e : Ending) (w' : World) : Prop :=
  ∃ A' c', e = .returned (.tuple #[.slice A' k c', .int .i64 er]) ∧ Below w.heap.size w w'
theorem BytesErr.len {w0 w : World} {q : List UInt8 × Int} {k : Nat} {er : Int} (hb : Below w0.heap.size w0 w) (hk : q.1.length = k) (he : q.2 = er) {e : Ending} {w' : World} (h : BytesErr w q e w') : LenErr w0 k er e w' := by
  obtain ⟨A', c', r, h1, h2, _, h4⟩ := h
  refine ⟨A', c', ?_, hb.trans (h4.mono hb.size)⟩
  rw [h1, h2, hk, he]
theorem ListErr.len {w0 w : World} {q : List (List UInt8) × Int} {k : Nat} {er : Int} (hb : Below w0.heap.size w0 w) (hk : q.1.length = k) (he : q.2 = er) {e : Ending} {w' : World} (h : ListErr w q e w') : LenErr w0 k er e w' := by
  obtain ⟨A', c', r, h1, h2, _, h4⟩ := h
  refine ⟨A', c', ?_, hb.trans (h4.mono hb.size)⟩
  rw [h1, ← byts_len, h2, hk, he]

theorem below_new (w : World) (o : Obj) : Below w.heap.size w (w.alloc o) := (Below.refl _ w).alloc (Nat.le_refl _) o

theorem put1 (w : World) : Calls Try.prog 11 #[.slice none 0 0, .int .u64 256, .int .i64 1] w (LenErr w 0 2) :=
  (put_any none 0 [] 256 1 w (Rd.empty _ _) (by decide) (by decide) (by decide) (by decide)).mono fun e w' h => h.len (Below.refl _ _) (by decide) (by decide)
theorem put2 (w : World) : Calls Try.prog 11 #[.slice none 0 0, .int .u64 0, .int .i64 9] w (LenErr w 0 2) :=
  (put_any none 0 [] 0 9 w (Rd.empty _ _) (by decide) (by decide) (by decide) (by decide)).mono fun e w' h => h.len (Below.refl _ _) (by decide) (by decide)
theorem put5 (w : World) : Calls Try.prog 11 #[.slice none 0 0, .int .u64 18446744073709551615, .int .i64 8] w (LenErr w 8 0) :=
  (put_any none 0 [] 18446744073709551615 8 w (Rd.empty _ _) (by decide) (by decide) (by decide) (by decide)).mono fun e w' h => h.len (Below.refl _ _) (by decide) (by decide)
theorem put3 (w : World) {o : Obj} (ho : Zeros 16383 o) : Calls Try.prog 11 #[.slice (some ⟨w.heap.size, 0, none⟩) 16383 16383, .int .u64 0, .int .i64 2] (w.alloc o) (LenErr w 0 4) := by
  have h := put_any (some ⟨w.heap.size, 0, none⟩) 16383 (zs 16383) 0 2 (w.alloc o) (zeros_rd ho (block_new w o) (by decide)) (by rw [zs_len]; decide) (by decide) (by decide) (by decide)
  have q : putM (zs 16383) 0 2 = ([], 4) := by unfold putM; rw [if_pos (by decide), if_neg (by rw [zs_len]; decide)]
  rw [zs_len, q] at h
  exact h.mono fun e w' h => h.len (below_new w o) rfl rfl
theorem put4 (w : World) {o : Obj} (ho : Zeros 16383 o) : Calls Try.prog 11 #[.slice (some ⟨w.heap.size, 0, none⟩) 16383 16383, .int .u64 1, .int .i64 1] (w.alloc o) (LenErr w 16384 0) := by
  have h := put_any (some ⟨w.heap.size, 0, none⟩) 16383 (zs 16383) 1 1 (w.alloc o) (zeros_rd ho (block_new w o) (by decide)) (by rw [zs_len]; decide) (by decide) (by decide) (by decide)
  have q : putM (zs 16383) 1 1 = (zs 16383 ++ be 1 1, 0) := by unfold putM; rw [if_pos (by decide), if_pos (by rw [zs_len]; decide)]; rfl
  rw [zs_len, q] at h
  exact h.mono fun e w' h => h.len (below_new w o) (by rw [List.length_append, zs_len, be_len]) rfl

theorem take1 (w : World) : Calls Try.prog 12 #[.slice (some ⟨w.heap.size, 0, none⟩) 2 2, .int .i64 1, .int .i64 2] (w.alloc (.cells #[.int .u8 1, .int .u8 2] 5))
    fun e w' => e = .returned (.tuple #[.int .u64 0, .int .i64 0, .int .i64 10]) ∧ Below w.heap.size w w' := by
  refine (take_any _ 2 [1, 2] 1 2 _ (rd_block (block_new w _) [1, 2] rfl (by decide)) (by decide) (by decide) (by decide) (by decide) (by decide)).mono ?_
  rintro e w' ⟨rfl, rfl⟩
  exact ⟨rfl, below_new w _⟩
theorem take2 (w : World) : Calls Try.prog 12 #[.slice (some ⟨w.heap.size, 0, none⟩) 2 2, .int .i64 3, .int .i64 1] (w.alloc (.cells #[.int .u8 1, .int .u8 2] 5))
    fun e w' => e = .returned (.tuple #[.int .u64 0, .int .i64 0, .int .i64 2]) ∧ Below w.heap.size w w' := by
  refine (take_any _ 2 [1, 2] 3 1 _ (rd_block (block_new w _) [1, 2] rfl (by decide)) (by decide) (by decide) (by decide) (by decide) (by decide)).mono ?_
  rintro e w' ⟨rfl, rfl⟩
  exact ⟨rfl, below_new w _⟩
theorem take3 (w : World) : Calls Try.prog 12 #[.slice (some ⟨w.heap.size, 0, none⟩) 3 3, .int .i64 1, .int .i64 2] (w.alloc (.cells #[.int .u8 1, .int .u8 2, .int .u8 3] 5))
    fun e w' => e = .returned (.tuple #[.int .u64 515, .int .i64 3, .int .i64 0]) ∧ Below w.heap.size w w' := by
  refine (take_any _ 3 [1, 2, 3] 1 2 _ (rd_block (block_new w _) [1, 2, 3] rfl (by decide)) (by decide) (by decide) (by decide) (by decide) (by decide)).mono ?_
  rintro e w' ⟨rfl, rfl⟩
  exact ⟨rfl, below_new w _⟩

theorem split1 (w : World) : Calls Try.prog 13 #[.slice (some ⟨w.heap.size, 0, none⟩) 3 3] (w.alloc (.cells #[.int .u8 0, .int .u8 2, .int .u8 1] 5)) (LenErr w 0 10) := by
  have q : splitM [0, 2, 1] = ([], 10) := splitM_no (by decide) fun L hf h => by
    cases L with
    | nil => simp [flat] at h
    | cons x L =>
      rw [flat_cons] at h
      have hl := congrArg List.length h
      rw [List.length_append, fld_len] at hl
      simp at hl
      rcases x with _ | ⟨a, _ | ⟨b, x⟩⟩
      · have h' : [0, 2, 1] = (be 2 0 ++ []) ++ flat L := h
        rw [show be 2 0 = [0, 0] from by decide] at h'
        simp at h'
      · have h' : [0, 2, 1] = (be 2 1 ++ [a]) ++ flat L := h
        rw [show be 2 1 = [0, 1] from by decide] at h'
        simp at h'
      · simp at hl
        omega
  have h := split_any (some ⟨w.heap.size, 0, none⟩) 3 [0, 2, 1] (w.alloc (.cells #[.int .u8 0, .int .u8 2, .int .u8 1] 5)) (rd_block (block_new w _) [0, 2, 1] rfl (by decide)) (by decide)
  rw [q] at h
  exact h.mono fun e w' h => h.len (below_new w _) rfl rfl
theorem split2 (w : World) : Calls Try.prog 13 #[.slice none 0 0] w (LenErr w 0 0) := by
  have h := split_any none 0 [] w (Rd.empty _ _) (by decide)
  rw [splitM_nil] at h
  exact h.mono fun e w' h => h.len (Below.refl _ _) rfl rfl

theorem flat_two (m n : Nat) : (flat [zs m, zs n]).length = m + n + 4 := by
  simp [flat, fld_len, zs_len]
  omega
/-- Two rows of zeros, and the list of both. -/
theorem join_two {W : World} {g1 g2 g3 m n : Nat} {o1 o2 : Obj} (h1 : W.heap[g1]? = some o1) (h2 : W.heap[g2]? = some o2) (z1 : Zeros m o1) (z2 : Zeros n o2) (hm : m ≤ 100000) (hn : n ≤ 100000)
    (h3 : W.heap[g3]? = some (.cells #[.slice (some ⟨g1, 0, none⟩) m m, .slice (some ⟨g2, 0, none⟩) n n] 22)) :
    Calls Try.prog 14 #[.slice (some ⟨g3, 0, none⟩) 2 2] W (BytesErr W (joinM [zs m, zs n])) := by
  have r1 := zeros_rd z1 h1 (by omega)
  have r2 := zeros_rd z2 h2 (by omega)
  have hg3 : g3 < W.heap.size := (Array.getElem?_eq_some_iff.1 h3).1
  have hl : RdL W W.heap.size (some ⟨g3, 0, none⟩) 2 [⟨some ⟨g1, 0, none⟩, m, zs m⟩, ⟨some ⟨g2, 0, none⟩, n, zs n⟩] := by
    refine ⟨by simp, by simp [maxLen], (fun e => by cases e), fun ad e j hj => ?_, fun x hx => ?_⟩
    · obtain rfl := Option.some.inj e
      refine ⟨hg3, ?_⟩
      rw [add_plain, Nat.zero_add, cell_of_row W _ j _ _ _ h3]
      match j, hj with
      | 0, _ => simp [El.v, zs_len]
      | 1, _ => simp [El.v, zs_len]
    · simp at hx
      rcases hx with rfl | rfl
      · exact r1
      · exact r2
  exact join_any (some ⟨g3, 0, none⟩) 2 [⟨some ⟨g1, 0, none⟩, m, zs m⟩, ⟨some ⟨g2, 0, none⟩, n, zs n⟩] W hl (by simp) (fun x hx => by
    simp at hx
    rcases hx with rfl | rfl
    · rw [zs_len]; omega
    · rw [zs_len]; omega)
end Go.Proofs.Ytncccgpjlmelmaa
