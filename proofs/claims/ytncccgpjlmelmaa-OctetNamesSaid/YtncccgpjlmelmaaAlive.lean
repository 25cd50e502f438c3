/- The law's alive: the chapter's examples hold. -/
import Derived.Test.YtncccgpjlmelmaaSplit2
namespace Go.Proofs.Ytncccgpjlmelmaa
open Go.RowKit
set_option linter.unusedVariables false

/-- A block that is known whole, as bytes. -/
theorem rd_block {w : World} {g : Nat} {cs : Array Value} {t : Nat} {fr : Nat × Nat} (h : w.heap[g]? = some (.cells cs t fr)) (l : List UInt8) (hc : cs.toList = bv l) (hl : l.length ≤ 1000000) : Rd w w.heap.size (some ⟨g, 0, none⟩) l.length l := by
  have hg : g < w.heap.size := (Array.getElem?_eq_some_iff.1 h).1
  refine ⟨Nat.le_refl _, by simp only [maxLen]; omega, (fun e => by cases e), fun ad e j hj => ?_⟩
  obtain rfl := Option.some.inj e
  refine ⟨hg, ?_⟩
  rw [add_plain, Nat.zero_add, cell_of_row w g j cs t fr h]
  have := bv_get hj
  rw [← hc] at this
  simpa using this

theorem block_new (w : World) (o : Obj) : (w.alloc o).heap[w.heap.size]? = some o := heap_alloc_new w o

theorem alive1 (w : World) : Calls Try.prog 11 #[.slice (some ⟨w.heap.size, 0, none⟩) 1 1, .int .u64 258, .int .i64 2] (w.alloc (.cells #[.int .u8 7] 5)) (BytesErr (w.alloc (.cells #[.int .u8 7] 5)) ([7, 1, 2], 0)) := by
  have q : putM [7] 258 2 = ([7, 1, 2], 0) := by decide
  rw [← q]
  exact put_any _ 1 [7] 258 2 _ (rd_block (block_new w _) [7] rfl (by decide)) (by decide) (by decide) (by decide) (by decide)
theorem alive2 (w : World) : Calls Try.prog 20 #[.slice none 0 0, .slice (some ⟨w.heap.size, 0, none⟩) 2 2] (w.alloc (.cells #[.int .u8 5, .int .u8 6] 5)) (BytesErr (w.alloc (.cells #[.int .u8 5, .int .u8 6] 5)) ([0, 2, 5, 6], 0)) := by
  have q : putFieldM [] [5, 6] = ([0, 2, 5, 6], 0) := by decide
  rw [← q]
  exact putField_any none _ 0 2 [] [5, 6] _ (Rd.empty _ _) (rd_block (block_new w _) [5, 6] rfl (by decide)) (by decide) (by decide)
theorem alive3 (w : World) : Calls Try.prog 13 #[.slice (some ⟨w.heap.size, 0, none⟩) 5 5] (w.alloc (.cells #[.int .u8 0, .int .u8 1, .int .u8 9, .int .u8 0, .int .u8 0] 5)) (ListErr (w.alloc (.cells #[.int .u8 0, .int .u8 1, .int .u8 9, .int .u8 0, .int .u8 0] 5)) ([[9], []], 0)) := by
  have q : splitM [0, 1, 9, 0, 0] = ([[9], []], 0) := by
    have : ([0, 1, 9, 0, 0] : List UInt8) = flat [[9], []] := by decide
    rw [this]
    exact splitM_flat (fun x hx => by simp at hx; rcases hx with rfl | rfl <;> simp) (by decide)
  rw [← q]
  exact split_any _ 5 [0, 1, 9, 0, 0] _ (rd_block (block_new w _) [0, 1, 9, 0, 0] rfl (by decide)) (by decide)

theorem alive4 (A : Option Addr) (c : Nat) (ys : List El) (w : World) (base : Nat) (hown : OwnL w base A c ys) (hy : byts ys = [[9], []]) :
    Calls Try.prog 26 #[.slice A ys.length c, .slice (some ⟨w.heap.size + 1 + 1, 0, none⟩) 2 2]
      (((w.alloc (.cells #[.int .u8 9] 5)).alloc (.cells #[] 5)).alloc (.cells #[.slice (some ⟨w.heap.size, 0, none⟩) 1 1, .slice (some ⟨w.heap.size + 1, 0, none⟩) 0 0] 22))
      fun e w' => e = .returned (.bool true) ∧ Below w.heap.size w w' := by
  obtain ⟨W, hW⟩ : ∃ W, W = (((w.alloc (.cells #[.int .u8 9] 5)).alloc (.cells #[] 5)).alloc (.cells #[.slice (some ⟨w.heap.size, 0, none⟩) 1 1, .slice (some ⟨w.heap.size + 1, 0, none⟩) 0 0] 22)) := ⟨_, rfl⟩
  have hb : Below w.heap.size w W := by rw [hW]; exact (((Below.refl _ w).alloc (Nat.le_refl _) _).alloc (by simp) _).alloc (by simp; omega) _
  have e0 : W.heap[w.heap.size]? = some (.cells #[.int .u8 9] 5) := by
    rw [hW]
    exact (Below.heap_alloc _ _ _ (by simp; omega)).trans ((Below.heap_alloc _ _ _ (by simp)).trans (block_new w _))
  have e2 : W.heap[w.heap.size + 1 + 1]? = some (.cells #[.slice (some ⟨w.heap.size, 0, none⟩) 1 1, .slice (some ⟨w.heap.size + 1, 0, none⟩) 0 0] 22) := by
    rw [hW]
    have := block_new ((w.alloc (.cells #[.int .u8 9] 5)).alloc (.cells #[] 5)) (.cells #[.slice (some ⟨w.heap.size, 0, none⟩) 1 1, .slice (some ⟨w.heap.size + 1, 0, none⟩) 0 0] 22)
    simpa using this
  have hsz : W.heap.size = w.heap.size + 1 + 1 + 1 := by rw [hW]; simp
  rw [← hW]
  have hx1 : Rd W W.heap.size (some ⟨w.heap.size, 0, none⟩) 1 [9] := rd_block e0 [9] rfl (by decide)
  have hx2 : Rd W W.heap.size (some ⟨w.heap.size + 1, 0, none⟩) 0 [] := ⟨by simp, by simp [maxLen], (fun e => by cases e), fun ad e j hj => by simp at hj⟩
  have hlit : RdL W W.heap.size (some ⟨w.heap.size + 1 + 1, 0, none⟩) 2 [⟨some ⟨w.heap.size, 0, none⟩, 1, [9]⟩, ⟨some ⟨w.heap.size + 1, 0, none⟩, 0, []⟩] := by
    refine ⟨by simp, by simp [maxLen], (fun e => by cases e), fun ad e j hj => ?_, fun x hx => ?_⟩
    · obtain rfl := Option.some.inj e
      refine ⟨by show w.heap.size + 1 + 1 < _; omega, ?_⟩
      rw [add_plain, Nat.zero_add, cell_of_row W _ j _ _ _ e2]
      match j, hj with
      | 0, _ => rfl
      | 1, _ => rfl
    · simp at hx
      rcases hx with rfl | rfl
      · exact hx1
      · exact hx2
  have hl : ys.length ≤ 1000000 := by
    have := congrArg List.length hy
    rw [byts_len] at this
    simp at this
    omega
  refine (same_any A _ c 2 _ _ ys _ W (hown.below (Nat.le_refl _) hb).rd hlit hl (by simp)).mono ?_
  rintro e w' ⟨rfl, n, rfl⟩
  refine ⟨?_, hb.trans ⟨rfl, rfl, rfl, Nat.le_refl _, fun _ _ => rfl⟩⟩
  rw [hy]
  rfl

set_option maxRecDepth 100000 in
set_option maxHeartbeats 2000000 in
theorem alive_any (w : World) : Calls Try.prog 15 #[] w fun e w' => e = .returned (.bool true) ∧ Below w.heap.size w w' := by
  go_enter Try.func15, Try.ntmps15
  go_wp2_with fail
  refine (alive1 w).mono ?_
  rintro e w1 ⟨A1, c1, r1, rfl, hr1, hown1, hb1⟩
  have b1 : Below w.heap.size w w1 := ((Below.refl _ w).alloc (Nat.le_refl _) _).trans (hb1.mono (by simp))
  have s1 := hb1.size
  have hr1' : r1 = [7, 1, 2] := hr1
  have HR1 := Lib.hid hr1'
  clear hr1 hr1'
  go_wp2_with fail
  refine (alive2 w1).mono ?_
  rintro e w2 ⟨A2, c2, r2, rfl, hr2, hown2, hb2⟩
  have b2 : Below w1.heap.size w1 w2 := ((Below.refl _ w1).alloc (Nat.le_refl _) _).trans (hb2.mono (by simp))
  have s2 := b2.size
  have hr2' : r2 = [0, 2, 5, 6] := hr2
  have HR2 := Lib.hid hr2'
  clear hr2 hr2'
  go_wp2_with fail
  refine (alive3 w2).mono ?_
  rintro e w3 ⟨A3, c3, ys, rfl, hr3, hown3, hb3⟩
  have b3 : Below w2.heap.size w2 w3 := ((Below.refl _ w2).alloc (Nat.le_refl _) _).trans (hb3.mono (by simp))
  have s3 := b3.size
  have hr3' : byts ys = [[9], []] := hr3
  have HR3 := Lib.hid hr3'
  clear hr3 hr3'
  have k1 := str_bytes' ((hown1.below (Nat.le_refl _) b2).below (Nat.le_refl _) b3).rd
  have k2 := str_bytes' (hown2.below (Nat.le_refl _) b3).rd
  go_wp2_with fail
  refine (alive4 A3 c3 ys w3 _ hown3 HR3.out).mono ?_
  rintro e w4 ⟨rfl, hb4⟩
  go_wp2_with fail
  go_ret
  exact ⟨rfl, b1.trans ((b2.mono b1.size).trans ((b3.mono (Nat.le_trans b1.size s2)).trans (hb4.mono (Nat.le_trans b1.size (Nat.le_trans s2 s3)))))⟩
end Go.Proofs.Ytncccgpjlmelmaa
