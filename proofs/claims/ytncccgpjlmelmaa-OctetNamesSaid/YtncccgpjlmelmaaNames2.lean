/- The walk of the law OctetNames. -/
import Derived.Test.YtncccgpjlmelmaaNames
namespace Go.Proofs.Ytncccgpjlmelmaa
open Go.RowKit
set_option linter.unusedVariables false

theorem two_blocks (w : World) (o1 o2 o3 : Obj) : ((((w.alloc o1).alloc o2).alloc o3).drew.heap[w.heap.size]? = some o1 ∧ (((w.alloc o1).alloc o2).alloc o3).drew.heap[w.heap.size + 1]? = some o2 ∧ (((w.alloc o1).alloc o2).alloc o3).drew.heap[w.heap.size + 1 + 1]? = some o3) ∧
    Below w.heap.size w (((w.alloc o1).alloc o2).alloc o3).drew := by
  have hb : Below w.heap.size w (((w.alloc o1).alloc o2).alloc o3) := (((Below.refl _ w).alloc (Nat.le_refl _) _).alloc (by simp) _).alloc (by simp; omega) _
  refine ⟨⟨?_, ?_, ?_⟩, hb.trans ⟨rfl, rfl, rfl, Nat.le_refl _, fun _ _ => rfl⟩⟩
  · exact (Below.heap_alloc _ _ _ (by simp; omega)).trans ((Below.heap_alloc _ _ _ (by simp)).trans (block_new w _))
  · have := block_new (w.alloc o1) o2
    simp only [World.size_alloc] at this
    exact (Below.heap_alloc _ _ _ (by simp)).trans this
  · have := block_new ((w.alloc o1).alloc o2) o3
    simp only [World.size_alloc] at this
    exact this

theorem joinM_two_bad : joinM [zs 9000, zs 7381] = ([], 4) := by unfold joinM; rw [if_neg (by rw [flat_two]; decide)]
theorem joinM_two_good : (joinM [zs 9000, zs 7380]).1.length = 16384 ∧ (joinM [zs 9000, zs 7380]).2 = 0 := by
  unfold joinM
  rw [if_pos (by rw [flat_two]; decide)]
  exact ⟨flat_two _ _, rfl⟩

theorem join_order1 (w : World) {n k : Nat} {er : Int} {o1 o2 : Obj} (z1 : Zeros 9000 o1) (z2 : Zeros n o2) (hn : n ≤ 100000) (hk : (joinM [zs 9000, zs n]).1.length = k) (he : (joinM [zs 9000, zs n]).2 = er) :
    Calls Try.prog 14 #[.slice (some ⟨w.heap.size + 1 + 1, 0, none⟩) 2 2] (((w.alloc o1).alloc o2).alloc (.cells #[.slice (some ⟨w.heap.size, 0, none⟩) 9000 9000, .slice (some ⟨w.heap.size + 1, 0, none⟩) n n] 22)).drew (LenErr w k er) := by
  obtain ⟨⟨h1, h2, h3⟩, hb⟩ := two_blocks w o1 o2 (.cells #[.slice (some ⟨w.heap.size, 0, none⟩) 9000 9000, .slice (some ⟨w.heap.size + 1, 0, none⟩) n n] 22)
  exact (join_two h1 h2 z1 z2 (by decide) hn h3).mono fun e w' h => h.len hb hk he
theorem join_order2 (w : World) {n k : Nat} {er : Int} {o1 o2 : Obj} (z1 : Zeros 9000 o1) (z2 : Zeros n o2) (hn : n ≤ 100000) (hk : (joinM [zs 9000, zs n]).1.length = k) (he : (joinM [zs 9000, zs n]).2 = er) :
    Calls Try.prog 14 #[.slice (some ⟨w.heap.size + 1 + 1, 0, none⟩) 2 2] (((w.alloc o2).alloc o1).alloc (.cells #[.slice (some ⟨w.heap.size + 1, 0, none⟩) 9000 9000, .slice (some ⟨w.heap.size, 0, none⟩) n n] 22)).drew (LenErr w k er) := by
  obtain ⟨⟨h1, h2, h3⟩, hb⟩ := two_blocks w o2 o1 (.cells #[.slice (some ⟨w.heap.size + 1, 0, none⟩) 9000 9000, .slice (some ⟨w.heap.size, 0, none⟩) n n] 22)
  exact (join_two h2 h1 z1 z2 (by decide) hn h3).mono fun e w' h => h.len hb hk he

theorem join_bad1 (w : World) {o1 o2 : Obj} (z1 : Zeros 9000 o1) (z2 : Zeros 7381 o2) : Calls Try.prog 14 #[.slice (some ⟨w.heap.size + 1 + 1, 0, none⟩) 2 2] (((w.alloc o1).alloc o2).alloc (.cells #[.slice (some ⟨w.heap.size, 0, none⟩) 9000 9000, .slice (some ⟨w.heap.size + 1, 0, none⟩) 7381 7381] 22)).drew (LenErr w 0 4) :=
  join_order1 w z1 z2 (by decide) (by rw [joinM_two_bad]; rfl) (by rw [joinM_two_bad])
theorem join_bad2 (w : World) {o1 o2 : Obj} (z1 : Zeros 9000 o1) (z2 : Zeros 7381 o2) : Calls Try.prog 14 #[.slice (some ⟨w.heap.size + 1 + 1, 0, none⟩) 2 2] (((w.alloc o2).alloc o1).alloc (.cells #[.slice (some ⟨w.heap.size + 1, 0, none⟩) 9000 9000, .slice (some ⟨w.heap.size, 0, none⟩) 7381 7381] 22)).drew (LenErr w 0 4) :=
  join_order2 w z1 z2 (by decide) (by rw [joinM_two_bad]; rfl) (by rw [joinM_two_bad])
theorem join_good1 (w : World) {o1 o2 : Obj} (z1 : Zeros 9000 o1) (z2 : Zeros 7380 o2) : Calls Try.prog 14 #[.slice (some ⟨w.heap.size + 1 + 1, 0, none⟩) 2 2] (((w.alloc o1).alloc o2).alloc (.cells #[.slice (some ⟨w.heap.size, 0, none⟩) 9000 9000, .slice (some ⟨w.heap.size + 1, 0, none⟩) 7380 7380] 22)).drew (LenErr w 16384 0) :=
  join_order1 w z1 z2 (by decide) (joinM_two_good.1) (joinM_two_good.2)
theorem join_good2 (w : World) {o1 o2 : Obj} (z1 : Zeros 9000 o1) (z2 : Zeros 7380 o2) : Calls Try.prog 14 #[.slice (some ⟨w.heap.size + 1 + 1, 0, none⟩) 2 2] (((w.alloc o2).alloc o1).alloc (.cells #[.slice (some ⟨w.heap.size + 1, 0, none⟩) 9000 9000, .slice (some ⟨w.heap.size, 0, none⟩) 7380 7380] 22)).drew (LenErr w 16384 0) :=
  join_order2 w z1 z2 (by decide) (joinM_two_good.1) (joinM_two_good.2)

set_option maxRecDepth 100000 in
set_option maxHeartbeats 2000000 in
theorem names_walk (w : World) : Calls Try.prog 3 #[] w fun e w' => e = .returned (.bool true) ∧ Below w.heap.size w w' := by
  obtain ⟨o0, z0⟩ : ∃ o, Zeros 16383 o := ⟨_, rfl⟩
  obtain ⟨o1, z1⟩ : ∃ o, Zeros 9000 o := ⟨_, rfl⟩
  obtain ⟨o2, z2⟩ : ∃ o, Zeros 7381 o := ⟨_, rfl⟩
  obtain ⟨o3, z3⟩ : ∃ o, Zeros 7380 o := ⟨_, rfl⟩
  have m0 : ∀ w : World, (Instr.makeSlice 22 (.int .i64 16383) (.int .i64 16383)).run Try.prog w = .ok (.slice (some ⟨w.heap.size, 0, none⟩) 16383 16383) (w.alloc o0) := fun w => make_zeros 16383 (by decide) z0 w
  have m1 : ∀ w : World, (Instr.makeSlice 22 (.int .i64 9000) (.int .i64 9000)).run Try.prog w = .ok (.slice (some ⟨w.heap.size, 0, none⟩) 9000 9000) (w.alloc o1) := fun w => make_zeros 9000 (by decide) z1 w
  have m2 : ∀ w : World, (Instr.makeSlice 22 (.int .i64 7381) (.int .i64 7381)).run Try.prog w = .ok (.slice (some ⟨w.heap.size, 0, none⟩) 7381 7381) (w.alloc o2) := fun w => make_zeros 7381 (by decide) z2 w
  have m3 : ∀ w : World, (Instr.makeSlice 22 (.int .i64 7380) (.int .i64 7380)).run Try.prog w = .ok (.slice (some ⟨w.heap.size, 0, none⟩) 7380 7380) (w.alloc o3) := fun w => make_zeros 7380 (by decide) z3 w
  go_enter Try.func3, Try.ntmps3
  go_wp2_with fail
  refine (put1 _).mono ?_
  rintro e w1 ⟨A1, c1, rfl, b1⟩
  go_wp2_with fail
  refine (put2 _).mono ?_
  rintro e w2 ⟨A2, c2, rfl, h2⟩
  have b2 := b1.trans (h2.mono b1.size)
  clear h2
  go_wp2_with fail
  refine (put3 _ z0).mono ?_
  rintro e w3 ⟨A3, c3, rfl, h3⟩
  have b3 := b2.trans (h3.mono b2.size)
  clear h3
  go_wp2_with fail
  refine (put4 _ z0).mono ?_
  rintro e w4 ⟨A4, c4, rfl, h4⟩
  have b4 := b3.trans (h4.mono b3.size)
  clear h4
  go_wp2_with fail
  refine (put5 _).mono ?_
  rintro e w5 ⟨A5, c5, rfl, h5⟩
  have b5 := b4.trans (h5.mono b4.size)
  clear h5
  go_wp2_with fail
  refine (take1 _).mono ?_
  rintro e w6 ⟨rfl, h6⟩
  have b6 := b5.trans (h6.mono b5.size)
  clear h6
  go_wp2_with fail
  refine (take2 _).mono ?_
  rintro e w7 ⟨rfl, h7⟩
  have b7 := b6.trans (h7.mono b6.size)
  clear h7
  go_wp2_with fail
  refine (take3 _).mono ?_
  rintro e w8 ⟨rfl, h8⟩
  have b8 := b7.trans (h8.mono b7.size)
  clear h8
  go_wp2_with fail
  refine (split1 _).mono ?_
  rintro e w9 ⟨A9, c9, rfl, h9⟩
  have b9 := b8.trans (h9.mono b8.size)
  clear h9
  go_wp2_with fail
  refine (split2 _).mono ?_
  rintro e w10 ⟨A10, c10, rfl, h10⟩
  have b10 := b9.trans (h10.mono b9.size)
  clear h10
  go_wp2_with fail
  go_region_with (go_at_call 14; (first | refine (join_bad1 w10 z1 z2).mono ?_ | refine (join_bad2 w10 z1 z2).mono ?_); rintro e w11 ⟨A11, c11, rfl, h11⟩; have b11 := b10.trans (h11.mono b10.size); clear h11)
  all_goals
    go_wp2_with fail
    go_region_with (go_at_call 14; (first | refine (join_good1 w11 z1 z3).mono ?_ | refine (join_good2 w11 z1 z3).mono ?_); rintro e w12 ⟨A12, c12, rfl, h12⟩; have b12 := b11.trans (h12.mono b11.size); clear h12)
    all_goals
      go_wp2_with fail
      refine (alive_any _).mono ?_
      rintro e w13 ⟨rfl, h13⟩
      go_wp2_with fail
      go_ret
      exact ⟨rfl, b12.trans (h13.mono b12.size)⟩
end Go.Proofs.Ytncccgpjlmelmaa
