/- The examples that every statement asks too. -/
import Derived.Test.YtffbmkobholmhaaDoorCall
namespace Go.Proofs.YtffbmkobholmhaaDoor
open Go.RowKit
set_option linter.unusedVariables false

def bigL : List UInt32 := [0, 4294967295]
theorem len_lit {l : List UInt32} {n : Nat} (h : l.length = n) : Hid (l.length = n) := h
theorem c_lit {l : List UInt32} {n : Nat} (h : l.length = n + 1) (hn : n < 96) (hx : l[n]? ≠ some 0) : chk l = 0 := chk_lit h hn hx
theorem val1 (x : UInt32) : val [x] = x.toNat := val_one x
theorem c1 : chk [0, 1] = 0 := chk_lit (n := 1) rfl (by decide) (by decide)
theorem c2 : chk [4294967295] = 0 := chk_lit (n := 0) rfl (by decide) (by decide)
theorem c3 : chk [0, 4294967295] = 0 := chk_lit (n := 1) rfl (by decide) (by decide)
theorem c4 : chk [100] = 0 := chk_lit (n := 0) rfl (by decide) (by decide)
theorem c5 : chk [7] = 0 := chk_lit (n := 0) rfl (by decide) (by decide)
theorem c6 : chk [12] = 0 := chk_lit (n := 0) rfl (by decide) (by decide)
theorem c7 : chk [18] = 0 := chk_lit (n := 0) rfl (by decide) (by decide)
theorem c8 : chk [1] = 0 := chk_lit (n := 0) rfl (by decide) (by decide)
theorem c9 : chk [2] = 0 := chk_lit (n := 0) rfl (by decide) (by decide)
theorem lBig : limbs 18446744069414584320 = [0, 4294967295] := limbs_lit (n := 1) rfl (by decide) (by decide)
theorem vBig : val [0, 4294967295] = 18446744069414584320 := by decide
theorem f1 : mulM [0, 1] [4294967295] = ([0, 4294967295], 0) := by
  rw [mulM_ok (chk2_ok c1 c2), show val [0, 1] * val [4294967295] = 18446744069414584320 by decide, numM_ok (by rw [lBig]; decide), lBig]
theorem dBig : Lib.decDigits 18446744069414584320 = [49, 56, 52, 52, 54, 55, 52, 52, 48, 54, 57, 52, 49, 52, 53, 56, 52, 51, 50, 48] := by
  have h := dec_valD _ [49, 56, 52, 52, 54, 55, 52, 52, 48, 54, 57, 52, 49, 52, 53, 56, 52, 51, 50, 48] rfl (by decide)
  rwa [show valD [49, 56, 52, 52, 54, 55, 52, 52, 48, 54, 57, 52, 49, 52, 53, 56, 52, 51, 50, 48] = 18446744069414584320 by decide] at h
theorem f2 : textM [0, 4294967295] = ([49, 56, 52, 52, 54, 55, 52, 52, 48, 54, 57, 52, 49, 52, 53, 56, 52, 51, 50, 48], 0) := by rw [textM_ok c3, vBig, dBig]
theorem f3 : divM [100] [7] = (([14], [2]), 0) := by
  rw [divM_ok (chk2_ok c4 c5) (by decide), show val [100] / val [7] = 14 by decide, show val [100] % val [7] = 2 by decide, limbs_lit (l := [14]) (n := 0) rfl (by decide) (by decide), limbs_lit (l := [2]) (n := 0) rfl (by decide) (by decide)]
theorem f4 : divM [100] [] = (([], []), 40) := divM_zero (chk2_ok c4 chk_nil) rfl
theorem f5 : gcdM [12] [18] = ([6], 0) := by
  rw [gcdM_ok (chk2_ok c6 c7), show Nat.gcd (val [12]) (val [18]) = 6 by decide, limbs_lit (l := [6]) (n := 0) rfl (by decide) (by decide)]
theorem f6 : readM [48, 48, 55] = ([], 11) := readM_form (by decide)
theorem f7 : readM [45, 49] = ([], 11) := readM_form (by decide)
theorem f8 : readM [] = ([], 11) := readM_form (by decide)
theorem f9 : readM [49, 56, 52, 52, 54, 55, 52, 52, 48, 54, 57, 52, 49, 52, 53, 56, 52, 51, 50, 48] = ([0, 4294967295], 0) := by
  rw [readM_ok (by decide), show valD [49, 56, 52, 52, 54, 55, 52, 52, 48, 54, 57, 52, 49, 52, 53, 56, 52, 51, 50, 48] = 18446744069414584320 by decide, numM_ok (by rw [lBig]; decide), lBig]
theorem f10 : subM [1] [2] = ([], 6) := subM_none (chk2_ok c8 c9) (by decide)
theorem f11 : textM [] = ([48], 0) := by rw [textM_ok chk_nil, val_nil, decDigits_small (by decide)]; rfl
theorem f12 : wordM [0, 4294967295] = (18446744069414584320, 0) := by rw [wordM_ok c3 (by decide), vBig]
theorem f13 : chk [0] = 8 := chk_bad (by decide) (by rw [show val [0] = 0 from rfl, limbs_zero]; decide)
theorem f14 : chk (List.replicate 97 0) = 4 := chk_many (by rw [List.length_replicate]; decide)

theorem make97 (w : World) : (Instr.makeSlice 22 (.int .i64 97) (.int .i64 97)).run Tryd.prog w = .ok (.slice (some ⟨w.heap.size, 0, none⟩) 97 97) (w.alloc (.cells (madeCells #[.int .u32 0] (97 * 1)) 45)) := by
  obtain ⟨i, hi, hz0, hz1, hz2⟩ := info_parts uInfo
  have hrun := run_make (P := Tryd.prog) w 22 45 i _ Tryd.underlying22 hi hz0 .i64 .i64 97 97 (by omega) (by omega) (by rw [hz2]; omega) (by omega)
  rw [hz1] at hrun
  exact hrun
theorem s97 (w : World) (g : Nat) (hg : g = w.heap.size) : Sl (w.alloc (.cells (madeCells #[.int .u32 0] (97 * 1)) 45)) (some ⟨g, 0, none⟩) 97 (List.replicate 97 0) := by
  subst hg
  have h := ub_made w 97
  have := h.rf_all (c := 97) (by rw [List.length_replicate]; exact Nat.le_refl _) (by simp [maxLen])
  exact this

set_option maxRecDepth 100000 in
set_option maxHeartbeats 4000000 in
theorem wakes_any (w : World) : Calls Tryd.prog 11 #[] w fun e w' => e = .returned (.bool true) ∧ Below w.heap.size w w' := by
  have HB := Lib.hid (Below.refl w.heap.size w)
  have S_z := Lib.hid (Sl.nil w)
  obtain ⟨Z, hZ⟩ : ∃ Z, Z = madeCells #[.int .u32 0] (97 * 1) := ⟨_, rfl⟩
  have hmk := fun W => make97 W
  have hs97 := fun W g hg => s97 W g hg
  rw [← hZ] at hmk hs97
  have HS97 := Lib.hid hs97
  clear hZ hs97
  go_enter Tryd.func11, Tryd.ntmps11
  go_wp2_with fail
  have S_p := Lib.hid (Sl.litg (w) w.heap.size [0, 1] #[Value.int IntKind.u32 0, Value.int IntKind.u32 1] (by rfl) rfl 2 rfl (by decide))
  have hbl := below_new (w) (.cells #[Value.int IntKind.u32 0, Value.int IntKind.u32 1] 45)
  replace S_z := Lib.hid (S_z.out.to hbl)
  replace HB := Lib.hid (HB.out.trans (Below.mono hbl HB.out.size))
  clear hbl
  have S_q := Lib.hid (Sl.litg ((w).alloc (.cells #[Value.int IntKind.u32 0, Value.int IntKind.u32 1] 45)) (w.heap.size + 1) [4294967295] #[Value.int IntKind.u32 4294967295] (by simp) rfl 1 rfl (by decide))
  have hbl := below_new ((w).alloc (.cells #[Value.int IntKind.u32 0, Value.int IntKind.u32 1] 45)) (.cells #[Value.int IntKind.u32 4294967295] 45)
  replace S_z := Lib.hid (S_z.out.to hbl)
  replace S_p := Lib.hid (S_p.out.to hbl)
  replace HB := Lib.hid (HB.out.trans (Below.mono hbl HB.out.size))
  clear hbl
  (with_reducible refine (mul_c (some ⟨w.heap.size, 0, none⟩) (some ⟨(w.heap.size + 1), 0, none⟩) 2 1 2 1 [0, 1] [4294967295] (((w).alloc (.cells #[Value.int IntKind.u32 0, Value.int IntKind.u32 1] 45)).alloc (.cells #[Value.int IntKind.u32 4294967295] 45)) [0, 4294967295] 0 S_p S_q (Lib.hid (rfl : ([0, 1] : List UInt32).length = 2)) (Lib.hid (rfl : ([4294967295] : List UInt32).length = 1)) (Lib.hid f1)).mono ?_)
  rintro e w1 ⟨A_a, c_a, rfl, hs, hb⟩
  replace S_z := Lib.hid (S_z.out.to hb)
  replace S_p := Lib.hid (S_p.out.to hb)
  replace S_q := Lib.hid (S_q.out.to hb)
  replace HB := Lib.hid (HB.out.trans (Below.mono hb HB.out.size))
  have S_a := Lib.hid hs
  clear hs hb
  clear S_p
  clear S_q
  go_wp2_with fail
  (with_reducible refine (text_c A_a c_a 2 [0, 4294967295] (w1) [49, 56, 52, 52, 54, 55, 52, 52, 48, 54, 57, 52, 49, 52, 53, 56, 52, 51, 50, 48] 0 S_a (Lib.hid (rfl : ([0, 4294967295] : List UInt32).length = 2)) (Lib.hid f2)).mono ?_)
  rintro e w2 ⟨rfl, hb⟩
  replace S_z := Lib.hid (S_z.out.to hb)
  replace S_a := Lib.hid (S_a.out.to hb)
  replace HB := Lib.hid (HB.out.trans (Below.mono hb HB.out.size))
  clear hb
  go_wp2_with fail
  have S_p := Lib.hid (Sl.litg (w2) w2.heap.size [100] #[Value.int IntKind.u32 100] (by rfl) rfl 1 rfl (by decide))
  have hbl := below_new (w2) (.cells #[Value.int IntKind.u32 100] 45)
  replace S_z := Lib.hid (S_z.out.to hbl)
  replace S_a := Lib.hid (S_a.out.to hbl)
  replace HB := Lib.hid (HB.out.trans (Below.mono hbl HB.out.size))
  clear hbl
  have S_q := Lib.hid (Sl.litg ((w2).alloc (.cells #[Value.int IntKind.u32 100] 45)) (w2.heap.size + 1) [7] #[Value.int IntKind.u32 7] (by simp) rfl 1 rfl (by decide))
  have hbl := below_new ((w2).alloc (.cells #[Value.int IntKind.u32 100] 45)) (.cells #[Value.int IntKind.u32 7] 45)
  replace S_z := Lib.hid (S_z.out.to hbl)
  replace S_a := Lib.hid (S_a.out.to hbl)
  replace S_p := Lib.hid (S_p.out.to hbl)
  replace HB := Lib.hid (HB.out.trans (Below.mono hbl HB.out.size))
  clear hbl
  (with_reducible refine (div_c (some ⟨w2.heap.size, 0, none⟩) (some ⟨(w2.heap.size + 1), 0, none⟩) 1 1 1 1 [100] [7] (((w2).alloc (.cells #[Value.int IntKind.u32 100] 45)).alloc (.cells #[Value.int IntKind.u32 7] 45)) [14] [2] 0 S_p S_q (Lib.hid (rfl : ([100] : List UInt32).length = 1)) (Lib.hid (rfl : ([7] : List UInt32).length = 1)) (Lib.hid f3)).mono ?_)
  rintro e w3 ⟨A_q1, A_r1, c_q1, c_r1, rfl, hs1, hs2, hb⟩
  replace S_z := Lib.hid (S_z.out.to hb)
  replace S_a := Lib.hid (S_a.out.to hb)
  replace S_p := Lib.hid (S_p.out.to hb)
  replace S_q := Lib.hid (S_q.out.to hb)
  replace HB := Lib.hid (HB.out.trans (Below.mono hb HB.out.size))
  have S_q1 := Lib.hid hs1
  have S_r1 := Lib.hid hs2
  clear hs1 hs2 hb
  clear S_p
  clear S_q
  go_wp2_with fail
  have S_p := Lib.hid (Sl.litg (w3) w3.heap.size [100] #[Value.int IntKind.u32 100] (by rfl) rfl 1 rfl (by decide))
  have hbl := below_new (w3) (.cells #[Value.int IntKind.u32 100] 45)
  replace S_z := Lib.hid (S_z.out.to hbl)
  replace S_a := Lib.hid (S_a.out.to hbl)
  replace S_q1 := Lib.hid (S_q1.out.to hbl)
  replace S_r1 := Lib.hid (S_r1.out.to hbl)
  replace HB := Lib.hid (HB.out.trans (Below.mono hbl HB.out.size))
  clear hbl
  (with_reducible refine (div_c (some ⟨w3.heap.size, 0, none⟩) none 1 0 1 0 [100] [] ((w3).alloc (.cells #[Value.int IntKind.u32 100] 45)) [] [] 40 S_p S_z (Lib.hid (rfl : ([100] : List UInt32).length = 1)) (Lib.hid (rfl : ([] : List UInt32).length = 0)) (Lib.hid f4)).mono ?_)
  rintro e w4 ⟨A_q2, A_r2, c_q2, c_r2, rfl, hs1, hs2, hb⟩
  replace S_z := Lib.hid (S_z.out.to hb)
  replace S_a := Lib.hid (S_a.out.to hb)
  replace S_q1 := Lib.hid (S_q1.out.to hb)
  replace S_r1 := Lib.hid (S_r1.out.to hb)
  replace S_p := Lib.hid (S_p.out.to hb)
  replace HB := Lib.hid (HB.out.trans (Below.mono hb HB.out.size))
  have S_q2 := Lib.hid hs1
  have S_r2 := Lib.hid hs2
  clear hs1 hs2 hb
  clear S_p
  clear S_q2
  clear S_r2
  go_wp2_with fail
  have S_p := Lib.hid (Sl.litg (w4) w4.heap.size [12] #[Value.int IntKind.u32 12] (by rfl) rfl 1 rfl (by decide))
  have hbl := below_new (w4) (.cells #[Value.int IntKind.u32 12] 45)
  replace S_z := Lib.hid (S_z.out.to hbl)
  replace S_a := Lib.hid (S_a.out.to hbl)
  replace S_q1 := Lib.hid (S_q1.out.to hbl)
  replace S_r1 := Lib.hid (S_r1.out.to hbl)
  replace HB := Lib.hid (HB.out.trans (Below.mono hbl HB.out.size))
  clear hbl
  have S_q := Lib.hid (Sl.litg ((w4).alloc (.cells #[Value.int IntKind.u32 12] 45)) (w4.heap.size + 1) [18] #[Value.int IntKind.u32 18] (by simp) rfl 1 rfl (by decide))
  have hbl := below_new ((w4).alloc (.cells #[Value.int IntKind.u32 12] 45)) (.cells #[Value.int IntKind.u32 18] 45)
  replace S_z := Lib.hid (S_z.out.to hbl)
  replace S_a := Lib.hid (S_a.out.to hbl)
  replace S_q1 := Lib.hid (S_q1.out.to hbl)
  replace S_r1 := Lib.hid (S_r1.out.to hbl)
  replace S_p := Lib.hid (S_p.out.to hbl)
  replace HB := Lib.hid (HB.out.trans (Below.mono hbl HB.out.size))
  clear hbl
  (with_reducible refine (gcd_c (some ⟨w4.heap.size, 0, none⟩) (some ⟨(w4.heap.size + 1), 0, none⟩) 1 1 1 1 [12] [18] (((w4).alloc (.cells #[Value.int IntKind.u32 12] 45)).alloc (.cells #[Value.int IntKind.u32 18] 45)) [6] 0 S_p S_q (Lib.hid (rfl : ([12] : List UInt32).length = 1)) (Lib.hid (rfl : ([18] : List UInt32).length = 1)) (Lib.hid f5)).mono ?_)
  rintro e w5 ⟨A_d, c_d, rfl, hs, hb⟩
  replace S_z := Lib.hid (S_z.out.to hb)
  replace S_a := Lib.hid (S_a.out.to hb)
  replace S_q1 := Lib.hid (S_q1.out.to hb)
  replace S_r1 := Lib.hid (S_r1.out.to hb)
  replace S_p := Lib.hid (S_p.out.to hb)
  replace S_q := Lib.hid (S_q.out.to hb)
  replace HB := Lib.hid (HB.out.trans (Below.mono hb HB.out.size))
  have S_d := Lib.hid hs
  clear hs hb
  clear S_p
  clear S_q
  go_wp2_with fail
  (with_reducible refine (read_c [48, 48, 55] (w5) [] 11 (by decide) (Lib.hid f6)).mono ?_)
  rintro e w6 ⟨A_n1, c_n1, rfl, hs, hb⟩
  replace S_z := Lib.hid (S_z.out.to hb)
  replace S_a := Lib.hid (S_a.out.to hb)
  replace S_q1 := Lib.hid (S_q1.out.to hb)
  replace S_r1 := Lib.hid (S_r1.out.to hb)
  replace S_d := Lib.hid (S_d.out.to hb)
  replace HB := Lib.hid (HB.out.trans (Below.mono hb HB.out.size))
  have S_n1 := Lib.hid hs
  clear hs hb
  clear S_n1
  go_wp2_with fail
  (with_reducible refine (read_c [45, 49] (w6) [] 11 (by decide) (Lib.hid f7)).mono ?_)
  rintro e w7 ⟨A_n2, c_n2, rfl, hs, hb⟩
  replace S_z := Lib.hid (S_z.out.to hb)
  replace S_a := Lib.hid (S_a.out.to hb)
  replace S_q1 := Lib.hid (S_q1.out.to hb)
  replace S_r1 := Lib.hid (S_r1.out.to hb)
  replace S_d := Lib.hid (S_d.out.to hb)
  replace HB := Lib.hid (HB.out.trans (Below.mono hb HB.out.size))
  have S_n2 := Lib.hid hs
  clear hs hb
  clear S_n2
  go_wp2_with fail
  (with_reducible refine (read_c [] (w7) [] 11 (by decide) (Lib.hid f8)).mono ?_)
  rintro e w8 ⟨A_n3, c_n3, rfl, hs, hb⟩
  replace S_z := Lib.hid (S_z.out.to hb)
  replace S_a := Lib.hid (S_a.out.to hb)
  replace S_q1 := Lib.hid (S_q1.out.to hb)
  replace S_r1 := Lib.hid (S_r1.out.to hb)
  replace S_d := Lib.hid (S_d.out.to hb)
  replace HB := Lib.hid (HB.out.trans (Below.mono hb HB.out.size))
  have S_n3 := Lib.hid hs
  clear hs hb
  clear S_n3
  go_wp2_with fail
  (with_reducible refine (read_c [49, 56, 52, 52, 54, 55, 52, 52, 48, 54, 57, 52, 49, 52, 53, 56, 52, 51, 50, 48] (w8) [0, 4294967295] 0 (by decide) (Lib.hid f9)).mono ?_)
  rintro e w9 ⟨A_b, c_b, rfl, hs, hb⟩
  replace S_z := Lib.hid (S_z.out.to hb)
  replace S_a := Lib.hid (S_a.out.to hb)
  replace S_q1 := Lib.hid (S_q1.out.to hb)
  replace S_r1 := Lib.hid (S_r1.out.to hb)
  replace S_d := Lib.hid (S_d.out.to hb)
  replace HB := Lib.hid (HB.out.trans (Below.mono hb HB.out.size))
  have S_b := Lib.hid hs
  clear hs hb
  go_wp2_with fail
  have S_p := Lib.hid (Sl.litg (w9) w9.heap.size [1] #[Value.int IntKind.u32 1] (by rfl) rfl 1 rfl (by decide))
  have hbl := below_new (w9) (.cells #[Value.int IntKind.u32 1] 45)
  replace S_z := Lib.hid (S_z.out.to hbl)
  replace S_a := Lib.hid (S_a.out.to hbl)
  replace S_q1 := Lib.hid (S_q1.out.to hbl)
  replace S_r1 := Lib.hid (S_r1.out.to hbl)
  replace S_d := Lib.hid (S_d.out.to hbl)
  replace S_b := Lib.hid (S_b.out.to hbl)
  replace HB := Lib.hid (HB.out.trans (Below.mono hbl HB.out.size))
  clear hbl
  have S_q := Lib.hid (Sl.litg ((w9).alloc (.cells #[Value.int IntKind.u32 1] 45)) (w9.heap.size + 1) [2] #[Value.int IntKind.u32 2] (by simp) rfl 1 rfl (by decide))
  have hbl := below_new ((w9).alloc (.cells #[Value.int IntKind.u32 1] 45)) (.cells #[Value.int IntKind.u32 2] 45)
  replace S_z := Lib.hid (S_z.out.to hbl)
  replace S_a := Lib.hid (S_a.out.to hbl)
  replace S_q1 := Lib.hid (S_q1.out.to hbl)
  replace S_r1 := Lib.hid (S_r1.out.to hbl)
  replace S_d := Lib.hid (S_d.out.to hbl)
  replace S_b := Lib.hid (S_b.out.to hbl)
  replace S_p := Lib.hid (S_p.out.to hbl)
  replace HB := Lib.hid (HB.out.trans (Below.mono hbl HB.out.size))
  clear hbl
  (with_reducible refine (sub_c (some ⟨w9.heap.size, 0, none⟩) (some ⟨(w9.heap.size + 1), 0, none⟩) 1 1 1 1 [1] [2] (((w9).alloc (.cells #[Value.int IntKind.u32 1] 45)).alloc (.cells #[Value.int IntKind.u32 2] 45)) [] 6 S_p S_q (Lib.hid (rfl : ([1] : List UInt32).length = 1)) (Lib.hid (rfl : ([2] : List UInt32).length = 1)) (Lib.hid f10)).mono ?_)
  rintro e w10 ⟨A_n4, c_n4, rfl, hs, hb⟩
  replace S_z := Lib.hid (S_z.out.to hb)
  replace S_a := Lib.hid (S_a.out.to hb)
  replace S_q1 := Lib.hid (S_q1.out.to hb)
  replace S_r1 := Lib.hid (S_r1.out.to hb)
  replace S_d := Lib.hid (S_d.out.to hb)
  replace S_b := Lib.hid (S_b.out.to hb)
  replace S_p := Lib.hid (S_p.out.to hb)
  replace S_q := Lib.hid (S_q.out.to hb)
  replace HB := Lib.hid (HB.out.trans (Below.mono hb HB.out.size))
  have S_n4 := Lib.hid hs
  clear hs hb
  clear S_p
  clear S_q
  clear S_n4
  go_wp2_with fail
  (with_reducible refine (text_c none 0 0 [] (w10) [48] 0 S_z (Lib.hid (rfl : ([] : List UInt32).length = 0)) (Lib.hid f11)).mono ?_)
  rintro e w11 ⟨rfl, hb⟩
  replace S_z := Lib.hid (S_z.out.to hb)
  replace S_a := Lib.hid (S_a.out.to hb)
  replace S_q1 := Lib.hid (S_q1.out.to hb)
  replace S_r1 := Lib.hid (S_r1.out.to hb)
  replace S_d := Lib.hid (S_d.out.to hb)
  replace S_b := Lib.hid (S_b.out.to hb)
  replace HB := Lib.hid (HB.out.trans (Below.mono hb HB.out.size))
  clear hb
  go_wp2_with fail
  (with_reducible refine (word_c A_a c_a 2 [0, 4294967295] (w11) 18446744069414584320 0 S_a (Lib.hid (rfl : ([0, 4294967295] : List UInt32).length = 2)) (Lib.hid f12)).mono ?_)
  rintro e ws ⟨rfl, rfl⟩
  go_wp2_with fail
  have S_p := Lib.hid (Sl.litg (w11) w11.heap.size [0, 4294967295] #[Value.int IntKind.u32 0, Value.int IntKind.u32 4294967295] (by rfl) rfl 2 rfl (by decide))
  have hbl := below_new (w11) (.cells #[Value.int IntKind.u32 0, Value.int IntKind.u32 4294967295] 45)
  replace S_z := Lib.hid (S_z.out.to hbl)
  replace S_a := Lib.hid (S_a.out.to hbl)
  replace S_q1 := Lib.hid (S_q1.out.to hbl)
  replace S_r1 := Lib.hid (S_r1.out.to hbl)
  replace S_d := Lib.hid (S_d.out.to hbl)
  replace S_b := Lib.hid (S_b.out.to hbl)
  replace HB := Lib.hid (HB.out.trans (Below.mono hbl HB.out.size))
  clear hbl
  (with_reducible refine (rsame_c A_a (some ⟨w11.heap.size, 0, none⟩) c_a 2 2 2 [0, 4294967295] [0, 4294967295] ((w11).alloc (.cells #[Value.int IntKind.u32 0, Value.int IntKind.u32 4294967295] 45)) true S_a S_p (Lib.hid (rfl : ([0, 4294967295] : List UInt32).length = 2)) (Lib.hid (rfl : ([0, 4294967295] : List UInt32).length = 2)) (Lib.hid (sameB_refl _))).mono ?_)
  rintro e w12 ⟨rfl, hb⟩
  replace S_z := Lib.hid (S_z.out.to hb)
  replace S_a := Lib.hid (S_a.out.to hb)
  replace S_q1 := Lib.hid (S_q1.out.to hb)
  replace S_r1 := Lib.hid (S_r1.out.to hb)
  replace S_d := Lib.hid (S_d.out.to hb)
  replace S_b := Lib.hid (S_b.out.to hb)
  replace S_p := Lib.hid (S_p.out.to hb)
  replace HB := Lib.hid (HB.out.trans (Below.mono hb HB.out.size))
  clear hb
  clear S_p
  go_wp2_with fail
  have S_p := Lib.hid (Sl.litg (w12) w12.heap.size [14] #[Value.int IntKind.u32 14] (by rfl) rfl 1 rfl (by decide))
  have hbl := below_new (w12) (.cells #[Value.int IntKind.u32 14] 45)
  replace S_z := Lib.hid (S_z.out.to hbl)
  replace S_a := Lib.hid (S_a.out.to hbl)
  replace S_q1 := Lib.hid (S_q1.out.to hbl)
  replace S_r1 := Lib.hid (S_r1.out.to hbl)
  replace S_d := Lib.hid (S_d.out.to hbl)
  replace S_b := Lib.hid (S_b.out.to hbl)
  replace HB := Lib.hid (HB.out.trans (Below.mono hbl HB.out.size))
  clear hbl
  (with_reducible refine (rsame_c A_q1 (some ⟨w12.heap.size, 0, none⟩) c_q1 1 1 1 [14] [14] ((w12).alloc (.cells #[Value.int IntKind.u32 14] 45)) true S_q1 S_p (Lib.hid (rfl : ([14] : List UInt32).length = 1)) (Lib.hid (rfl : ([14] : List UInt32).length = 1)) (Lib.hid (sameB_refl _))).mono ?_)
  rintro e w13 ⟨rfl, hb⟩
  replace S_z := Lib.hid (S_z.out.to hb)
  replace S_a := Lib.hid (S_a.out.to hb)
  replace S_q1 := Lib.hid (S_q1.out.to hb)
  replace S_r1 := Lib.hid (S_r1.out.to hb)
  replace S_d := Lib.hid (S_d.out.to hb)
  replace S_b := Lib.hid (S_b.out.to hb)
  replace S_p := Lib.hid (S_p.out.to hb)
  replace HB := Lib.hid (HB.out.trans (Below.mono hb HB.out.size))
  clear hb
  clear S_p
  go_wp2_with fail
  have S_p := Lib.hid (Sl.litg (w13) w13.heap.size [2] #[Value.int IntKind.u32 2] (by rfl) rfl 1 rfl (by decide))
  have hbl := below_new (w13) (.cells #[Value.int IntKind.u32 2] 45)
  replace S_z := Lib.hid (S_z.out.to hbl)
  replace S_a := Lib.hid (S_a.out.to hbl)
  replace S_q1 := Lib.hid (S_q1.out.to hbl)
  replace S_r1 := Lib.hid (S_r1.out.to hbl)
  replace S_d := Lib.hid (S_d.out.to hbl)
  replace S_b := Lib.hid (S_b.out.to hbl)
  replace HB := Lib.hid (HB.out.trans (Below.mono hbl HB.out.size))
  clear hbl
  (with_reducible refine (rsame_c A_r1 (some ⟨w13.heap.size, 0, none⟩) c_r1 1 1 1 [2] [2] ((w13).alloc (.cells #[Value.int IntKind.u32 2] 45)) true S_r1 S_p (Lib.hid (rfl : ([2] : List UInt32).length = 1)) (Lib.hid (rfl : ([2] : List UInt32).length = 1)) (Lib.hid (sameB_refl _))).mono ?_)
  rintro e w14 ⟨rfl, hb⟩
  replace S_z := Lib.hid (S_z.out.to hb)
  replace S_a := Lib.hid (S_a.out.to hb)
  replace S_q1 := Lib.hid (S_q1.out.to hb)
  replace S_r1 := Lib.hid (S_r1.out.to hb)
  replace S_d := Lib.hid (S_d.out.to hb)
  replace S_b := Lib.hid (S_b.out.to hb)
  replace S_p := Lib.hid (S_p.out.to hb)
  replace HB := Lib.hid (HB.out.trans (Below.mono hb HB.out.size))
  clear hb
  clear S_p
  go_wp2_with fail
  have S_p := Lib.hid (Sl.litg (w14) w14.heap.size [6] #[Value.int IntKind.u32 6] (by rfl) rfl 1 rfl (by decide))
  have hbl := below_new (w14) (.cells #[Value.int IntKind.u32 6] 45)
  replace S_z := Lib.hid (S_z.out.to hbl)
  replace S_a := Lib.hid (S_a.out.to hbl)
  replace S_q1 := Lib.hid (S_q1.out.to hbl)
  replace S_r1 := Lib.hid (S_r1.out.to hbl)
  replace S_d := Lib.hid (S_d.out.to hbl)
  replace S_b := Lib.hid (S_b.out.to hbl)
  replace HB := Lib.hid (HB.out.trans (Below.mono hbl HB.out.size))
  clear hbl
  (with_reducible refine (rsame_c A_d (some ⟨w14.heap.size, 0, none⟩) c_d 1 1 1 [6] [6] ((w14).alloc (.cells #[Value.int IntKind.u32 6] 45)) true S_d S_p (Lib.hid (rfl : ([6] : List UInt32).length = 1)) (Lib.hid (rfl : ([6] : List UInt32).length = 1)) (Lib.hid (sameB_refl _))).mono ?_)
  rintro e w15 ⟨rfl, hb⟩
  replace S_z := Lib.hid (S_z.out.to hb)
  replace S_a := Lib.hid (S_a.out.to hb)
  replace S_q1 := Lib.hid (S_q1.out.to hb)
  replace S_r1 := Lib.hid (S_r1.out.to hb)
  replace S_d := Lib.hid (S_d.out.to hb)
  replace S_b := Lib.hid (S_b.out.to hb)
  replace S_p := Lib.hid (S_p.out.to hb)
  replace HB := Lib.hid (HB.out.trans (Below.mono hb HB.out.size))
  clear hb
  clear S_p
  go_wp2_with fail
  (with_reducible refine (same_c A_a A_b c_a c_b 2 2 [0, 4294967295] [0, 4294967295] (w15) true S_a S_b (Lib.hid (rfl : ([0, 4294967295] : List UInt32).length = 2)) (Lib.hid (rfl : ([0, 4294967295] : List UInt32).length = 2)) (Lib.hid (sameB_refl _))).mono ?_)
  rintro e w16 ⟨rfl, hb⟩
  replace S_z := Lib.hid (S_z.out.to hb)
  replace S_a := Lib.hid (S_a.out.to hb)
  replace S_q1 := Lib.hid (S_q1.out.to hb)
  replace S_r1 := Lib.hid (S_r1.out.to hb)
  replace S_d := Lib.hid (S_d.out.to hb)
  replace S_b := Lib.hid (S_b.out.to hb)
  replace HB := Lib.hid (HB.out.trans (Below.mono hb HB.out.size))
  clear hb
  go_wp2_with fail
  have S_p := Lib.hid (Sl.litg (w16) w16.heap.size [0] #[Value.int IntKind.u32 0] (by rfl) rfl 1 rfl (by decide))
  have hbl := below_new (w16) (.cells #[Value.int IntKind.u32 0] 45)
  replace S_z := Lib.hid (S_z.out.to hbl)
  replace S_a := Lib.hid (S_a.out.to hbl)
  replace S_q1 := Lib.hid (S_q1.out.to hbl)
  replace S_r1 := Lib.hid (S_r1.out.to hbl)
  replace S_d := Lib.hid (S_d.out.to hbl)
  replace S_b := Lib.hid (S_b.out.to hbl)
  replace HB := Lib.hid (HB.out.trans (Below.mono hbl HB.out.size))
  clear hbl
  (with_reducible refine (check_c (some ⟨w16.heap.size, 0, none⟩) 1 1 [0] ((w16).alloc (.cells #[Value.int IntKind.u32 0] 45)) 8 S_p (Lib.hid (rfl : ([0] : List UInt32).length = 1)) (Lib.hid f13)).mono ?_)
  rintro e ws ⟨rfl, rfl⟩
  clear S_p
  go_wp2_with fail
  (with_reducible refine (check_c _ 97 97 (List.replicate 97 0) _ 4 (Lib.hid (HS97.out _ _ (by simp))) (len_lit List.length_replicate) (Lib.hid f14)).mono ?_)
  rintro e ws ⟨rfl, rfl⟩
  go_wp2_with fail
  go_ret
  exact ⟨rfl, HB.out.trans ((below_new _ _).mono HB.out.size)⟩
end Go.Proofs.YtffbmkobholmhaaDoor
