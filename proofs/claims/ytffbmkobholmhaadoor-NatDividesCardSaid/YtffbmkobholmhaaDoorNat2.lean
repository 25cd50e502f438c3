/- nat's Word, Cmp, Add, Sub, Mul. -/
import Derived.Test.YtffbmkobholmhaaDoorNat
namespace Go.Proofs.YtffbmkobholmhaaDoor
open Go.RowKit
set_option linter.unusedVariables false

theorem limbs_of_chk {a : List UInt32} (h : chk a = 0) : ∃ m, a = limbs m ∧ (limbs m).length ≤ 96 := ⟨val a, (chk_zero h).2.symm, by rw [(chk_zero h).2]; exact (chk_zero h).1⟩
theorem val_two {a : List UInt32} (h : a.length ≤ 2) : val a = 4294967296 * lat a 1 + lat a 0 := by
  have h1 := val_take_lat a 0
  have h2 := val_take_lat a 1
  rw [List.take_of_length_le h] at h2
  rw [h2, h1, List.take_zero, val_nil, bp_zero, bp_one]
  omega

set_option maxHeartbeats 1000000 in
theorem word2_any (A : Option Addr) (c B : Nat) (a : List UInt32) (w : World) (hr : Rf uv w B A c a) :
    Calls Tryd.prog 12 #[.slice A a.length c] w fun e w' => e = .returned (.tuple #[.int .u64 (wordM a).1, .int .i64 (wordM a).2]) ∧ w = w' := by
  have hcap := hr.cap
  have hcm := hr.capm
  unfold maxLen at hcm
  by_cases h : chk a = 0
  · by_cases h2 : a.length ≤ 2
    · have HQ := Lib.hid (wordM_ok h h2)
      have HV := Lib.hid (val_two h2)
      have HA := Lib.hid h
      have h2d : decide ((2 : Int) < (a.length : Int)) = false := by simp; omega
      obtain ⟨z, hz⟩ : ∃ z, z = 4294967296 * lat a 1 + lat a 0 := ⟨_, rfl⟩
      have HW := Lib.hid (fun W => word_n (lat a 1) (lat a 0) z W (lat_lt _ _) (lat_lt _ _) hz)
      have HZ := Lib.hid hz
      clear h hz
      go_enter Tryd.func12, Tryd.ntmps12
      go_wp2_with fail
      refine (check_any A c B a w hr).mono ?_
      rintro e w' ⟨rfl, rfl⟩
      rw [HA.out]
      go_wp2_with fail
      (with_reducible refine (limbAt_n A a.length c B a 1 1 w hr rfl (by decide) (by decide)).mono ?_)
      rintro e w' ⟨rfl, rfl⟩
      go_wp2_with fail
      (with_reducible refine (limbAt_n A a.length c B a 0 0 w hr rfl (by decide) (by decide)).mono ?_)
      rintro e w' ⟨rfl, rfl⟩
      go_wp2_with fail
      (with_reducible refine (HW.out w).mono ?_)
      rintro e w' ⟨rfl, rfl⟩
      go_wp2_with fail
      go_ret2
      rw [HQ.out, HV.out, ← HZ.out]
      exact ⟨rfl, rfl⟩
    · have HQ := Lib.hid (wordM_great h h2)
      have HA := Lib.hid h
      have h2d : (2 : Int) < (a.length : Int) := by omega
      clear h
      go_enter Tryd.func12, Tryd.ntmps12
      go_wp2_with fail
      refine (check_any A c B a w hr).mono ?_
      rintro e w' ⟨rfl, rfl⟩
      rw [HA.out]
      go_wp2_with fail
      go_ret2
      rw [HQ.out]
      exact ⟨rfl, rfl⟩
  · have HQ := Lib.hid (wordM_err h)
    have hb : (chk a != 0) = true := by simpa using h
    clear h
    go_enter Tryd.func12, Tryd.ntmps12
    go_wp2_with fail
    refine (check_any A c B a w hr).mono ?_
    rintro e w' ⟨rfl, rfl⟩
    go_wp2_with fail
    go_ret2
    rw [HQ.out]
    exact ⟨rfl, rfl⟩

theorem compare_n (A1 A2 : Option Addr) (c1 c2 B1 B2 : Nat) (m n : Nat) (w : World) (hr1 : Rf uv w B1 A1 c1 (limbs m)) (hr2 : Rf uv w B2 A2 c2 (limbs n)) (h1 : (limbs m).length ≤ 96) (h2 : (limbs n).length ≤ 96) :
    Calls Tryd.prog 41 #[.slice A1 (limbs m).length c1, .slice A2 (limbs n).length c2] w fun e w' => e = .returned (.int .i64 (cmpI m n)) ∧ ∃ q, w' = w.drewN q :=
  compare_any A1 A2 c1 c2 B1 B2 m n w hr1 hr2 (by omega) (by omega)

set_option maxHeartbeats 1000000 in
theorem cmp_any (A1 A2 : Option Addr) (c1 c2 B1 B2 : Nat) (a b : List UInt32) (w : World) (hr1 : Rf uv w B1 A1 c1 a) (hr2 : Rf uv w B2 A2 c2 b) :
    Calls Tryd.prog 14 #[.slice A1 a.length c1, .slice A2 b.length c2] w fun e w' => e = .returned (.tuple #[.int .i64 (cmpM a b).1, .int .i64 (cmpM a b).2]) ∧ ∃ q, w' = w.drewN q := by
  by_cases h : chk2 a b = 0
  · have HQ := Lib.hid (cmpM_ok h)
    have HA := Lib.hid h
    obtain ⟨m, rfl, hm⟩ := limbs_of_chk (chk2_zero h).1
    obtain ⟨n, rfl, hn⟩ := limbs_of_chk (chk2_zero h).2
    clear h
    go_enter Tryd.func14, Tryd.ntmps14
    go_wp2_with fail
    refine (checkBoth_any A1 A2 c1 c2 B1 B2 _ _ w hr1 hr2).mono ?_
    rintro e w' ⟨rfl, rfl⟩
    rw [HA.out]
    go_wp2_with fail
    (with_reducible refine (compare_n A1 A2 c1 c2 B1 B2 m n w hr1 hr2 hm hn).mono ?_)
    rintro e w' ⟨rfl, q, rfl⟩
    go_wp2_with fail
    go_ret2
    rw [HQ.out, val_limbs, val_limbs]
    exact ⟨rfl, q, rfl⟩
  · have HQ := Lib.hid (cmpM_err h)
    have hb : (chk2 a b != 0) = true := by simpa using h
    clear h
    go_enter Tryd.func14, Tryd.ntmps14
    go_wp2_with fail
    refine (checkBoth_any A1 A2 c1 c2 B1 B2 a b w hr1 hr2).mono ?_
    rintro e w' ⟨rfl, rfl⟩
    go_wp2_with fail
    go_ret2
    rw [HQ.out]
    exact ⟨rfl, 0, rfl⟩

theorem max_int (m n : Nat) : max (m : Int) (n : Int) = ((max m n : Nat) : Int) := by omega
theorem val_pad (a : List UInt32) (k : Nat) : val (a ++ List.replicate k 0) = val a := by rw [val_append, val_zeros]; omega
set_option maxHeartbeats 1000000 in
theorem add2_any (A1 A2 : Option Addr) (c1 c2 : Nat) (a b : List UInt32) (w : World) (hr1 : Rf uv w w.heap.size A1 c1 a) (hr2 : Rf uv w w.heap.size A2 c2 b) :
    Calls Tryd.prog 22 #[.slice A1 a.length c1, .slice A2 b.length c2] w fun e w' => NumErr w w' (addM a b) e := by
  by_cases h : chk2 a b = 0
  · have HQ := Lib.hid (addM_ok h)
    have HA := Lib.hid h
    have ha := (chk_zero (chk2_zero h).1).1
    have hb := (chk_zero (chk2_zero h).2).1
    clear h
    go_enter Tryd.func22, Tryd.ntmps22
    go_wp2_with fail
    refine (checkBoth_any A1 A2 c1 c2 _ _ _ _ w hr1 hr2).mono ?_
    rintro e w' ⟨rfl, rfl⟩
    rw [HA.out]
    go_wp2_with fail
    obtain ⟨k, hk⟩ : ∃ k, k = max a.length b.length + 1 := ⟨_, rfl⟩
    have ek : max (a.length : Int) (b.length : Int) + 1 = (k : Int) := by omega
    rw [ek]
    have hk1 : a.length ≤ k := by omega
    have hk2 : b.length ≤ k := by omega
    have hk3 : a.length + 1 ≤ k := by omega
    have hk4 : b.length + 1 ≤ k := by omega
    have hkl : k ≤ 1000 := by omega
    clear ek hk
    (with_reducible refine (twin_any A1 c1 w.heap.size k a w hr1 (Nat.le_refl _) hk1 (by omega)).mono ?_)
    rintro e w1 ⟨rfl, hu1, hb1, hs1⟩
    have HU1 := Lib.hid hu1
    have HB1 := Lib.hid hb1
    clear hu1 hb1
    go_wp2_with fail
    have hr2' := hr2.below HB1.out
    have hLl : (a ++ List.replicate (k - a.length) 0).length = k := by simp; omega
    (with_reducible refine (add_any w.heap.size 0 k k c2 w.heap.size A2 (a ++ List.replicate (k - a.length) 0) b w1 HU1.out (by omega) (Nat.le_refl _) (by omega) hr2' HB1.out.size (hr2'.ne (Nat.le_refl _)) hk2).mono ?_)
    rintro e w2 ⟨M, cr, rfl, hcr, hf, hv, hub, hg⟩
    have hML : M.length = k := by rw [hf.1, hLl]
    have hVM : val M = val a + val b := by
      have e1 : seg M 0 k = M := by rw [← hML, seg_all]
      have e2 : seg (a ++ List.replicate (k - a.length) 0) 0 k = a ++ List.replicate (k - a.length) 0 := by rw [seg_take, List.take_of_length_le (by omega)]
      rw [e1, e2, val_pad] at hv
      have h1 := val_lt a
      have h2 := val_lt b
      have h3 := bp_mono (show a.length ≤ k - 1 by omega)
      have h4 := bp_mono (show b.length ≤ k - 1 by omega)
      have h5 : bp k = 4294967296 * bp (k - 1) := by rw [← bp_succ]; congr 1; omega
      have h6 : cr = 0 := by
        rcases Nat.eq_zero_or_pos cr with e | e
        · exact e
        · have : cr = 1 := by omega
          rw [this, h5] at hv
          have := bp_pos (k - 1)
          omega
      rw [h6] at hv
      omega
    have HML := Lib.hid hML
    have HVM := Lib.hid hVM
    have HUB := Lib.hid hub
    have HBL := Lib.hid (HB1.out.trans (below_of_grown hg HB1.out.size (by intro g e; injection e with e; omega)))
    clear hLl hf hv hub hg hML hVM
    go_wp2_with fail
    have hrf := HUB.out.rf_all (c := k) (Nat.le_of_eq HML.out) (by unfold maxLen; omega)
    (with_reducible refine (fitting_any (some ⟨w.heap.size, 0, none⟩) k k M w2 hrf (by rw [HML.out]; omega) HML.out).mono ?_)
    rintro e w3 ⟨A3, c3, rfl, hrd, hbl⟩
    have HR3 := Lib.hid hrd
    have HB3 := Lib.hid hbl
    clear hrd hbl hrf
    go_wp2_with fail
    go_ret2
    rw [HQ.out, ← HVM.out]
    exact ⟨A3, c3, rfl, HR3.out, HBL.out.trans (HB3.out.mono HBL.out.size)⟩
  · have HQ := Lib.hid (addM_err h)
    have hb : (chk2 a b != 0) = true := by simpa using h
    clear h
    go_enter Tryd.func22, Tryd.ntmps22
    go_wp2_with fail
    refine (checkBoth_any A1 A2 c1 c2 _ _ a b w hr1 hr2).mono ?_
    rintro e w' ⟨rfl, rfl⟩
    go_wp2_with fail
    go_ret2
    rw [HQ.out]
    exact numErr_bad w _

theorem subtract_1 (g o n c cb B : Nat) (A : Option Addr) (L m : List UInt32) (w : World) (hu : Ub w g 45 L) (hon : o + n ≤ L.length) (hnc : n ≤ c) (hl : L.length ≤ 1000000) (hr : Rf uv w B A cb m) (hB : B ≤ w.heap.size) (hne : 0 < m.length → blk A ≠ some g) (hm : m.length ≤ n) :
    Calls Tryd.prog 50 #[.slice (some ⟨g, o, none⟩) n c, .slice A m.length cb, .int .u32 1] w fun e w' => SubP g o n 1 L m w w' e :=
  subtract_any g o n c cb B 1 A L m w hu hon hnc hl hr hB hne hm (by decide)
set_option maxHeartbeats 1000000 in
theorem sub2_any (A1 A2 : Option Addr) (c1 c2 : Nat) (a b : List UInt32) (w : World) (hr1 : Rf uv w w.heap.size A1 c1 a) (hr2 : Rf uv w w.heap.size A2 c2 b) :
    Calls Tryd.prog 24 #[.slice A1 a.length c1, .slice A2 b.length c2] w fun e w' => NumErr w w' (subM a b) e := by
  by_cases h : chk2 a b = 0
  · have HA := Lib.hid h
    obtain ⟨m, rfl, hm⟩ := limbs_of_chk (chk2_zero h).1
    obtain ⟨n, rfl, hn⟩ := limbs_of_chk (chk2_zero h).2
    by_cases hlt : m < n
    · have HQ := Lib.hid (subM_none h (by rw [val_limbs, val_limbs]; exact hlt))
      have HC := Lib.hid (show cmpI m n = -1 by unfold cmpI; rw [if_pos hlt])
      clear h
      go_enter Tryd.func24, Tryd.ntmps24
      go_wp2_with fail
      refine (checkBoth_any A1 A2 c1 c2 _ _ _ _ w hr1 hr2).mono ?_
      rintro e w' ⟨rfl, rfl⟩
      rw [HA.out]
      go_wp2_with fail
      (with_reducible refine (compare_n A1 A2 c1 c2 _ _ m n w hr1 hr2 hm hn).mono ?_)
      rintro e w' ⟨rfl, q, rfl⟩
      rw [HC.out]
      go_wp2_with fail
      go_ret2
      rw [HQ.out]
      exact ⟨none, 0, rfl, Rf.empty _ _, below_drewN _ _ _⟩
    · have HQ := Lib.hid (show subM (limbs m) (limbs n) = (limbs (m - n), 0) by rw [subM_ok h (by rw [val_limbs, val_limbs]; exact hlt), val_limbs, val_limbs])
      obtain ⟨ci, hci⟩ : ∃ ci, ci = cmpI m n := ⟨_, rfl⟩
      have hcn : 0 ≤ ci := by
        rw [hci]
        unfold cmpI
        rw [if_neg hlt]
        split <;> omega
      have hcd : decide (ci < 0) = false := by simp; omega
      have HCI := Lib.hid hci
      have hmn := limbs_mono (show n ≤ m by omega)
      obtain ⟨la, hla⟩ : ∃ la, (limbs m).length = la := ⟨_, rfl⟩
      rw [hla] at hm hmn
      have HLA := Lib.hid hla
      rw [hla]
      clear h hci hla
      go_enter Tryd.func24, Tryd.ntmps24
      go_wp2_with fail
      rw [← HLA.out]
      refine (checkBoth_any A1 A2 c1 c2 _ _ _ _ w hr1 hr2).mono ?_
      rintro e w' ⟨rfl, rfl⟩
      rw [HA.out, HLA.out]
      go_wp2_with fail
      rw [← HLA.out]
      (with_reducible refine (compare_n A1 A2 c1 c2 _ _ m n w hr1 hr2 (by rw [HLA.out]; exact hm) hn).mono ?_)
      rintro e w' ⟨rfl, q, rfl⟩
      rw [← HCI.out, HLA.out]
      go_wp2_with fail
      (with_reducible refine (twin_n A1 c1 w.heap.size la la (limbs m) (w.drewN q) (hr1.drewN q) (Nat.le_refl _) (Nat.le_of_eq HLA.out) (by omega) HLA.out).mono ?_)
      rintro e w1 ⟨rfl, hu1, hb1, hs1⟩
      have HU1 := Lib.hid (show Ub w1 w.heap.size 45 (limbs m) by
        have e2 : limbs m ++ List.replicate (la - (limbs m).length) 0 = limbs m := by rw [HLA.out]; simp
        rw [e2] at hu1
        exact hu1)
      have HB1 := Lib.hid (show Below w.heap.size w w1 from (below_drewN _ w q).trans hb1)
      clear hu1 hb1
      go_wp2_with fail
      have hr2' := hr2.below HB1.out
      (with_reducible refine (subtract_1 w.heap.size 0 la la c2 w.heap.size A2 (limbs m) (limbs n) w1 HU1.out (by rw [HLA.out]; omega) (Nat.le_refl _) (by rw [HLA.out]; omega) hr2' HB1.out.size (hr2'.ne (Nat.le_refl _)) hmn).mono ?_)
      rintro e w2 ⟨M, k, rfl, hk, hf, hv, hub, hg⟩
      have hML : M.length = la := by rw [hf.1, HLA.out]
      have hVM : val M = m - n := by
        have e1 : seg M 0 la = M := by rw [← hML, seg_all]
        have e2 : seg (limbs m) 0 la = limbs m := by rw [← HLA.out, seg_all]
        rw [e1, e2, val_limbs, val_limbs] at hv
        have h1 := val_lt M
        rw [hML] at h1
        rcases Nat.eq_zero_or_pos k with e | e
        · rw [e] at hv; omega
        · have : bp la * 1 ≤ bp la * k := Nat.mul_le_mul_left _ e
          omega
      have HML := Lib.hid hML
      have HVM := Lib.hid hVM
      have HUB := Lib.hid hub
      have HBL := Lib.hid (HB1.out.trans (below_of_grown hg HB1.out.size (by intro g e; injection e with e; omega)))
      clear hf hv hub hg hML hVM
      go_wp2_with fail
      have hrf := HUB.out.rf_all (c := la) (Nat.le_of_eq HML.out) (by unfold maxLen; omega)
      (with_reducible refine (trim_n (some ⟨w.heap.size, 0, none⟩) la _ la (limbs (m - n)).length M w2 hrf (by rw [HML.out]; omega) HML.out (by rw [HVM.out])).mono ?_)
      rintro e w3 ⟨rfl, rfl⟩
      have HRT := Lib.hid hrf.trim
      clear hrf
      go_wp2_with fail
      go_ret2
      rw [HQ.out]
      have e := HRT.out
      rw [HVM.out] at e
      exact ⟨_, _, rfl, e, HBL.out⟩
  · have HQ := Lib.hid (subM_err h)
    have hb : (chk2 a b != 0) = true := by simpa using h
    clear h
    go_enter Tryd.func24, Tryd.ntmps24
    go_wp2_with fail
    refine (checkBoth_any A1 A2 c1 c2 _ _ a b w hr1 hr2).mono ?_
    rintro e w' ⟨rfl, rfl⟩
    go_wp2_with fail
    go_ret2
    rw [HQ.out]
    exact numErr_bad w _

set_option maxHeartbeats 1000000 in
theorem mul2_any (A1 A2 : Option Addr) (c1 c2 : Nat) (a b : List UInt32) (w : World) (hr1 : Rf uv w w.heap.size A1 c1 a) (hr2 : Rf uv w w.heap.size A2 c2 b) :
    Calls Tryd.prog 26 #[.slice A1 a.length c1, .slice A2 b.length c2] w fun e w' => NumErr w w' (mulM a b) e := by
  by_cases h : chk2 a b = 0
  · have HQ := Lib.hid (mulM_ok h)
    have HA := Lib.hid h
    have ha := (chk_zero (chk2_zero h).1).1
    have hb := (chk_zero (chk2_zero h).2).1
    clear h
    go_enter Tryd.func26, Tryd.ntmps26
    go_wp2_with fail
    refine (checkBoth_any A1 A2 c1 c2 _ _ _ _ w hr1 hr2).mono ?_
    rintro e w' ⟨rfl, rfl⟩
    rw [HA.out]
    go_wp2_with fail
    (with_reducible refine (multiply_any A1 A2 c1 c2 a b w hr1 hr2 (by omega) (by omega)).mono ?_)
    rintro e w2 ⟨M, rfl, hML, hVM, hub, hbl, hs⟩
    have HML := Lib.hid hML
    have HVM := Lib.hid hVM
    have HUB := Lib.hid hub
    have HBL := Lib.hid hbl
    have hMl : M.length ≤ 1000 := by omega
    clear hML hVM hub hbl
    go_wp2_with fail
    have hrf := HUB.out.rf_all (c := a.length + b.length) (Nat.le_of_eq HML.out) (by unfold maxLen; omega)
    (with_reducible refine (fitting_any (some ⟨w.heap.size, 0, none⟩) (a.length + b.length) (a.length + b.length) M w2 hrf (by omega) HML.out).mono ?_)
    rintro e w3 ⟨A3, c3, rfl, hrd, hbl⟩
    have HR3 := Lib.hid hrd
    have HB3 := Lib.hid hbl
    clear hrd hbl hrf
    go_wp2_with fail
    go_ret2
    rw [HQ.out, ← HVM.out]
    exact ⟨A3, c3, rfl, HR3.out, HBL.out.trans (HB3.out.mono HBL.out.size)⟩
  · have HQ := Lib.hid (mulM_err h)
    have hb : (chk2 a b != 0) = true := by simpa using h
    clear h
    go_enter Tryd.func26, Tryd.ntmps26
    go_wp2_with fail
    refine (checkBoth_any A1 A2 c1 c2 _ _ a b w hr1 hr2).mono ?_
    rintro e w' ⟨rfl, rfl⟩
    go_wp2_with fail
    go_ret2
    rw [HQ.out]
    exact numErr_bad w _
end Go.Proofs.YtffbmkobholmhaaDoor
