/- The reference's Div. -/
import Derived.Test.YtffbmkobholmhaaDoorRefO
namespace Go.Proofs.YtffbmkobholmhaaDoor
open Go.RowKit
set_option linter.unusedVariables false

theorem rminus_n (A1 A2 : Option Addr) (c1 c2 n1 n2 m n q : Nat) (w : World) (hr1 : Rf uv w w.heap.size A1 c1 (limbs m)) (hr2 : Rf uv w w.heap.size A2 c2 (limbs n)) (h1 : (limbs m).length = n1) (h2 : (limbs n).length = n2) (hl1 : n1 ≤ 10000) (hle : n ≤ m) (hq : q = m - n) :
    Calls Tryd.prog 51 #[.slice A1 n1 c1, .slice A2 n2 c2] w fun e w' => NumPo w w' (limbs q) e := by
  have h := rminus_own A1 A2 c1 c2 n1 n2 (limbs m) (limbs n) w hr1 hr2 h1 h2 hl1 (by rw [← h1, ← h2]; exact limbs_mono hle) (by rw [Hid, val_limbs, val_limbs]; exact hle)
  rw [val_limbs, val_limbs, ← hq] at h
  exact h
theorem div_far {w : World} {A : Option Addr} {c g : Nat} {l : List UInt32} (h : Rf uv w w.heap.size A c l) {q : Nat} (hg : g < q) (ho : ∀ k, blk A = some k → q ≤ k) (j : Nat) (u : Value) : Rf uv (w.setCell ⟨g, j, none⟩ u) (w.setCell ⟨g, j, none⟩ u).heap.size A c l := by
  have hs := (grown_set w ⟨g, j, none⟩ u)
  refine (h.grown hs (Nat.le_refl _) ?_).more hs.size
  intro _ e
  have := ho g e
  omega
theorem rplus_n (A1 A2 : Option Addr) (c1 c2 n1 n2 m n q : Nat) (w : World) (hr1 : Rf uv w w.heap.size A1 c1 (limbs m)) (hr2 : Rf uv w w.heap.size A2 c2 (limbs n)) (h1 : (limbs m).length = n1) (h2 : (limbs n).length = n2) (hl1 : n1 ≤ 10000) (hl2 : n2 ≤ 10000) (hq : q = m + n) :
    Calls Tryd.prog 49 #[.slice A1 n1 c1, .slice A2 n2 c2] w fun e w' => NumP w w' (limbs q) e := by
  have h := rplus_any A1 A2 c1 c2 n1 n2 (limbs m) (limbs n) w hr1 hr2 h1 h2 hl1 hl2
  rw [val_limbs, val_limbs, ← hq] at h
  exact h
theorem limbs_one : limbs 1 = [1] := by rw [limbs_pos (by decide)]; simp [limbs_zero]
theorem ro_1 (w : World) : Rf uv (w.alloc (.cells #[.int .u32 1] 45)) (w.alloc (.cells #[.int .u32 1] 45)).heap.size (some ⟨w.heap.size, 0, none⟩) 1 (limbs 1) := by
  rw [limbs_one]
  have h := ro_one w 1 1 rfl
  simpa using h
theorem len_two {R k : Nat} (h : (limbs R).length ≤ k) {z : Nat} (hz : z ≤ 2 * R + 1) : (limbs z).length ≤ k + 1 := by
  have h1 := limbs_len_le.1 h
  apply limbs_len_le.2
  rw [bp_succ]
  omega

/-- What stands at a round's start: the remainder in r, the quotient in the block g. -/
def DivI (V D n g c k R : Nat) (A : Option Addr) (M : List UInt32) (w wr : World) : Prop :=
  R = V / 2 ^ k % D ∧ M.length = n ∧ val M = 2 ^ k * (V / 2 ^ k / D) ∧ Rf uv wr wr.heap.size A c (limbs R) ∧ Ub wr g 45 M ∧ Below g w wr

set_option maxRecDepth 100000 in
set_option maxHeartbeats 4000000 in
theorem rdiv_good (A1 A2 : Option Addr) (c1 c2 n1 n2 : Nat) (a b : List UInt32) (w : World) (hr1 : Rf uv w w.heap.size A1 c1 a) (hr2 : Rf uv w w.heap.size A2 c2 b) (hn1 : a.length = n1) (hn2 : b.length = n2) (h0 : Hid (chk2 a b = 0)) (hD0 : 0 < n2) :
    Calls Tryd.prog 29 #[.slice A1 n1 c1, .slice A2 n2 c2] w fun e w' => DivErr w w' (divM a b) e := by
  have HC1 := chk_zero (chk2_zero h0.out).1
  have HC2 := chk_zero (chk2_zero h0.out).2
  obtain ⟨V, hV⟩ : ∃ V, V = val a := ⟨_, rfl⟩
  obtain ⟨D, hD⟩ : ∃ D, D = val b := ⟨_, rfl⟩
  have hDp : 0 < D := by
    rcases Nat.eq_zero_or_pos D with e | e
    · have := HC2.2; rw [← hD, e, limbs_zero] at this; rw [← this] at hn2; simp at hn2; omega
    · exact e
  have HQ := Lib.hid (show divM a b = ((limbs (V / D), limbs (V % D)), 0) by rw [divM_ok h0.out (by omega), hV, hD])
  have hn1l : n1 ≤ 96 := by rw [← hn1]; exact HC1.1
  have hn2l : n2 ≤ 96 := by rw [← hn2]; exact HC2.1
  have hbl : b = limbs D := by rw [hD, HC2.2]
  have HNA := Lib.hid hn1
  have HNB := Lib.hid (show (limbs D).length = n2 by rw [← hbl]; exact hn2)
  have hRb := Lib.hid (show Rf uv w w.heap.size A2 c2 (limbs D) by rw [← hbl]; exact hr2)
  have HV := Lib.hid hV
  have hVb : V / 2 ^ (32 * n1) = 0 := by
    apply Nat.div_eq_of_lt
    rw [← bp_two, hV, ← hn1]; exact val_lt a
  have HVB := Lib.hid hVb
  have hbo := (rboth_any A1 A2 c1 c2 _ _ a b w hr1 hr2)
  rw [hn1, hn2, h0.out] at hbo
  have HBO := Lib.hid hbo
  clear hV hn1 hn2 HC1 HC2 hVb hbo hr2 h0
  go_enter Tryd.func29, Tryd.ntmps29
  go_wp2_with fail
  (with_reducible refine HBO.out.mono ?_)
  rintro e w' ⟨rfl, rfl⟩
  go_wp2_with (at_make; refine wpList_make_ub _ rfl _ _ rfl _ n1 rfl rfl (by omega) (by omega) ?_; intro w1 hu1 hb1 hs1)
  have HI : Hid (DivI V D n1 w.heap.size 0 (32 * n1) 0 none (List.replicate n1 0) w w1) := by
    refine ⟨by rw [HVB.out]; simp, by simp, by rw [HVB.out, val_zeros]; simp, ?_, hu1, hb1⟩
    rw [limbs_zero]; exact Rf.empty _ _
  clear hu1 hb1
  go_loopw [9, 10] (fun v i wr => ∃ (k R c : Nat) (A : Option Addr) (nr : Nat) (M : List UInt32), v = .slice A nr c ∧ i = .int .i64 ((k : Int) - 1) ∧ k ≤ 32 * n1 ∧ R < D ∧ nr ≤ n2 ∧ Hid ((limbs R).length = nr) ∧ Hid (DivI V D n1 w.heap.size c k R A M w wr)) (fun _ i _ => (intOf i + 1).toNat)
  case atStart => exact ⟨32 * n1, 0, 0, none, 0, List.replicate n1 0, rfl, by go_num, Nat.le_refl _, hDp, by omega, (by rw [limbs_zero]; rfl), HI⟩
  case round =>
    obtain ⟨k, R, c, A, nr, M, rfl, rfl, hk, hRD, hnr, hlr, hI⟩ := hrel
    by_cases hk0 : k = 0
    · subst hk0
      have HI2 := hI.out
      unfold DivI at HI2
      rw [Nat.pow_zero, Nat.div_one, Nat.one_mul] at HI2
      have HVM := Lib.hid (show limbs (val M) = limbs (V / D) by rw [HI2.2.2.1])
      have HVR := Lib.hid HI2.1
      have HRR := Lib.hid HI2.2.2.2.1
      have HML := Lib.hid HI2.2.1
      have HRD := Lib.hid (show Rf uv wr wr.heap.size (some ⟨w.heap.size, 0, none⟩) n1 M from HI2.2.2.2.2.1.rf_all (by have := HI2.2.1; omega) (by unfold maxLen; omega))
      have HB := Lib.hid HI2.2.2.2.2.2
      clear HI2
      go_wp2_with fail
      (with_reducible refine (rtrim_any _ n1 n1 M wr HRD.out (by have := HML.out; omega) HML.out).mono ?_)
      rintro e w5 ⟨A5, c5, rfl, h5, hb5⟩
      have H5 := Lib.hid h5
      have HB5 := Lib.hid hb5
      clear h5 hb5
      go_wp2_with fail
      go_ret3
      rw [HQ.out]
      refine ⟨A5, A, c5, c, ?_, by have := H5.out; rw [HVM.out] at this; exact this, ?_, HB.out.trans (HB5.out.mono HB.out.size)⟩
      · rw [← HVM.out, ← HVR.out, hlr.out]; rfl
      · show Rf _ _ _ _ _ (limbs (V % D))
        rw [← HVR.out]
        exact (HRR.out.below HB5.out).more HB5.out.size
    · obtain ⟨i, rfl⟩ : ∃ i, k = i + 1 := ⟨k - 1, by omega⟩
      obtain ⟨j, hj⟩ : ∃ j, j = i / 32 := ⟨_, rfl⟩
      obtain ⟨s, hs⟩ : ∃ s, s = i % 32 := ⟨_, rfl⟩
      have hij : i = 32 * j + s := by omega
      have hsl : s ≤ 31 := by omega
      have hjn : j < n1 := by omega
      have HI2 := hI.out
      unfold DivI at HI2
      have HR0 := Lib.hid HI2.1
      have HML := Lib.hid HI2.2.1
      have HVM := Lib.hid HI2.2.2.1
      have HRR := Lib.hid HI2.2.2.2.1
      have HUB := Lib.hid HI2.2.2.2.2.1
      have HB := Lib.hid HI2.2.2.2.2.2
      have hja : j < a.length := by rw [HNA.out]; exact hjn
      have hjm : j < M.length := by rw [HML.out]; exact hjn
      have hra := hr1.below HB.out
      obtain ⟨ab, ao, rfl, hab, hac⟩ := hra.at_ hja
      have hak := hac j hja
      unfold uv at hak
      have hxl := u32_lt a[j]
      have hbit := bit_of a j s hja hsl
      rw [← HV.out, ← hij] at hbit
      obtain ⟨x, hx⟩ : ∃ x, x = (a[j]).toNat := ⟨_, rfl⟩
      rw [← hx] at hak hxl hbit
      obtain ⟨t, ht⟩ : ∃ t, t = 2 ^ s := ⟨_, rfl⟩
      have htl : t ≤ 2147483648 := by rw [ht]; exact pow_31 hsl
      have htp : 0 < t := by rw [ht]; exact Nat.pow_pos (by decide)
      obtain ⟨y, hy⟩ : ∃ y, y = x / t := ⟨_, rfl⟩
      obtain ⟨bit, hbt⟩ : ∃ bit, bit = V / 2 ^ i % 2 := ⟨_, rfl⟩
      have hyb : y % 2 = bit := by rw [hbt, hbit, hy, ht]
      have hroom := quo_room (M := M) (j := j) (s := s) (Q := V / 2 ^ (i + 1) / D) hjm hsl (by rw [HVM.out, ← hij])
      rw [← ht, ← hij] at hroom
      have hcM := HUB.out.cell hjm
      have hfz := HUB.out.frozen j
      obtain ⟨m0, hm0⟩ : ∃ m0, m0 = (M[j]).toNat := ⟨_, rfl⟩
      rw [← hm0] at hcM hroom
      have hml := hroom.1
      have HROOM := Lib.hid hroom.2
      have HDR := Lib.hid (div_round (V := V) (k := i) (D := D) hDp rfl HR0.out hbt)
      have HBT := Lib.hid hbt
      have e32 : ((i : Int)) / 32 = (j : Int) := by omega
      have m32 : ((i : Int)) % 32 = (s : Int) := by omega
      have eT : (2 : Int) ^ s = (t : Int) := by rw [ht]; simp
      have eY : (x : Int) / (t : Int) = (y : Int) := by rw [hy]; simp
      have hj0 : (0 : Int) ≤ (j : Int) := by omega
      have hj1 : (j : Int) < (n1 : Int) := by omega
      have hb2 : bit < 2 := by omega
      have hlen2 := Lib.hid (len_two (R := R) (k := n2) (by have := hlr.out; omega) (z := 2 * R) (by omega))
      have hlen3 := Lib.hid (len_two (R := R) (k := n2) (by have := hlr.out; omega) (z := 2 * R + 1) (by omega))
      have hrb := hRb.out.below (HB.out)
      have HRB := Lib.hid ((hRb.out.below HB.out).more HB.out.size)
      have hgz : w.heap.size < wr.heap.size := HUB.out.lt
      have HM0 := Lib.hid hm0.symm
      clear HI2 hac hbit hx ht hy hbt hroom hm0 hj hs hij hrb hI
      -- r = plus(r, r)
      go_wp2_with fail
      (with_reducible refine (rplus_n A A c c nr nr R R (2 * R) wr HRR.out HRR.out hlr.out hlr.out (by omega) (by omega) (by omega)).mono ?_)
      rintro e w5 ⟨A5, c5, rfl, h5, hb5⟩
      obtain ⟨n5, hn5⟩ : ∃ n5, n5 = (limbs (2 * R)).length := ⟨_, rfl⟩
      rw [← hn5]
      have HN5 := Lib.hid hn5.symm
      have hn5l : n5 ≤ n2 + 1 := by rw [hn5]; exact hlen2.out
      have H5 := Lib.hid h5
      have HB5 := Lib.hid hb5
      have hck5 : w5.cell? ⟨ab, ao + j, none⟩ = some (.int .u32 (x : Int)) := (hb5.cell (by show ab < _; omega)).trans hak
      have HUB5 := Lib.hid (HUB.out.below hb5 hgz)
      have HRB5 := Lib.hid ((HRB.out.below hb5).more hb5.size)
      have HG5 := Lib.hid (HB.out.trans (hb5.mono HB.out.size))
      clear hn5 h5 hb5 hak hcM hfz
      by_cases hbit1 : bit = 1
      · subst hbit1
        have hy1 : (y : Int) % 2 = 1 := by omega
        go_wp2_with fail
        (with_reducible refine (rplus_n A5 _ c5 1 n5 1 (2 * R) 1 (2 * R + 1) _ ((H5.out.alloc (Nat.le_refl _) _).more (by simp)) (ro_1 w5) HN5.out (by rw [limbs_one]; simp) (by omega) (by omega) (by omega)).mono ?_)
        rintro e w6 ⟨A6, c6, rfl, h6, hb6⟩
        obtain ⟨n6, hn6⟩ : ∃ n6, n6 = (limbs (2 * R + 1)).length := ⟨_, rfl⟩
        rw [← hn6]
        have HN6 := Lib.hid hn6.symm
        have hn6l : n6 ≤ n2 + 1 := by rw [hn6]; exact hlen3.out
        have H6 := Lib.hid h6
        have HB6 := Lib.hid (((below_new w5 _).trans (hb6.mono (by simp)) : Below w5.heap.size w5 w6))
        have HUB6 := Lib.hid (HUB5.out.below HB6.out HUB5.out.lt)
        have HRB6 := Lib.hid ((HRB5.out.below HB6.out).more HB6.out.size)
        have HG6 := Lib.hid (HG5.out.trans (HB6.out.mono HG5.out.size))
        clear hn6 h6 hb6
        by_cases hlt : 2 * R + 1 < D
        · have hvl : decide (2 * R + 1 < D) = true := decide_eq_true hlt
          have HVL := Lib.hid hvl
          have HD2 := Lib.hid (HDR.out.1 hlt)
          clear hvl
          go_wp2_with fail
          (with_reducible refine (rless_c A6 A2 c6 c2 n6 n2 _ _ (2 * R + 1) D true w6 H6.out HRB6.out HN6.out HNB.out (by omega) (by omega) HVL.out).mono ?_)
          rintro e w7 ⟨rfl, hb7⟩
          have HB7 := Lib.hid hb7
          clear hb7
          go_wp2_with fail
          go_roundw
          case rel => exact ⟨i, 2 * R + 1, c6, A6, n6, M, rfl, by go_num, by omega, hlt, (by rw [← HN6.out, ← HNB.out]; exact limbs_mono (Nat.le_of_lt hlt)), HN6.out, ⟨by rw [HD2.out.2] <;> rfl, HML.out, by rw [HVM.out, HD2.out.1, Nat.pow_succ, Nat.mul_assoc], (H6.out.below HB7.out).more HB7.out.size, HUB6.out.below HB7.out HUB6.out.lt, HG6.out.trans (HB7.out.mono HG6.out.size)⟩⟩
          case measure => simp [intOf]
        · have hge : D ≤ 2 * R + 1 := by omega
          have hvl : decide (2 * R + 1 < D) = false := decide_eq_false hlt
          have HVL := Lib.hid hvl
          have HD2 := Lib.hid (HDR.out.2 hge)
          have hnd : 2 * R + 1 - D < D := by omega
          clear hvl
          go_wp2_with fail
          (with_reducible refine (rless_c A6 A2 c6 c2 n6 n2 _ _ (2 * R + 1) D false w6 H6.out HRB6.out HN6.out HNB.out (by omega) (by omega) HVL.out).mono ?_)
          rintro e w7 ⟨rfl, hb7⟩
          have HB7 := Lib.hid hb7
          have H7 := Lib.hid ((H6.out.below hb7).more hb7.size)
          have HRB7 := Lib.hid ((HRB6.out.below hb7).more hb7.size)
          have HUB7 := Lib.hid (HUB6.out.below hb7 HUB6.out.lt)
          have HG7 := Lib.hid (HG6.out.trans (hb7.mono HG6.out.size))
          clear hb7
          go_wp2_with fail
          obtain ⟨R8, hR8⟩ : ∃ R8, R8 = 2 * R + 1 - D := ⟨_, rfl⟩
          have HR8 := Lib.hid hR8
          have hR8D : R8 < D := by omega
          (with_reducible refine (rminus_n A6 A2 c6 c2 n6 n2 (2 * R + 1) D R8 w7 H7.out HRB7.out HN6.out HNB.out (by omega) hge HR8.out).mono ?_)
          rintro e w8 ⟨A8, c8, rfl, h8, hb8, ho8⟩
          obtain ⟨n8, hn8⟩ : ∃ n8, n8 = (limbs R8).length := ⟨_, rfl⟩
          rw [← hn8]
          have HN8 := Lib.hid hn8.symm
          have hn8l : n8 ≤ n2 := by rw [hn8, ← HNB.out]; exact limbs_mono (Nat.le_of_lt hR8D)
          have H8 := Lib.hid h8
          have HUB8 := Lib.hid (HUB7.out.below hb8 HUB7.out.lt)
          have HG8 := Lib.hid (HG7.out.trans (hb8.mono HG7.out.size))
          have hcM : w8.cell? ⟨w.heap.size, j, none⟩ = some (.int .u32 (m0 : Int)) := by
            have e := HUB8.out.cell hjm
            rw [e, HM0.out]
          have hfz := HUB8.out.frozen j
          have HO8 := Lib.hid ho8
          clear hn8 h8 hb8 ho8 hR8
          go_wp2_with fail
          have HU9 := Lib.hid (HUB8.out.set_ j (UInt32.ofNat (m0 + t)) ((m0 : Int) + (t : Int)) (by rw [u32_of _ hml]; simp))
          go_roundw
          case rel => exact ⟨i, R8, c8, A8, n8, M.set j (UInt32.ofNat (m0 + t)), rfl, by go_num, by omega, hR8D, hn8l, HN8.out, ⟨by rw [HD2.out.2, HR8.out] <;> rfl, by rw [List.length_set]; exact HML.out, by rw [HROOM.out, HVM.out, HD2.out.1, Nat.pow_succ, Nat.mul_assoc, Nat.mul_add, Nat.mul_one], (div_far H8.out HUB7.out.lt HO8.out _ _), HU9.out, HG8.out.setCell (Nat.le_refl _) _⟩⟩
          case measure => simp [intOf]
      · obtain rfl : bit = 0 := by omega
        have hy1 : (y : Int) % 2 = 0 := by omega
        go_wp2_with fail
        by_cases hlt : 2 * R < D
        · have hvl : decide (2 * R < D) = true := decide_eq_true hlt
          have HVL := Lib.hid hvl
          have HD2 := Lib.hid (HDR.out.1 hlt)
          clear hvl
          go_wp2_with fail
          (with_reducible refine (rless_c A5 A2 c5 c2 n5 n2 _ _ (2 * R) D true w5 H5.out HRB5.out HN5.out HNB.out (by omega) (by omega) HVL.out).mono ?_)
          rintro e w7 ⟨rfl, hb7⟩
          have HB7 := Lib.hid hb7
          clear hb7
          go_wp2_with fail
          go_roundw
          case rel => exact ⟨i, 2 * R, c5, A5, n5, M, rfl, by go_num, by omega, hlt, (by rw [← HN5.out, ← HNB.out]; exact limbs_mono (Nat.le_of_lt hlt)), HN5.out, ⟨by rw [HD2.out.2] <;> rfl, HML.out, by rw [HVM.out, HD2.out.1, Nat.pow_succ, Nat.mul_assoc], (H5.out.below HB7.out).more HB7.out.size, HUB5.out.below HB7.out HUB5.out.lt, HG5.out.trans (HB7.out.mono HG5.out.size)⟩⟩
          case measure => simp [intOf]
        · have hge : D ≤ 2 * R := by omega
          have hvl : decide (2 * R < D) = false := decide_eq_false hlt
          have HVL := Lib.hid hvl
          have HD2 := Lib.hid (HDR.out.2 hge)
          have hnd : 2 * R - D < D := by omega
          clear hvl
          go_wp2_with fail
          (with_reducible refine (rless_c A5 A2 c5 c2 n5 n2 _ _ (2 * R) D false w5 H5.out HRB5.out HN5.out HNB.out (by omega) (by omega) HVL.out).mono ?_)
          rintro e w7 ⟨rfl, hb7⟩
          have HB7 := Lib.hid hb7
          have H7 := Lib.hid ((H5.out.below hb7).more hb7.size)
          have HRB7 := Lib.hid ((HRB5.out.below hb7).more hb7.size)
          have HUB7 := Lib.hid (HUB5.out.below hb7 HUB5.out.lt)
          have HG7 := Lib.hid (HG5.out.trans (hb7.mono HG5.out.size))
          clear hb7
          go_wp2_with fail
          obtain ⟨R8, hR8⟩ : ∃ R8, R8 = 2 * R - D := ⟨_, rfl⟩
          have HR8 := Lib.hid hR8
          have hR8D : R8 < D := by omega
          (with_reducible refine (rminus_n A5 A2 c5 c2 n5 n2 (2 * R) D R8 w7 H7.out HRB7.out HN5.out HNB.out (by omega) hge HR8.out).mono ?_)
          rintro e w8 ⟨A8, c8, rfl, h8, hb8, ho8⟩
          obtain ⟨n8, hn8⟩ : ∃ n8, n8 = (limbs R8).length := ⟨_, rfl⟩
          rw [← hn8]
          have HN8 := Lib.hid hn8.symm
          have hn8l : n8 ≤ n2 := by rw [hn8, ← HNB.out]; exact limbs_mono (Nat.le_of_lt hR8D)
          have H8 := Lib.hid h8
          have HUB8 := Lib.hid (HUB7.out.below hb8 HUB7.out.lt)
          have HG8 := Lib.hid (HG7.out.trans (hb8.mono HG7.out.size))
          have hcM : w8.cell? ⟨w.heap.size, j, none⟩ = some (.int .u32 (m0 : Int)) := by
            have e := HUB8.out.cell hjm
            rw [e, HM0.out]
          have hfz := HUB8.out.frozen j
          have HO8 := Lib.hid ho8
          clear hn8 h8 hb8 ho8 hR8
          go_wp2_with fail
          have HU9 := Lib.hid (HUB8.out.set_ j (UInt32.ofNat (m0 + t)) ((m0 : Int) + (t : Int)) (by rw [u32_of _ hml]; simp))
          go_roundw
          case rel => exact ⟨i, R8, c8, A8, n8, M.set j (UInt32.ofNat (m0 + t)), rfl, by go_num, by omega, hR8D, hn8l, HN8.out, ⟨by rw [HD2.out.2, HR8.out] <;> rfl, by rw [List.length_set]; exact HML.out, by rw [HROOM.out, HVM.out, HD2.out.1, Nat.pow_succ, Nat.mul_assoc, Nat.mul_add, Nat.mul_one], (div_far H8.out HUB7.out.lt HO8.out _ _), HU9.out, HG8.out.setCell (Nat.le_refl _) _⟩⟩
          case measure => simp [intOf]

set_option maxHeartbeats 1000000 in
theorem rdiv_any (A1 A2 : Option Addr) (c1 c2 n1 n2 : Nat) (a b : List UInt32) (w : World) (hr1 : Rf uv w w.heap.size A1 c1 a) (hr2 : Rf uv w w.heap.size A2 c2 b) (hn1 : a.length = n1) (hn2 : b.length = n2) :
    Calls Tryd.prog 29 #[.slice A1 n1 c1, .slice A2 n2 c2] w fun e w' => DivErr w w' (divM a b) e := by
  by_cases h : chk2 a b = 0
  · rcases Nat.eq_zero_or_pos n2 with h0 | h0
    · have hb0 : b = [] := List.eq_nil_of_length_eq_zero (by omega)
      have HQ := Lib.hid (divM_zero h (by rw [hb0]; rfl))
      have hbo := (rboth_any A1 A2 c1 c2 _ _ a b w hr1 hr2)
      rw [hn1, hn2, h] at hbo
      have HBO := Lib.hid hbo
      subst h0
      clear hbo h hb0 hn1 hn2
      go_enter Tryd.func29, Tryd.ntmps29
      go_wp2_with fail
      (with_reducible refine HBO.out.mono ?_)
      rintro e w' ⟨rfl, rfl⟩
      go_wp2_with fail
      go_ret3
      rw [HQ.out]
      exact divErr_bad w 40
    · exact rdiv_good A1 A2 c1 c2 n1 n2 a b w hr1 hr2 hn1 hn2 h h0
  · have HQ := Lib.hid (divM_err h)
    have hb : (chk2 a b != 0) = true := by simpa using h
    have hbo := (rboth_any A1 A2 c1 c2 _ _ a b w hr1 hr2)
    rw [hn1, hn2] at hbo
    have HBO := Lib.hid hbo
    clear h hbo hn1 hn2
    go_enter Tryd.func29, Tryd.ntmps29
    go_wp2_with fail
    (with_reducible refine HBO.out.mono ?_)
    rintro e w' ⟨rfl, rfl⟩
    go_wp2_with fail
    go_ret3
    rw [HQ.out]
    exact divErr_bad w _
end Go.Proofs.YtffbmkobholmhaaDoor
