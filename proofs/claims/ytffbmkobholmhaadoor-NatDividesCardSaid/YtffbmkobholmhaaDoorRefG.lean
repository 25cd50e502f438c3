/- The reference's Gcd. -/
import Derived.Test.YtffbmkobholmhaaDoorRefF
import Derived.Deep.LoopGhost
namespace Go.Proofs.YtffbmkobholmhaaDoor
open Go.RowKit
set_option linter.unusedVariables false

theorem gcd_lt_bp {A B k : Nat} (hA : A < bp k) (hB : B < bp k) : Nat.gcd A B < bp k := by
  rcases Nat.eq_zero_or_pos A with h | h
  · rw [h, Nat.gcd_zero_left]; exact hB
  · exact Nat.lt_of_le_of_lt (Nat.le_of_dvd h (Nat.gcd_dvd_left A B)) hA
theorem twos_lt {G t g : Nat} (h : G = 2 ^ t * g) (hg : 0 < g) (hG : G < bp 96) : t < 3072 := by
  rw [bp_two] at hG
  have h1 : 2 ^ t ≤ G := by rw [h]; exact Nat.le_mul_of_pos_right _ hg
  obtain ⟨m, hm⟩ : ∃ m, m = 32 * 96 := ⟨_, rfl⟩
  rw [← hm] at hG
  have h3 := (Nat.pow_lt_pow_iff_right (by decide : 1 < 2)).1 (Nat.lt_of_le_of_lt h1 hG)
  omega
theorem cop_two {Y : Nat} (h : Y % 2 = 1) : Nat.Coprime 2 Y := by
  unfold Nat.Coprime
  rw [Nat.gcd_rec, h]
  exact Nat.gcd_one_left 2
theorem gcd_half {X Y : Nat} (hX : X % 2 = 0) (hY : Y % 2 = 1) : Nat.gcd (X / 2) Y = Nat.gcd X Y := by
  have e : X = 2 * (X / 2) := by omega
  have h := Nat.Coprime.gcd_mul_left_cancel (X / 2) (cop_two hY)
  rw [← e] at h
  exact h.symm
theorem gcd_half2 {X Y : Nat} (hX : X % 2 = 1) (hY : Y % 2 = 0) : Nat.gcd X (Y / 2) = Nat.gcd X Y := by
  rw [Nat.gcd_comm, gcd_half hY hX, Nat.gcd_comm]
theorem gcd_both {X Y : Nat} (hX : X % 2 = 0) (hY : Y % 2 = 0) : Nat.gcd X Y = 2 * Nat.gcd (X / 2) (Y / 2) := by
  have e : X = 2 * (X / 2) := by omega
  have e2 : Y = 2 * (Y / 2) := by omega
  have h := Nat.gcd_mul_left 2 (X / 2) (Y / 2)
  rw [← e, ← e2] at h
  exact h
theorem gcd_minus {X Y : Nat} (h : X ≤ Y) : Nat.gcd X (Y - X) = Nat.gcd X Y := by
  have e : Y = (Y - X) + X := by omega
  conv => rhs; rw [e]
  rw [Nat.gcd_add_self_right]
theorem gcd_minus2 {X Y : Nat} (h : Y ≤ X) : Nat.gcd (X - Y) Y = Nat.gcd X Y := by
  rw [Nat.gcd_comm, gcd_minus h, Nat.gcd_comm]
theorem first_limb {X : Nat} (h : 0 < (limbs X).length) : (limbs X)[0].toNat % 2 = X % 2 := by
  have hX : X ≠ 0 := by intro e; rw [e, limbs_zero] at h; simp at h
  have e : (limbs X)[0]? = some (UInt32.ofNat (X % 4294967296)) := by rw [limbs_pos hX]; rfl
  rw [List.getElem?_eq_getElem h] at e
  rw [Option.some.inj e, u32_of _ (Nat.mod_lt _ (by decide))]
  omega
theorem rhalf_n (A : Option Addr) (c n m q : Nat) (w : World) (hr : Rf uv w w.heap.size A c (limbs m)) (hn : (limbs m).length = n) (hl : n ≤ 10000) (hq : q = m / 2) :
    Calls Tryd.prog 61 #[.slice A n c] w fun e w' => NumP w w' (limbs q) e := by
  have h := rhalf_any A c n (limbs m) w hr hn hl
  rw [val_limbs, ← hq] at h
  exact h
theorem len_pos {X n : Nat} (h : (limbs X).length = n) : 0 < n ↔ 0 < X := by
  rw [← h]
  have := limbs_len_eq_zero (n := X)
  omega

/-- What stands at a round's start. -/
def GcdI (G X Y t c1 c2 n1 n2 : Nat) (A1 A2 : Option Addr) (w wr : World) : Prop :=
  G = 2 ^ t * Nat.gcd X Y ∧ (limbs X).length = n1 ∧ (limbs Y).length = n2 ∧ Rf uv wr wr.heap.size A1 c1 (limbs X) ∧ Rf uv wr wr.heap.size A2 c2 (limbs Y) ∧ Below w.heap.size w wr

theorem rminus_p (A1 A2 : Option Addr) (c1 c2 n1 n2 m n q : Nat) (w : World) (hr1 : Rf uv w w.heap.size A1 c1 (limbs m)) (hr2 : Rf uv w w.heap.size A2 c2 (limbs n)) (h1 : (limbs m).length = n1) (h2 : (limbs n).length = n2) (hl1 : n1 ≤ 10000) (hle : n ≤ m) (hq : q = m - n) :
    Calls Tryd.prog 51 #[.slice A1 n1 c1, .slice A2 n2 c2] w fun e w' => NumP w w' (limbs q) e :=
  (rminus_n A1 A2 c1 c2 n1 n2 m n q w hr1 hr2 h1 h2 hl1 hle hq).mono fun e w' ⟨A, c, he, hr, hb, _⟩ => ⟨A, c, he, hr, hb⟩
/-- The doublings at the end. -/
def DblI (S k n c : Nat) (A : Option Addr) (w wz : World) : Prop := (limbs (2 ^ k * S)).length = n ∧ Rf uv wz wz.heap.size A c (limbs (2 ^ k * S)) ∧ Below w.heap.size w wz
theorem dbl_two (k S : Nat) : 2 ^ (k + 1) * S = 2 ^ k * S + 2 ^ k * S := by rw [Nat.pow_succ, Nat.mul_comm (2 ^ k) 2, Nat.mul_assoc]; omega
theorem dbl_len {G t S k : Nat} (h : G = 2 ^ t * S) (hk : k ≤ t) (hG : G < bp 96) : (limbs (2 ^ k * S)).length ≤ 96 := by
  apply limbs_len_le.2
  refine Nat.lt_of_le_of_lt ?_ hG
  rw [h]
  exact Nat.mul_le_mul_right _ (Nat.pow_le_pow_right (by decide) hk)
set_option maxRecDepth 100000 in
set_option maxHeartbeats 4000000 in
theorem rgcd_good (A1 A2 : Option Addr) (c1 c2 n1 n2 : Nat) (a b : List UInt32) (w : World) (hr1 : Rf uv w w.heap.size A1 c1 a) (hr2 : Rf uv w w.heap.size A2 c2 b) (hn1 : a.length = n1) (hn2 : b.length = n2) (h0 : Hid (chk2 a b = 0)) :
    Calls Tryd.prog 36 #[.slice A1 n1 c1, .slice A2 n2 c2] w fun e w' => NumErr w w' (gcdM a b) e := by
  have HC1 := chk_zero (chk2_zero h0.out).1
  have HC2 := chk_zero (chk2_zero h0.out).2
  obtain ⟨X0, hX0⟩ : ∃ X, X = val a := ⟨_, rfl⟩
  obtain ⟨Y0, hY0⟩ : ∃ X, X = val b := ⟨_, rfl⟩
  obtain ⟨G, hG⟩ : ∃ G, G = Nat.gcd X0 Y0 := ⟨_, rfl⟩
  have HQ := Lib.hid (show gcdM a b = (limbs G, 0) by rw [gcdM_ok h0.out, hG, hX0, hY0])
  have hn1l : n1 ≤ 96 := by rw [← hn1]; exact HC1.1
  have hn2l : n2 ≤ 96 := by rw [← hn2]; exact HC2.1
  have hXb : X0 < bp 96 := by rw [hX0]; exact Nat.lt_of_lt_of_le (val_lt a) (bp_mono HC1.1)
  have hYb : Y0 < bp 96 := by rw [hY0]; exact Nat.lt_of_lt_of_le (val_lt b) (bp_mono HC2.1)
  have HGB := Lib.hid (show G < bp 96 by rw [hG]; exact gcd_lt_bp hXb hYb)
  have HG := Lib.hid hG
  have HNA := Lib.hid hn1
  have HNB := Lib.hid hn2
  have HXL := Lib.hid (show limbs (val a) = limbs X0 by rw [hX0])
  have HYL := Lib.hid (show limbs (val b) = limbs Y0 by rw [hY0])
  have HXN := Lib.hid (show (limbs X0).length = n1 by rw [hX0, HC1.2]; exact hn1)
  have HYN := Lib.hid (show (limbs Y0).length = n2 by rw [hY0, HC2.2]; exact hn2)
  have hbo := (rboth_any A1 A2 c1 c2 _ _ a b w hr1 hr2)
  rw [hn1, hn2, h0.out] at hbo
  have HBO := Lib.hid hbo
  clear hX0 hY0 hG hn1 hn2 HC1 HC2 hbo h0 hXb hYb
  go_enter Tryd.func36, Tryd.ntmps36
  go_wp2_with fail
  (with_reducible refine HBO.out.mono ?_)
  rintro e w' ⟨rfl, rfl⟩
  go_wp2_with fail
  (with_reducible refine (rtrim_any A1 c1 n1 a w hr1 (by have := HNA.out; omega) HNA.out).mono ?_)
  rw [HXL.out]
  rintro e w1 ⟨A3, c3, rfl, h3, hb3⟩
  rw [HXN.out]
  have H3 := Lib.hid h3
  have HB3 := Lib.hid hb3
  have hr2b := (hr2.below hb3).more hb3.size
  clear h3 hb3
  go_wp2_with fail
  (with_reducible refine (rtrim_any A2 c2 n2 b w1 hr2b (by have := HNB.out; omega) HNB.out).mono ?_)
  rw [HYL.out]
  rintro e w2 ⟨A4, c4, rfl, h4, hb4⟩
  rw [HYN.out]
  have HI : Hid (GcdI G X0 Y0 0 c3 c4 n1 n2 A3 A4 w w2) := ⟨by rw [HG.out]; simp, HXN.out, HYN.out, (H3.out.below hb4).more hb4.size, h4, HB3.out.trans (hb4.mono HB3.out.size)⟩
  clear h4 hb4
  go_wp2_with fail
  go_loopg [7, 8, 9] (X0 + Y0) (fun v x y tt wr => ∃ (X Y t c1 c2 n1 n2 : Nat) (A1 A2 : Option Addr), x = .slice A1 n1 c1 ∧ y = .slice A2 n2 c2 ∧ tt = .int .i64 t ∧ v = X + Y ∧ t ≤ 3072 ∧ n1 ≤ 96 ∧ n2 ≤ 96 ∧ Hid (GcdI G X Y t c1 c2 n1 n2 A1 A2 w wr))
  case atStart => exact ⟨X0, Y0, 0, c3, c4, n1, n2, A3, A4, rfl, rfl, rfl, rfl, by omega, hn1l, hn2l, HI⟩
  case round =>
    obtain ⟨X, Y, t, cx, cy, nx, ny, AX, AY, rfl, rfl, rfl, rfl, ht, hnx, hny, hI⟩ := hrel
    have HI2 := hI.out
    unfold GcdI at HI2
    have HGE := Lib.hid HI2.1
    have HNX := Lib.hid HI2.2.1
    have HNY := Lib.hid HI2.2.2.1
    have HRX := Lib.hid HI2.2.2.2.1
    have HRY := Lib.hid HI2.2.2.2.2.1
    have HB := Lib.hid HI2.2.2.2.2.2
    have hpx := len_pos HI2.2.1
    have hpy := len_pos HI2.2.2.1
    clear HI2 hI
    by_cases hgo : 0 < nx ∧ 0 < ny
    · have hgx : 0 < nx := hgo.1
      have hgy : 0 < ny := hgo.2
      have hXp : 0 < X := hpx.1 hgx
      have hYp : 0 < Y := hpy.1 hgy
      have hx0 : 0 < (limbs X).length := by rw [HNX.out]; exact hgx
      have hy0 : 0 < (limbs Y).length := by rw [HNY.out]; exact hgy
      obtain ⟨xb, xo, rfl, hxb, hxc⟩ := HRX.out.at_ hx0
      obtain ⟨yb, yo, rfl, hyb, hyc⟩ := HRY.out.at_ hy0
      have hcx := hxc 0 hx0
      have hcy := hyc 0 hy0
      unfold uv at hcx hcy
      have hfx := first_limb hx0
      have hfy := first_limb hy0
      have hlx := u32_lt (limbs X)[0]
      have hly := u32_lt (limbs Y)[0]
      obtain ⟨x, hx⟩ : ∃ x, x = ((limbs X)[0]).toNat := ⟨_, rfl⟩
      obtain ⟨y, hy⟩ : ∃ y, y = ((limbs Y)[0]).toNat := ⟨_, rfl⟩
      rw [← hx] at hcx hfx hlx
      rw [← hy] at hcy hfy hly
      have hgxi : (0 : Int) < (nx : Int) := by omega
      have hgyi : (0 : Int) < (ny : Int) := by omega
      rw [Nat.add_zero] at hcx hcy
      clear hx hy hxc hyc hpx hpy hgo
      by_cases hX : X % 2 = 0
      · have hxe : (x : Int) % 2 = 0 := by omega
        by_cases hY : Y % 2 = 0
        · have hye : (y : Int) % 2 = 0 := by omega
          have HG2 := Lib.hid (show G = 2 ^ (t + 1) * Nat.gcd (X / 2) (Y / 2) by rw [HGE.out, gcd_both hX hY, Nat.pow_succ, Nat.mul_assoc])
          have ht2 : t + 1 < 3072 := twos_lt HG2.out (Nat.gcd_pos_of_pos_left _ (by omega)) HGB.out
          go_wp2_with fail
          go_quiet (fail)
          have HXq : Hid (Rf uv (wr.drewN nq) (wr.drewN nq).heap.size (some ⟨xb, xo, none⟩) cx (limbs X)) := HRX.out.drewN nq
          have HYq : Hid (Rf uv (wr.drewN nq) (wr.drewN nq).heap.size (some ⟨yb, yo, none⟩) cy (limbs Y)) := HRY.out.drewN nq
          have HBq : Hid (Below w.heap.size w (wr.drewN nq)) := HB.out.trans (below_drewN _ _ _)
          go_wp2_with fail
          (with_reducible refine (rhalf_n _ cx nx X (X / 2) _ HXq.out HNX.out (by omega) rfl).mono ?_)
          rintro e w5 ⟨A5, c5, rfl, h5, hb5⟩
          obtain ⟨n5, hn5⟩ : ∃ n5, n5 = (limbs (X / 2)).length := ⟨_, rfl⟩
          rw [← hn5]
          have HN5 := Lib.hid hn5.symm
          have hn5l : n5 ≤ 96 := by rw [hn5]; exact Nat.le_trans (limbs_mono (show X / 2 ≤ X by omega)) (by rw [HNX.out]; exact hnx)
          have H5 := Lib.hid h5
          have HB5 := Lib.hid hb5
          clear hn5 h5 hb5
          have HRY5 := Lib.hid ((HYq.out.below HB5.out).more HB5.out.size)
          go_wp2_with fail
          (with_reducible refine (rhalf_n _ cy ny Y (Y / 2) w5 HRY5.out HNY.out (by omega) rfl).mono ?_)
          rintro e w6 ⟨A6, c6, rfl, h6, hb6⟩
          obtain ⟨n6, hn6⟩ : ∃ n6, n6 = (limbs (Y / 2)).length := ⟨_, rfl⟩
          rw [← hn6]
          have HN6 := Lib.hid hn6.symm
          have hn6l : n6 ≤ 96 := by rw [hn6]; exact Nat.le_trans (limbs_mono (show Y / 2 ≤ Y by omega)) (by rw [HNY.out]; exact hny)
          have H6 := Lib.hid h6
          have HB6 := Lib.hid hb6
          clear hn6 h6 hb6
          go_wp2_with fail
          go_roundg (X / 2 + Y / 2)
          case measure => omega
          case rel => exact ⟨X / 2, Y / 2, t + 1, c5, c6, n5, n6, A5, A6, rfl, rfl, by go_num, rfl, by omega, hn5l, hn6l, ⟨HG2.out, HN5.out, HN6.out, (H5.out.below HB6.out).more HB6.out.size, H6.out, (HBq.out.trans (HB5.out.mono HBq.out.size)).trans (HB6.out.mono (Nat.le_trans HBq.out.size HB5.out.size))⟩⟩
        · have hye : (y : Int) % 2 = 1 := by omega
          have HG2 := Lib.hid (show G = 2 ^ t * Nat.gcd (X / 2) Y by rw [HGE.out, gcd_half hX (by omega)])
          go_wp2_with fail
          go_quiet (fail)
          have HXq : Hid (Rf uv (wr.drewN nq) (wr.drewN nq).heap.size (some ⟨xb, xo, none⟩) cx (limbs X)) := HRX.out.drewN nq
          have HYq : Hid (Rf uv (wr.drewN nq) (wr.drewN nq).heap.size (some ⟨yb, yo, none⟩) cy (limbs Y)) := HRY.out.drewN nq
          have HBq : Hid (Below w.heap.size w (wr.drewN nq)) := HB.out.trans (below_drewN _ _ _)
          go_wp2_with fail
          (with_reducible refine (rhalf_n _ cx nx X (X / 2) _ HXq.out HNX.out (by omega) rfl).mono ?_)
          rintro e w5 ⟨A5, c5, rfl, h5, hb5⟩
          obtain ⟨n5, hn5⟩ : ∃ n5, n5 = (limbs (X / 2)).length := ⟨_, rfl⟩
          rw [← hn5]
          have HN5 := Lib.hid hn5.symm
          have hn5l : n5 ≤ 96 := by rw [hn5]; exact Nat.le_trans (limbs_mono (show X / 2 ≤ X by omega)) (by rw [HNX.out]; exact hnx)
          have H5 := Lib.hid h5
          have HB5 := Lib.hid hb5
          clear hn5 h5 hb5
          go_wp2_with fail
          go_roundg (X / 2 + Y)
          case measure => omega
          case rel => exact ⟨X / 2, Y, t, c5, cy, n5, ny, A5, _, rfl, rfl, rfl, rfl, ht, hn5l, hny, ⟨HG2.out, HN5.out, HNY.out, H5.out, (HYq.out.below HB5.out).more HB5.out.size, HBq.out.trans (HB5.out.mono HBq.out.size)⟩⟩
      · have hxe : (x : Int) % 2 = 1 := by omega
        by_cases hY : Y % 2 = 0
        · have hye : (y : Int) % 2 = 0 := by omega
          have HG2 := Lib.hid (show G = 2 ^ t * Nat.gcd X (Y / 2) by rw [HGE.out, gcd_half2 (by omega) hY])
          go_wp2_with fail
          go_quiet (fail)
          have HXq : Hid (Rf uv (wr.drewN nq) (wr.drewN nq).heap.size (some ⟨xb, xo, none⟩) cx (limbs X)) := HRX.out.drewN nq
          have HYq : Hid (Rf uv (wr.drewN nq) (wr.drewN nq).heap.size (some ⟨yb, yo, none⟩) cy (limbs Y)) := HRY.out.drewN nq
          have HBq : Hid (Below w.heap.size w (wr.drewN nq)) := HB.out.trans (below_drewN _ _ _)
          go_wp2_with fail
          (with_reducible refine (rhalf_n _ cy ny Y (Y / 2) _ HYq.out HNY.out (by omega) rfl).mono ?_)
          rintro e w5 ⟨A5, c5, rfl, h5, hb5⟩
          obtain ⟨n5, hn5⟩ : ∃ n5, n5 = (limbs (Y / 2)).length := ⟨_, rfl⟩
          rw [← hn5]
          have HN5 := Lib.hid hn5.symm
          have hn5l : n5 ≤ 96 := by rw [hn5]; exact Nat.le_trans (limbs_mono (show Y / 2 ≤ Y by omega)) (by rw [HNY.out]; exact hny)
          have H5 := Lib.hid h5
          have HB5 := Lib.hid hb5
          clear hn5 h5 hb5
          go_wp2_with fail
          go_roundg (X + Y / 2)
          case measure => omega
          case rel => exact ⟨X, Y / 2, t, cx, c5, nx, n5, _, A5, rfl, rfl, rfl, rfl, ht, hnx, hn5l, ⟨HG2.out, HNX.out, HN5.out, (HXq.out.below HB5.out).more HB5.out.size, H5.out, HBq.out.trans (HB5.out.mono HBq.out.size)⟩⟩
        · have hye : (y : Int) % 2 = 1 := by omega
          by_cases hlt : X < Y
          · have HG2 := Lib.hid (show G = 2 ^ t * Nat.gcd X (Y - X) by rw [HGE.out, gcd_minus (Nat.le_of_lt hlt)])
            have hvl : decide (X < Y) = true := by simpa using hlt
            have HVL := Lib.hid hvl
            clear hvl
            go_wp2_with fail
            go_quiet (fail)
            have HXq : Hid (Rf uv (wr.drewN nq) (wr.drewN nq).heap.size (some ⟨xb, xo, none⟩) cx (limbs X)) := HRX.out.drewN nq
            have HYq : Hid (Rf uv (wr.drewN nq) (wr.drewN nq).heap.size (some ⟨yb, yo, none⟩) cy (limbs Y)) := HRY.out.drewN nq
            have HBq : Hid (Below w.heap.size w (wr.drewN nq)) := HB.out.trans (below_drewN _ _ _)
            go_wp2_with fail
            (with_reducible refine (rless_c _ _ cx cy nx ny _ _ X Y true _ HXq.out HYq.out HNX.out HNY.out (by omega) (by omega) HVL.out).mono ?_)
            rintro e w4 ⟨rfl, hb4⟩
            have HX4 := Lib.hid ((HXq.out.below hb4).more hb4.size)
            have HY4 := Lib.hid ((HYq.out.below hb4).more hb4.size)
            have HB4 := Lib.hid (HBq.out.trans (hb4.mono HBq.out.size))
            clear hb4
            go_wp2_with fail
            (with_reducible refine (rminus_p _ _ cy cx ny nx Y X (Y - X) w4 HY4.out HX4.out HNY.out HNX.out (by omega) (by omega) rfl).mono ?_)
            rintro e w5 ⟨A5, c5, rfl, h5, hb5⟩
            obtain ⟨n5, hn5⟩ : ∃ n5, n5 = (limbs (Y - X)).length := ⟨_, rfl⟩
            rw [← hn5]
            have HN5 := Lib.hid hn5.symm
            have hn5l : n5 ≤ 96 := by rw [hn5]; exact Nat.le_trans (limbs_mono (show Y - X ≤ Y by omega)) (by rw [HNY.out]; exact hny)
            have H5 := Lib.hid h5
            have HB5 := Lib.hid hb5
            clear hn5 h5 hb5
            go_wp2_with fail
            go_roundg (X + (Y - X))
            case measure => omega
            case rel => exact ⟨X, Y - X, t, cx, c5, nx, n5, _, A5, rfl, rfl, rfl, rfl, ht, hnx, hn5l, ⟨HG2.out, HNX.out, HN5.out, (HX4.out.below HB5.out).more HB5.out.size, H5.out, HB4.out.trans (HB5.out.mono HB4.out.size)⟩⟩
          · have HG2 := Lib.hid (show G = 2 ^ t * Nat.gcd (X - Y) Y by rw [HGE.out, gcd_minus2 (by omega)])
            have hvl : decide (X < Y) = false := by simpa using hlt
            have HVL := Lib.hid hvl
            clear hvl
            go_wp2_with fail
            go_quiet (fail)
            have HXq : Hid (Rf uv (wr.drewN nq) (wr.drewN nq).heap.size (some ⟨xb, xo, none⟩) cx (limbs X)) := HRX.out.drewN nq
            have HYq : Hid (Rf uv (wr.drewN nq) (wr.drewN nq).heap.size (some ⟨yb, yo, none⟩) cy (limbs Y)) := HRY.out.drewN nq
            have HBq : Hid (Below w.heap.size w (wr.drewN nq)) := HB.out.trans (below_drewN _ _ _)
            go_wp2_with fail
            (with_reducible refine (rless_c _ _ cx cy nx ny _ _ X Y false _ HXq.out HYq.out HNX.out HNY.out (by omega) (by omega) HVL.out).mono ?_)
            rintro e w4 ⟨rfl, hb4⟩
            have HX4 := Lib.hid ((HXq.out.below hb4).more hb4.size)
            have HY4 := Lib.hid ((HYq.out.below hb4).more hb4.size)
            have HB4 := Lib.hid (HBq.out.trans (hb4.mono HBq.out.size))
            clear hb4
            go_wp2_with fail
            (with_reducible refine (rminus_p _ _ cx cy nx ny X Y (X - Y) w4 HX4.out HY4.out HNX.out HNY.out (by omega) (by omega) rfl).mono ?_)
            rintro e w5 ⟨A5, c5, rfl, h5, hb5⟩
            obtain ⟨n5, hn5⟩ : ∃ n5, n5 = (limbs (X - Y)).length := ⟨_, rfl⟩
            rw [← hn5]
            have HN5 := Lib.hid hn5.symm
            have hn5l : n5 ≤ 96 := by rw [hn5]; exact Nat.le_trans (limbs_mono (show X - Y ≤ X by omega)) (by rw [HNX.out]; exact hnx)
            have H5 := Lib.hid h5
            have HB5 := Lib.hid hb5
            clear hn5 h5 hb5
            go_wp2_with fail
            go_roundg (X - Y + Y)
            case measure => omega
            case rel => exact ⟨X - Y, Y, t, c5, cy, n5, ny, A5, _, rfl, rfl, rfl, rfl, ht, hn5l, hny, ⟨HG2.out, HN5.out, HNY.out, H5.out, (HY4.out.below HB5.out).more HB5.out.size, HB4.out.trans (HB5.out.mono HB4.out.size)⟩⟩
    · rcases Nat.eq_zero_or_pos nx with hx0 | hx0
      · have hXY : Nat.gcd X Y = X + Y := by
          have : X = 0 := by omega
          rw [this]; simp
        subst hx0
        clear hpx hpy
        obtain ⟨S, hS⟩ : ∃ S, S = X + Y := ⟨_, rfl⟩
        have HGS := Lib.hid (show G = 2 ^ t * S by rw [HGE.out, hS, hXY])
        have HS := Lib.hid hS
        clear hS hXY hgo
        go_wp2_with fail
        (with_reducible refine (rplus_n AX AY cx cy _ _ X Y S wr HRX.out HRY.out HNX.out HNY.out (by omega) (by omega) HS.out).mono ?_)
        rintro e w5 ⟨A5, c5, rfl, h5, hb5⟩
        have HI5 : Hid (DblI S 0 (limbs S).length c5 A5 w w5) := ⟨by simp, by simpa using h5, HB.out.trans (hb5.mono HB.out.size)⟩
        obtain ⟨n5, hn5⟩ : ∃ n5, n5 = (limbs S).length := ⟨_, rfl⟩
        rw [← hn5] at HI5 ⊢
        have hn5l : n5 ≤ 96 := by have := dbl_len HGS.out (Nat.zero_le t) HGB.out; rw [Nat.pow_zero, Nat.one_mul, ← hn5] at this; exact this
        clear h5 hb5 hn5
        go_wp2_with fail
        go_loopw [12, 13] (fun d j wz => ∃ (k c n : Nat) (A : Option Addr), d = .slice A n c ∧ j = .int .i64 k ∧ k ≤ t ∧ n ≤ 96 ∧ Hid (DblI S k n c A w wz)) (fun _ j _ => t - (intOf j).toNat)
        case atStart => exact ⟨0, c5, n5, A5, rfl, rfl, by omega, hn5l, HI5⟩
        case round =>
          obtain ⟨k, c, n, A, rfl, rfl, hk, hn, hD⟩ := hrel
          have HD := hD.out
          unfold DblI at HD
          have HDN := Lib.hid HD.1
          have HDR := Lib.hid HD.2.1
          have HDB := Lib.hid HD.2.2
          clear HD hD
          by_cases hlt2 : k < t
          · have hki : (k : Int) < (t : Int) := by omega
            go_wp2_with fail
            (with_reducible refine (rplus_n A A c c n n (2 ^ k * S) (2 ^ k * S) (2 ^ (k + 1) * S) wr HDR.out HDR.out HDN.out HDN.out (by omega) (by omega) (dbl_two k S)).mono ?_)
            rintro e w6 ⟨A6, c6, rfl, h6, hb6⟩
            have HI6 : Hid (DblI S (k + 1) (limbs (2 ^ (k + 1) * S)).length c6 A6 w w6) := ⟨rfl, h6, HDB.out.trans (hb6.mono HDB.out.size)⟩
            obtain ⟨n6, hn6⟩ : ∃ n6, n6 = (limbs (2 ^ (k + 1) * S)).length := ⟨_, rfl⟩
            rw [← hn6] at HI6 ⊢
            have hn6l : n6 ≤ 96 := by rw [hn6]; exact dbl_len HGS.out hlt2 HGB.out
            clear h6 hb6 hn6
            go_wp2_with fail
            go_roundw
            case rel => exact ⟨k + 1, c6, n6, A6, rfl, by go_num, by omega, hn6l, HI6⟩
            case measure => simp [intOf]; omega
          · obtain rfl : k = t := by omega
            go_wp2_with fail
            go_ret2
            rw [HQ.out]
            refine ⟨A, c, ?_, ?_, HDB.out⟩
            · rw [HGS.out, HDN.out]; rfl
            · show Rf _ _ _ _ _ (limbs G)
              rw [HGS.out]; exact HDR.out
      · have hy0 : ny = 0 := by omega
        have hXY : Nat.gcd X Y = X + Y := by
          have : Y = 0 := by omega
          rw [this]; simp
        subst hy0
        have hx0i : (0 : Int) < (nx : Int) := by omega
        clear hpx hpy
        obtain ⟨S, hS⟩ : ∃ S, S = X + Y := ⟨_, rfl⟩
        have HGS := Lib.hid (show G = 2 ^ t * S by rw [HGE.out, hS, hXY])
        have HS := Lib.hid hS
        clear hS hXY hgo
        go_wp2_with fail
        (with_reducible refine (rplus_n AX AY cx cy _ _ X Y S wr HRX.out HRY.out HNX.out HNY.out (by omega) (by omega) HS.out).mono ?_)
        rintro e w5 ⟨A5, c5, rfl, h5, hb5⟩
        have HI5 : Hid (DblI S 0 (limbs S).length c5 A5 w w5) := ⟨by simp, by simpa using h5, HB.out.trans (hb5.mono HB.out.size)⟩
        obtain ⟨n5, hn5⟩ : ∃ n5, n5 = (limbs S).length := ⟨_, rfl⟩
        rw [← hn5] at HI5 ⊢
        have hn5l : n5 ≤ 96 := by have := dbl_len HGS.out (Nat.zero_le t) HGB.out; rw [Nat.pow_zero, Nat.one_mul, ← hn5] at this; exact this
        clear h5 hb5 hn5
        go_wp2_with fail
        go_loopw [12, 13] (fun d j wz => ∃ (k c n : Nat) (A : Option Addr), d = .slice A n c ∧ j = .int .i64 k ∧ k ≤ t ∧ n ≤ 96 ∧ Hid (DblI S k n c A w wz)) (fun _ j _ => t - (intOf j).toNat)
        case atStart => exact ⟨0, c5, n5, A5, rfl, rfl, by omega, hn5l, HI5⟩
        case round =>
          obtain ⟨k, c, n, A, rfl, rfl, hk, hn, hD⟩ := hrel
          have HD := hD.out
          unfold DblI at HD
          have HDN := Lib.hid HD.1
          have HDR := Lib.hid HD.2.1
          have HDB := Lib.hid HD.2.2
          clear HD hD
          by_cases hlt2 : k < t
          · have hki : (k : Int) < (t : Int) := by omega
            go_wp2_with fail
            (with_reducible refine (rplus_n A A c c n n (2 ^ k * S) (2 ^ k * S) (2 ^ (k + 1) * S) wr HDR.out HDR.out HDN.out HDN.out (by omega) (by omega) (dbl_two k S)).mono ?_)
            rintro e w6 ⟨A6, c6, rfl, h6, hb6⟩
            have HI6 : Hid (DblI S (k + 1) (limbs (2 ^ (k + 1) * S)).length c6 A6 w w6) := ⟨rfl, h6, HDB.out.trans (hb6.mono HDB.out.size)⟩
            obtain ⟨n6, hn6⟩ : ∃ n6, n6 = (limbs (2 ^ (k + 1) * S)).length := ⟨_, rfl⟩
            rw [← hn6] at HI6 ⊢
            have hn6l : n6 ≤ 96 := by rw [hn6]; exact dbl_len HGS.out hlt2 HGB.out
            clear h6 hb6 hn6
            go_wp2_with fail
            go_roundw
            case rel => exact ⟨k + 1, c6, n6, A6, rfl, by go_num, by omega, hn6l, HI6⟩
            case measure => simp [intOf]; omega
          · obtain rfl : k = t := by omega
            go_wp2_with fail
            go_ret2
            rw [HQ.out]
            refine ⟨A, c, ?_, ?_, HDB.out⟩
            · rw [HGS.out, HDN.out]; rfl
            · show Rf _ _ _ _ _ (limbs G)
              rw [HGS.out]; exact HDR.out

set_option maxHeartbeats 1000000 in
theorem rgcd_any (A1 A2 : Option Addr) (c1 c2 n1 n2 : Nat) (a b : List UInt32) (w : World) (hr1 : Rf uv w w.heap.size A1 c1 a) (hr2 : Rf uv w w.heap.size A2 c2 b) (hn1 : a.length = n1) (hn2 : b.length = n2) :
    Calls Tryd.prog 36 #[.slice A1 n1 c1, .slice A2 n2 c2] w fun e w' => NumErr w w' (gcdM a b) e := by
  by_cases h : chk2 a b = 0
  · exact rgcd_good A1 A2 c1 c2 n1 n2 a b w hr1 hr2 hn1 hn2 h
  · have HQ := Lib.hid (gcdM_err h)
    have hb : (chk2 a b != 0) = true := by simpa using h
    have hbo := (rboth_any A1 A2 c1 c2 _ _ a b w hr1 hr2)
    rw [hn1, hn2] at hbo
    have HBO := Lib.hid hbo
    clear h hbo hn1 hn2
    go_enter Tryd.func36, Tryd.ntmps36
    go_wp2_with fail
    (with_reducible refine HBO.out.mono ?_)
    rintro e w' ⟨rfl, rfl⟩
    go_wp2_with fail
    go_ret2
    rw [HQ.out]
    exact numErr_bad w _
end Go.Proofs.YtffbmkobholmhaaDoor
