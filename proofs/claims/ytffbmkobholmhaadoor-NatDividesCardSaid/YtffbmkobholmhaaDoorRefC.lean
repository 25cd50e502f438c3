/- The reference's plus, minus, Of, Word, Cmp. -/
import Derived.Test.YtffbmkobholmhaaDoorRefB
namespace Go.Proofs.YtffbmkobholmhaaDoor
open Go.RowKit
set_option linter.unusedVariables false

theorem plus_step {r a b : List UInt32} {k cr x y : Nat} {t : UInt32} (hl : r.length = k) (hv : val r + bp k * cr = val (a.take k) + val (b.take k)) (hx : lat a k = x) (hy : lat b k = y) (ht : t.toNat = (x + y + cr) % 4294967296) :
    val (r ++ [t]) + bp (k + 1) * ((x + y + cr) / 4294967296) = val (a.take (k + 1)) + val (b.take (k + 1)) := by
  rw [val_snoc, hl, val_take_lat, val_take_lat, hx, hy, bp_succ, ht]
  exact add_round hv (by omega)
set_option maxRecDepth 100000 in
set_option maxHeartbeats 2000000 in
theorem rplus_any (A1 A2 : Option Addr) (c1 c2 n1 n2 : Nat) (a b : List UInt32) (w : World) (hr1 : Rf uv w w.heap.size A1 c1 a) (hr2 : Rf uv w w.heap.size A2 c2 b) (h1 : a.length = n1) (h2 : b.length = n2) (hl1 : n1 ≤ 10000) (hl2 : n2 ≤ 10000) :
    Calls Tryd.prog 49 #[.slice A1 n1 c1, .slice A2 n2 c2] w fun e w' => NumP w w' (limbs (val a + val b)) e := by
  obtain ⟨i0, hi, hz0, hz1, hz2⟩ := info_parts uInfo
  have HN1 := Lib.hid h1
  have HN2 := Lib.hid h2
  clear h1 h2
  go_enter Tryd.func49, Tryd.ntmps49
  go_wp2_with fail
  go_loopw [5, 6, 7] (fun v x i wr => ∃ k cr : Nat, ∃ (A : Option Addr) (c : Nat) (r : List UInt32), i = .int .i64 k ∧ x = .int .u64 cr ∧ v = .slice A r.length c ∧ cr ≤ 1 ∧ k ≤ n1 + n2 + 1 ∧ r.length ≤ k ∧ Hid (r.length = k) ∧ (0 < cr → k ≤ n1 + n2) ∧ Hid (cr = 0 ∨ k ≤ n1 ∨ k ≤ n2) ∧ Hid (val r + bp k * cr = val (a.take k) + val (b.take k)) ∧ Hid (Ow uv wr w.heap.size 45 A c r) ∧ Hid (w.grownBy wr none))
    (fun _ _ i _ => n1 + n2 + 2 - (intOf i).toNat)
  case atStart => exact ⟨0, 0, none, 0, [], rfl, rfl, rfl, by omega, by omega, by simp, rfl, by omega, .inl rfl, (by simp [val_nil, bp_zero, Hid]), Ow.nil _ _ _, grown_refl _ _⟩
  case round =>
    obtain ⟨k, cr, A, c, r, rfl, rfl, rfl, hcr, hk, hrk, hrl, hcz, hor, hv, ho, hg⟩ := hrel
    have hb1 := ho.out.blk_ge
    by_cases hgo : k < n1 ∨ k < n2 ∨ 0 < cr
    · have hra := hr1.below (below_of_none hg.out)
      have hrb := hr2.below (below_of_none hg.out)
      have hxl := lat_lt a k
      have hyl := lat_lt b k
      obtain ⟨x, hx⟩ : ∃ x, lat a k = x := ⟨_, rfl⟩
      obtain ⟨y, hy⟩ : ∃ y, lat b k = y := ⟨_, rfl⟩
      rw [hx] at hxl
      rw [hy] at hyl
      obtain ⟨t, ht⟩ : ∃ t, t = UInt32.ofNat ((x + y + cr) % 4294967296) := ⟨_, rfl⟩
      have htv : ((x : Int) + (y : Int) + (cr : Int)) % 4294967296 = (t.toNat : Int) := by rw [ht, u32_of _ (by omega)]; omega
      have HS := Lib.hid (plus_step (t := t) hrl.out hv.out hx hy (by rw [ht, u32_of _ (by omega)]))
      have hcz2 : 0 < (x + y + cr) / 4294967296 → k + 1 ≤ n1 + n2 := by
        intro h
        have hx0 : n1 ≤ k → x = 0 := fun hh => by rw [← hx, lat_out (by have := HN1.out; omega)]
        have hy0 : n2 ≤ k → y = 0 := fun hh => by rw [← hy, lat_out (by have := HN2.out; omega)]
        rcases Nat.lt_or_ge k n1 with h3 | h3
        · rcases Nat.lt_or_ge k n2 with h4 | h4
          · omega
          · have := hy0 h4; omega
        · have := hx0 h3
          rcases Nat.lt_or_ge k n2 with h4 | h4
          · omega
          · have := hy0 h4; omega
      have hor2 : Hid ((x + y + cr) / 4294967296 = 0 ∨ k + 1 ≤ n1 ∨ k + 1 ≤ n2) := by
        rcases Nat.lt_or_ge k n1 with h3 | h3
        · exact .inr (.inl h3)
        · rcases Nat.lt_or_ge k n2 with h4 | h4
          · exact .inr (.inr h4)
          · left
            have hx0 : x = 0 := by rw [← hx, lat_out (by have := HN1.out; omega)]
            have hy0 : y = 0 := by rw [← hy, lat_out (by have := HN2.out; omega)]
            omega
      have hkn : k ≤ n1 + n2 := by
        rcases hgo with h | h | h
        · omega
        · omega
        · exact hcz h
      have HX := Lib.hid hx
      have HY := Lib.hid hy
      have HTV := Lib.hid htv
      have hro := ro_one wr t (((x : Int) + (y : Int) + (cr : Int)) % 4294967296) htv
      have HRO := Lib.hid hro
      have hrk4 : r.length ≤ 30000 := by omega
      have hbz := hg.out.size
      have HA1 := HN1.out.symm
      clear hx hy ht htv hro HA1
      by_cases t1 : k < n1
      · have t1d : decide (k < n1) = true := by simpa using t1
        go_wp2_with (first | (go_at_call 65; (with_reducible refine (rat_n A1 n1 _ _ a k x _ hra HN1.out.symm (by omega) HX.out).mono ?_); rintro e w' ⟨rfl, rfl⟩) | (go_at_call 65; (with_reducible refine (rat_n A2 n2 _ _ b k y _ hrb HN2.out.symm (by omega) HY.out).mono ?_); rintro e w' ⟨rfl, rfl⟩) | (at_builtin; refine wpList_append_f _ uv_one rfl _ _ 22 rfl w.heap.size 45 4 i0 _ Tryd.underlying22 hi hz0 hz1 hz2 (by decide) rfl r [t] rfl rfl (ho.out.alloc _) HRO.out (by simp; omega) (by simp; omega) ?_; intro A3 c3 w3 r3 hr3 ho3 hg3 hb3))
        have hpg := push_grown hg.out (fun g hg => (hb1 g hg).1) hg3 hb3
        have hr4 := hr3.out
        have HS3 := Lib.hid (show val r3 + bp (k + 1) * ((x + y + cr) / 4294967296) = val (a.take (k + 1)) + val (b.take (k + 1)) by rw [hr4]; exact HS.out)
        have hl3 : r3.length ≤ k + 1 := by rw [hr4]; simp; omega
        have HL3 := Lib.hid (show r3.length = k + 1 by rw [hr4, List.length_append, hrl.out]; rfl)
        clear hr4
        go_roundw
        case rel => exact ⟨k + 1, (x + y + cr) / 4294967296, A3, c3, r3, by go_num, by go_num, rfl, by omega, by omega, hl3, HL3, hcz2, hor2, HS3, ho3, hpg.1⟩
        case measure => simp [intOf]; omega
      · have t1d : decide (k < n1) = false := by simpa using t1
        by_cases t2 : k < n2
        · have t2d : decide (k < n2) = true := by simpa using t2
          go_wp2_with (first | (go_at_call 65; (with_reducible refine (rat_n A1 n1 _ _ a k x _ hra HN1.out.symm (by omega) HX.out).mono ?_); rintro e w' ⟨rfl, rfl⟩) | (go_at_call 65; (with_reducible refine (rat_n A2 n2 _ _ b k y _ hrb HN2.out.symm (by omega) HY.out).mono ?_); rintro e w' ⟨rfl, rfl⟩) | (at_builtin; refine wpList_append_f _ uv_one rfl _ _ 22 rfl w.heap.size 45 4 i0 _ Tryd.underlying22 hi hz0 hz1 hz2 (by decide) rfl r [t] rfl rfl (ho.out.alloc _) HRO.out (by simp; omega) (by simp; omega) ?_; intro A3 c3 w3 r3 hr3 ho3 hg3 hb3))
          have hpg := push_grown hg.out (fun g hg => (hb1 g hg).1) hg3 hb3
          have hr4 := hr3.out
          have HS3 := Lib.hid (show val r3 + bp (k + 1) * ((x + y + cr) / 4294967296) = val (a.take (k + 1)) + val (b.take (k + 1)) by rw [hr4]; exact HS.out)
          have hl3 : r3.length ≤ k + 1 := by rw [hr4]; simp; omega
          have HL3 := Lib.hid (show r3.length = k + 1 by rw [hr4, List.length_append, hrl.out]; rfl)
          clear hr4
          go_roundw
          case rel => exact ⟨k + 1, (x + y + cr) / 4294967296, A3, c3, r3, by go_num, by go_num, rfl, by omega, by omega, hl3, HL3, hcz2, hor2, HS3, ho3, hpg.1⟩
          case measure => simp [intOf]; omega
        · have t2d : decide (k < n2) = false := by simpa using t2
          have t3 : 0 < cr := by omega
          have t3i : (0 : Int) < (cr : Int) := by omega
          go_wp2_with (first | (go_at_call 65; (with_reducible refine (rat_n A1 n1 _ _ a k x _ hra HN1.out.symm (by omega) HX.out).mono ?_); rintro e w' ⟨rfl, rfl⟩) | (go_at_call 65; (with_reducible refine (rat_n A2 n2 _ _ b k y _ hrb HN2.out.symm (by omega) HY.out).mono ?_); rintro e w' ⟨rfl, rfl⟩) | (at_builtin; refine wpList_append_f _ uv_one rfl _ _ 22 rfl w.heap.size 45 4 i0 _ Tryd.underlying22 hi hz0 hz1 hz2 (by decide) rfl r [t] rfl rfl (ho.out.alloc _) HRO.out (by simp; omega) (by simp; omega) ?_; intro A3 c3 w3 r3 hr3 ho3 hg3 hb3))
          have hpg := push_grown hg.out (fun g hg => (hb1 g hg).1) hg3 hb3
          have hr4 := hr3.out
          have HS3 := Lib.hid (show val r3 + bp (k + 1) * ((x + y + cr) / 4294967296) = val (a.take (k + 1)) + val (b.take (k + 1)) by rw [hr4]; exact HS.out)
          have hl3 : r3.length ≤ k + 1 := by rw [hr4]; simp; omega
          have HL3 := Lib.hid (show r3.length = k + 1 by rw [hr4, List.length_append, hrl.out]; rfl)
          clear hr4
          go_roundw
          case rel => exact ⟨k + 1, (x + y + cr) / 4294967296, A3, c3, r3, by go_num, by go_num, rfl, by omega, by omega, hl3, HL3, hcz2, hor2, HS3, ho3, hpg.1⟩
          case measure => simp [intOf]; omega
    · have t1d : decide (k < n1) = false := by simp; omega
      have t2d : decide (k < n2) = false := by simp; omega
      have hc0 : cr = 0 := by omega
      subst hc0
      have hval : val r = val a + val b := by
        have e := hv.out
        rw [val_take_ge (by have := HN1.out; omega), val_take_ge (by have := HN2.out; omega)] at e
        omega
      have HVAL := Lib.hid hval
      have HRD := Lib.hid (show Rf uv wr wr.heap.size A c r from ho.out.rd)
      have hrk4 : r.length ≤ 30000 := by omega
      clear hval
      go_wp2_with fail
      (with_reducible refine (rtrim_any A c r.length r wr HRD.out (by omega) rfl).mono ?_)
      rintro e w5 ⟨A5, c5, rfl, h5, hb5⟩
      have H5 := Lib.hid h5
      have HB5 := Lib.hid ((below_of_none hg.out).trans (hb5.mono hg.out.size))
      clear h5 hb5
      go_wp2_with fail
      go_ret
      rw [← HVAL.out]
      exact ⟨A5, c5, rfl, H5.out, HB5.out⟩

theorem minus_step {r a b : List UInt32} {k bo x y z : Nat} {t : UInt32} (hl : r.length = k) (hv : val r + val (b.take k) = val (a.take k) + bp k * bo) (hx : lat a k = x) (hy : lat b k = y) (hxl : x < 4294967296) (hyl : y < 4294967296) (hb : bo ≤ 1) (hz : z = x + 4294967296 - y - bo) (ht : t.toNat = z % 4294967296) :
    val (r ++ [t]) + val (b.take (k + 1)) = val (a.take (k + 1)) + bp (k + 1) * (1 - z / 4294967296) ∧ z / 4294967296 ≤ 1 := by
  refine ⟨?_, by omega⟩
  rw [val_snoc, hl, val_take_lat, val_take_lat, hx, hy, bp_succ, ht]
  have h := sub_round (v := val r) (b1 := val (a.take k)) (b2 := val (b.take k)) (p := bp k) (l := x) (m := y) (t := 1) (s := z % 4294967296) (o := bo) (o' := 1 - z / 4294967296) (by omega) (by omega)
  rw [Nat.mul_one] at h
  exact h
set_option maxRecDepth 100000 in
set_option maxHeartbeats 2000000 in
theorem rminus_any (A1 A2 : Option Addr) (c1 c2 n1 n2 : Nat) (a b : List UInt32) (w : World) (hr1 : Rf uv w w.heap.size A1 c1 a) (hr2 : Rf uv w w.heap.size A2 c2 b) (h1 : a.length = n1) (h2 : b.length = n2) (hl1 : n1 ≤ 10000) (hl2 : n2 ≤ n1) (hle : Hid (val b ≤ val a)) :
    Calls Tryd.prog 51 #[.slice A1 n1 c1, .slice A2 n2 c2] w fun e w' => NumP w w' (limbs (val a - val b)) e := by
  obtain ⟨i0, hi, hz0, hz1, hz2⟩ := info_parts uInfo
  have HN1 := Lib.hid h1
  have HN2 := Lib.hid h2
  clear h1 h2
  go_enter Tryd.func51, Tryd.ntmps51
  go_wp2_with fail
  go_loopw [5, 6, 7] (fun v x i wr => ∃ k cr : Nat, ∃ (A : Option Addr) (c : Nat) (r : List UInt32), i = .int .i64 k ∧ x = .int .u64 cr ∧ v = .slice A r.length c ∧ cr ≤ 1 ∧ k ≤ n1 ∧ r.length ≤ k ∧ Hid (r.length = k) ∧ Hid (val r + val (b.take k) = val (a.take k) + bp k * cr) ∧ Hid (Ow uv wr w.heap.size 45 A c r) ∧ Hid (w.grownBy wr none))
    (fun _ _ i _ => n1 - (intOf i).toNat)
  case atStart => exact ⟨0, 0, none, 0, [], rfl, rfl, rfl, by omega, by omega, by simp, rfl, (by simp [val_nil, bp_zero, Hid]), Ow.nil _ _ _, grown_refl _ _⟩
  case round =>
    obtain ⟨k, cr, A, c, r, rfl, rfl, rfl, hcr, hk, hrk, hrl, hv, ho, hg⟩ := hrel
    have hb1 := ho.out.blk_ge
    by_cases hlt : k < n1
    · have hra := hr1.below (below_of_none hg.out)
      have hrb := hr2.below (below_of_none hg.out)
      have hxl := lat_lt a k
      have hyl := lat_lt b k
      obtain ⟨x, hx⟩ : ∃ x, lat a k = x := ⟨_, rfl⟩
      obtain ⟨y, hy⟩ : ∃ y, lat b k = y := ⟨_, rfl⟩
      rw [hx] at hxl
      rw [hy] at hyl
      obtain ⟨z, hz⟩ : ∃ z, z = x + 4294967296 - y - cr := ⟨_, rfl⟩
      obtain ⟨t, ht⟩ : ∃ t, t = UInt32.ofNat (z % 4294967296) := ⟨_, rfl⟩
      have hzi : (x : Int) + 4294967296 - (y : Int) - (cr : Int) = (z : Int) := by omega
      have htv : (z : Int) % 4294967296 = (t.toNat : Int) := by rw [ht, u32_of _ (by omega)]; omega
      have HS := Lib.hid (minus_step (t := t) hrl.out hv.out hx hy hxl hyl hcr hz (by rw [ht, u32_of _ (by omega)]))
      have hz1b := HS.out.2
      have hzl : z < 8589934592 := by omega
      have HX := Lib.hid hx
      have HY := Lib.hid hy
      have hro := ro_one wr t ((z : Int) % 4294967296) htv
      have HRO := Lib.hid hro
      have hrk4 : r.length ≤ 30000 := by omega
      have hbz := hg.out.size
      clear hx hy ht htv hro hz
      go_wp2_with (first | (go_at_call 65; (with_reducible refine (rat_n A1 n1 _ _ a k x _ hra HN1.out.symm (by omega) HX.out).mono ?_); rintro e w' ⟨rfl, rfl⟩) | (go_at_call 65; (with_reducible refine (rat_n A2 n2 _ _ b k y _ hrb HN2.out.symm (by omega) HY.out).mono ?_); rintro e w' ⟨rfl, rfl⟩) | (at_builtin; refine wpList_append_f _ uv_one rfl _ _ 22 rfl w.heap.size 45 4 i0 _ Tryd.underlying22 hi hz0 hz1 hz2 (by decide) rfl r [t] rfl rfl (ho.out.alloc _) HRO.out (by simp; omega) (by simp; omega) ?_; intro A3 c3 w3 r3 hr3 ho3 hg3 hb3))
      have hpg := push_grown hg.out (fun g hg => (hb1 g hg).1) hg3 hb3
      have hr4 := hr3.out
      have HS3 := Lib.hid (show val r3 + val (b.take (k + 1)) = val (a.take (k + 1)) + bp (k + 1) * (1 - z / 4294967296) by rw [hr4]; exact HS.out.1)
      have hl3 : r3.length ≤ k + 1 := by rw [hr4]; simp; omega
      have HL3 := Lib.hid (show r3.length = k + 1 by rw [hr4, List.length_append, hrl.out]; rfl)
      clear hr4
      go_roundw
      case rel => exact ⟨k + 1, 1 - z / 4294967296, A3, c3, r3, by go_num, by go_num, rfl, by omega, by omega, hl3, HL3, HS3, ho3, hpg.1⟩
      case measure => simp [intOf]; omega
    · obtain rfl : k = n1 := by omega
      have hval : val r = val a - val b := by
        have e := hv.out
        rw [val_take_ge (m := b) (by have := HN2.out; omega), val_take_ge (m := a) (by have := HN1.out; omega)] at e
        have h3 := val_lt r
        rw [hrl.out] at h3
        have h4 := hle.out
        rcases Nat.eq_zero_or_pos cr with e2 | e2
        · rw [e2] at e; omega
        · have : cr = 1 := by omega
          rw [this] at e; omega
      have HVAL := Lib.hid hval
      have HRD := Lib.hid (show Rf uv wr wr.heap.size A c r from ho.out.rd)
      have hrk4 : r.length ≤ 30000 := by omega
      clear hval
      go_wp2_with fail
      (with_reducible refine (rtrim_any A c r.length r wr HRD.out (by omega) rfl).mono ?_)
      rintro e w5 ⟨A5, c5, rfl, h5, hb5⟩
      have H5 := Lib.hid h5
      have HB5 := Lib.hid ((below_of_none hg.out).trans (hb5.mono hg.out.size))
      clear h5 hb5
      go_wp2_with fail
      go_ret
      rw [← HVAL.out]
      exact ⟨A5, c5, rfl, H5.out, HB5.out⟩
end Go.Proofs.YtffbmkobholmhaaDoor
