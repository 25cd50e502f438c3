/- The reference's Trim and minus, whose answer is a block of the call's own. -/
import Derived.Test.YtffbmkobholmhaaDoorBits
namespace Go.Proofs.YtffbmkobholmhaaDoor
open Go.RowKit
set_option linter.unusedVariables false

def NumPo (w w' : World) (l : List UInt32) (e : Ending) : Prop := ∃ A c, e = .returned (.slice A l.length c) ∧ Rf uv w' w'.heap.size A c l ∧ Below w.heap.size w w' ∧ ∀ g, blk A = some g → w.heap.size ≤ g
set_option maxRecDepth 100000 in
set_option maxHeartbeats 1000000 in
theorem rtrim_own (A : Option Addr) (c n : Nat) (L : List UInt32) (w : World) (hr : Rf uv w w.heap.size A c L) (hl : L.length ≤ 1000000) (hn : L.length = n) :
    Calls Tryd.prog 54 #[.slice A n c] w fun e w' => NumPo w w' (limbs (val L)) e := by
  subst hn
  obtain ⟨i0, hi, hz0, hz1, hz2⟩ := info_parts uInfo
  have hro := (hr.alloc (Nat.le_refl _) (.cells #[] 45))
  have hoz := ow_zero (f := uv) w 45 w.heap.size (Nat.le_refl _)
  go_enter Tryd.func54, Tryd.ntmps54
  go_wp2_with (at_builtin; refine wpList_append_f _ uv_one rfl _ _ 22 rfl w.heap.size 45 4 i0 _ Tryd.underlying22 hi hz0 hz1 hz2 (by decide) rfl [] L rfl rfl hoz hro (by simp; omega) (by simp) ?_; intro A2 c2 w2 r2 hr2 hown2 hg2 hb2)
  have e2 : r2 = L := by have := hr2.out; simpa using this
  subst e2
  have hBL : Below w.heap.size w w2 := (below_new w _).trans (below_of_grown hg2 (by simp) (by simp [blk]))
  have HBL := Lib.hid hBL
  have hrd := hown2.rd
  have HOW := Lib.hid (show ∀ k, blk A2 = some k → w.heap.size ≤ k from fun k h => (hown2.blk_ge k h).1)
  have hcap := hrd.cap
  have hcm := hrd.capm
  unfold maxLen at hcm
  have HRD := Lib.hid hrd
  clear hr2 hg2 hb2 hBL hro hoz
  go_loop [3] (fun v => ∃ k : Nat, k ≤ r2.length ∧ v = .slice A2 k c2 ∧ Hid (val r2 = val (r2.take k))) (fun v => match v with | .slice _ n _ => n | _ => 0)
  case atStart => exact ⟨r2.length, Nat.le_refl _, rfl, (val_take_len r2).symm⟩
  case round =>
    obtain ⟨k, hk, rfl, hv⟩ := hrel
    by_cases h0 : k = 0
    · subst h0
      have HZ := Lib.hid (show limbs (val r2) = [] by rw [hv.out]; exact limbs_zero)
      go_wp2_with fail
      go_ret
      rw [HZ.out]
      refine ⟨A2, c2, rfl, ?_, HBL.out, HOW.out⟩
      exact ⟨by simp, HRD.out.capm, HRD.out.nil, fun ad e j hj => by simp at hj⟩
    · obtain ⟨j, rfl⟩ : ∃ j, k = j + 1 := ⟨k - 1, by omega⟩
      have hj : j < r2.length := by omega
      obtain ⟨b, o, rfl, hb, hc⟩ := HRD.out.at_ hj
      have hcj := hc j hj
      unfold uv at hcj
      have HV := val_take_succ hj
      by_cases hx : r2[j] = 0
      · have HN : Hid (val r2 = val (r2.take j)) := by
          show val r2 = _
          rw [hv.out, HV, hx]; simp
        have HX : ((r2[j]).toNat : Int) = 0 := by rw [hx]; rfl
        rw [HX] at hcj
        clear HV hx hc HX
        go_wp2_with fail
        go_round
        case rel => exact ⟨j, by omega, by simp, HN⟩
        case measure => simp
      · have hx2 : (r2[j]).toNat ≠ 0 := fun e => hx (u32_eq (by rw [e]; rfl))
        have HP := Lib.hid (limbs_prefix r2 (j + 1) hv.out (.inr ⟨j, rfl, hj, hx⟩))
        have HX : (((r2[j]).toNat : Int) == 0) = false := by rw [beq_eq_false_iff_ne]; omega
        clear HV hx hc hx2
        go_wp2_with fail
        go_ret
        rw [HP.out]
        have hlen : (r2.take (j + 1)).length = j + 1 := by rw [List.length_take]; omega
        refine ⟨some ⟨b, o, none⟩, c2, by rw [hlen]; rfl, ?_, HBL.out, HOW.out⟩
        have e3 := HRD.out.trim
        rw [HP.out] at e3
        exact ⟨by rw [hlen]; omega, HRD.out.capm, HRD.out.nil, e3.cell⟩
set_option maxRecDepth 100000 in
set_option maxHeartbeats 2000000 in
theorem rminus_own (A1 A2 : Option Addr) (c1 c2 n1 n2 : Nat) (a b : List UInt32) (w : World) (hr1 : Rf uv w w.heap.size A1 c1 a) (hr2 : Rf uv w w.heap.size A2 c2 b) (h1 : a.length = n1) (h2 : b.length = n2) (hl1 : n1 ≤ 10000) (hl2 : n2 ≤ n1) (hle : Hid (val b ≤ val a)) :
    Calls Tryd.prog 51 #[.slice A1 n1 c1, .slice A2 n2 c2] w fun e w' => NumPo w w' (limbs (val a - val b)) e := by
  obtain ⟨i0, hi, hz0, hz1, hz2⟩ := info_parts uInfo
  have HN1 := Lib.hid h1
  have HN2 := Lib.hid h2
  clear h1 h2
  go_enter Tryd.func51, Tryd.ntmps51
  go_wp2_with fail
  go_loopw [5, 6, 7] (fun v x i wr => ∃ k cr : Nat, ∃ (A : Option Addr) (c : Nat) (r : List UInt32), i = .int .i64 k ∧ x = .int .u64 cr ∧ v = .slice A r.length c ∧ cr ≤ 1 ∧ k ≤ n1 ∧ r.length ≤ k ∧ Hid (r.length = k) ∧ Hid (val r + val (b.take k) = val (a.take k) + bp k * cr) ∧ Hid (Ow uv wr w.heap.size 45 A c r) ∧ Hid (w.grownBy wr none))
    (fun _ _ i _ => n1 - (intOf i).toNat)
  case atStart => exact ⟨0, 0, none, 0, [], rfl, rfl, rfl, by omega, by omega, by simp, rfl, (by simp [val_nil, bp_zero, Hid]), Ow.nil _ _ _, grown_refl _ _⟩
  case round =>
    obtain ⟨k, cr, A, c, r, rfl, rfl, rfl, hcr, hk, hrk, hrl, hv, ho, hg⟩ := hrel
    have hb1 := ho.out.blk_ge
    by_cases hlt : k < n1
    · have hra := hr1.below (below_of_none hg.out)
      have hrb := hr2.below (below_of_none hg.out)
      have hxl := lat_lt a k
      have hyl := lat_lt b k
      obtain ⟨x, hx⟩ : ∃ x, lat a k = x := ⟨_, rfl⟩
      obtain ⟨y, hy⟩ : ∃ y, lat b k = y := ⟨_, rfl⟩
      rw [hx] at hxl
      rw [hy] at hyl
      obtain ⟨z, hz⟩ : ∃ z, z = x + 4294967296 - y - cr := ⟨_, rfl⟩
      obtain ⟨t, ht⟩ : ∃ t, t = UInt32.ofNat (z % 4294967296) := ⟨_, rfl⟩
      have hzi : (x : Int) + 4294967296 - (y : Int) - (cr : Int) = (z : Int) := by omega
      have htv : (z : Int) % 4294967296 = (t.toNat : Int) := by rw [ht, u32_of _ (by omega)]; omega
      have HS := Lib.hid (minus_step (t := t) hrl.out hv.out hx hy hxl hyl hcr hz (by rw [ht, u32_of _ (by omega)]))
      have hz1b := HS.out.2
      have hzl : z < 8589934592 := by omega
      have HX := Lib.hid hx
      have HY := Lib.hid hy
      have hro := ro_one wr t ((z : Int) % 4294967296) htv
      have HRO := Lib.hid hro
      have hrk4 : r.length ≤ 30000 := by omega
      have hbz := hg.out.size
      clear hx hy ht htv hro hz
      go_wp2_with (first | (go_at_call 65; (with_reducible refine (rat_n A1 n1 _ _ a k x _ hra HN1.out.symm (by omega) HX.out).mono ?_); rintro e w' ⟨rfl, rfl⟩) | (go_at_call 65; (with_reducible refine (rat_n A2 n2 _ _ b k y _ hrb HN2.out.symm (by omega) HY.out).mono ?_); rintro e w' ⟨rfl, rfl⟩) | (at_builtin; refine wpList_append_f _ uv_one rfl _ _ 22 rfl w.heap.size 45 4 i0 _ Tryd.underlying22 hi hz0 hz1 hz2 (by decide) rfl r [t] rfl rfl (ho.out.alloc _) HRO.out (by simp; omega) (by simp; omega) ?_; intro A3 c3 w3 r3 hr3 ho3 hg3 hb3))
      have hpg := push_grown hg.out (fun g hg => (hb1 g hg).1) hg3 hb3
      have hr4 := hr3.out
      have HS3 := Lib.hid (show val r3 + val (b.take (k + 1)) = val (a.take (k + 1)) + bp (k + 1) * (1 - z / 4294967296) by rw [hr4]; exact HS.out.1)
      have hl3 : r3.length ≤ k + 1 := by rw [hr4]; simp; omega
      have HL3 := Lib.hid (show r3.length = k + 1 by rw [hr4, List.length_append, hrl.out]; rfl)
      clear hr4
      go_roundw
      case rel => exact ⟨k + 1, 1 - z / 4294967296, A3, c3, r3, by go_num, by go_num, rfl, by omega, by omega, hl3, HL3, HS3, ho3, hpg.1⟩
      case measure => simp [intOf]; omega
    · obtain rfl : k = n1 := by omega
      have hval : val r = val a - val b := by
        have e := hv.out
        rw [val_take_ge (m := b) (by have := HN2.out; omega), val_take_ge (m := a) (by have := HN1.out; omega)] at e
        have h3 := val_lt r
        rw [hrl.out] at h3
        have h4 := hle.out
        rcases Nat.eq_zero_or_pos cr with e2 | e2
        · rw [e2] at e; omega
        · have : cr = 1 := by omega
          rw [this] at e; omega
      have HVAL := Lib.hid hval
      have HRD := Lib.hid (show Rf uv wr wr.heap.size A c r from ho.out.rd)
      have hrk4 : r.length ≤ 30000 := by omega
      clear hval
      go_wp2_with fail
      (with_reducible refine (rtrim_own A c r.length r wr HRD.out (by omega) rfl).mono ?_)
      rintro e w5 ⟨A5, c5, rfl, h5, hb5, ho5⟩
      have H5 := Lib.hid h5
      have HB5 := Lib.hid ((below_of_none hg.out).trans (hb5.mono hg.out.size))
      have HO5 := Lib.hid (show ∀ k, blk A5 = some k → w.heap.size ≤ k from fun k e => Nat.le_trans hg.out.size (ho5 k e))
      clear h5 hb5 ho5
      go_wp2_with fail
      go_ret
      rw [← HVAL.out]
      exact ⟨A5, c5, rfl, H5.out, HB5.out, HO5.out⟩
end Go.Proofs.YtffbmkobholmhaaDoor
