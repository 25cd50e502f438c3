/- The reference's Long, half. -/
import Derived.Test.YtffbmkobholmhaaDoorRefCall
namespace Go.Proofs.YtffbmkobholmhaaDoor
open Go.RowKit
set_option linter.unusedVariables false

theorem rat_z (A : Option Addr) (n c B : Nat) (xs : List UInt32) (j : Int) (i v : Nat) (w : World) (hr : Rf uv w B A c xs) (hn : n = xs.length) (hj : j = (i : Int)) (hi : i ≤ 4000000000) (hv : lat xs i = v) : Calls Tryd.prog 65 #[.slice A n c, .int .i64 j] w fun e w' => e = .returned (.int .u64 v) ∧ w = w' := by
  subst hj
  exact rat_n A n c B xs i v w hr hn hi hv
set_option maxHeartbeats 400000 in
theorem rlong_any (A : Option Addr) (n c : Nat) (w : World) : Calls Tryd.prog 34 #[.slice A n c] w fun e w' => e = .returned (.bool (decide (24 < n ∧ n ≤ 96))) ∧ w = w' := by
  by_cases h1 : 24 < n
  · by_cases h2 : n ≤ 96
    · have HD := Lib.hid (show decide (24 < n ∧ n ≤ 96) = true from decide_eq_true ⟨h1, h2⟩)
      have h1i : (24 : Int) < (n : Int) := by omega
      have h2i : (n : Int) ≤ 96 := by omega
      go_enter Tryd.func34, Tryd.ntmps34
      go_wp2_with fail
      go_ret
      exact ⟨by rw [HD.out]; rfl, rfl⟩
    · have HD := Lib.hid (show decide (24 < n ∧ n ≤ 96) = false from decide_eq_false (fun h => h2 h.2))
      have h1i : (24 : Int) < (n : Int) := by omega
      have h2i : decide ((n : Int) ≤ 96) = false := by simp; omega
      go_enter Tryd.func34, Tryd.ntmps34
      go_wp2_with fail
      go_ret
      exact ⟨by rw [HD.out]; rfl, rfl⟩
  · have HD := Lib.hid (show decide (24 < n ∧ n ≤ 96) = false from decide_eq_false (fun h => h1 h.1))
    have h1i : decide ((24 : Int) < (n : Int)) = false := by simp; omega
    go_enter Tryd.func34, Tryd.ntmps34
    go_wp2_with fail
    go_ret
    exact ⟨by rw [HD.out]; rfl, rfl⟩

theorem half_step {M a : List UInt32} {k x v t p : Nat} (hM : M.length = a.length) (hk : k < a.length) (hv : 2 * val (M.take k) + p = val (a.take k) + bp k * (lat a k % 2)) (hx : (a[k]).toNat = x) (hy : lat a (k + 1) = v) (ht : t = (v % 2 * 4294967296 + x) / 2) :
    (M.set k (UInt32.ofNat t)).length = a.length ∧ 2 * val ((M.set k (UInt32.ofNat t)).take (k + 1)) + p = val (a.take (k + 1)) + bp (k + 1) * (lat a (k + 1) % 2) ∧ t < 4294967296 := by
  have hxl := u32_lt a[k]
  have htl : t < 4294967296 := by omega
  have e : (M.set k (UInt32.ofNat t)).take k = M.take k := by rw [List.take_set_of_le (Nat.le_refl _)]
  have hl0 : lat a k = x := by rw [lat_in hk, hx]
  refine ⟨by simp [hM], ?_, htl⟩
  rw [val_take_succ (by rw [List.length_set]; omega), List.getElem_set_self, u32_of _ htl, e, val_take_succ hk, hx, hy, bp_succ]
  rw [hl0] at hv
  have h2 : 2 * t + x % 2 = x + 4294967296 * (v % 2) := by omega
  have h3 : bp k * (2 * t) + bp k * (x % 2) = bp k * x + bp k * (4294967296 * (v % 2)) := by rw [← Nat.mul_add, ← Nat.mul_add, h2]
  have h4 : 4294967296 * bp k * (v % 2) = bp k * (4294967296 * (v % 2)) := by rw [Nat.mul_comm 4294967296, Nat.mul_assoc]
  have h5 : bp k * (2 * t) = 2 * (bp k * t) := by rw [Nat.mul_left_comm]
  rw [h4]
  omega
set_option maxRecDepth 100000 in
set_option maxHeartbeats 1000000 in
theorem rhalf_any (A : Option Addr) (c n : Nat) (a : List UInt32) (w : World) (hr : Rf uv w w.heap.size A c a) (hn : a.length = n) (hl : n ≤ 10000) :
    Calls Tryd.prog 61 #[.slice A n c] w fun e w' => NumP w w' (limbs (val a / 2)) e := by
  have HN := Lib.hid hn
  have hln : a.length ≤ n := Nat.le_of_eq hn
  have hln2 : n ≤ a.length := Nat.le_of_eq hn.symm
  clear hn
  go_enter Tryd.func61, Tryd.ntmps61
  go_wp2_with (at_make; refine wpList_make_ub _ rfl _ _ rfl _ n rfl rfl (by omega) (by omega) ?_; intro w1 hu1 hb1 hs1)
  have HU1 := Lib.hid hu1
  have HG1 := Lib.hid (grown_of_below hb1 (Nat.le_refl _) none)
  obtain ⟨p, hp⟩ : ∃ p, p = lat a 0 % 2 := ⟨_, rfl⟩
  have HP := Lib.hid hp
  have hp2 : p < 2 := by omega
  clear hu1 hb1 hp
  go_loopw [4] (fun i wr => ∃ (k : Nat) (M : List UInt32), i = .int .i64 k ∧ k ≤ n ∧ Hid (M.length = a.length) ∧ Hid (2 * val (M.take k) + p = val (a.take k) + bp k * (lat a k % 2)) ∧ Hid (Ub wr w.heap.size 45 M) ∧ Hid (w.grownBy wr none)) (fun i _ => n - (intOf i).toNat)
  case atStart => exact ⟨0, List.replicate n 0, rfl, by omega, (by rw [Hid, List.length_replicate, HN.out]), (by rw [Hid, HP.out]; simp [val_nil, bp_zero]), HU1, HG1⟩
  case round =>
    obtain ⟨k, M, rfl, hk, hml, hv, hub, hg⟩ := hrel
    have hM := hml.out
    by_cases hlt : k < n
    · have hka : k < a.length := by omega
      have hra := hr.below (below_of_none hg.out)
      obtain ⟨b, o, rfl, hb, hc⟩ := hra.at_ hka
      have hck := hc k hka
      unfold uv at hck
      have hxl := u32_lt a[k]
      obtain ⟨x, hx⟩ : ∃ x, (a[k]).toNat = x := ⟨_, rfl⟩
      rw [hx] at hck hxl
      have hvl := lat_lt a (k + 1)
      obtain ⟨v, hy⟩ : ∃ v, lat a (k + 1) = v := ⟨_, rfl⟩
      rw [hy] at hvl
      obtain ⟨t, ht⟩ : ∃ t, t = (v % 2 * 4294967296 + x) / 2 := ⟨_, rfl⟩
      have HS := Lib.hid (half_step hM hka hv.out hx hy ht)
      have htl := HS.out.2.2
      have HT := Lib.hid ht
      have HY := Lib.hid hy
      have hfz := Ub.frozen hub.out k
      have hcM := Ub.cell hub.out (i := k) (by omega)
      obtain ⟨m0, hm0⟩ : ∃ m0, m0 = (M[k]).toNat := ⟨_, rfl⟩
      rw [← hm0] at hcM
      have hk0 : (0 : Int) ≤ (k : Int) := by omega
      have hk1 : (k : Int) < (n : Int) := by omega
      clear hx hy ht hc hm0 hM
      go_wp2_with fail
      go_region_law (go_simp; go_at_call 65; (with_reducible refine (rat_z _ _ _ _ a _ (k + 1) v _ hra.drew HN.out.symm (by rw [IntKind.wrap_i64]; omega) (by omega) HY.out).mono ?_); rintro e w' ⟨rfl, rfl⟩)
      all_goals
        go_wp2_with fail
        go_roundw
        case rel => exact ⟨k + 1, _, by go_num, by omega, HS.out.1, HS.out.2.1, Ub.set_ (Ub.drew hub.out) _ _ _ (by rw [u32_of _ htl, HT.out]; omega), grown_step' (grown_drew hg.out) (grown_set _ _ _) (fun g hg => .inr (by cases hg; exact Nat.le_refl _))⟩
        case measure => simp [intOf]; omega
    · obtain rfl : k = n := by omega
      have hval : val M = val a / 2 := by
        have e := hv.out
        rw [val_take_ge (by omega), val_take_ge (by omega), lat_out (by omega)] at e
        omega
      have HVAL := Lib.hid hval
      have hml2 : M.length = k := by omega
      have HRD := Lib.hid (show Rf uv wr wr.heap.size (some ⟨w.heap.size, 0, none⟩) k M from hub.out.rf_all (by omega) (by unfold maxLen; omega))
      have HML := Lib.hid hml2
      clear hval hM hml2
      go_wp2_with fail
      (with_reducible refine (rtrim_any _ k k M wr HRD.out (by have := HML.out; omega) HML.out).mono ?_)
      rintro e w5 ⟨A5, c5, rfl, h5, hb5⟩
      have H5 := Lib.hid h5
      have HB5 := Lib.hid ((below_of_none hg.out).trans (hb5.mono hg.out.size))
      clear h5 hb5
      go_wp2_with fail
      go_ret
      rw [← HVAL.out]
      exact ⟨A5, c5, rfl, H5.out, HB5.out⟩
end Go.Proofs.YtffbmkobholmhaaDoor
