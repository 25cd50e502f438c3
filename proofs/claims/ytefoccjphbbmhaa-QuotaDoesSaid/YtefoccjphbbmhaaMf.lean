/- The reference's division and greatest common divisor. -/
import Derived.Test.YtefoccjphbbmhaaMe
import Derived.Deep.LoopGhost
namespace Go.Proofs.Ytefoccjphbbmhaa
open Go.RowKit
set_option linter.unusedVariables false

theorem rat_z (A : Option Addr) (n c B : Nat) (xs : List UInt32) (j : Int) (i v : Nat) (w : World) (hr : Rf uv w B A c xs) (hn : n = xs.length) (hj : j = (i : Int)) (hi : i ≤ 4000000000) (hv : lat xs i = v) : Calls Try.prog 77 #[.slice A n c, .int .i64 j] w fun e w' => e = .returned (.int .u64 v) ∧ w = w' := by
  subst hj
  exact rat_n A n c B xs i v w hr hn hi hv
theorem half_step {M a : List UInt32} {k x v t p : Nat} (hM : M.length = a.length) (hk : k < a.length) (hv : 2 * val (M.take k) + p = val (a.take k) + bp k * (lat a k % 2)) (hx : (a[k]).toNat = x) (hy : lat a (k + 1) = v) (ht : t = (v % 2 * 4294967296 + x) / 2) :
    (M.set k (UInt32.ofNat t)).length = a.length ∧ 2 * val ((M.set k (UInt32.ofNat t)).take (k + 1)) + p = val (a.take (k + 1)) + bp (k + 1) * (lat a (k + 1) % 2) ∧ t < 4294967296 := by
  have hxl := u32_lt a[k]
  have htl : t < 4294967296 := by omega
  have e : (M.set k (UInt32.ofNat t)).take k = M.take k := by rw [List.take_set_of_le (Nat.le_refl _)]
  have hl0 : lat a k = x := by rw [lat_in hk, hx]
  refine ⟨by simp [hM], ?_, htl⟩
  rw [val_take_succ (by rw [List.length_set]; omega), List.getElem_set_self, u32_of _ htl, e, val_take_succ hk, hx, hy, bp_succ]
  rw [hl0] at hv
  have h2 : 2 * t + x % 2 = x + 4294967296 * (v % 2) := by omega
  have h3 : bp k * (2 * t) + bp k * (x % 2) = bp k * x + bp k * (4294967296 * (v % 2)) := by rw [← Nat.mul_add, ← Nat.mul_add, h2]
  have h4 : 4294967296 * bp k * (v % 2) = bp k * (4294967296 * (v % 2)) := by rw [Nat.mul_comm 4294967296, Nat.mul_assoc]
  have h5 : bp k * (2 * t) = 2 * (bp k * t) := by rw [Nat.mul_left_comm]
  rw [h4]
  omega
set_option maxRecDepth 100000 in
set_option maxHeartbeats 1000000 in
theorem rhalf_any (A : Option Addr) (c n : Nat) (a : List UInt32) (w : World) (hr : Rf uv w w.heap.size A c a) (hn : a.length = n) (hl : n ≤ 10000) :
    Calls Try.prog 85 #[.slice A n c] w fun e w' => NumP w w' (limbs (val a / 2)) e := by
  have HN := Lib.hid hn
  have hln : a.length ≤ n := Nat.le_of_eq hn
  have hln2 : n ≤ a.length := Nat.le_of_eq hn.symm
  clear hn
  go_enter Try.func85, Try.ntmps85
  go_wp2_with (at_make; refine wpList_make_ub _ rfl _ _ rfl _ n rfl rfl (by omega) (by omega) ?_; intro w1 hu1 hb1 hs1)
  have HU1 := Lib.hid hu1
  have HG1 := Lib.hid (grown_of_below hb1 (Nat.le_refl _) none)
  obtain ⟨p, hp⟩ : ∃ p, p = lat a 0 % 2 := ⟨_, rfl⟩
  have HP := Lib.hid hp
  have hp2 : p < 2 := by omega
  clear hu1 hb1 hp
  go_loopw [4] (fun i wr => ∃ (k : Nat) (M : List UInt32), i = .int .i64 k ∧ k ≤ n ∧ Hid (M.length = a.length) ∧ Hid (2 * val (M.take k) + p = val (a.take k) + bp k * (lat a k % 2)) ∧ Hid (Ub wr w.heap.size 55 M) ∧ Hid (w.grownBy wr none)) (fun i _ => n - (intOf i).toNat)
  case atStart => exact ⟨0, List.replicate n 0, rfl, by omega, (by rw [Hid, List.length_replicate, HN.out]), (by rw [Hid, HP.out]; simp [val_nil, bp_zero]), HU1, HG1⟩
  case round =>
    obtain ⟨k, M, rfl, hk, hml, hv, hub, hg⟩ := hrel
    have hM := hml.out
    by_cases hlt : k < n
    · have hka : k < a.length := by omega
      have hra := hr.below (below_of_none hg.out)
      obtain ⟨b, o, rfl, hb, hc⟩ := hra.at_ hka
      have hck := hc k hka
      unfold uv at hck
      have hxl := u32_lt a[k]
      obtain ⟨x, hx⟩ : ∃ x, (a[k]).toNat = x := ⟨_, rfl⟩
      rw [hx] at hck hxl
      have hvl := lat_lt a (k + 1)
      obtain ⟨v, hy⟩ : ∃ v, lat a (k + 1) = v := ⟨_, rfl⟩
      rw [hy] at hvl
      obtain ⟨t, ht⟩ : ∃ t, t = (v % 2 * 4294967296 + x) / 2 := ⟨_, rfl⟩
      have HS := Lib.hid (half_step hM hka hv.out hx hy ht)
      have htl := HS.out.2.2
      have HT := Lib.hid ht
      have HY := Lib.hid hy
      have hfz := Ub.frozen hub.out k
      have hcM := Ub.cell hub.out (i := k) (by omega)
      obtain ⟨m0, hm0⟩ : ∃ m0, m0 = (M[k]).toNat := ⟨_, rfl⟩
      rw [← hm0] at hcM
      have hk0 : (0 : Int) ≤ (k : Int) := by omega
      have hk1 : (k : Int) < (n : Int) := by omega
      clear hx hy ht hc hm0 hM
      go_wp2_with fail
      go_region_law (go_simp; go_at_call 77; (with_reducible refine (rat_z _ _ _ _ a _ (k + 1) v _ hra.drew HN.out.symm (by rw [IntKind.wrap_i64]; omega) (by omega) HY.out).mono ?_); rintro e w' ⟨rfl, rfl⟩)
      all_goals
        go_wp2_with fail
        go_roundw
        case rel => exact ⟨k + 1, _, by go_num, by omega, HS.out.1, HS.out.2.1, Ub.set_ (Ub.drew hub.out) _ _ _ (by rw [u32_of _ htl, HT.out]; omega), grown_step' (grown_drew hg.out) (grown_set _ _ _) (fun g hg => .inr (by cases hg; exact Nat.le_refl _))⟩
        case measure => simp [intOf]; omega
    · obtain rfl : k = n := by omega
      have hval : val M = val a / 2 := by
        have e := hv.out
        rw [val_take_ge (by omega), val_take_ge (by omega), lat_out (by omega)] at e
        omega
      have HVAL := Lib.hid hval
      have hml2 : M.length = k := by omega
      have HRD := Lib.hid (show Rf uv wr wr.heap.size (some ⟨w.heap.size, 0, none⟩) k M from hub.out.rf_all (by omega) (by unfold maxLen; omega))
      have HML := Lib.hid hml2
      clear hval hM hml2
      go_wp2_with fail
      (with_reducible refine (rtrim_any _ k k M wr HRD.out (by have := HML.out; omega) HML.out).mono ?_)
      rintro e w5 ⟨A5, c5, rfl, h5, hb5⟩
      have H5 := Lib.hid h5
      have HB5 := Lib.hid ((below_of_none hg.out).trans (hb5.mono hg.out.size))
      clear h5 hb5
      go_wp2_with fail
      go_ret
      rw [← HVAL.out]
      exact ⟨A5, c5, rfl, H5.out, HB5.out⟩

theorem bp_two (j : Nat) : bp j = 2 ^ (32 * j) := by unfold bp; rw [Nat.pow_mul]
theorem two_split (s : Nat) (hs : s ≤ 31) : 4294967296 = 2 ^ s * (2 * 2 ^ (31 - s)) := by
  have e : (2 : Nat) * 2 ^ (31 - s) = 2 ^ (32 - s) := by rw [← Nat.pow_succ']; congr 1; omega
  rw [e, ← Nat.pow_add, show s + (32 - s) = 32 by omega]
theorem bit_of (L : List UInt32) (j s : Nat) (hj : j < L.length) (hs : s ≤ 31) : val L / 2 ^ (32 * j + s) % 2 = (L[j]).toNat / 2 ^ s % 2 := by
  have hpos : 0 < 2 ^ s := Nat.pow_pos (by decide)
  rw [Nat.pow_add, ← Nat.div_div_eq_div_mul, ← bp_two, val_div, val_drop_cons hj]
  obtain ⟨R, hR⟩ : ∃ R, R = val (L.drop (j + 1)) := ⟨_, rfl⟩
  rw [← hR]
  have e : 4294967296 * R = 2 ^ s * (2 * (2 ^ (31 - s) * R)) := by
    rw [← Nat.mul_assoc 2, ← Nat.mul_assoc, ← two_split s hs]
  rw [e, Nat.add_mul_div_left _ _ hpos]
  omega
theorem div_round {V k D R Q b : Nat} (hD : 0 < D) (hQ : Q = V / 2 ^ (k + 1) / D) (hR : R = V / 2 ^ (k + 1) % D) (hb : b = V / 2 ^ k % 2) :
    (2 * R + b < D → V / 2 ^ k / D = 2 * Q ∧ V / 2 ^ k % D = 2 * R + b) ∧ (D ≤ 2 * R + b → V / 2 ^ k / D = 2 * Q + 1 ∧ V / 2 ^ k % D = 2 * R + b - D) := by
  have e1 : V / 2 ^ (k + 1) = V / 2 ^ k / 2 := by rw [Nat.pow_succ, Nat.div_div_eq_div_mul]
  rw [e1] at hQ hR
  obtain ⟨H, hH⟩ : ∃ H, H = V / 2 ^ k := ⟨_, rfl⟩
  rw [← hH] at hQ hR hb ⊢
  have h2 := Nat.div_add_mod (H / 2) D
  rw [← hQ, ← hR] at h2
  have hRl : R < D := by rw [hR]; exact Nat.mod_lt _ hD
  have h3 : H = 2 * R + b + D * (2 * Q) := by rw [Nat.mul_left_comm]; omega
  refine ⟨fun h => ?_, fun h => ?_⟩
  · rw [h3, Nat.add_mul_div_left _ _ hD, Nat.add_mul_mod_self_left, Nat.div_eq_of_lt h, Nat.mod_eq_of_lt h]
    exact ⟨by omega, rfl⟩
  · have h4 : H = (2 * R + b - D) + D * (2 * Q + 1) := by rw [Nat.mul_add]; omega
    rw [h4, Nat.add_mul_div_left _ _ hD, Nat.add_mul_mod_self_left, Nat.div_eq_of_lt (by omega), Nat.mod_eq_of_lt (by omega)]
    exact ⟨by omega, rfl⟩
theorem val_set {M : List UInt32} {j : Nat} (hj : j < M.length) (x : Nat) (hx : x < 4294967296) : val (M.set j (UInt32.ofNat x)) + bp j * (M[j]).toNat = val M + bp j * x := by
  have hf : far (M.set j (UInt32.ofNat x)) M j 1 := by have h := far_set (far_refl M j 0) (UInt32.ofNat x); simpa using h
  have h := far_val hf (by omega)
  have e1 : val (seg M j 1) = (M[j]).toNat := by
    have e := val_seg_snoc (l := M) (o := j) (n := 0) (by omega)
    rw [e, seg_zero, val_nil, bp_zero]; simp
  have e2 : val (seg (M.set j (UInt32.ofNat x)) j 1) = x := by
    have e := val_seg_set (M := M) (o := j) (k := 0) (by omega) (UInt32.ofNat x)
    rw [Nat.add_zero, seg_zero, val_nil, bp_zero, u32_of _ hx, Nat.zero_add, Nat.zero_add, Nat.one_mul] at e
    exact e
  rw [e1, e2] at h
  exact h
theorem quo_room {M : List UInt32} {j s Q : Nat} (hj : j < M.length) (hs : s ≤ 31) (hv : val M = 2 ^ (32 * j + s + 1) * Q) :
    (M[j]).toNat + 2 ^ s < 4294967296 ∧ val (M.set j (UInt32.ofNat ((M[j]).toNat + 2 ^ s))) = val M + 2 ^ (32 * j + s) := by
  have h1 := val_div M j
  have hbpos := bp_pos j
  rw [val_drop_cons hj, hv, show 32 * j + s + 1 = 32 * j + (s + 1) by omega, Nat.pow_add, ← bp_two, Nat.mul_assoc, Nat.mul_div_cancel_left _ hbpos] at h1
  have hx := u32_lt M[j]
  obtain ⟨x, hxe⟩ : ∃ x, x = (M[j]).toNat := ⟨_, rfl⟩
  obtain ⟨R, hR⟩ : ∃ R, R = val (M.drop (j + 1)) := ⟨_, rfl⟩
  rw [← hxe] at hx h1
  rw [← hR] at h1
  have hb := two_split s hs
  have hlt : x + 2 ^ s < 4294967296 := by
    obtain ⟨p, hp⟩ : ∃ p, p = 2 ^ s := ⟨_, rfl⟩
    obtain ⟨W, hW⟩ : ∃ W, W = 2 ^ (31 - s) := ⟨_, rfl⟩
    have hpos : 0 < p := by rw [hp]; exact Nat.pow_pos (by decide)
    rw [Nat.pow_succ, ← hp] at h1
    rw [← hp, ← hW] at hb
    have e : 4294967296 * R = p * 2 * (W * R) := by rw [Nat.mul_assoc p, ← Nat.mul_assoc 2, ← Nat.mul_assoc, ← hb]
    rw [e] at h1
    have e2 : x = p * 2 * (Q - W * R) := by rw [Nat.mul_sub]; omega
    have e3 : p * 2 * (Q - W * R) < p * 2 * W := by rw [← e2, Nat.mul_assoc, ← hb]; exact hx
    have e4 : Q - W * R < W := Nat.lt_of_mul_lt_mul_left e3
    have e5 : p * 2 * (Q - W * R + 1) ≤ p * 2 * W := Nat.mul_le_mul_left _ e4
    rw [Nat.mul_add, ← e2, Nat.mul_assoc p 2 W, ← hb] at e5
    rw [← hp]
    omega
  refine ⟨by rw [← hxe]; exact hlt, ?_⟩
  rw [← hxe]
  have h2 := val_set hj _ hlt
  rw [← hxe, Nat.mul_add] at h2
  rw [Nat.pow_add, ← bp_two]
  omega

def NumPo (w w' : World) (l : List UInt32) (e : Ending) : Prop := ∃ A c, e = .returned (.slice A l.length c) ∧ Rf uv w' w'.heap.size A c l ∧ Below w.heap.size w w' ∧ ∀ g, blk A = some g → w.heap.size ≤ g
set_option maxRecDepth 100000 in
set_option maxHeartbeats 1000000 in
theorem rtrim_own (A : Option Addr) (c n : Nat) (L : List UInt32) (w : World) (hr : Rf uv w w.heap.size A c L) (hl : L.length ≤ 1000000) (hn : L.length = n) :
    Calls Try.prog 73 #[.slice A n c] w fun e w' => NumPo w w' (limbs (val L)) e := by
  subst hn
  obtain ⟨i0, hi, hz0, hz1, hz2⟩ := info_parts uInfo
  have hro := (hr.alloc (Nat.le_refl _) (.cells #[] 55))
  have hoz := ow_zero (f := uv) w 55 w.heap.size (Nat.le_refl _)
  go_enter Try.func73, Try.ntmps73
  go_wp2_with (at_builtin; refine wpList_append_f _ uv_one rfl _ _ 25 rfl w.heap.size 55 4 i0 _ Try.underlying25 hi hz0 hz1 hz2 (by decide) rfl [] L rfl rfl hoz hro (by simp; omega) (by simp) ?_; intro A2 c2 w2 r2 hr2 hown2 hg2 hb2)
  have e2 : r2 = L := by have := hr2.out; simpa using this
  subst e2
  have hBL : Below w.heap.size w w2 := (below_new w _).trans (below_of_grown hg2 (by simp) (by simp [blk]))
  have HBL := Lib.hid hBL
  have hrd := hown2.rd
  have HOW := Lib.hid (show ∀ k, blk A2 = some k → w.heap.size ≤ k from fun k h => (hown2.blk_ge k h).1)
  have hcap := hrd.cap
  have hcm := hrd.capm
  unfold maxLen at hcm
  have HRD := Lib.hid hrd
  clear hr2 hg2 hb2 hBL hro hoz
  go_loop [3] (fun v => ∃ k : Nat, k ≤ r2.length ∧ v = .slice A2 k c2 ∧ Hid (val r2 = val (r2.take k))) (fun v => match v with | .slice _ n _ => n | _ => 0)
  case atStart => exact ⟨r2.length, Nat.le_refl _, rfl, (val_take_len r2).symm⟩
  case round =>
    obtain ⟨k, hk, rfl, hv⟩ := hrel
    by_cases h0 : k = 0
    · subst h0
      have HZ := Lib.hid (show limbs (val r2) = [] by rw [hv.out]; exact limbs_zero)
      go_wp2_with fail
      go_ret
      rw [HZ.out]
      refine ⟨A2, c2, rfl, ?_, HBL.out, HOW.out⟩
      exact ⟨by simp, HRD.out.capm, HRD.out.nil, fun ad e j hj => by simp at hj⟩
    · obtain ⟨j, rfl⟩ : ∃ j, k = j + 1 := ⟨k - 1, by omega⟩
      have hj : j < r2.length := by omega
      obtain ⟨b, o, rfl, hb, hc⟩ := HRD.out.at_ hj
      have hcj := hc j hj
      unfold uv at hcj
      have HV := val_take_succ hj
      by_cases hx : r2[j] = 0
      · have HN : Hid (val r2 = val (r2.take j)) := by
          show val r2 = _
          rw [hv.out, HV, hx]; simp
        have HX : ((r2[j]).toNat : Int) = 0 := by rw [hx]; rfl
        rw [HX] at hcj
        clear HV hx hc HX
        go_wp2_with fail
        go_round
        case rel => exact ⟨j, by omega, by simp, HN⟩
        case measure => simp
      · have hx2 : (r2[j]).toNat ≠ 0 := fun e => hx (u32_eq (by rw [e]; rfl))
        have HP := Lib.hid (limbs_prefix r2 (j + 1) hv.out (.inr ⟨j, rfl, hj, hx⟩))
        have HX : (((r2[j]).toNat : Int) == 0) = false := by rw [beq_eq_false_iff_ne]; omega
        clear HV hx hc hx2
        go_wp2_with fail
        go_ret
        rw [HP.out]
        have hlen : (r2.take (j + 1)).length = j + 1 := by rw [List.length_take]; omega
        refine ⟨some ⟨b, o, none⟩, c2, by rw [hlen]; rfl, ?_, HBL.out, HOW.out⟩
        have e3 := HRD.out.trim
        rw [HP.out] at e3
        exact ⟨by rw [hlen]; omega, HRD.out.capm, HRD.out.nil, e3.cell⟩
set_option maxRecDepth 100000 in
set_option maxHeartbeats 2000000 in
theorem rminus_own (A1 A2 : Option Addr) (c1 c2 n1 n2 : Nat) (a b : List UInt32) (w : World) (hr1 : Rf uv w w.heap.size A1 c1 a) (hr2 : Rf uv w w.heap.size A2 c2 b) (h1 : a.length = n1) (h2 : b.length = n2) (hl1 : n1 ≤ 10000) (hl2 : n2 ≤ n1) (hle : Hid (val b ≤ val a)) :
    Calls Try.prog 72 #[.slice A1 n1 c1, .slice A2 n2 c2] w fun e w' => NumPo w w' (limbs (val a - val b)) e := by
  obtain ⟨i0, hi, hz0, hz1, hz2⟩ := info_parts uInfo
  have HN1 := Lib.hid h1
  have HN2 := Lib.hid h2
  clear h1 h2
  go_enter Try.func72, Try.ntmps72
  go_wp2_with fail
  go_loopw [5, 6, 7] (fun v x i wr => ∃ k cr : Nat, ∃ (A : Option Addr) (c : Nat) (r : List UInt32), i = .int .i64 k ∧ x = .int .u64 cr ∧ v = .slice A r.length c ∧ cr ≤ 1 ∧ k ≤ n1 ∧ r.length ≤ k ∧ Hid (r.length = k) ∧ Hid (val r + val (b.take k) = val (a.take k) + bp k * cr) ∧ Hid (Ow uv wr w.heap.size 55 A c r) ∧ Hid (w.grownBy wr none))
    (fun _ _ i _ => n1 - (intOf i).toNat)
  case atStart => exact ⟨0, 0, none, 0, [], rfl, rfl, rfl, by omega, by omega, by simp, rfl, (by simp [val_nil, bp_zero, Hid]), Ow.nil _ _ _, grown_refl _ _⟩
  case round =>
    obtain ⟨k, cr, A, c, r, rfl, rfl, rfl, hcr, hk, hrk, hrl, hv, ho, hg⟩ := hrel
    have hb1 := ho.out.blk_ge
    by_cases hlt : k < n1
    · have hra := hr1.below (below_of_none hg.out)
      have hrb := hr2.below (below_of_none hg.out)
      have hxl := lat_lt a k
      have hyl := lat_lt b k
      obtain ⟨x, hx⟩ : ∃ x, lat a k = x := ⟨_, rfl⟩
      obtain ⟨y, hy⟩ : ∃ y, lat b k = y := ⟨_, rfl⟩
      rw [hx] at hxl
      rw [hy] at hyl
      obtain ⟨z, hz⟩ : ∃ z, z = x + 4294967296 - y - cr := ⟨_, rfl⟩
      obtain ⟨t, ht⟩ : ∃ t, t = UInt32.ofNat (z % 4294967296) := ⟨_, rfl⟩
      have hzi : (x : Int) + 4294967296 - (y : Int) - (cr : Int) = (z : Int) := by omega
      have htv : (z : Int) % 4294967296 = (t.toNat : Int) := by rw [ht, u32_of _ (by omega)]; omega
      have HS := Lib.hid (minus_step (t := t) hrl.out hv.out hx hy hxl hyl hcr hz (by rw [ht, u32_of _ (by omega)]))
      have hz1b := HS.out.2
      have hzl : z < 8589934592 := by omega
      have HX := Lib.hid hx
      have HY := Lib.hid hy
      have hro := ro_one wr t ((z : Int) % 4294967296) htv
      have HRO := Lib.hid hro
      have hrk4 : r.length ≤ 30000 := by omega
      have hbz := hg.out.size
      clear hx hy ht htv hro hz
      go_wp2_with (first | (go_at_call 77; (with_reducible refine (rat_n A1 n1 _ _ a k x _ hra HN1.out.symm (by omega) HX.out).mono ?_); rintro e w' ⟨rfl, rfl⟩) | (go_at_call 77; (with_reducible refine (rat_n A2 n2 _ _ b k y _ hrb HN2.out.symm (by omega) HY.out).mono ?_); rintro e w' ⟨rfl, rfl⟩) | (at_builtin; refine wpList_append_f _ uv_one rfl _ _ 25 rfl w.heap.size 55 4 i0 _ Try.underlying25 hi hz0 hz1 hz2 (by decide) rfl r [t] rfl rfl (ho.out.alloc _) HRO.out (by simp; omega) (by simp; omega) ?_; intro A3 c3 w3 r3 hr3 ho3 hg3 hb3))
      have hpg := push_grown hg.out (fun g hg => (hb1 g hg).1) hg3 hb3
      have hr4 := hr3.out
      have HS3 := Lib.hid (show val r3 + val (b.take (k + 1)) = val (a.take (k + 1)) + bp (k + 1) * (1 - z / 4294967296) by rw [hr4]; exact HS.out.1)
      have hl3 : r3.length ≤ k + 1 := by rw [hr4]; simp; omega
      have HL3 := Lib.hid (show r3.length = k + 1 by rw [hr4, List.length_append, hrl.out]; rfl)
      clear hr4
      go_roundw
      case rel => exact ⟨k + 1, 1 - z / 4294967296, A3, c3, r3, by go_num, by go_num, rfl, by omega, by omega, hl3, HL3, HS3, ho3, hpg.1⟩
      case measure => simp [intOf]; omega
    · obtain rfl : k = n1 := by omega
      have hval : val r = val a - val b := by
        have e := hv.out
        rw [val_take_ge (m := b) (by have := HN2.out; omega), val_take_ge (m := a) (by have := HN1.out; omega)] at e
        have h3 := val_lt r
        rw [hrl.out] at h3
        have h4 := hle.out
        rcases Nat.eq_zero_or_pos cr with e2 | e2
        · rw [e2] at e; omega
        · have : cr = 1 := by omega
          rw [this] at e; omega
      have HVAL := Lib.hid hval
      have HRD := Lib.hid (show Rf uv wr wr.heap.size A c r from ho.out.rd)
      have hrk4 : r.length ≤ 30000 := by omega
      clear hval
      go_wp2_with fail
      (with_reducible refine (rtrim_own A c r.length r wr HRD.out (by omega) rfl).mono ?_)
      rintro e w5 ⟨A5, c5, rfl, h5, hb5, ho5⟩
      have H5 := Lib.hid h5
      have HB5 := Lib.hid ((below_of_none hg.out).trans (hb5.mono hg.out.size))
      have HO5 := Lib.hid (show ∀ k, blk A5 = some k → w.heap.size ≤ k from fun k e => Nat.le_trans hg.out.size (ho5 k e))
      clear h5 hb5 ho5
      go_wp2_with fail
      go_ret
      rw [← HVAL.out]
      exact ⟨A5, c5, rfl, H5.out, HB5.out, HO5.out⟩

theorem rminus_n (A1 A2 : Option Addr) (c1 c2 n1 n2 m n q : Nat) (w : World) (hr1 : Rf uv w w.heap.size A1 c1 (limbs m)) (hr2 : Rf uv w w.heap.size A2 c2 (limbs n)) (h1 : (limbs m).length = n1) (h2 : (limbs n).length = n2) (hl1 : n1 ≤ 10000) (hle : n ≤ m) (hq : q = m - n) :
    Calls Try.prog 72 #[.slice A1 n1 c1, .slice A2 n2 c2] w fun e w' => NumPo w w' (limbs q) e := by
  have h := rminus_own A1 A2 c1 c2 n1 n2 (limbs m) (limbs n) w hr1 hr2 h1 h2 hl1 (by rw [← h1, ← h2]; exact limbs_mono hle) (by rw [Hid, val_limbs, val_limbs]; exact hle)
  rw [val_limbs, val_limbs, ← hq] at h
  exact h
theorem div_far {w : World} {A : Option Addr} {c g : Nat} {l : List UInt32} (h : Rf uv w w.heap.size A c l) {q : Nat} (hg : g < q) (ho : ∀ k, blk A = some k → q ≤ k) (j : Nat) (u : Value) : Rf uv (w.setCell ⟨g, j, none⟩ u) (w.setCell ⟨g, j, none⟩ u).heap.size A c l := by
  have hs := (grown_set w ⟨g, j, none⟩ u)
  refine (h.grown hs (Nat.le_refl _) ?_).more hs.size
  intro _ e
  have := ho g e
  omega
theorem rplus_n (A1 A2 : Option Addr) (c1 c2 n1 n2 m n q : Nat) (w : World) (hr1 : Rf uv w w.heap.size A1 c1 (limbs m)) (hr2 : Rf uv w w.heap.size A2 c2 (limbs n)) (h1 : (limbs m).length = n1) (h2 : (limbs n).length = n2) (hl1 : n1 ≤ 10000) (hl2 : n2 ≤ 10000) (hq : q = m + n) :
    Calls Try.prog 62 #[.slice A1 n1 c1, .slice A2 n2 c2] w fun e w' => NumP w w' (limbs q) e := by
  have h := rplus_any A1 A2 c1 c2 n1 n2 (limbs m) (limbs n) w hr1 hr2 h1 h2 hl1 hl2
  rw [val_limbs, val_limbs, ← hq] at h
  exact h
theorem limbs_one : limbs 1 = [1] := by rw [limbs_pos (by decide)]; simp [limbs_zero]
theorem ro_1 (w : World) : Rf uv (w.alloc (.cells #[.int .u32 1] 55)) (w.alloc (.cells #[.int .u32 1] 55)).heap.size (some ⟨w.heap.size, 0, none⟩) 1 (limbs 1) := by
  rw [limbs_one]
  have h := ro_one w 1 1 rfl
  simpa using h
theorem len_two {R k : Nat} (h : (limbs R).length ≤ k) {z : Nat} (hz : z ≤ 2 * R + 1) : (limbs z).length ≤ k + 1 := by
  have h1 := limbs_len_le.1 h
  apply limbs_len_le.2
  rw [bp_succ]
  omega

/-- What stands at a round's start: the remainder in r, the quotient in the block g. -/
def DivI (V D n g c k R : Nat) (A : Option Addr) (M : List UInt32) (w wr : World) : Prop :=
  R = V / 2 ^ k % D ∧ M.length = n ∧ val M = 2 ^ k * (V / 2 ^ k / D) ∧ Rf uv wr wr.heap.size A c (limbs R) ∧ Ub wr g 55 M ∧ Below g w wr

set_option maxRecDepth 100000 in
set_option maxHeartbeats 4000000 in
theorem rdiv_good (A1 A2 : Option Addr) (c1 c2 n1 n2 : Nat) (a b : List UInt32) (w : World) (hr1 : Rf uv w w.heap.size A1 c1 a) (hr2 : Rf uv w w.heap.size A2 c2 b) (hn1 : a.length = n1) (hn2 : b.length = n2) (h0 : Hid (chk2 a b = 0)) (hD0 : 0 < n2) :
    Calls Try.prog 46 #[.slice A1 n1 c1, .slice A2 n2 c2] w fun e w' => DivErr w w' (divM a b) e := by
  have HC1 := chk_zero (chk2_zero h0.out).1
  have HC2 := chk_zero (chk2_zero h0.out).2
  obtain ⟨V, hV⟩ : ∃ V, V = val a := ⟨_, rfl⟩
  obtain ⟨D, hD⟩ : ∃ D, D = val b := ⟨_, rfl⟩
  have hDp : 0 < D := by
    rcases Nat.eq_zero_or_pos D with e | e
    · have := HC2.2; rw [← hD, e, limbs_zero] at this; rw [← this] at hn2; simp at hn2; omega
    · exact e
  have HQ := Lib.hid (show divM a b = ((limbs (V / D), limbs (V % D)), 0) by rw [divM_ok h0.out (by omega), hV, hD])
  have hn1l : n1 ≤ 96 := by rw [← hn1]; exact HC1.1
  have hn2l : n2 ≤ 96 := by rw [← hn2]; exact HC2.1
  have hbl : b = limbs D := by rw [hD, HC2.2]
  have HNA := Lib.hid hn1
  have HNB := Lib.hid (show (limbs D).length = n2 by rw [← hbl]; exact hn2)
  have hRb := Lib.hid (show Rf uv w w.heap.size A2 c2 (limbs D) by rw [← hbl]; exact hr2)
  have HV := Lib.hid hV
  have hVb : V / 2 ^ (32 * n1) = 0 := by
    apply Nat.div_eq_of_lt
    rw [← bp_two, hV, ← hn1]; exact val_lt a
  have HVB := Lib.hid hVb
  have hbo := (rboth_any A1 A2 c1 c2 _ _ a b w hr1 hr2)
  rw [hn1, hn2, h0.out] at hbo
  have HBO := Lib.hid hbo
  clear hV hn1 hn2 HC1 HC2 hVb hbo hr2 h0
  go_enter Try.func46, Try.ntmps46
  go_wp2_with fail
  (with_reducible refine HBO.out.mono ?_)
  rintro e w' ⟨rfl, rfl⟩
  go_wp2_with (at_make; refine wpList_make_ub _ rfl _ _ rfl _ n1 rfl rfl (by omega) (by omega) ?_; intro w1 hu1 hb1 hs1)
  have HI : Hid (DivI V D n1 w.heap.size 0 (32 * n1) 0 none (List.replicate n1 0) w w1) := by
    refine ⟨by rw [HVB.out]; simp, by simp, by rw [HVB.out, val_zeros]; simp, ?_, hu1, hb1⟩
    rw [limbs_zero]; exact Rf.empty _ _
  clear hu1 hb1
  go_loopw [9, 10] (fun v i wr => ∃ (k R c : Nat) (A : Option Addr) (nr : Nat) (M : List UInt32), v = .slice A nr c ∧ i = .int .i64 ((k : Int) - 1) ∧ k ≤ 32 * n1 ∧ R < D ∧ nr ≤ n2 ∧ Hid ((limbs R).length = nr) ∧ Hid (DivI V D n1 w.heap.size c k R A M w wr)) (fun _ i _ => (intOf i + 1).toNat)
  case atStart => exact ⟨32 * n1, 0, 0, none, 0, List.replicate n1 0, rfl, by go_num, Nat.le_refl _, hDp, by omega, (by rw [limbs_zero]; rfl), HI⟩
  case round =>
    obtain ⟨k, R, c, A, nr, M, rfl, rfl, hk, hRD, hnr, hlr, hI⟩ := hrel
    by_cases hk0 : k = 0
    · subst hk0
      have HI2 := hI.out
      unfold DivI at HI2
      rw [Nat.pow_zero, Nat.div_one, Nat.one_mul] at HI2
      have HVM := Lib.hid (show limbs (val M) = limbs (V / D) by rw [HI2.2.2.1])
      have HVR := Lib.hid HI2.1
      have HRR := Lib.hid HI2.2.2.2.1
      have HML := Lib.hid HI2.2.1
      have HRD := Lib.hid (show Rf uv wr wr.heap.size (some ⟨w.heap.size, 0, none⟩) n1 M from HI2.2.2.2.2.1.rf_all (by have := HI2.2.1; omega) (by unfold maxLen; omega))
      have HB := Lib.hid HI2.2.2.2.2.2
      clear HI2
      go_wp2_with fail
      (with_reducible refine (rtrim_any _ n1 n1 M wr HRD.out (by have := HML.out; omega) HML.out).mono ?_)
      rintro e w5 ⟨A5, c5, rfl, h5, hb5⟩
      have H5 := Lib.hid h5
      have HB5 := Lib.hid hb5
      clear h5 hb5
      go_wp2_with fail
      go_ret3
      rw [HQ.out]
      refine ⟨A5, A, c5, c, ?_, by have := H5.out; rw [HVM.out] at this; exact this, ?_, HB.out.trans (HB5.out.mono HB.out.size)⟩
      · rw [← HVM.out, ← HVR.out, hlr.out]; rfl
      · show Rf _ _ _ _ _ (limbs (V % D))
        rw [← HVR.out]
        exact (HRR.out.below HB5.out).more HB5.out.size
    · obtain ⟨i, rfl⟩ : ∃ i, k = i + 1 := ⟨k - 1, by omega⟩
      obtain ⟨j, hj⟩ : ∃ j, j = i / 32 := ⟨_, rfl⟩
      obtain ⟨s, hs⟩ : ∃ s, s = i % 32 := ⟨_, rfl⟩
      have hij : i = 32 * j + s := by omega
      have hsl : s ≤ 31 := by omega
      have hjn : j < n1 := by omega
      have HI2 := hI.out
      unfold DivI at HI2
      have HR0 := Lib.hid HI2.1
      have HML := Lib.hid HI2.2.1
      have HVM := Lib.hid HI2.2.2.1
      have HRR := Lib.hid HI2.2.2.2.1
      have HUB := Lib.hid HI2.2.2.2.2.1
      have HB := Lib.hid HI2.2.2.2.2.2
      have hja : j < a.length := by rw [HNA.out]; exact hjn
      have hjm : j < M.length := by rw [HML.out]; exact hjn
      have hra := hr1.below HB.out
      obtain ⟨ab, ao, rfl, hab, hac⟩ := hra.at_ hja
      have hak := hac j hja
      unfold uv at hak
      have hxl := u32_lt a[j]
      have hbit := bit_of a j s hja hsl
      rw [← HV.out, ← hij] at hbit
      obtain ⟨x, hx⟩ : ∃ x, x = (a[j]).toNat := ⟨_, rfl⟩
      rw [← hx] at hak hxl hbit
      obtain ⟨t, ht⟩ : ∃ t, t = 2 ^ s := ⟨_, rfl⟩
      have htl : t ≤ 2147483648 := by rw [ht]; exact pow_31 hsl
      have htp : 0 < t := by rw [ht]; exact Nat.pow_pos (by decide)
      obtain ⟨y, hy⟩ : ∃ y, y = x / t := ⟨_, rfl⟩
      obtain ⟨bit, hbt⟩ : ∃ bit, bit = V / 2 ^ i % 2 := ⟨_, rfl⟩
      have hyb : y % 2 = bit := by rw [hbt, hbit, hy, ht]
      have hroom := quo_room (M := M) (j := j) (s := s) (Q := V / 2 ^ (i + 1) / D) hjm hsl (by rw [HVM.out, ← hij])
      rw [← ht, ← hij] at hroom
      have hcM := HUB.out.cell hjm
      have hfz := HUB.out.frozen j
      obtain ⟨m0, hm0⟩ : ∃ m0, m0 = (M[j]).toNat := ⟨_, rfl⟩
      rw [← hm0] at hcM hroom
      have hml := hroom.1
      have HROOM := Lib.hid hroom.2
      have HDR := Lib.hid (div_round (V := V) (k := i) (D := D) hDp rfl HR0.out hbt)
      have HBT := Lib.hid hbt
      have e32 : ((i : Int)) / 32 = (j : Int) := by omega
      have m32 : ((i : Int)) % 32 = (s : Int) := by omega
      have eT : (2 : Int) ^ s = (t : Int) := by rw [ht]; simp
      have eY : (x : Int) / (t : Int) = (y : Int) := by rw [hy]; simp
      have hj0 : (0 : Int) ≤ (j : Int) := by omega
      have hj1 : (j : Int) < (n1 : Int) := by omega
      have hb2 : bit < 2 := by omega
      have hlen2 := Lib.hid (len_two (R := R) (k := n2) (by have := hlr.out; omega) (z := 2 * R) (by omega))
      have hlen3 := Lib.hid (len_two (R := R) (k := n2) (by have := hlr.out; omega) (z := 2 * R + 1) (by omega))
      have hrb := hRb.out.below (HB.out)
      have HRB := Lib.hid ((hRb.out.below HB.out).more HB.out.size)
      have hgz : w.heap.size < wr.heap.size := HUB.out.lt
      have HM0 := Lib.hid hm0.symm
      clear HI2 hac hbit hx ht hy hbt hroom hm0 hj hs hij hrb hI
      -- r = plus(r, r)
      go_wp2_with fail
      (with_reducible refine (rplus_n A A c c nr nr R R (2 * R) wr HRR.out HRR.out hlr.out hlr.out (by omega) (by omega) (by omega)).mono ?_)
      rintro e w5 ⟨A5, c5, rfl, h5, hb5⟩
      obtain ⟨n5, hn5⟩ : ∃ n5, n5 = (limbs (2 * R)).length := ⟨_, rfl⟩
      rw [← hn5]
      have HN5 := Lib.hid hn5.symm
      have hn5l : n5 ≤ n2 + 1 := by rw [hn5]; exact hlen2.out
      have H5 := Lib.hid h5
      have HB5 := Lib.hid hb5
      have hck5 : w5.cell? ⟨ab, ao + j, none⟩ = some (.int .u32 (x : Int)) := (hb5.cell (by show ab < _; omega)).trans hak
      have HUB5 := Lib.hid (HUB.out.below hb5 hgz)
      have HRB5 := Lib.hid ((HRB.out.below hb5).more hb5.size)
      have HG5 := Lib.hid (HB.out.trans (hb5.mono HB.out.size))
      clear hn5 h5 hb5 hak hcM hfz
      by_cases hbit1 : bit = 1
      · subst hbit1
        have hy1 : (y : Int) % 2 = 1 := by omega
        go_wp2_with fail
        (with_reducible refine (rplus_n A5 _ c5 1 n5 1 (2 * R) 1 (2 * R + 1) _ ((H5.out.alloc (Nat.le_refl _) _).more (by simp)) (ro_1 w5) HN5.out (by rw [limbs_one]; simp) (by omega) (by omega) (by omega)).mono ?_)
        rintro e w6 ⟨A6, c6, rfl, h6, hb6⟩
        obtain ⟨n6, hn6⟩ : ∃ n6, n6 = (limbs (2 * R + 1)).length := ⟨_, rfl⟩
        rw [← hn6]
        have HN6 := Lib.hid hn6.symm
        have hn6l : n6 ≤ n2 + 1 := by rw [hn6]; exact hlen3.out
        have H6 := Lib.hid h6
        have HB6 := Lib.hid (((below_new w5 _).trans (hb6.mono (by simp)) : Below w5.heap.size w5 w6))
        have HUB6 := Lib.hid (HUB5.out.below HB6.out HUB5.out.lt)
        have HRB6 := Lib.hid ((HRB5.out.below HB6.out).more HB6.out.size)
        have HG6 := Lib.hid (HG5.out.trans (HB6.out.mono HG5.out.size))
        clear hn6 h6 hb6
        by_cases hlt : 2 * R + 1 < D
        · have hvl : decide (2 * R + 1 < D) = true := decide_eq_true hlt
          have HVL := Lib.hid hvl
          have HD2 := Lib.hid (HDR.out.1 hlt)
          clear hvl
          go_wp2_with fail
          (with_reducible refine (rless_c A6 A2 c6 c2 n6 n2 _ _ (2 * R + 1) D true w6 H6.out HRB6.out HN6.out HNB.out (by omega) (by omega) HVL.out).mono ?_)
          rintro e w7 ⟨rfl, hb7⟩
          have HB7 := Lib.hid hb7
          clear hb7
          go_wp2_with fail
          go_roundw
          case rel => exact ⟨i, 2 * R + 1, c6, A6, n6, M, rfl, by go_num, by omega, hlt, (by rw [← HN6.out, ← HNB.out]; exact limbs_mono (Nat.le_of_lt hlt)), HN6.out, ⟨by rw [HD2.out.2] <;> rfl, HML.out, by rw [HVM.out, HD2.out.1, Nat.pow_succ, Nat.mul_assoc], (H6.out.below HB7.out).more HB7.out.size, HUB6.out.below HB7.out HUB6.out.lt, HG6.out.trans (HB7.out.mono HG6.out.size)⟩⟩
          case measure => simp [intOf]
        · have hge : D ≤ 2 * R + 1 := by omega
          have hvl : decide (2 * R + 1 < D) = false := decide_eq_false hlt
          have HVL := Lib.hid hvl
          have HD2 := Lib.hid (HDR.out.2 hge)
          have hnd : 2 * R + 1 - D < D := by omega
          clear hvl
          go_wp2_with fail
          (with_reducible refine (rless_c A6 A2 c6 c2 n6 n2 _ _ (2 * R + 1) D false w6 H6.out HRB6.out HN6.out HNB.out (by omega) (by omega) HVL.out).mono ?_)
          rintro e w7 ⟨rfl, hb7⟩
          have HB7 := Lib.hid hb7
          have H7 := Lib.hid ((H6.out.below hb7).more hb7.size)
          have HRB7 := Lib.hid ((HRB6.out.below hb7).more hb7.size)
          have HUB7 := Lib.hid (HUB6.out.below hb7 HUB6.out.lt)
          have HG7 := Lib.hid (HG6.out.trans (hb7.mono HG6.out.size))
          clear hb7
          go_wp2_with fail
          obtain ⟨R8, hR8⟩ : ∃ R8, R8 = 2 * R + 1 - D := ⟨_, rfl⟩
          have HR8 := Lib.hid hR8
          have hR8D : R8 < D := by omega
          (with_reducible refine (rminus_n A6 A2 c6 c2 n6 n2 (2 * R + 1) D R8 w7 H7.out HRB7.out HN6.out HNB.out (by omega) hge HR8.out).mono ?_)
          rintro e w8 ⟨A8, c8, rfl, h8, hb8, ho8⟩
          obtain ⟨n8, hn8⟩ : ∃ n8, n8 = (limbs R8).length := ⟨_, rfl⟩
          rw [← hn8]
          have HN8 := Lib.hid hn8.symm
          have hn8l : n8 ≤ n2 := by rw [hn8, ← HNB.out]; exact limbs_mono (Nat.le_of_lt hR8D)
          have H8 := Lib.hid h8
          have HUB8 := Lib.hid (HUB7.out.below hb8 HUB7.out.lt)
          have HG8 := Lib.hid (HG7.out.trans (hb8.mono HG7.out.size))
          have hcM : w8.cell? ⟨w.heap.size, j, none⟩ = some (.int .u32 (m0 : Int)) := by
            have e := HUB8.out.cell hjm
            rw [e, HM0.out]
          have hfz := HUB8.out.frozen j
          have HO8 := Lib.hid ho8
          clear hn8 h8 hb8 ho8 hR8
          go_wp2_with fail
          have HU9 := Lib.hid (HUB8.out.set_ j (UInt32.ofNat (m0 + t)) ((m0 : Int) + (t : Int)) (by rw [u32_of _ hml]; simp))
          go_roundw
          case rel => exact ⟨i, R8, c8, A8, n8, M.set j (UInt32.ofNat (m0 + t)), rfl, by go_num, by omega, hR8D, hn8l, HN8.out, ⟨by rw [HD2.out.2, HR8.out] <;> rfl, by rw [List.length_set]; exact HML.out, by rw [HROOM.out, HVM.out, HD2.out.1, Nat.pow_succ, Nat.mul_assoc, Nat.mul_add, Nat.mul_one], (div_far H8.out HUB7.out.lt HO8.out _ _), HU9.out, HG8.out.setCell (Nat.le_refl _) _⟩⟩
          case measure => simp [intOf]
      · obtain rfl : bit = 0 := by omega
        have hy1 : (y : Int) % 2 = 0 := by omega
        go_wp2_with fail
        by_cases hlt : 2 * R < D
        · have hvl : decide (2 * R < D) = true := decide_eq_true hlt
          have HVL := Lib.hid hvl
          have HD2 := Lib.hid (HDR.out.1 hlt)
          clear hvl
          go_wp2_with fail
          (with_reducible refine (rless_c A5 A2 c5 c2 n5 n2 _ _ (2 * R) D true w5 H5.out HRB5.out HN5.out HNB.out (by omega) (by omega) HVL.out).mono ?_)
          rintro e w7 ⟨rfl, hb7⟩
          have HB7 := Lib.hid hb7
          clear hb7
          go_wp2_with fail
          go_roundw
          case rel => exact ⟨i, 2 * R, c5, A5, n5, M, rfl, by go_num, by omega, hlt, (by rw [← HN5.out, ← HNB.out]; exact limbs_mono (Nat.le_of_lt hlt)), HN5.out, ⟨by rw [HD2.out.2] <;> rfl, HML.out, by rw [HVM.out, HD2.out.1, Nat.pow_succ, Nat.mul_assoc], (H5.out.below HB7.out).more HB7.out.size, HUB5.out.below HB7.out HUB5.out.lt, HG5.out.trans (HB7.out.mono HG5.out.size)⟩⟩
          case measure => simp [intOf]
        · have hge : D ≤ 2 * R := by omega
          have hvl : decide (2 * R < D) = false := decide_eq_false hlt
          have HVL := Lib.hid hvl
          have HD2 := Lib.hid (HDR.out.2 hge)
          have hnd : 2 * R - D < D := by omega
          clear hvl
          go_wp2_with fail
          (with_reducible refine (rless_c A5 A2 c5 c2 n5 n2 _ _ (2 * R) D false w5 H5.out HRB5.out HN5.out HNB.out (by omega) (by omega) HVL.out).mono ?_)
          rintro e w7 ⟨rfl, hb7⟩
          have HB7 := Lib.hid hb7
          have H7 := Lib.hid ((H5.out.below hb7).more hb7.size)
          have HRB7 := Lib.hid ((HRB5.out.below hb7).more hb7.size)
          have HUB7 := Lib.hid (HUB5.out.below hb7 HUB5.out.lt)
          have HG7 := Lib.hid (HG5.out.trans (hb7.mono HG5.out.size))
          clear hb7
          go_wp2_with fail
          obtain ⟨R8, hR8⟩ : ∃ R8, R8 = 2 * R - D := ⟨_, rfl⟩
          have HR8 := Lib.hid hR8
          have hR8D : R8 < D := by omega
          (with_reducible refine (rminus_n A5 A2 c5 c2 n5 n2 (2 * R) D R8 w7 H7.out HRB7.out HN5.out HNB.out (by omega) hge HR8.out).mono ?_)
          rintro e w8 ⟨A8, c8, rfl, h8, hb8, ho8⟩
          obtain ⟨n8, hn8⟩ : ∃ n8, n8 = (limbs R8).length := ⟨_, rfl⟩
          rw [← hn8]
          have HN8 := Lib.hid hn8.symm
          have hn8l : n8 ≤ n2 := by rw [hn8, ← HNB.out]; exact limbs_mono (Nat.le_of_lt hR8D)
          have H8 := Lib.hid h8
          have HUB8 := Lib.hid (HUB7.out.below hb8 HUB7.out.lt)
          have HG8 := Lib.hid (HG7.out.trans (hb8.mono HG7.out.size))
          have hcM : w8.cell? ⟨w.heap.size, j, none⟩ = some (.int .u32 (m0 : Int)) := by
            have e := HUB8.out.cell hjm
            rw [e, HM0.out]
          have hfz := HUB8.out.frozen j
          have HO8 := Lib.hid ho8
          clear hn8 h8 hb8 ho8 hR8
          go_wp2_with fail
          have HU9 := Lib.hid (HUB8.out.set_ j (UInt32.ofNat (m0 + t)) ((m0 : Int) + (t : Int)) (by rw [u32_of _ hml]; simp))
          go_roundw
          case rel => exact ⟨i, R8, c8, A8, n8, M.set j (UInt32.ofNat (m0 + t)), rfl, by go_num, by omega, hR8D, hn8l, HN8.out, ⟨by rw [HD2.out.2, HR8.out] <;> rfl, by rw [List.length_set]; exact HML.out, by rw [HROOM.out, HVM.out, HD2.out.1, Nat.pow_succ, Nat.mul_assoc, Nat.mul_add, Nat.mul_one], (div_far H8.out HUB7.out.lt HO8.out _ _), HU9.out, HG8.out.setCell (Nat.le_refl _) _⟩⟩
          case measure => simp [intOf]

set_option maxHeartbeats 1000000 in
theorem rdiv_any (A1 A2 : Option Addr) (c1 c2 n1 n2 : Nat) (a b : List UInt32) (w : World) (hr1 : Rf uv w w.heap.size A1 c1 a) (hr2 : Rf uv w w.heap.size A2 c2 b) (hn1 : a.length = n1) (hn2 : b.length = n2) :
    Calls Try.prog 46 #[.slice A1 n1 c1, .slice A2 n2 c2] w fun e w' => DivErr w w' (divM a b) e := by
  by_cases h : chk2 a b = 0
  · rcases Nat.eq_zero_or_pos n2 with h0 | h0
    · have hb0 : b = [] := List.eq_nil_of_length_eq_zero (by omega)
      have HQ := Lib.hid (divM_zero h (by rw [hb0]; rfl))
      have hbo := (rboth_any A1 A2 c1 c2 _ _ a b w hr1 hr2)
      rw [hn1, hn2, h] at hbo
      have HBO := Lib.hid hbo
      subst h0
      clear hbo h hb0 hn1 hn2
      go_enter Try.func46, Try.ntmps46
      go_wp2_with fail
      (with_reducible refine HBO.out.mono ?_)
      rintro e w' ⟨rfl, rfl⟩
      go_wp2_with fail
      go_ret3
      rw [HQ.out]
      exact divErr_bad w 40
    · exact rdiv_good A1 A2 c1 c2 n1 n2 a b w hr1 hr2 hn1 hn2 h h0
  · have HQ := Lib.hid (divM_err h)
    have hb : (chk2 a b != 0) = true := by simpa using h
    have hbo := (rboth_any A1 A2 c1 c2 _ _ a b w hr1 hr2)
    rw [hn1, hn2] at hbo
    have HBO := Lib.hid hbo
    clear h hbo hn1 hn2
    go_enter Try.func46, Try.ntmps46
    go_wp2_with fail
    (with_reducible refine HBO.out.mono ?_)
    rintro e w' ⟨rfl, rfl⟩
    go_wp2_with fail
    go_ret3
    rw [HQ.out]
    exact divErr_bad w _

theorem gcd_lt_bp {A B k : Nat} (hA : A < bp k) (hB : B < bp k) : Nat.gcd A B < bp k := by
  rcases Nat.eq_zero_or_pos A with h | h
  · rw [h, Nat.gcd_zero_left]; exact hB
  · exact Nat.lt_of_le_of_lt (Nat.le_of_dvd h (Nat.gcd_dvd_left A B)) hA
theorem twos_lt {G t g : Nat} (h : G = 2 ^ t * g) (hg : 0 < g) (hG : G < bp 96) : t < 3072 := by
  rw [bp_two] at hG
  have h1 : 2 ^ t ≤ G := by rw [h]; exact Nat.le_mul_of_pos_right _ hg
  obtain ⟨m, hm⟩ : ∃ m, m = 32 * 96 := ⟨_, rfl⟩
  rw [← hm] at hG
  have h3 := (Nat.pow_lt_pow_iff_right (by decide : 1 < 2)).1 (Nat.lt_of_le_of_lt h1 hG)
  omega
theorem cop_two {Y : Nat} (h : Y % 2 = 1) : Nat.Coprime 2 Y := by
  unfold Nat.Coprime
  rw [Nat.gcd_rec, h]
  exact Nat.gcd_one_left 2
theorem gcd_half {X Y : Nat} (hX : X % 2 = 0) (hY : Y % 2 = 1) : Nat.gcd (X / 2) Y = Nat.gcd X Y := by
  have e : X = 2 * (X / 2) := by omega
  have h := Nat.Coprime.gcd_mul_left_cancel (X / 2) (cop_two hY)
  rw [← e] at h
  exact h.symm
theorem gcd_half2 {X Y : Nat} (hX : X % 2 = 1) (hY : Y % 2 = 0) : Nat.gcd X (Y / 2) = Nat.gcd X Y := by
  rw [Nat.gcd_comm, gcd_half hY hX, Nat.gcd_comm]
theorem gcd_both {X Y : Nat} (hX : X % 2 = 0) (hY : Y % 2 = 0) : Nat.gcd X Y = 2 * Nat.gcd (X / 2) (Y / 2) := by
  have e : X = 2 * (X / 2) := by omega
  have e2 : Y = 2 * (Y / 2) := by omega
  have h := Nat.gcd_mul_left 2 (X / 2) (Y / 2)
  rw [← e, ← e2] at h
  exact h
theorem gcd_minus {X Y : Nat} (h : X ≤ Y) : Nat.gcd X (Y - X) = Nat.gcd X Y := by
  have e : Y = (Y - X) + X := by omega
  conv => rhs; rw [e]
  rw [Nat.gcd_add_self_right]
theorem gcd_minus2 {X Y : Nat} (h : Y ≤ X) : Nat.gcd (X - Y) Y = Nat.gcd X Y := by
  rw [Nat.gcd_comm, gcd_minus h, Nat.gcd_comm]
theorem first_limb {X : Nat} (h : 0 < (limbs X).length) : (limbs X)[0].toNat % 2 = X % 2 := by
  have hX : X ≠ 0 := by intro e; rw [e, limbs_zero] at h; simp at h
  have e : (limbs X)[0]? = some (UInt32.ofNat (X % 4294967296)) := by rw [limbs_pos hX]; rfl
  rw [List.getElem?_eq_getElem h] at e
  rw [Option.some.inj e, u32_of _ (Nat.mod_lt _ (by decide))]
  omega
theorem rhalf_n (A : Option Addr) (c n m q : Nat) (w : World) (hr : Rf uv w w.heap.size A c (limbs m)) (hn : (limbs m).length = n) (hl : n ≤ 10000) (hq : q = m / 2) :
    Calls Try.prog 85 #[.slice A n c] w fun e w' => NumP w w' (limbs q) e := by
  have h := rhalf_any A c n (limbs m) w hr hn hl
  rw [val_limbs, ← hq] at h
  exact h
theorem len_pos {X n : Nat} (h : (limbs X).length = n) : 0 < n ↔ 0 < X := by
  rw [← h]
  have := limbs_len_eq_zero (n := X)
  omega

/-- What stands at a round's start. -/
def GcdI (G X Y t c1 c2 n1 n2 : Nat) (A1 A2 : Option Addr) (w wr : World) : Prop :=
  G = 2 ^ t * Nat.gcd X Y ∧ (limbs X).length = n1 ∧ (limbs Y).length = n2 ∧ Rf uv wr wr.heap.size A1 c1 (limbs X) ∧ Rf uv wr wr.heap.size A2 c2 (limbs Y) ∧ Below w.heap.size w wr

theorem rminus_p (A1 A2 : Option Addr) (c1 c2 n1 n2 m n q : Nat) (w : World) (hr1 : Rf uv w w.heap.size A1 c1 (limbs m)) (hr2 : Rf uv w w.heap.size A2 c2 (limbs n)) (h1 : (limbs m).length = n1) (h2 : (limbs n).length = n2) (hl1 : n1 ≤ 10000) (hle : n ≤ m) (hq : q = m - n) :
    Calls Try.prog 72 #[.slice A1 n1 c1, .slice A2 n2 c2] w fun e w' => NumP w w' (limbs q) e :=
  (rminus_n A1 A2 c1 c2 n1 n2 m n q w hr1 hr2 h1 h2 hl1 hle hq).mono fun e w' ⟨A, c, he, hr, hb, _⟩ => ⟨A, c, he, hr, hb⟩
/-- The doublings at the end. -/
def DblI (S k n c : Nat) (A : Option Addr) (w wz : World) : Prop := (limbs (2 ^ k * S)).length = n ∧ Rf uv wz wz.heap.size A c (limbs (2 ^ k * S)) ∧ Below w.heap.size w wz
theorem dbl_two (k S : Nat) : 2 ^ (k + 1) * S = 2 ^ k * S + 2 ^ k * S := by rw [Nat.pow_succ, Nat.mul_comm (2 ^ k) 2, Nat.mul_assoc]; omega
theorem dbl_len {G t S k : Nat} (h : G = 2 ^ t * S) (hk : k ≤ t) (hG : G < bp 96) : (limbs (2 ^ k * S)).length ≤ 96 := by
  apply limbs_len_le.2
  refine Nat.lt_of_le_of_lt ?_ hG
  rw [h]
  exact Nat.mul_le_mul_right _ (Nat.pow_le_pow_right (by decide) hk)
set_option maxRecDepth 100000 in
set_option maxHeartbeats 4000000 in
theorem rgcd_good (A1 A2 : Option Addr) (c1 c2 n1 n2 : Nat) (a b : List UInt32) (w : World) (hr1 : Rf uv w w.heap.size A1 c1 a) (hr2 : Rf uv w w.heap.size A2 c2 b) (hn1 : a.length = n1) (hn2 : b.length = n2) (h0 : Hid (chk2 a b = 0)) :
    Calls Try.prog 70 #[.slice A1 n1 c1, .slice A2 n2 c2] w fun e w' => NumErr w w' (gcdM a b) e := by
  have HC1 := chk_zero (chk2_zero h0.out).1
  have HC2 := chk_zero (chk2_zero h0.out).2
  obtain ⟨X0, hX0⟩ : ∃ X, X = val a := ⟨_, rfl⟩
  obtain ⟨Y0, hY0⟩ : ∃ X, X = val b := ⟨_, rfl⟩
  obtain ⟨G, hG⟩ : ∃ G, G = Nat.gcd X0 Y0 := ⟨_, rfl⟩
  have HQ := Lib.hid (show gcdM a b = (limbs G, 0) by rw [gcdM_ok h0.out, hG, hX0, hY0])
  have hn1l : n1 ≤ 96 := by rw [← hn1]; exact HC1.1
  have hn2l : n2 ≤ 96 := by rw [← hn2]; exact HC2.1
  have hXb : X0 < bp 96 := by rw [hX0]; exact Nat.lt_of_lt_of_le (val_lt a) (bp_mono HC1.1)
  have hYb : Y0 < bp 96 := by rw [hY0]; exact Nat.lt_of_lt_of_le (val_lt b) (bp_mono HC2.1)
  have HGB := Lib.hid (show G < bp 96 by rw [hG]; exact gcd_lt_bp hXb hYb)
  have HG := Lib.hid hG
  have HNA := Lib.hid hn1
  have HNB := Lib.hid hn2
  have HXL := Lib.hid (show limbs (val a) = limbs X0 by rw [hX0])
  have HYL := Lib.hid (show limbs (val b) = limbs Y0 by rw [hY0])
  have HXN := Lib.hid (show (limbs X0).length = n1 by rw [hX0, HC1.2]; exact hn1)
  have HYN := Lib.hid (show (limbs Y0).length = n2 by rw [hY0, HC2.2]; exact hn2)
  have hbo := (rboth_any A1 A2 c1 c2 _ _ a b w hr1 hr2)
  rw [hn1, hn2, h0.out] at hbo
  have HBO := Lib.hid hbo
  clear hX0 hY0 hG hn1 hn2 HC1 HC2 hbo h0 hXb hYb
  go_enter Try.func70, Try.ntmps70
  go_wp2_with fail
  (with_reducible refine HBO.out.mono ?_)
  rintro e w' ⟨rfl, rfl⟩
  go_wp2_with fail
  (with_reducible refine (rtrim_any A1 c1 n1 a w hr1 (by have := HNA.out; omega) HNA.out).mono ?_)
  rw [HXL.out]
  rintro e w1 ⟨A3, c3, rfl, h3, hb3⟩
  rw [HXN.out]
  have H3 := Lib.hid h3
  have HB3 := Lib.hid hb3
  have hr2b := (hr2.below hb3).more hb3.size
  clear h3 hb3
  go_wp2_with fail
  (with_reducible refine (rtrim_any A2 c2 n2 b w1 hr2b (by have := HNB.out; omega) HNB.out).mono ?_)
  rw [HYL.out]
  rintro e w2 ⟨A4, c4, rfl, h4, hb4⟩
  rw [HYN.out]
  have HI : Hid (GcdI G X0 Y0 0 c3 c4 n1 n2 A3 A4 w w2) := ⟨by rw [HG.out]; simp, HXN.out, HYN.out, (H3.out.below hb4).more hb4.size, h4, HB3.out.trans (hb4.mono HB3.out.size)⟩
  clear h4 hb4
  go_wp2_with fail
  go_loopg [7, 8, 9] (X0 + Y0) (fun v x y tt wr => ∃ (X Y t c1 c2 n1 n2 : Nat) (A1 A2 : Option Addr), x = .slice A1 n1 c1 ∧ y = .slice A2 n2 c2 ∧ tt = .int .i64 t ∧ v = X + Y ∧ t ≤ 3072 ∧ n1 ≤ 96 ∧ n2 ≤ 96 ∧ Hid (GcdI G X Y t c1 c2 n1 n2 A1 A2 w wr))
  case atStart => exact ⟨X0, Y0, 0, c3, c4, n1, n2, A3, A4, rfl, rfl, rfl, rfl, by omega, hn1l, hn2l, HI⟩
  case round =>
    obtain ⟨X, Y, t, cx, cy, nx, ny, AX, AY, rfl, rfl, rfl, rfl, ht, hnx, hny, hI⟩ := hrel
    have HI2 := hI.out
    unfold GcdI at HI2
    have HGE := Lib.hid HI2.1
    have HNX := Lib.hid HI2.2.1
    have HNY := Lib.hid HI2.2.2.1
    have HRX := Lib.hid HI2.2.2.2.1
    have HRY := Lib.hid HI2.2.2.2.2.1
    have HB := Lib.hid HI2.2.2.2.2.2
    have hpx := len_pos HI2.2.1
    have hpy := len_pos HI2.2.2.1
    clear HI2 hI
    by_cases hgo : 0 < nx ∧ 0 < ny
    · have hgx : 0 < nx := hgo.1
      have hgy : 0 < ny := hgo.2
      have hXp : 0 < X := hpx.1 hgx
      have hYp : 0 < Y := hpy.1 hgy
      have hx0 : 0 < (limbs X).length := by rw [HNX.out]; exact hgx
      have hy0 : 0 < (limbs Y).length := by rw [HNY.out]; exact hgy
      obtain ⟨xb, xo, rfl, hxb, hxc⟩ := HRX.out.at_ hx0
      obtain ⟨yb, yo, rfl, hyb, hyc⟩ := HRY.out.at_ hy0
      have hcx := hxc 0 hx0
      have hcy := hyc 0 hy0
      unfold uv at hcx hcy
      have hfx := first_limb hx0
      have hfy := first_limb hy0
      have hlx := u32_lt (limbs X)[0]
      have hly := u32_lt (limbs Y)[0]
      obtain ⟨x, hx⟩ : ∃ x, x = ((limbs X)[0]).toNat := ⟨_, rfl⟩
      obtain ⟨y, hy⟩ : ∃ y, y = ((limbs Y)[0]).toNat := ⟨_, rfl⟩
      rw [← hx] at hcx hfx hlx
      rw [← hy] at hcy hfy hly
      have hgxi : (0 : Int) < (nx : Int) := by omega
      have hgyi : (0 : Int) < (ny : Int) := by omega
      rw [Nat.add_zero] at hcx hcy
      clear hx hy hxc hyc hpx hpy hgo
      by_cases hX : X % 2 = 0
      · have hxe : (x : Int) % 2 = 0 := by omega
        by_cases hY : Y % 2 = 0
        · have hye : (y : Int) % 2 = 0 := by omega
          have HG2 := Lib.hid (show G = 2 ^ (t + 1) * Nat.gcd (X / 2) (Y / 2) by rw [HGE.out, gcd_both hX hY, Nat.pow_succ, Nat.mul_assoc])
          have ht2 : t + 1 < 3072 := twos_lt HG2.out (Nat.gcd_pos_of_pos_left _ (by omega)) HGB.out
          go_wp2_with fail
          go_quiet (fail)
          have HXq : Hid (Rf uv (wr.drewN nq) (wr.drewN nq).heap.size (some ⟨xb, xo, none⟩) cx (limbs X)) := HRX.out.drewN nq
          have HYq : Hid (Rf uv (wr.drewN nq) (wr.drewN nq).heap.size (some ⟨yb, yo, none⟩) cy (limbs Y)) := HRY.out.drewN nq
          have HBq : Hid (Below w.heap.size w (wr.drewN nq)) := HB.out.trans (below_drewN _ _ _)
          go_wp2_with fail
          (with_reducible refine (rhalf_n _ cx nx X (X / 2) _ HXq.out HNX.out (by omega) rfl).mono ?_)
          rintro e w5 ⟨A5, c5, rfl, h5, hb5⟩
          obtain ⟨n5, hn5⟩ : ∃ n5, n5 = (limbs (X / 2)).length := ⟨_, rfl⟩
          rw [← hn5]
          have HN5 := Lib.hid hn5.symm
          have hn5l : n5 ≤ 96 := by rw [hn5]; exact Nat.le_trans (limbs_mono (show X / 2 ≤ X by omega)) (by rw [HNX.out]; exact hnx)
          have H5 := Lib.hid h5
          have HB5 := Lib.hid hb5
          clear hn5 h5 hb5
          have HRY5 := Lib.hid ((HYq.out.below HB5.out).more HB5.out.size)
          go_wp2_with fail
          (with_reducible refine (rhalf_n _ cy ny Y (Y / 2) w5 HRY5.out HNY.out (by omega) rfl).mono ?_)
          rintro e w6 ⟨A6, c6, rfl, h6, hb6⟩
          obtain ⟨n6, hn6⟩ : ∃ n6, n6 = (limbs (Y / 2)).length := ⟨_, rfl⟩
          rw [← hn6]
          have HN6 := Lib.hid hn6.symm
          have hn6l : n6 ≤ 96 := by rw [hn6]; exact Nat.le_trans (limbs_mono (show Y / 2 ≤ Y by omega)) (by rw [HNY.out]; exact hny)
          have H6 := Lib.hid h6
          have HB6 := Lib.hid hb6
          clear hn6 h6 hb6
          go_wp2_with fail
          go_roundg (X / 2 + Y / 2)
          case measure => omega
          case rel => exact ⟨X / 2, Y / 2, t + 1, c5, c6, n5, n6, A5, A6, rfl, rfl, by go_num, rfl, by omega, hn5l, hn6l, ⟨HG2.out, HN5.out, HN6.out, (H5.out.below HB6.out).more HB6.out.size, H6.out, (HBq.out.trans (HB5.out.mono HBq.out.size)).trans (HB6.out.mono (Nat.le_trans HBq.out.size HB5.out.size))⟩⟩
        · have hye : (y : Int) % 2 = 1 := by omega
          have HG2 := Lib.hid (show G = 2 ^ t * Nat.gcd (X / 2) Y by rw [HGE.out, gcd_half hX (by omega)])
          go_wp2_with fail
          go_quiet (fail)
          have HXq : Hid (Rf uv (wr.drewN nq) (wr.drewN nq).heap.size (some ⟨xb, xo, none⟩) cx (limbs X)) := HRX.out.drewN nq
          have HYq : Hid (Rf uv (wr.drewN nq) (wr.drewN nq).heap.size (some ⟨yb, yo, none⟩) cy (limbs Y)) := HRY.out.drewN nq
          have HBq : Hid (Below w.heap.size w (wr.drewN nq)) := HB.out.trans (below_drewN _ _ _)
          go_wp2_with fail
          (with_reducible refine (rhalf_n _ cx nx X (X / 2) _ HXq.out HNX.out (by omega) rfl).mono ?_)
          rintro e w5 ⟨A5, c5, rfl, h5, hb5⟩
          obtain ⟨n5, hn5⟩ : ∃ n5, n5 = (limbs (X / 2)).length := ⟨_, rfl⟩
          rw [← hn5]
          have HN5 := Lib.hid hn5.symm
          have hn5l : n5 ≤ 96 := by rw [hn5]; exact Nat.le_trans (limbs_mono (show X / 2 ≤ X by omega)) (by rw [HNX.out]; exact hnx)
          have H5 := Lib.hid h5
          have HB5 := Lib.hid hb5
          clear hn5 h5 hb5
          go_wp2_with fail
          go_roundg (X / 2 + Y)
          case measure => omega
          case rel => exact ⟨X / 2, Y, t, c5, cy, n5, ny, A5, _, rfl, rfl, rfl, rfl, ht, hn5l, hny, ⟨HG2.out, HN5.out, HNY.out, H5.out, (HYq.out.below HB5.out).more HB5.out.size, HBq.out.trans (HB5.out.mono HBq.out.size)⟩⟩
      · have hxe : (x : Int) % 2 = 1 := by omega
        by_cases hY : Y % 2 = 0
        · have hye : (y : Int) % 2 = 0 := by omega
          have HG2 := Lib.hid (show G = 2 ^ t * Nat.gcd X (Y / 2) by rw [HGE.out, gcd_half2 (by omega) hY])
          go_wp2_with fail
          go_quiet (fail)
          have HXq : Hid (Rf uv (wr.drewN nq) (wr.drewN nq).heap.size (some ⟨xb, xo, none⟩) cx (limbs X)) := HRX.out.drewN nq
          have HYq : Hid (Rf uv (wr.drewN nq) (wr.drewN nq).heap.size (some ⟨yb, yo, none⟩) cy (limbs Y)) := HRY.out.drewN nq
          have HBq : Hid (Below w.heap.size w (wr.drewN nq)) := HB.out.trans (below_drewN _ _ _)
          go_wp2_with fail
          (with_reducible refine (rhalf_n _ cy ny Y (Y / 2) _ HYq.out HNY.out (by omega) rfl).mono ?_)
          rintro e w5 ⟨A5, c5, rfl, h5, hb5⟩
          obtain ⟨n5, hn5⟩ : ∃ n5, n5 = (limbs (Y / 2)).length := ⟨_, rfl⟩
          rw [← hn5]
          have HN5 := Lib.hid hn5.symm
          have hn5l : n5 ≤ 96 := by rw [hn5]; exact Nat.le_trans (limbs_mono (show Y / 2 ≤ Y by omega)) (by rw [HNY.out]; exact hny)
          have H5 := Lib.hid h5
          have HB5 := Lib.hid hb5
          clear hn5 h5 hb5
          go_wp2_with fail
          go_roundg (X + Y / 2)
          case measure => omega
          case rel => exact ⟨X, Y / 2, t, cx, c5, nx, n5, _, A5, rfl, rfl, rfl, rfl, ht, hnx, hn5l, ⟨HG2.out, HNX.out, HN5.out, (HXq.out.below HB5.out).more HB5.out.size, H5.out, HBq.out.trans (HB5.out.mono HBq.out.size)⟩⟩
        · have hye : (y : Int) % 2 = 1 := by omega
          by_cases hlt : X < Y
          · have HG2 := Lib.hid (show G = 2 ^ t * Nat.gcd X (Y - X) by rw [HGE.out, gcd_minus (Nat.le_of_lt hlt)])
            have hvl : decide (X < Y) = true := by simpa using hlt
            have HVL := Lib.hid hvl
            clear hvl
            go_wp2_with fail
            go_quiet (fail)
            have HXq : Hid (Rf uv (wr.drewN nq) (wr.drewN nq).heap.size (some ⟨xb, xo, none⟩) cx (limbs X)) := HRX.out.drewN nq
            have HYq : Hid (Rf uv (wr.drewN nq) (wr.drewN nq).heap.size (some ⟨yb, yo, none⟩) cy (limbs Y)) := HRY.out.drewN nq
            have HBq : Hid (Below w.heap.size w (wr.drewN nq)) := HB.out.trans (below_drewN _ _ _)
            go_wp2_with fail
            (with_reducible refine (rless_c _ _ cx cy nx ny _ _ X Y true _ HXq.out HYq.out HNX.out HNY.out (by omega) (by omega) HVL.out).mono ?_)
            rintro e w4 ⟨rfl, hb4⟩
            have HX4 := Lib.hid ((HXq.out.below hb4).more hb4.size)
            have HY4 := Lib.hid ((HYq.out.below hb4).more hb4.size)
            have HB4 := Lib.hid (HBq.out.trans (hb4.mono HBq.out.size))
            clear hb4
            go_wp2_with fail
            (with_reducible refine (rminus_p _ _ cy cx ny nx Y X (Y - X) w4 HY4.out HX4.out HNY.out HNX.out (by omega) (by omega) rfl).mono ?_)
            rintro e w5 ⟨A5, c5, rfl, h5, hb5⟩
            obtain ⟨n5, hn5⟩ : ∃ n5, n5 = (limbs (Y - X)).length := ⟨_, rfl⟩
            rw [← hn5]
            have HN5 := Lib.hid hn5.symm
            have hn5l : n5 ≤ 96 := by rw [hn5]; exact Nat.le_trans (limbs_mono (show Y - X ≤ Y by omega)) (by rw [HNY.out]; exact hny)
            have H5 := Lib.hid h5
            have HB5 := Lib.hid hb5
            clear hn5 h5 hb5
            go_wp2_with fail
            go_roundg (X + (Y - X))
            case measure => omega
            case rel => exact ⟨X, Y - X, t, cx, c5, nx, n5, _, A5, rfl, rfl, rfl, rfl, ht, hnx, hn5l, ⟨HG2.out, HNX.out, HN5.out, (HX4.out.below HB5.out).more HB5.out.size, H5.out, HB4.out.trans (HB5.out.mono HB4.out.size)⟩⟩
          · have HG2 := Lib.hid (show G = 2 ^ t * Nat.gcd (X - Y) Y by rw [HGE.out, gcd_minus2 (by omega)])
            have hvl : decide (X < Y) = false := by simpa using hlt
            have HVL := Lib.hid hvl
            clear hvl
            go_wp2_with fail
            go_quiet (fail)
            have HXq : Hid (Rf uv (wr.drewN nq) (wr.drewN nq).heap.size (some ⟨xb, xo, none⟩) cx (limbs X)) := HRX.out.drewN nq
            have HYq : Hid (Rf uv (wr.drewN nq) (wr.drewN nq).heap.size (some ⟨yb, yo, none⟩) cy (limbs Y)) := HRY.out.drewN nq
            have HBq : Hid (Below w.heap.size w (wr.drewN nq)) := HB.out.trans (below_drewN _ _ _)
            go_wp2_with fail
            (with_reducible refine (rless_c _ _ cx cy nx ny _ _ X Y false _ HXq.out HYq.out HNX.out HNY.out (by omega) (by omega) HVL.out).mono ?_)
            rintro e w4 ⟨rfl, hb4⟩
            have HX4 := Lib.hid ((HXq.out.below hb4).more hb4.size)
            have HY4 := Lib.hid ((HYq.out.below hb4).more hb4.size)
            have HB4 := Lib.hid (HBq.out.trans (hb4.mono HBq.out.size))
            clear hb4
            go_wp2_with fail
            (with_reducible refine (rminus_p _ _ cx cy nx ny X Y (X - Y) w4 HX4.out HY4.out HNX.out HNY.out (by omega) (by omega) rfl).mono ?_)
            rintro e w5 ⟨A5, c5, rfl, h5, hb5⟩
            obtain ⟨n5, hn5⟩ : ∃ n5, n5 = (limbs (X - Y)).length := ⟨_, rfl⟩
            rw [← hn5]
            have HN5 := Lib.hid hn5.symm
            have hn5l : n5 ≤ 96 := by rw [hn5]; exact Nat.le_trans (limbs_mono (show X - Y ≤ X by omega)) (by rw [HNX.out]; exact hnx)
            have H5 := Lib.hid h5
            have HB5 := Lib.hid hb5
            clear hn5 h5 hb5
            go_wp2_with fail
            go_roundg (X - Y + Y)
            case measure => omega
            case rel => exact ⟨X - Y, Y, t, c5, cy, n5, ny, A5, _, rfl, rfl, rfl, rfl, ht, hn5l, hny, ⟨HG2.out, HN5.out, HNY.out, H5.out, (HY4.out.below HB5.out).more HB5.out.size, HB4.out.trans (HB5.out.mono HB4.out.size)⟩⟩
    · rcases Nat.eq_zero_or_pos nx with hx0 | hx0
      · have hXY : Nat.gcd X Y = X + Y := by
          have : X = 0 := by omega
          rw [this]; simp
        subst hx0
        clear hpx hpy
        obtain ⟨S, hS⟩ : ∃ S, S = X + Y := ⟨_, rfl⟩
        have HGS := Lib.hid (show G = 2 ^ t * S by rw [HGE.out, hS, hXY])
        have HS := Lib.hid hS
        clear hS hXY hgo
        go_wp2_with fail
        (with_reducible refine (rplus_n AX AY cx cy _ _ X Y S wr HRX.out HRY.out HNX.out HNY.out (by omega) (by omega) HS.out).mono ?_)
        rintro e w5 ⟨A5, c5, rfl, h5, hb5⟩
        have HI5 : Hid (DblI S 0 (limbs S).length c5 A5 w w5) := ⟨by simp, by simpa using h5, HB.out.trans (hb5.mono HB.out.size)⟩
        obtain ⟨n5, hn5⟩ : ∃ n5, n5 = (limbs S).length := ⟨_, rfl⟩
        rw [← hn5] at HI5 ⊢
        have hn5l : n5 ≤ 96 := by have := dbl_len HGS.out (Nat.zero_le t) HGB.out; rw [Nat.pow_zero, Nat.one_mul, ← hn5] at this; exact this
        clear h5 hb5 hn5
        go_wp2_with fail
        go_loopw [12, 13] (fun d j wz => ∃ (k c n : Nat) (A : Option Addr), d = .slice A n c ∧ j = .int .i64 k ∧ k ≤ t ∧ n ≤ 96 ∧ Hid (DblI S k n c A w wz)) (fun _ j _ => t - (intOf j).toNat)
        case atStart => exact ⟨0, c5, n5, A5, rfl, rfl, by omega, hn5l, HI5⟩
        case round =>
          obtain ⟨k, c, n, A, rfl, rfl, hk, hn, hD⟩ := hrel
          have HD := hD.out
          unfold DblI at HD
          have HDN := Lib.hid HD.1
          have HDR := Lib.hid HD.2.1
          have HDB := Lib.hid HD.2.2
          clear HD hD
          by_cases hlt2 : k < t
          · have hki : (k : Int) < (t : Int) := by omega
            go_wp2_with fail
            (with_reducible refine (rplus_n A A c c n n (2 ^ k * S) (2 ^ k * S) (2 ^ (k + 1) * S) wr HDR.out HDR.out HDN.out HDN.out (by omega) (by omega) (dbl_two k S)).mono ?_)
            rintro e w6 ⟨A6, c6, rfl, h6, hb6⟩
            have HI6 : Hid (DblI S (k + 1) (limbs (2 ^ (k + 1) * S)).length c6 A6 w w6) := ⟨rfl, h6, HDB.out.trans (hb6.mono HDB.out.size)⟩
            obtain ⟨n6, hn6⟩ : ∃ n6, n6 = (limbs (2 ^ (k + 1) * S)).length := ⟨_, rfl⟩
            rw [← hn6] at HI6 ⊢
            have hn6l : n6 ≤ 96 := by rw [hn6]; exact dbl_len HGS.out hlt2 HGB.out
            clear h6 hb6 hn6
            go_wp2_with fail
            go_roundw
            case rel => exact ⟨k + 1, c6, n6, A6, rfl, by go_num, by omega, hn6l, HI6⟩
            case measure => simp [intOf]; omega
          · obtain rfl : k = t := by omega
            go_wp2_with fail
            go_ret2
            rw [HQ.out]
            refine ⟨A, c, ?_, ?_, HDB.out⟩
            · rw [HGS.out, HDN.out]; rfl
            · show Rf _ _ _ _ _ (limbs G)
              rw [HGS.out]; exact HDR.out
      · have hy0 : ny = 0 := by omega
        have hXY : Nat.gcd X Y = X + Y := by
          have : Y = 0 := by omega
          rw [this]; simp
        subst hy0
        have hx0i : (0 : Int) < (nx : Int) := by omega
        clear hpx hpy
        obtain ⟨S, hS⟩ : ∃ S, S = X + Y := ⟨_, rfl⟩
        have HGS := Lib.hid (show G = 2 ^ t * S by rw [HGE.out, hS, hXY])
        have HS := Lib.hid hS
        clear hS hXY hgo
        go_wp2_with fail
        (with_reducible refine (rplus_n AX AY cx cy _ _ X Y S wr HRX.out HRY.out HNX.out HNY.out (by omega) (by omega) HS.out).mono ?_)
        rintro e w5 ⟨A5, c5, rfl, h5, hb5⟩
        have HI5 : Hid (DblI S 0 (limbs S).length c5 A5 w w5) := ⟨by simp, by simpa using h5, HB.out.trans (hb5.mono HB.out.size)⟩
        obtain ⟨n5, hn5⟩ : ∃ n5, n5 = (limbs S).length := ⟨_, rfl⟩
        rw [← hn5] at HI5 ⊢
        have hn5l : n5 ≤ 96 := by have := dbl_len HGS.out (Nat.zero_le t) HGB.out; rw [Nat.pow_zero, Nat.one_mul, ← hn5] at this; exact this
        clear h5 hb5 hn5
        go_wp2_with fail
        go_loopw [12, 13] (fun d j wz => ∃ (k c n : Nat) (A : Option Addr), d = .slice A n c ∧ j = .int .i64 k ∧ k ≤ t ∧ n ≤ 96 ∧ Hid (DblI S k n c A w wz)) (fun _ j _ => t - (intOf j).toNat)
        case atStart => exact ⟨0, c5, n5, A5, rfl, rfl, by omega, hn5l, HI5⟩
        case round =>
          obtain ⟨k, c, n, A, rfl, rfl, hk, hn, hD⟩ := hrel
          have HD := hD.out
          unfold DblI at HD
          have HDN := Lib.hid HD.1
          have HDR := Lib.hid HD.2.1
          have HDB := Lib.hid HD.2.2
          clear HD hD
          by_cases hlt2 : k < t
          · have hki : (k : Int) < (t : Int) := by omega
            go_wp2_with fail
            (with_reducible refine (rplus_n A A c c n n (2 ^ k * S) (2 ^ k * S) (2 ^ (k + 1) * S) wr HDR.out HDR.out HDN.out HDN.out (by omega) (by omega) (dbl_two k S)).mono ?_)
            rintro e w6 ⟨A6, c6, rfl, h6, hb6⟩
            have HI6 : Hid (DblI S (k + 1) (limbs (2 ^ (k + 1) * S)).length c6 A6 w w6) := ⟨rfl, h6, HDB.out.trans (hb6.mono HDB.out.size)⟩
            obtain ⟨n6, hn6⟩ : ∃ n6, n6 = (limbs (2 ^ (k + 1) * S)).length := ⟨_, rfl⟩
            rw [← hn6] at HI6 ⊢
            have hn6l : n6 ≤ 96 := by rw [hn6]; exact dbl_len HGS.out hlt2 HGB.out
            clear h6 hb6 hn6
            go_wp2_with fail
            go_roundw
            case rel => exact ⟨k + 1, c6, n6, A6, rfl, by go_num, by omega, hn6l, HI6⟩
            case measure => simp [intOf]; omega
          · obtain rfl : k = t := by omega
            go_wp2_with fail
            go_ret2
            rw [HQ.out]
            refine ⟨A, c, ?_, ?_, HDB.out⟩
            · rw [HGS.out, HDN.out]; rfl
            · show Rf _ _ _ _ _ (limbs G)
              rw [HGS.out]; exact HDR.out

set_option maxHeartbeats 1000000 in
theorem rgcd_any (A1 A2 : Option Addr) (c1 c2 n1 n2 : Nat) (a b : List UInt32) (w : World) (hr1 : Rf uv w w.heap.size A1 c1 a) (hr2 : Rf uv w w.heap.size A2 c2 b) (hn1 : a.length = n1) (hn2 : b.length = n2) :
    Calls Try.prog 70 #[.slice A1 n1 c1, .slice A2 n2 c2] w fun e w' => NumErr w w' (gcdM a b) e := by
  by_cases h : chk2 a b = 0
  · exact rgcd_good A1 A2 c1 c2 n1 n2 a b w hr1 hr2 hn1 hn2 h
  · have HQ := Lib.hid (gcdM_err h)
    have hb : (chk2 a b != 0) = true := by simpa using h
    have hbo := (rboth_any A1 A2 c1 c2 _ _ a b w hr1 hr2)
    rw [hn1, hn2] at hbo
    have HBO := Lib.hid hbo
    clear h hbo hn1 hn2
    go_enter Try.func70, Try.ntmps70
    go_wp2_with fail
    (with_reducible refine HBO.out.mono ?_)
    rintro e w' ⟨rfl, rfl⟩
    go_wp2_with fail
    go_ret2
    rw [HQ.out]
    exact numErr_bad w _

section
variable (A1 A2 : Option Addr) (c1 c2 n1 n2 : Nat) (a b : List UInt32) (w : World)
theorem rdiv_c (q r : List UInt32) (er : Int) (hr1 : Hid (Sl w A1 c1 a)) (hr2 : Hid (Sl w A2 c2 b)) (h1 : Hid (a.length = n1)) (h2 : Hid (b.length = n2)) (hq : Hid (divM a b = ((q, r), er))) :
    Calls Try.prog 46 #[.slice A1 n1 c1, .slice A2 n2 c2] w fun e w' => Res2P w w' q r er e := by
  refine (rdiv_any A1 A2 c1 c2 n1 n2 a b w hr1.out hr2.out h1.out h2.out).mono fun e w' h => ?_
  rw [hq.out] at h
  exact h
theorem rgcd_c (l : List UInt32) (er : Int) (hr1 : Hid (Sl w A1 c1 a)) (hr2 : Hid (Sl w A2 c2 b)) (h1 : Hid (a.length = n1)) (h2 : Hid (b.length = n2)) (hq : Hid (gcdM a b = (l, er))) :
    Calls Try.prog 70 #[.slice A1 n1 c1, .slice A2 n2 c2] w fun e w' => ResP w w' l er e :=
  (rgcd_any A1 A2 c1 c2 n1 n2 a b w hr1.out hr2.out h1.out h2.out).mono fun e w' h => resP_of hq.out h
end
end Go.Proofs.Ytefoccjphbbmhaa
