/- The reference's Mul. -/
import Derived.Test.YtffbmkobholmhaaDoorRefD
import Derived.Test.YtffbmkobholmhaaDoorRow
namespace Go.Proofs.YtffbmkobholmhaaDoor
open Go.RowKit
set_option linter.unusedVariables false

theorem ow_of_ub {w : World} {g base n : Nat} {L : List UInt32} (h : Ub w g 45 L) (hb : base ≤ g) (hn : L.length = n) (hm : n ≤ 1000000) : Ow uv w base 45 (some ⟨g, 0, none⟩) n L := by
  subst hn
  refine ⟨by simp, .inr ⟨g, L.length, (L.map uv).toArray, rfl, hb, h, Nat.le_refl _, by unfold maxLen; omega, by simp, by simp [List.take_of_length_le]⟩⟩
theorem row_step {r a : List UInt32} {i k cr y x z : Nat} {t : UInt32} (hl : r.length = i + k) (hv : val r + bp (i + k) * cr = (bp i * val (a.take k)) * y) (hk : k < a.length) (hx : (a[k]).toNat = x) (hz : z = x * y + cr) (ht : t.toNat = z % 4294967296) :
    val (r ++ [t]) + bp (i + (k + 1)) * (z / 4294967296) = (bp i * val (a.take (k + 1))) * y := by
  have e1 : bp (i + (k + 1)) = 4294967296 * bp (i + k) := bp_succ (i + k)
  have e2 : bp i * (val (a.take k) + bp k * x) = bp i * val (a.take k) + bp (i + k) * x := by rw [Nat.mul_add, bp_add, Nat.mul_assoc]
  rw [val_snoc, hl, val_take_succ hk, hx, e1, e2, ht]
  have h := prod_round (v := val r) (b1 := 0) (b2 := bp i * val (a.take k)) (p := bp (i + k)) (l := 0) (m := x) (t := y) (s := z % 4294967296) (c := cr) (c' := z / 4294967296) (by omega) (by omega)
  omega
theorem row_end {r a : List UInt32} {i cr y : Nat} {t : UInt32} (hl : r.length = i + a.length) (hv : val r + bp (i + a.length) * cr = (bp i * val (a.take a.length)) * y) (ht : t.toNat = cr) : val (r ++ [t]) = bp i * (val a * y) := by
  rw [val_snoc, hl, ht, hv, val_take_len, Nat.mul_assoc]

set_option maxRecDepth 100000 in
set_option maxHeartbeats 4000000 in
theorem rmul_good (A1 A2 : Option Addr) (c1 c2 : Nat) (a b LM : List UInt32) (w : World) (hr1 : Rf uv w w.heap.size A1 c1 a) (hr2 : Rf uv w w.heap.size A2 c2 b) (HA : Hid (chk2 a b = 0)) (ha : a.length ≤ 96) (hb : b.length ≤ 96) (HLM : Hid (limbs (val a * val b) = LM)) :
    Calls Tryd.prog 27 #[.slice A1 a.length c1, .slice A2 b.length c2] w fun e w' => NumErr w w' (mulM a b) e := by
  obtain ⟨i0, hi, hz0, hz1, hz2⟩ := info_parts uInfo
  have HQ := Lib.hid (mulM_ok HA.out)
  go_enter Tryd.func27, Tryd.ntmps27
  go_wp2_with fail
  refine (rboth_any A1 A2 c1 c2 _ _ _ _ w hr1 hr2).mono ?_
  rintro e w' ⟨rfl, rfl⟩
  rw [HA.out]
  go_wp2_with fail
  go_loopw [7, 8] (fun v i wr => ∃ (k : Nat) (A : Option Addr) (c : Nat) (r : List UInt32), i = .int .i64 k ∧ v = .slice A r.length c ∧ k ≤ b.length ∧ r.length ≤ 200 ∧ Hid (r = limbs (val a * val (b.take k))) ∧ Hid (Rf uv wr wr.heap.size A c r) ∧ Hid (Below w.heap.size w wr)) (fun _ i _ => b.length - (intOf i).toNat)
  case atStart => exact ⟨0, none, 0, [], rfl, rfl, by omega, by simp, (by simp [val_nil, limbs_zero, Hid]), Rf.empty _ _, Below.refl _ _⟩
  case round =>
    obtain ⟨k, A, c, r, rfl, rfl, hk, hr200, hv, hrd, hbl⟩ := hrel
    obtain ⟨wo, rfl⟩ : ∃ wo, wo = wr := ⟨_, rfl⟩
    by_cases hlt : k < b.length
    · have hra := hr1.below hbl.out
      have hrb := hr2.below hbl.out
      have hbz := hbl.out.size
      obtain ⟨bb, bo, rfl, hbb, hbc⟩ := hrb.at_ hlt
      have hbk := hbc k hlt
      unfold uv at hbk
      have hyl := u32_lt b[k]
      obtain ⟨y, hy⟩ : ∃ y, y = (b[k]).toNat := ⟨_, rfl⟩
      rw [← hy] at hbk hyl
      have HY := Lib.hid hy
      have hk0 : (0 : Int) ≤ (k : Int) := by omega
      have hk1 : (k : Int) < (b.length : Int) := by omega
      clear hbc hy
      go_wp2_with (at_make; refine wpList_make_ub _ rfl _ _ rfl _ k rfl rfl (by omega) (by omega) ?_; intro w1 hu1 hb1 hs1)
      have hO1 : Hid (Ow uv w1 wo.heap.size 45 (some ⟨wo.heap.size, 0, none⟩) k (List.replicate k 0)) := ow_of_ub hu1 (Nat.le_refl _) (by simp) (by omega)
      have HB1 := Lib.hid hb1
      clear hu1
      go_loopw [9, 10, 11] (fun v x j wx => ∃ (kk cr : Nat) (A' : Option Addr) (c' : Nat) (q : List UInt32), v = .slice A' q.length c' ∧ x = .int .u64 cr ∧ j = .int .i64 kk ∧ kk ≤ a.length ∧ cr < 4294967296 ∧ q.length ≤ 200 ∧ Hid (q.length = k + kk) ∧ Hid (val q + bp (k + kk) * cr = (bp k * val (a.take kk)) * y) ∧ Hid (Ow uv wx wo.heap.size 45 A' c' q) ∧ Hid (Below wo.heap.size wo wx)) (fun _ _ j _ => a.length - (intOf j).toNat)
      case atStart => exact ⟨0, 0, some ⟨wo.heap.size, 0, none⟩, k, List.replicate k 0, by simp, rfl, rfl, by omega, by omega, by simp; omega, (by simp [Hid]), (by simp [val_zeros, val_nil, Hid]), hO1, HB1⟩
      case round =>
        obtain ⟨kk, cr, A', c', q, rfl, rfl, rfl, hkk, hcr, hq200, hql, hqv, ho, hbx⟩ := hrel
        have hrax := hra.below (hbx.out.mono hbz)
        have hrbx := hrb.below (hbx.out.mono hbz)
        have hbzx := hbx.out.size
        have ho1 := ho.out.blk_ge
        by_cases hin : kk < a.length
        · obtain ⟨ab, ao, rfl, hab, hac⟩ := hrax.at_ hin
          have hak := hac kk hin
          unfold uv at hak
          obtain ⟨b2, o2, e2, hb2, hbc2⟩ := hrbx.at_ hlt
          have e2' := Option.some.inj e2
          simp only [Addr.mk.injEq] at e2'
          obtain ⟨rfl, rfl, _⟩ := e2'
          have hbk2 := hbc2 k hlt
          unfold uv at hbk2
          rw [← HY.out] at hbk2
          have hxl := u32_lt a[kk]
          obtain ⟨x, hx⟩ : ∃ x, (a[kk]).toNat = x := ⟨_, rfl⟩
          rw [hx] at hak hxl
          obtain ⟨p, hp⟩ : ∃ p, p = x * y := ⟨_, rfl⟩
          have hpl : p ≤ 18446744065119617025 := by rw [hp]; exact mul_le_max hxl hyl
          obtain ⟨z, hz⟩ : ∃ z, z = p + cr := ⟨_, rfl⟩
          have hzl : z < 18446744073709551616 := by omega
          obtain ⟨t, ht⟩ : ∃ t, t = UInt32.ofNat (z % 4294967296) := ⟨_, rfl⟩
          have htv : (z : Int) % 4294967296 = (t.toNat : Int) := by rw [ht, u32_of _ (by omega)]; omega
          have HS := Lib.hid (row_step (z := z) (t := t) hql.out hqv.out hin hx (by rw [hz, hp]) (by rw [ht, u32_of _ (by omega)]))
          have hro := fun (W : World) => ro_one W t ((z : Int) % 4294967296) htv
          have HRO := Lib.hid hro
          have hi0 : (0 : Int) ≤ (kk : Int) := by omega
          have hi1 : (kk : Int) < (a.length : Int) := by omega
          have hp1 : (x : Int) * (y : Int) = (p : Int) := by rw [hp]; simp
          have hp2 : IntKind.u64.wrap (p : Int) = (p : Int) := by rw [IntKind.wrap_u64]; omega
          have hp3 : IntKind.u64.wrap ((p : Int) + (cr : Int)) = (z : Int) := by rw [IntKind.wrap_u64]; omega
          clear hx hp hz ht htv hro hac hbc2 e2
          go_wp2_with fail
          go_quiet (fail)
          clear hp1 hp2 hp3
          have ho2 := ho.out.drewN nq
          go_wp2_with (at_builtin; refine wpList_append_f _ uv_one rfl _ _ 22 rfl wo.heap.size 45 4 i0 _ Tryd.underlying22 hi hz0 hz1 hz2 (by decide) rfl q [t] rfl rfl (ho2.alloc _) (HRO.out _) (by simp; omega) (by simp; omega) ?_; intro A3 c3 w3 r3 hr3 ho3 hg3 hb3)
          have hr4 := hr3.out
          have HL3 := Lib.hid (show r3.length = k + (kk + 1) by rw [hr4, List.length_append, hql.out]; rfl)
          have HS3 := Lib.hid (show val r3 + bp (k + (kk + 1)) * (z / 4294967296) = (bp k * val (a.take (kk + 1))) * y by rw [hr4]; exact HS.out)
          have hl3 : r3.length ≤ 200 := by
            have := HL3.out
            omega
          have HBX3 := Lib.hid ((hbx.out.trans ((below_drewN _ _ nq).trans ((below_new (wr.drewN nq) _).mono hbzx))).trans (below_of_grown hg3 (by simp; omega) (fun g hg => (ho1 g hg).1)))
          clear hr4 hr3 hg3 hb3
          go_wp2_with fail
          go_roundw
          case rel => exact ⟨kk + 1, z / 4294967296, A3, c3, r3, rfl, by go_num, by go_num, by omega, by omega, hl3, HL3, HS3, ho3, HBX3⟩
          case measure => simp [intOf]; omega
        · obtain rfl : kk = a.length := by omega
          obtain ⟨t, ht⟩ : ∃ t, t = UInt32.ofNat cr := ⟨_, rfl⟩
          have htv : (cr : Int) = (t.toNat : Int) := by rw [ht, u32_of _ hcr]
          have HS := Lib.hid (row_end (t := t) hql.out hqv.out (by rw [ht, u32_of _ hcr]))
          have hro := ro_one wr t (cr : Int) htv
          have HRO := Lib.hid hro
          clear ht htv hro
          go_wp2_with (at_builtin; refine wpList_append_f _ uv_one rfl _ _ 22 rfl wo.heap.size 45 4 i0 _ Tryd.underlying22 hi hz0 hz1 hz2 (by decide) rfl q [t] rfl rfl (ho.out.alloc _) HRO.out (by simp; omega) (by simp; omega) ?_; intro A3 c3 w3 q3 hr3 ho3 hg3 hb3)
          have hr4 := hr3.out
          have HV3 := Lib.hid (show val q3 = bp k * (val a * y) by rw [hr4]; exact HS.out)
          have hl3 : q3.length ≤ 1000 := by rw [hr4]; simp; omega
          have HBX3 := Lib.hid ((hbx.out.trans ((below_new wr _).mono hbzx)).trans (below_of_grown hg3 (by simp; omega) (fun g hg => (ho1 g hg).1)))
          have HRD3 := Lib.hid (show Rf uv w3 w3.heap.size A3 c3 q3 from ho3.rd)
          have HRR := Lib.hid ((hrd.out.below HBX3.out).more HBX3.out.size)
          have HVN := Lib.hid (show limbs (val r + val q3) = limbs (val a * val (b.take (k + 1))) by
            rw [hv.out, val_limbs, HV3.out, val_take_succ hlt, ← HY.out, Nat.mul_add]
            congr 2
            rw [← Nat.mul_assoc, ← Nat.mul_assoc, Nat.mul_comm (bp k)])
          clear hr4 hr3 hg3 hb3
          go_wp2_with fail
          (with_reducible refine (rplus_any A A3 c c3 r.length q3.length r q3 w3 HRR.out HRD3.out rfl rfl (by omega) (by omega)).mono ?_)
          rw [HVN.out]
          obtain ⟨r9, hr9⟩ : ∃ r9, r9 = limbs (val a * val (b.take (k + 1))) := ⟨_, rfl⟩
          rw [← hr9]
          have HR9 := Lib.hid hr9
          have hl9 : r9.length ≤ 200 := by
            rw [hr9]
            have h1 := val_lt a
            have h2 := val_take_lt b (k + 1) (by omega)
            have h3 := len_mul (limbs_len_le.2 h1) (limbs_len_le.2 h2)
            omega
          rintro e w5 ⟨A5, c5, rfl, hrd5, hbl5⟩
          have HRD5 := Lib.hid hrd5
          have HBL5 := Lib.hid ((hbl.out.trans (HBX3.out.mono hbl.out.size)).trans (hbl5.mono (Nat.le_trans hbl.out.size HBX3.out.size)))
          clear hrd5 hbl5 hr9
          go_wp2_with fail
          go_roundw
          case rel => exact ⟨k + 1, A5, c5, r9, by go_num, rfl, by omega, hl9, HR9, HRD5, HBL5⟩
          case measure => simp [intOf]; omega
    · have hval : val a * val (b.take k) = val a * val b := by rw [val_take_ge (by omega)]
      have hrL : r = LM := by rw [hv.out, hval, HLM.out]
      have HRL := Lib.hid hrL
      have hltd : decide (k < b.length) = false := by simpa using hlt
      clear hval hrL
      by_cases h96 : r.length ≤ 96
      · have HEQ := Lib.hid (show mulM a b = (r, 0) by rw [HQ.out, HRL.out, ← HLM.out, numM_ok (by rw [HLM.out, ← HRL.out]; exact h96)])
        have h96d : decide ((96 : Int) < (r.length : Int)) = false := by simp; omega
        go_wp2_with fail
        go_ret2
        rw [HEQ.out]
        exact ⟨A, c, rfl, hrd.out, hbl.out⟩
      · have HEQ := Lib.hid (show mulM a b = ([], 30) by rw [HQ.out, numM_great (by rw [HLM.out, ← HRL.out]; exact h96)])
        have h96i : (96 : Int) < (r.length : Int) := by omega
        go_wp2_with fail
        go_ret2
        rw [HEQ.out]
        exact ⟨none, 0, rfl, Rf.empty _ _, hbl.out⟩

set_option maxHeartbeats 1000000 in
theorem rmul_any (A1 A2 : Option Addr) (c1 c2 : Nat) (a b : List UInt32) (w : World) (hr1 : Rf uv w w.heap.size A1 c1 a) (hr2 : Rf uv w w.heap.size A2 c2 b) :
    Calls Tryd.prog 27 #[.slice A1 a.length c1, .slice A2 b.length c2] w fun e w' => NumErr w w' (mulM a b) e := by
  by_cases h : chk2 a b = 0
  · exact rmul_good A1 A2 c1 c2 a b _ w hr1 hr2 h (chk_zero (chk2_zero h).1).1 (chk_zero (chk2_zero h).2).1 rfl
  · have HQ := Lib.hid (mulM_err h)
    have hb : (chk2 a b != 0) = true := by simpa using h
    clear h
    go_enter Tryd.func27, Tryd.ntmps27
    go_wp2_with fail
    refine (rboth_any A1 A2 c1 c2 _ _ a b w hr1 hr2).mono ?_
    rintro e w' ⟨rfl, rfl⟩
    go_wp2_with fail
    go_ret2
    rw [HQ.out]
    exact numErr_bad w _
end Go.Proofs.YtffbmkobholmhaaDoor
