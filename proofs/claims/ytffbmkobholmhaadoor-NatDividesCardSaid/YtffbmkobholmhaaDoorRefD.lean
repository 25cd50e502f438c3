/- The reference's Word, Of, Cmp, Add, Sub. -/
import Derived.Test.YtffbmkobholmhaaDoorRefC
import Derived.Deep.LoopGhost
namespace Go.Proofs.YtffbmkobholmhaaDoor
open Go.RowKit
set_option linter.unusedVariables false

set_option maxRecDepth 100000 in
set_option maxHeartbeats 1000000 in
theorem rword_any (A : Option Addr) (c B : Nat) (a : List UInt32) (w : World) (hr : Rf uv w B A c a) :
    Calls Tryd.prog 13 #[.slice A a.length c] w fun e w' => e = .returned (.tuple #[.int .u64 (wordM a).1, .int .i64 (wordM a).2]) ∧ w = w' := by
  have hcap := hr.cap
  have hcm := hr.capm
  unfold maxLen at hcm
  by_cases h : chk a = 0
  · by_cases h2 : a.length ≤ 2
    · have HQ := Lib.hid (wordM_ok h h2)
      have HA := Lib.hid h
      have h2d : decide ((2 : Int) < (a.length : Int)) = false := by simp; omega
      clear h
      go_enter Tryd.func13, Tryd.ntmps13
      go_wp2_with fail
      refine (rcheck_any A c B a w hr).mono ?_
      rintro e w' ⟨rfl, rfl⟩
      rw [HA.out]
      go_wp2_with fail
      go_loop [5, 6] (fun v i => ∃ k n : Nat, k ≤ a.length ∧ i = .int .i64 ((k : Int) - 1) ∧ v = .int .u64 n ∧ Hid (n = val (a.drop k))) (fun _ i => (intOf i + 1).toNat)
      case atStart => exact ⟨a.length, 0, Nat.le_refl _, rfl, rfl, (show 0 = val (a.drop a.length) by rw [List.drop_of_length_le (Nat.le_refl _)]; rfl)⟩
      case round =>
        obtain ⟨k, n, hk, rfl, rfl, hv⟩ := hrel
        by_cases h0 : k = 0
        · subst h0
          have HV := Lib.hid (show n = val a by have := hv.out; simpa using this)
          go_wp2_with fail
          go_ret2
          rw [HQ.out]
          exact ⟨by rw [← HV.out]; rfl, rfl⟩
        · obtain ⟨j, rfl⟩ : ∃ j, k = j + 1 := ⟨k - 1, by omega⟩
          have hj : j < a.length := by omega
          obtain ⟨b, o, rfl, hb, hc⟩ := hr.at_ hj
          have hcj := hc j hj
          unfold uv at hcj
          have hxl := u32_lt a[j]
          have hnl : n < 4294967296 := by
            have h3 := val_lt (a.drop (j + 1))
            rw [List.length_drop] at h3
            have h4 := bp_mono (show a.length - (j + 1) ≤ 1 by omega)
            rw [bp_one] at h4
            have := hv.out
            omega
          obtain ⟨x, hx⟩ : ∃ x, x = (a[j]).toNat := ⟨_, rfl⟩
          have HN := Lib.hid (show x + 4294967296 * n = val (a.drop j) by rw [val_drop_cons hj, ← hv.out, hx])
          rw [← hx] at hcj hxl
          have hi0 : (0 : Int) ≤ (j : Int) := by omega
          have hi1 : (j : Int) < (a.length : Int) := by omega
          clear hc hx h0
          go_wp2_with fail
          go_round
          case rel => exact ⟨j, x + 4294967296 * n, by omega, by go_num, congrArg (Value.int .u64) (by omega), HN⟩
          case measure => simp [intOf]
    · have HQ := Lib.hid (wordM_great h h2)
      have HA := Lib.hid h
      have h2d : (2 : Int) < (a.length : Int) := by omega
      clear h
      go_enter Tryd.func13, Tryd.ntmps13
      go_wp2_with fail
      refine (rcheck_any A c B a w hr).mono ?_
      rintro e w' ⟨rfl, rfl⟩
      rw [HA.out]
      go_wp2_with fail
      go_ret2
      rw [HQ.out]
      exact ⟨rfl, rfl⟩
  · have HQ := Lib.hid (wordM_err h)
    have hb : (chk a != 0) = true := by simpa using h
    clear h
    go_enter Tryd.func13, Tryd.ntmps13
    go_wp2_with fail
    refine (rcheck_any A c B a w hr).mono ?_
    rintro e w' ⟨rfl, rfl⟩
    go_wp2_with fail
    go_ret2
    rw [HQ.out]
    exact ⟨rfl, rfl⟩

set_option maxRecDepth 100000 in
set_option maxHeartbeats 1000000 in
theorem rof_any (n : Nat) (w : World) (hn : Hid (n < 18446744073709551616)) :
    Calls Tryd.prog 21 #[.int .u64 n] w fun e w' => NumP w w' (limbs n) e := by
  obtain ⟨i0, hi, hz0, hz1, hz2⟩ := info_parts uInfo
  have hl2 : (limbs n).length ≤ 2 := limbs_len_le.2 (by rw [show bp 2 = 18446744073709551616 by decide]; exact hn.out)
  go_enter Tryd.func21, Tryd.ntmps21
  go_wp2_with fail
  go_loopg [0, 3] n (fun v s0 s3 wr => ∃ (A : Option Addr) (c : Nat) (r : List UInt32), s0 = .int .u64 v ∧ s3 = .slice A r.length c ∧ r.length ≤ 2 ∧ Hid (r ++ limbs v = limbs n) ∧ Hid (Ow uv wr w.heap.size 45 A c r) ∧ Hid (w.grownBy wr none))
  case atStart => exact ⟨none, 0, [], rfl, rfl, by simp, (by simp [Hid]), Ow.nil _ _ _, grown_refl _ _⟩
  case round =>
    obtain ⟨A, c, r, rfl, rfl, hrl, hv, ho, hg⟩ := hrel
    by_cases hg0 : gk = 0
    · subst hg0
      have HR := Lib.hid (show r = limbs n by have := hv.out; rwa [limbs_zero, List.append_nil] at this)
      go_wp2_with fail
      go_ret
      rw [← HR.out]
      exact ⟨A, c, rfl, ho.out.rd, below_of_none hg.out⟩
    · have hgp : (0 : Int) < (gk : Int) := by omega
      obtain ⟨t, ht⟩ : ∃ t, t = UInt32.ofNat (gk % 4294967296) := ⟨_, rfl⟩
      have htv : (gk : Int) % 4294967296 = (t.toNat : Int) := by rw [ht, u32_of _ (by omega)]; omega
      have hcat : r ++ [t] ++ limbs (gk / 4294967296) = limbs n := by
        rw [← hv.out, limbs_pos hg0, ht]; simp
      have HCAT := Lib.hid hcat
      have hl3 : r.length + 1 ≤ 2 := by
        have h3 := congrArg List.length hcat
        simp at h3
        omega
      have hdiv : gk / 4294967296 < gk := by omega
      have hgl : (limbs gk).length ≤ 2 := by
        have h3 := congrArg List.length hv.out
        rw [List.length_append] at h3
        omega
      have hgb : gk < 18446744073709551616 := by
        have h3 := limbs_len_le.1 hgl
        rwa [show bp 2 = 18446744073709551616 by decide] at h3
      have hro := ro_one wr t ((gk : Int) % 4294967296) htv
      have HRO := Lib.hid hro
      have hbz := hg.out.size
      have hb1 := ho.out.blk_ge
      clear ht htv hcat hro hg0 hgl
      go_wp2_with (at_builtin; refine wpList_append_f _ uv_one rfl _ _ 22 rfl w.heap.size 45 4 i0 _ Tryd.underlying22 hi hz0 hz1 hz2 (by decide) rfl r [t] rfl rfl (ho.out.alloc _) HRO.out (by simp; omega) (by simp; omega) ?_; intro A3 c3 w3 r3 hr3 ho3 hg3 hb3)
      have hpg := push_grown hg.out (fun g hg => (hb1 g hg).1) hg3 hb3
      have HC3 := Lib.hid (show r3 ++ limbs (gk / 4294967296) = limbs n by rw [hr3.out]; exact HCAT.out)
      have hl4 : r3.length ≤ 2 := by rw [hr3.out]; simp; omega
      go_roundg (gk / 4294967296)
      case measure => exact hdiv
      case rel => exact ⟨A3, c3, r3, by go_num, rfl, hl4, HC3, ho3, hpg.1⟩

theorem rless_c (A1 A2 : Option Addr) (c1 c2 n1 n2 B1 B2 m n : Nat) (v : Bool) (w : World) (hr1 : Rf uv w B1 A1 c1 (limbs m)) (hr2 : Rf uv w B2 A2 c2 (limbs n)) (h1 : (limbs m).length = n1) (h2 : (limbs n).length = n2) (hl1 : n1 ≤ 1000000) (hl2 : n2 ≤ 1000000) (hv : decide (m < n) = v) :
    Calls Tryd.prog 43 #[.slice A1 n1 c1, .slice A2 n2 c2] w fun e w' => e = .returned (.bool v) ∧ Below w.heap.size w w' := by
  subst h1 h2 hv
  refine (rless_any A1 A2 c1 c2 B1 B2 m n w hr1 hr2 hl1 hl2).mono ?_
  rintro e w' ⟨he, q, rfl⟩
  exact ⟨he, below_drewN _ _ _⟩

set_option maxHeartbeats 1000000 in
theorem rcmp_any (A1 A2 : Option Addr) (c1 c2 : Nat) (a b : List UInt32) (w : World) (hr1 : Rf uv w w.heap.size A1 c1 a) (hr2 : Rf uv w w.heap.size A2 c2 b) :
    Calls Tryd.prog 15 #[.slice A1 a.length c1, .slice A2 b.length c2] w fun e w' => e = .returned (.tuple #[.int .i64 (cmpM a b).1, .int .i64 (cmpM a b).2]) ∧ Below w.heap.size w w' := by
  by_cases h : chk2 a b = 0
  · have HA := Lib.hid h
    obtain ⟨m, rfl, hm⟩ := limbs_of_chk (chk2_zero h).1
    obtain ⟨n, rfl, hn⟩ := limbs_of_chk (chk2_zero h).2
    have HQ := Lib.hid (show cmpM (limbs m) (limbs n) = (cmpI m n, 0) by rw [cmpM_ok h, val_limbs, val_limbs])
    clear h
    by_cases h1 : m < n
    · have HC := Lib.hid (show cmpI m n = -1 by unfold cmpI; rw [if_pos h1])
      have HL := Lib.hid (show decide (m < n) = true by simpa using h1)
      clear h1
      go_enter Tryd.func15, Tryd.ntmps15
      go_wp2_with fail
      refine (rboth_any A1 A2 c1 c2 _ _ _ _ w hr1 hr2).mono ?_
      rintro e w' ⟨rfl, rfl⟩
      rw [HA.out]
      go_wp2_with fail
      (with_reducible refine (rless_c A1 A2 c1 c2 _ _ _ _ m n true w hr1 hr2 rfl rfl (by omega) (by omega) HL.out).mono ?_)
      rintro e w1 ⟨rfl, hb1⟩
      have HB1 := Lib.hid hb1
      clear hb1
      go_wp2_with fail
      go_ret2
      rw [HQ.out, HC.out]
      exact ⟨rfl, HB1.out⟩
    · have HL := Lib.hid (show decide (m < n) = false by simpa using h1)
      by_cases h2 : n < m
      · have HC := Lib.hid (show cmpI m n = 1 by unfold cmpI; rw [if_neg h1, if_neg (by omega)])
        have HL2 := Lib.hid (show decide (n < m) = true by simpa using h2)
        clear h1 h2
        go_enter Tryd.func15, Tryd.ntmps15
        go_wp2_with fail
        refine (rboth_any A1 A2 c1 c2 _ _ _ _ w hr1 hr2).mono ?_
        rintro e w' ⟨rfl, rfl⟩
        rw [HA.out]
        go_wp2_with fail
        (with_reducible refine (rless_c A1 A2 c1 c2 _ _ _ _ m n false w hr1 hr2 rfl rfl (by omega) (by omega) HL.out).mono ?_)
        rintro e w1 ⟨rfl, hb1⟩
        have HB1 := Lib.hid hb1
        clear hb1
        go_wp2_with fail
        (with_reducible refine (rless_c A2 A1 c2 c1 _ _ _ _ n m true w1 (hr2.below HB1.out) (hr1.below HB1.out) rfl rfl (by omega) (by omega) HL2.out).mono ?_)
        rintro e w2 ⟨rfl, hb2⟩
        have HB2 := Lib.hid (HB1.out.trans (hb2.mono HB1.out.size))
        clear hb2
        go_wp2_with fail
        go_ret2
        rw [HQ.out, HC.out]
        exact ⟨rfl, HB2.out⟩
      · have HC := Lib.hid (show cmpI m n = 0 by unfold cmpI; rw [if_neg h1, if_pos (by omega)])
        have HL2 := Lib.hid (show decide (n < m) = false by simpa using h2)
        clear h1 h2
        go_enter Tryd.func15, Tryd.ntmps15
        go_wp2_with fail
        refine (rboth_any A1 A2 c1 c2 _ _ _ _ w hr1 hr2).mono ?_
        rintro e w' ⟨rfl, rfl⟩
        rw [HA.out]
        go_wp2_with fail
        (with_reducible refine (rless_c A1 A2 c1 c2 _ _ _ _ m n false w hr1 hr2 rfl rfl (by omega) (by omega) HL.out).mono ?_)
        rintro e w1 ⟨rfl, hb1⟩
        have HB1 := Lib.hid hb1
        clear hb1
        go_wp2_with fail
        (with_reducible refine (rless_c A2 A1 c2 c1 _ _ _ _ n m false w1 (hr2.below HB1.out) (hr1.below HB1.out) rfl rfl (by omega) (by omega) HL2.out).mono ?_)
        rintro e w2 ⟨rfl, hb2⟩
        have HB2 := Lib.hid (HB1.out.trans (hb2.mono HB1.out.size))
        clear hb2
        go_wp2_with fail
        go_ret2
        rw [HQ.out, HC.out]
        exact ⟨rfl, HB2.out⟩
  · have HQ := Lib.hid (cmpM_err h)
    have hb : (chk2 a b != 0) = true := by simpa using h
    clear h
    go_enter Tryd.func15, Tryd.ntmps15
    go_wp2_with fail
    refine (rboth_any A1 A2 c1 c2 _ _ a b w hr1 hr2).mono ?_
    rintro e w' ⟨rfl, rfl⟩
    go_wp2_with fail
    go_ret2
    rw [HQ.out]
    exact ⟨rfl, Below.refl _ _⟩

set_option maxHeartbeats 1000000 in
theorem radd_any (A1 A2 : Option Addr) (c1 c2 : Nat) (a b : List UInt32) (w : World) (hr1 : Rf uv w w.heap.size A1 c1 a) (hr2 : Rf uv w w.heap.size A2 c2 b) :
    Calls Tryd.prog 23 #[.slice A1 a.length c1, .slice A2 b.length c2] w fun e w' => NumErr w w' (addM a b) e := by
  by_cases h : chk2 a b = 0
  · have HA := Lib.hid h
    have ha := (chk_zero (chk2_zero h).1).1
    have hb := (chk_zero (chk2_zero h).2).1
    obtain ⟨L, hL⟩ : ∃ L, L = limbs (val a + val b) := ⟨_, rfl⟩
    have HL := Lib.hid hL
    by_cases h96 : L.length ≤ 96
    · have HQ := Lib.hid (show addM a b = (L, 0) by rw [addM_ok h, hL, numM_ok (by rw [← hL]; exact h96)])
      have h96d : decide ((96 : Int) < (L.length : Int)) = false := by simp; omega
      clear h hL
      go_enter Tryd.func23, Tryd.ntmps23
      go_wp2_with fail
      refine (rboth_any A1 A2 c1 c2 _ _ _ _ w hr1 hr2).mono ?_
      rintro e w' ⟨rfl, rfl⟩
      rw [HA.out]
      go_wp2_with fail
      (with_reducible refine (rplus_any A1 A2 c1 c2 a.length b.length a b w hr1 hr2 rfl rfl (by omega) (by omega)).mono ?_)
      rw [← HL.out]
      rintro e w3 ⟨A3, c3, rfl, hrd, hbl⟩
      have HR3 := Lib.hid hrd
      have HB3 := Lib.hid hbl
      clear hrd hbl
      go_wp2_with fail
      go_ret2
      rw [HQ.out]
      exact ⟨A3, c3, rfl, HR3.out, HB3.out⟩
    · have HQ := Lib.hid (show addM a b = ([], 30) by rw [addM_ok h, numM_great (by rw [← hL]; exact h96)])
      have h96i : (96 : Int) < (L.length : Int) := by omega
      clear h hL
      go_enter Tryd.func23, Tryd.ntmps23
      go_wp2_with fail
      refine (rboth_any A1 A2 c1 c2 _ _ _ _ w hr1 hr2).mono ?_
      rintro e w' ⟨rfl, rfl⟩
      rw [HA.out]
      go_wp2_with fail
      (with_reducible refine (rplus_any A1 A2 c1 c2 a.length b.length a b w hr1 hr2 rfl rfl (by omega) (by omega)).mono ?_)
      rw [← HL.out]
      rintro e w3 ⟨A3, c3, rfl, hrd, hbl⟩
      have HB3 := Lib.hid hbl
      clear hrd hbl
      go_wp2_with fail
      go_ret2
      rw [HQ.out]
      exact ⟨none, 0, rfl, Rf.empty _ _, HB3.out⟩
  · have HQ := Lib.hid (addM_err h)
    have hb : (chk2 a b != 0) = true := by simpa using h
    clear h
    go_enter Tryd.func23, Tryd.ntmps23
    go_wp2_with fail
    refine (rboth_any A1 A2 c1 c2 _ _ a b w hr1 hr2).mono ?_
    rintro e w' ⟨rfl, rfl⟩
    go_wp2_with fail
    go_ret2
    rw [HQ.out]
    exact numErr_bad w _

set_option maxHeartbeats 1000000 in
theorem rsub_any (A1 A2 : Option Addr) (c1 c2 : Nat) (a b : List UInt32) (w : World) (hr1 : Rf uv w w.heap.size A1 c1 a) (hr2 : Rf uv w w.heap.size A2 c2 b) :
    Calls Tryd.prog 25 #[.slice A1 a.length c1, .slice A2 b.length c2] w fun e w' => NumErr w w' (subM a b) e := by
  by_cases h : chk2 a b = 0
  · have HA := Lib.hid h
    obtain ⟨m, rfl, hm⟩ := limbs_of_chk (chk2_zero h).1
    obtain ⟨n, rfl, hn⟩ := limbs_of_chk (chk2_zero h).2
    by_cases hlt : m < n
    · have HQ := Lib.hid (subM_none h (by rw [val_limbs, val_limbs]; exact hlt))
      have HL := Lib.hid (show decide (m < n) = true by simpa using hlt)
      clear h hlt
      go_enter Tryd.func25, Tryd.ntmps25
      go_wp2_with fail
      refine (rboth_any A1 A2 c1 c2 _ _ _ _ w hr1 hr2).mono ?_
      rintro e w' ⟨rfl, rfl⟩
      rw [HA.out]
      go_wp2_with fail
      (with_reducible refine (rless_c A1 A2 c1 c2 _ _ _ _ m n true w hr1 hr2 rfl rfl (by omega) (by omega) HL.out).mono ?_)
      rintro e w1 ⟨rfl, hb1⟩
      have HB1 := Lib.hid hb1
      clear hb1
      go_wp2_with fail
      go_ret2
      rw [HQ.out]
      exact ⟨none, 0, rfl, Rf.empty _ _, HB1.out⟩
    · have HQ := Lib.hid (show subM (limbs m) (limbs n) = (limbs (m - n), 0) by rw [subM_ok h (by rw [val_limbs, val_limbs]; exact hlt), val_limbs, val_limbs])
      have HL := Lib.hid (show decide (m < n) = false by simpa using hlt)
      have hmn := limbs_mono (show n ≤ m by omega)
      have HLE := Lib.hid (show val (limbs n) ≤ val (limbs m) by rw [val_limbs, val_limbs]; omega)
      have HV := Lib.hid (show limbs (val (limbs m) - val (limbs n)) = limbs (m - n) by rw [val_limbs, val_limbs])
      clear h hlt
      go_enter Tryd.func25, Tryd.ntmps25
      go_wp2_with fail
      refine (rboth_any A1 A2 c1 c2 _ _ _ _ w hr1 hr2).mono ?_
      rintro e w' ⟨rfl, rfl⟩
      rw [HA.out]
      go_wp2_with fail
      (with_reducible refine (rless_c A1 A2 c1 c2 _ _ _ _ m n false w hr1 hr2 rfl rfl (by omega) (by omega) HL.out).mono ?_)
      rintro e w1 ⟨rfl, hb1⟩
      have HB1 := Lib.hid hb1
      clear hb1
      go_wp2_with fail
      have q1 := (hr1.below HB1.out).more HB1.out.size
      have q2 := (hr2.below HB1.out).more HB1.out.size
      (with_reducible refine (rminus_any A1 A2 c1 c2 _ _ (limbs m) (limbs n) w1 q1 q2 rfl rfl (by omega) hmn HLE).mono ?_)
      rw [HV.out]
      rintro e w3 ⟨A3, c3, rfl, hrd, hbl⟩
      have HR3 := Lib.hid hrd
      have HB3 := Lib.hid (HB1.out.trans (hbl.mono HB1.out.size))
      clear hrd hbl
      go_wp2_with fail
      go_ret2
      rw [HQ.out]
      exact ⟨A3, c3, rfl, HR3.out, HB3.out⟩
  · have HQ := Lib.hid (subM_err h)
    have hb : (chk2 a b != 0) = true := by simpa using h
    clear h
    go_enter Tryd.func25, Tryd.ntmps25
    go_wp2_with fail
    refine (rboth_any A1 A2 c1 c2 _ _ a b w hr1 hr2).mono ?_
    rintro e w' ⟨rfl, rfl⟩
    go_wp2_with fail
    go_ret2
    rw [HQ.out]
    exact numErr_bad w _
end Go.Proofs.YtffbmkobholmhaaDoor
