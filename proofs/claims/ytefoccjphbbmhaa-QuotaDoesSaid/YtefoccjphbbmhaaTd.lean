/- The reference's Check, Floor of rational numbers. -/
import Derived.Test.YtefoccjphbbmhaaTc
namespace Go.Proofs.Ytefoccjphbbmhaa
open Go.RowKit
set_option linter.unusedVariables false

set_option maxRecDepth 100000 in
set_option maxHeartbeats 4000000 in
theorem rCheck4_any (x : Rq) (A B : Option Addr) (c d k1 k2 : Nat) (v : Int) (w : World) (hr : RqS w A c B d x) (h1 : x.num.length = k1) (h2 : x.den.length = k2) (hM : Hid (chkR x = v)) :
    Calls Try.prog 44 #[.agg #[.bool x.neg, .slice A k1 c, .slice B k2 d]] w fun e w' => e = .returned (.int .i64 v) ∧ Below w.heap.size w w' := by
  obtain ⟨ng, a, b⟩ := x
  obtain ⟨hr1, hr2⟩ := hr
  simp only at hr1 hr2 h1 h2 ⊢
  have HK := Lib.hid ((Kp.refl w).alloc #[.bool ng, .slice A k1 c, .slice B k2 d] 27 _ rfl)
  have x0 := HK.out.blk0.at_ 0 rfl
  subst h1 h2
  obtain ⟨cc, hcc⟩ : ∃ cc, chk2 a b = cc := ⟨_, rfl⟩
  have HBO := Lib.hid (fun wx bs (hk : Kp w bs wx) => rboth_any A B c d _ _ a b wx (hk.sl hr1) (hk.sl hr2))
  rw [hcc] at HBO
  obtain ⟨k1, hk1⟩ : ∃ k, a.length = k := ⟨_, rfl⟩
  obtain ⟨k2, hk2⟩ : ∃ k, b.length = k := ⟨_, rfl⟩
  by_cases hc : cc = 0
  · subst hc
    have hI := okR_iff (x := ⟨ng, a, b⟩) hcc
    obtain ⟨gl, hgl⟩ : ∃ l, l = limbs (Nat.gcd (val a) (val b)) := ⟨_, rfl⟩
    have HG := Lib.hid (fun wx bs (hk : Kp w bs wx) => rgcd_c A B c d _ _ a b wx gl 0 (hk.sl hr1) (hk.sl hr2) rfl rfl (by show _ = _; rw [gcdM_ok hcc, hgl]))
    have hI2 : okR ⟨ng, a, b⟩ ↔ gl = [1] ∧ k2 ≠ 0 ∧ ¬ (k1 = 0 ∧ ng = true) := by rw [hgl, ← hk1, ← hk2]; exact hI
    obtain ⟨s, hs⟩ : ∃ s, sameB gl [1] = s := ⟨_, rfl⟩
    have HSM := Lib.hid (fun wx A' c' B' d' (h1 : Sl wx A' c' gl) (h2 : Sl wx B' d' [1]) => rsame_c A' B' c' d' gl.length 1 gl [1] wx s h1 h2 rfl rfl hs)
    have HLI := Lib.hid (fun wx => Sl.lit wx [1] #[.int .u32 1] rfl (by decide))
    have hs1 : s = true ↔ gl = [1] := by rw [← hs]; exact sameB_iff
    rw [hk1, hk2] at HBO HG HK
    rw [hk1, hk2] at x0 ⊢
    clear hI hgl hs hcc hr1 hr2 hk1 hk2
    by_cases hz : k2 = 0
    · subst hz
      obtain rfl : 8 = v := by rw [← hM.out, chkR_no]; rw [hI2]; exact fun h => h.2.1 rfl
      clear hI2 hM hs1
      go_enter Try.func44, Try.ntmps44
      go_wp2_with fail
      refine (HBO.out _ _ HK.out).mono ?_
      rintro e wz ⟨rfl, rfl⟩
      go_wp2_with fail
      go_ret
      exact ⟨rfl, HK.out.1⟩
    · have hz2 : ((k2 : Int) == 0) = false := by rw [beq_eq_false_iff_ne]; omega
      by_cases hy : k1 = 0 ∧ ng = true
      · obtain ⟨rfl, rfl⟩ := hy
        obtain rfl : 8 = v := by rw [← hM.out, chkR_no]; rw [hI2]; exact fun h => h.2.2 ⟨rfl, rfl⟩
        clear hI2 hM hs1 hz
        go_enter Try.func44, Try.ntmps44
        go_wp2_with fail
        refine (HBO.out _ _ HK.out).mono ?_
        rintro e wz ⟨rfl, rfl⟩
        go_wp2_with fail
        go_ret
        exact ⟨rfl, HK.out.1⟩
      · have hy2 : (((k1 : Int) == 0) && ng) = false := by
          cases ng with
          | false => simp
          | true =>
            have : ((k1 : Int) == 0) = false := by rw [beq_eq_false_iff_ne]; intro e; exact hy ⟨by omega, rfl⟩
            rw [this]; rfl
        have hvv : (if s = true then (0 : Int) else 8) = v := by
          rw [← hM.out]
          cases s with
          | true => rw [if_pos rfl, chkR_ok]; rw [hI2]; exact ⟨hs1.1 rfl, hz, hy⟩
          | false => rw [if_neg (by decide), chkR_no]; rw [hI2]; intro h; exact absurd (hs1.2 h.1) (by decide)
        obtain ⟨u, hu⟩ : ∃ u, ((k1 : Int) == 0) = u := ⟨_, rfl⟩
        rw [hu] at hy2
        clear hI2 hM hs1 hz hy
        cases u with
        | false =>
          cases s with
          | true =>
            obtain rfl : 0 = v := hvv
            go_enter Try.func44, Try.ntmps44
            go_wp2_with fail
            refine (HBO.out _ _ HK.out).mono ?_
            rintro e wz ⟨rfl, rfl⟩
            go_wp2_with fail
            refine (HG.out _ _ HK.out).mono ?_
            rintro e w1 ⟨A1, c1, rfl, hs1, hb1⟩
            have HK1 := Lib.hid (HK.out.next hb1)
            have HS1 := Lib.hid hs1
            clear hb1 hs1
            go_wp2_with fail
            refine (HSM.out _ _ _ _ _ (HS1.out.to (below_new _ _)) (HLI.out _)).mono ?_
            rintro e w2 ⟨rfl, hb2⟩
            have HK2 := Lib.hid ((HK1.out.next (below_new w1 (.cells #[.int .u32 1] 55))).next hb2)
            clear hb2
            go_wp2_with fail
            go_ret
            exact ⟨rfl, HK2.out.1⟩
          | false =>
            obtain rfl : 8 = v := hvv
            go_enter Try.func44, Try.ntmps44
            go_wp2_with fail
            refine (HBO.out _ _ HK.out).mono ?_
            rintro e wz ⟨rfl, rfl⟩
            go_wp2_with fail
            refine (HG.out _ _ HK.out).mono ?_
            rintro e w1 ⟨A1, c1, rfl, hs1, hb1⟩
            have HK1 := Lib.hid (HK.out.next hb1)
            have HS1 := Lib.hid hs1
            clear hb1 hs1
            go_wp2_with fail
            refine (HSM.out _ _ _ _ _ (HS1.out.to (below_new _ _)) (HLI.out _)).mono ?_
            rintro e w2 ⟨rfl, hb2⟩
            have HK2 := Lib.hid ((HK1.out.next (below_new w1 (.cells #[.int .u32 1] 55))).next hb2)
            clear hb2
            go_wp2_with fail
            go_ret
            exact ⟨rfl, HK2.out.1⟩
        | true =>
          obtain rfl : ng = false := by simpa using hy2
          cases s with
          | true =>
            obtain rfl : 0 = v := hvv
            go_enter Try.func44, Try.ntmps44
            go_wp2_with fail
            refine (HBO.out _ _ HK.out).mono ?_
            rintro e wz ⟨rfl, rfl⟩
            go_wp2_with fail
            refine (HG.out _ _ HK.out).mono ?_
            rintro e w1 ⟨A1, c1, rfl, hs1, hb1⟩
            have HK1 := Lib.hid (HK.out.next hb1)
            have HS1 := Lib.hid hs1
            clear hb1 hs1
            go_wp2_with fail
            refine (HSM.out _ _ _ _ _ (HS1.out.to (below_new _ _)) (HLI.out _)).mono ?_
            rintro e w2 ⟨rfl, hb2⟩
            have HK2 := Lib.hid ((HK1.out.next (below_new w1 (.cells #[.int .u32 1] 55))).next hb2)
            clear hb2
            go_wp2_with fail
            go_ret
            exact ⟨rfl, HK2.out.1⟩
          | false =>
            obtain rfl : 8 = v := hvv
            go_enter Try.func44, Try.ntmps44
            go_wp2_with fail
            refine (HBO.out _ _ HK.out).mono ?_
            rintro e wz ⟨rfl, rfl⟩
            go_wp2_with fail
            refine (HG.out _ _ HK.out).mono ?_
            rintro e w1 ⟨A1, c1, rfl, hs1, hb1⟩
            have HK1 := Lib.hid (HK.out.next hb1)
            have HS1 := Lib.hid hs1
            clear hb1 hs1
            go_wp2_with fail
            refine (HSM.out _ _ _ _ _ (HS1.out.to (below_new _ _)) (HLI.out _)).mono ?_
            rintro e w2 ⟨rfl, hb2⟩
            have HK2 := Lib.hid ((HK1.out.next (below_new w1 (.cells #[.int .u32 1] 55))).next hb2)
            clear hb2
            go_wp2_with fail
            go_ret
            exact ⟨rfl, HK2.out.1⟩
  · obtain rfl : 8 = v := by rw [← hM.out, chkR_no]; exact fun h => hc (by rw [← hcc]; exact h.1)
    have hc2 : (cc != 0) = true := by simpa using hc
    clear hc hM hcc hr1 hr2
    rw [hk1, hk2] at HBO HK
    rw [hk1, hk2] at x0 ⊢
    clear hk1 hk2
    go_enter Try.func44, Try.ntmps44
    go_wp2_with fail
    refine (HBO.out _ _ HK.out).mono ?_
    rintro e wz ⟨rfl, rfl⟩
    go_wp2_with fail
    go_ret
    exact ⟨rfl, HK.out.1⟩
end Go.Proofs.Ytefoccjphbbmhaa
