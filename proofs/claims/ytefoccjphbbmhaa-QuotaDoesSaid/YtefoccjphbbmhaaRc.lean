/- ratio's Of, Whole, Check. -/
import Derived.Test.YtefoccjphbbmhaaRb
namespace Go.Proofs.Ytefoccjphbbmhaa
open Go.RowKit
set_option linter.unusedVariables false

theorem limbs_few {m : Nat} (h : m < 18446744073709551616) : (limbs m).length ≤ 96 := by
  rw [limbs_len_le]
  exact Nat.lt_of_lt_of_le h (Nat.le_trans (show 18446744073709551616 ≤ bp 2 by decide) (bp_mono (by omega)))

set_option maxRecDepth 100000 in
set_option maxHeartbeats 2000000 in
theorem qOf_any (n d : Int) (x : Rq) (er : Int) (hn1 : -9223372036854775808 ≤ n) (hn2 : n ≤ 9223372036854775807) (hd1 : -9223372036854775808 ≤ d) (hd2 : d ≤ 9223372036854775807) (hM : Hid (ofR n d = (x, er))) (w : World) :
    Calls Try.prog 29 #[.int .i64 n, .int .i64 d] w (RqE w x er) := by
  by_cases h0 : d = 0
  · subst h0
    obtain ⟨rfl, rfl⟩ : Rq.zero = x ∧ 40 = er := by have := hM.out; unfold ofR at this; rw [if_pos rfl] at this; simpa using this
    go_enter Try.func29, Try.ntmps29
    go_wp2_with fail
    exact rq_ret2 rfl rfl (Blk.new w _ _) rfl rfl ⟨none, 0, none, 0, rfl, RqS.zero _, below_new w _⟩
  · have K0 : (d == 0) = false := by rw [beq_eq_false_iff_ne]; exact h0
    obtain ⟨p, hp⟩ : ∃ p, p = decide (n < 0) := ⟨_, rfl⟩
    obtain ⟨q, hq⟩ : ∃ p, p = decide (d < 0) := ⟨_, rfl⟩
    obtain ⟨m, hm⟩ : ∃ m, n.natAbs = m := ⟨_, rfl⟩
    obtain ⟨k, hk⟩ : ∃ m, d.natAbs = m := ⟨_, rfl⟩
    obtain ⟨hx, rfl⟩ : low (p != q) m k = x ∧ 0 = er := by have := hM.out; rw [ofR_low h0, ← hp, ← hq, hm, hk] at this; simpa using this
    have hml := limbs_few (m := m) (by omega)
    have hkl := limbs_few (m := k) (by omega)
    have HS1 := Lib.hid (fun wx => sizeOf_any n m hn1 hn2 hm wx)
    have HS2 := Lib.hid (fun wx => sizeOf_any d k hd1 hd2 hk wx)
    obtain ⟨k1, hk1⟩ : ∃ z, (limbs m).length = z := ⟨_, rfl⟩
    obtain ⟨k2, hk2⟩ : ∃ z, (limbs k).length = z := ⟨_, rfl⟩
    rw [hk1] at HS1 hml
    rw [hk2] at HS2 hkl
    have HL := Lib.hid (fun wx (A B : Option Addr) (c d' : Nat) (h1 : Sl wx A c (limbs m)) (h2 : Sl wx B d' (limbs k)) => lowest_any (p != q) A B c d' m k k1 k2 wx h1 h2 hk1 hk2 hml hkl (by omega))
    have hK := (Kp.refl w).alloc #[.bool false, .slice none 0 0, .slice none 0 0] 27 _ rfl
    have HK := Lib.hid hK
    rw [hx] at HL
    have hp' : decide (n < 0) = p := hp.symm
    have hq' : decide (d < 0) = q := hq.symm
    clear hK hp hq hm hk hk1 hk2 hml hkl h0 hx
    go_enter Try.func29, Try.ntmps29
    go_wp2_with fail
    refine (HS1.out _).mono ?_
    rintro e w1 ⟨A1, c1, rfl, hs1, hb1⟩
    have HK1 := Lib.hid (HK.out.next hb1)
    have HQ1 := Lib.hid hs1
    clear hs1 hb1
    go_wp2_with fail
    refine (HS2.out _).mono ?_
    rintro e w2 ⟨A2, c2, rfl, hs2, hb2⟩
    have HK2 := Lib.hid (HK1.out.next hb2)
    have HQ1' := Lib.hid (HQ1.out.to hb2)
    have HQ2 := Lib.hid hs2
    clear hs2 hb2
    go_wp2_with fail
    refine (HL.out _ _ _ _ _ HQ1'.out HQ2.out).mono ?_
    rintro e w3 ⟨A3, c3, A4, c4, rfl, hs3, hb3⟩
    have HK3 := Lib.hid (HK2.out.next hb3)
    have HQ3 := Lib.hid hs3
    have HB := Lib.hid HK3.out.blk0
    clear hs3 hb3
    go_wp2_with (first
      | (with_reducible refine wpList_store_rq rfl (.tmp 4) (.tmp 19) rfl w.heap.size rfl HB.out rfl (A := A3) (c := c3) (B := A4) (d := c4) (x := x) rfl ?_; intro w6 hb6 hg6))
    refine rq_ret2 rfl rfl hb6 rfl rfl ⟨A3, c3, A4, c4, rfl, HQ3.out.off HB.out (noU_rq _ _ _ _ _ _ _) hg6, below_own HK3.out.1 hg6 (by omega)⟩

set_option maxRecDepth 100000 in
set_option maxHeartbeats 2000000 in
theorem qWhole_any (n : Int) (x : Rq) (hn1 : -9223372036854775808 ≤ n) (hn2 : n ≤ 9223372036854775807) (hM : Hid (wholeR n = x)) (w : World) :
    Calls Try.prog 42 #[.int .i64 n] w (RqR w x) := by
  obtain ⟨p, hp⟩ : ∃ p, p = decide (n < 0) := ⟨_, rfl⟩
  obtain ⟨m, hm⟩ : ∃ m, n.natAbs = m := ⟨_, rfl⟩
  have hx : (⟨p, limbs m, [1]⟩ : Rq) = x := by rw [← hM.out, wholeR_is, hm, hp]
  have HS1 := Lib.hid (fun wx => sizeOf_any n m hn1 hn2 hm wx)
  have HS2 := Lib.hid (fun wx => of_c 1 wx [1] (by omega) limbs_one)
  obtain ⟨l, hl⟩ : ∃ l, limbs m = l := ⟨_, rfl⟩
  rw [hl] at HS1 hx
  obtain ⟨o, ho⟩ : ∃ o : List UInt32, [1] = o := ⟨_, rfl⟩
  rw [ho] at HS2 hx
  have hK := (Kp.refl w).alloc #[.bool false, .slice none 0 0, .slice none 0 0] 27 _ rfl
  have HK := Lib.hid hK
  have hp' : decide (n < 0) = p := hp.symm
  subst hx
  clear hK hp hm hl ho
  go_enter Try.func42, Try.ntmps42
  go_wp2_with fail
  refine (HS1.out _).mono ?_
  rintro e w1 ⟨A1, c1, rfl, hs1, hb1⟩
  have HK1 := Lib.hid (HK.out.next hb1)
  have HQ1 := Lib.hid hs1
  clear hs1 hb1
  go_wp2_with fail
  refine (HS2.out _).mono ?_
  rintro e w2 ⟨A2, c2, rfl, hs2, hb2⟩
  have HK2 := Lib.hid (HK1.out.next hb2)
  have HQ1' := Lib.hid (HQ1.out.to hb2)
  have HQ2 := Lib.hid hs2
  have HB := Lib.hid HK2.out.blk0
  clear hs2 hb2
  go_wp2_with (first
    | (with_reducible refine wpList_store_rq rfl (.tmp 2) (.tmp 8) rfl w.heap.size rfl HB.out rfl (A := A1) (c := c1) (B := A2) (d := c2) (x := ⟨p, l, o⟩) rfl ?_; intro w6 hb6 hg6))
  refine rq_ret rfl rfl hb6 rfl rfl ⟨A1, c1, A2, c2, rfl, ⟨HQ1'.out.off HB.out (noU_rq _ _ _ _ _ _ _) hg6, HQ2.out.off HB.out (noU_rq _ _ _ _ _ _ _) hg6⟩, below_own HK2.out.1 hg6 (by omega)⟩

set_option maxRecDepth 100000 in
set_option maxHeartbeats 2000000 in
theorem qCheck_any (x : Rq) (A B : Option Addr) (c d k1 k2 : Nat) (v : Int) (w : World) (hr : RqS w A c B d x) (h1 : x.num.length = k1) (h2 : x.den.length = k2) (hM : Hid (chkR x = v)) :
    Calls Try.prog 41 #[.agg #[.bool x.neg, .slice A k1 c, .slice B k2 d]] w fun e w' => e = .returned (.int .i64 v) ∧ Below w.heap.size w w' := by
  obtain ⟨ng, a, b⟩ := x
  obtain ⟨hr1, hr2⟩ := hr
  simp only at hr1 hr2 h1 h2 ⊢
  have hK := (Kp.refl w).alloc #[.bool ng, .slice A k1 c, .slice B k2 d] 27 _ rfl
  have HK := Lib.hid hK
  by_cases hc : chk2 a b = 0
  · have HI := Lib.hid (show okR ⟨ng, a, b⟩ ↔ limbs (Nat.gcd (val a) (val b)) = [1] ∧ b.length ≠ 0 ∧ ¬ (a.length = 0 ∧ ng = true) from okR_iff (x := ⟨ng, a, b⟩) hc)
    obtain ⟨gl, hgl⟩ : ∃ l, l = limbs (Nat.gcd (val a) (val b)) := ⟨_, rfl⟩
    have HG := Lib.hid (fun wx bs (hk : Kp w bs wx) => gcd_c A B c d k1 k2 a b wx gl 0 (hk.sl hr1) (hk.sl hr2) h1 h2 (by show _ = _; rw [gcdM_ok hc, hgl]))
    rw [← hgl] at HI
    have HO := Lib.hid (fun wx A' c' (hs : Sl wx A' c' gl) => isOne_any gl A' c' gl.length wx hs rfl)
    rw [h1, h2] at HI
    have HZ := Lib.hid (fun wx => isZero_any ng A B k1 c k2 d wx)
    by_cases ho : gl = [1]
    · have hod : decide (gl = [1]) = true := decide_eq_true ho
      have hI : okR ⟨ng, a, b⟩ ↔ k2 ≠ 0 ∧ ¬ (k1 = 0 ∧ ng = true) := by rw [HI.out]; exact ⟨fun h => h.2, fun h => ⟨ho, h⟩⟩
      rw [hod] at HO
      clear ho hod HI hgl hc h1 h2 hr1 hr2 hK
      by_cases hz : k2 = 0
      · subst hz
        obtain rfl : 8 = v := by rw [← hM.out, chkR_no]; rw [hI]; exact fun h => h.1 rfl
        clear hI hM
        go_enter Try.func41, Try.ntmps41
        go_wp2_with fail
        refine (HG.out _ _ HK.out).mono ?_
        rintro e w1 ⟨A1, c1, rfl, hs1, hb1⟩
        have HK1 := Lib.hid (HK.out.next hb1)
        have HQ := Lib.hid hs1
        have x2 := HK1.out.blk0.at_ 2 rfl
        clear hs1 hb1
        go_wp2_with fail
        refine (HO.out _ _ _ HQ.out).mono ?_
        rintro e w2 ⟨rfl, rfl⟩
        go_wp2_with fail
        go_ret
        exact ⟨rfl, HK1.out.1⟩
      · have hz2 : ((k2 : Int) == 0) = false := by rw [beq_eq_false_iff_ne]; omega
        by_cases hz1 : k1 = 0
        · subst hz1
          cases ng with
          | true =>
            obtain rfl : 8 = v := by rw [← hM.out, chkR_no]; rw [hI]; exact fun h => h.2 ⟨rfl, rfl⟩
            clear hI hM hz
            go_enter Try.func41, Try.ntmps41
            go_wp2_with fail
            refine (HG.out _ _ HK.out).mono ?_
            rintro e w1 ⟨A1, c1, rfl, hs1, hb1⟩
            have HK1 := Lib.hid (HK.out.next hb1)
            have HQ := Lib.hid hs1
            have x2 := HK1.out.blk0.at_ 2 rfl
            clear hs1 hb1
            go_wp2_with fail
            refine (HO.out _ _ _ HQ.out).mono ?_
            rintro e w2 ⟨rfl, rfl⟩
            go_wp2_with (first | (with_reducible refine wpList_load_rq (by kernel_rfl) (.tmp 1) rfl w.heap.size rfl HK1.out.blk0 rfl ?_))
            refine (HZ.out _).mono ?_
            rintro e w3 ⟨rfl, hb3⟩
            have HK3 := Lib.hid (HK1.out.next hb3)
            have x0 := HK3.out.blk0.at_ 0 rfl
            go_wp2_with fail
            go_ret
            exact ⟨rfl, HK3.out.1⟩
          | false =>
            obtain rfl : 0 = v := by rw [← hM.out, chkR_ok]; rw [hI]; exact ⟨hz, fun h => by cases h.2⟩
            clear hI hM hz
            go_enter Try.func41, Try.ntmps41
            go_wp2_with fail
            refine (HG.out _ _ HK.out).mono ?_
            rintro e w1 ⟨A1, c1, rfl, hs1, hb1⟩
            have HK1 := Lib.hid (HK.out.next hb1)
            have HQ := Lib.hid hs1
            have x2 := HK1.out.blk0.at_ 2 rfl
            clear hs1 hb1
            go_wp2_with fail
            refine (HO.out _ _ _ HQ.out).mono ?_
            rintro e w2 ⟨rfl, rfl⟩
            go_wp2_with (first | (with_reducible refine wpList_load_rq (by kernel_rfl) (.tmp 1) rfl w.heap.size rfl HK1.out.blk0 rfl ?_))
            refine (HZ.out _).mono ?_
            rintro e w3 ⟨rfl, hb3⟩
            have HK3 := Lib.hid (HK1.out.next hb3)
            have x0 := HK3.out.blk0.at_ 0 rfl
            go_wp2_with fail
            go_ret
            exact ⟨rfl, HK3.out.1⟩
        · have hz3 : ((k1 : Int) == 0) = false := by rw [beq_eq_false_iff_ne]; omega
          obtain rfl : 0 = v := by rw [← hM.out, chkR_ok]; rw [hI]; exact ⟨hz, fun h => hz1 h.1⟩
          clear hI hM hz hz1
          rw [hz3] at HZ
          go_enter Try.func41, Try.ntmps41
          go_wp2_with fail
          refine (HG.out _ _ HK.out).mono ?_
          rintro e w1 ⟨A1, c1, rfl, hs1, hb1⟩
          have HK1 := Lib.hid (HK.out.next hb1)
          have HQ := Lib.hid hs1
          have x2 := HK1.out.blk0.at_ 2 rfl
          clear hs1 hb1
          go_wp2_with fail
          refine (HO.out _ _ _ HQ.out).mono ?_
          rintro e w2 ⟨rfl, rfl⟩
          go_wp2_with (first | (with_reducible refine wpList_load_rq (by kernel_rfl) (.tmp 1) rfl w.heap.size rfl HK1.out.blk0 rfl ?_))
          refine (HZ.out _).mono ?_
          rintro e w3 ⟨rfl, hb3⟩
          have HK3 := Lib.hid (HK1.out.next hb3)
          go_wp2_with fail
          go_ret
          exact ⟨rfl, HK3.out.1⟩
    · have hod : decide (gl = [1]) = false := decide_eq_false ho
      rw [hod] at HO
      obtain rfl : 8 = v := by rw [← hM.out, chkR_no]; rw [HI.out]; exact fun h => ho h.1
      clear ho hod HI hgl hc h1 h2 hr1 hr2 hK hM
      go_enter Try.func41, Try.ntmps41
      go_wp2_with fail
      refine (HG.out _ _ HK.out).mono ?_
      rintro e w1 ⟨A1, c1, rfl, hs1, hb1⟩
      have HK1 := Lib.hid (HK.out.next hb1)
      have HQ := Lib.hid hs1
      clear hs1 hb1
      go_wp2_with fail
      refine (HO.out _ _ _ HQ.out).mono ?_
      rintro e w2 ⟨rfl, rfl⟩
      go_wp2_with fail
      go_ret
      exact ⟨rfl, HK1.out.1⟩
  · obtain rfl : 8 = v := by rw [← hM.out, chkR_no]; exact fun h => hc h.1
    obtain ⟨er, her⟩ : ∃ er, er = chk2 a b := ⟨_, rfl⟩
    have HG := Lib.hid (fun wx bs (hk : Kp w bs wx) => gcd_c A B c d k1 k2 a b wx [] er (hk.sl hr1) (hk.sl hr2) h1 h2 (by show _ = _; rw [gcdM_err hc, her]))
    have hne : (er != 0) = true := by rw [her]; simpa using hc
    clear her hc h1 h2 hr1 hr2 hK hM
    go_enter Try.func41, Try.ntmps41
    go_wp2_with fail
    refine (HG.out _ _ HK.out).mono ?_
    rintro e w1 ⟨A1, c1, rfl, hs1, hb1⟩
    have HK1 := Lib.hid (HK.out.next hb1)
    clear hs1 hb1
    go_wp2_with fail
    go_ret
    exact ⟨rfl, HK1.out.1⟩
end Go.Proofs.Ytefoccjphbbmhaa
