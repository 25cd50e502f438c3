/- The reference's Lowest, Of. -/
import Derived.Test.YtefoccjphbbmhaaQf
namespace Go.Proofs.Ytefoccjphbbmhaa
open Go.RowKit
set_option linter.unusedVariables false

set_option maxRecDepth 100000 in
set_option maxHeartbeats 2000000 in
theorem rlow_any (ng : Bool) (A B : Option Addr) (c d m n k1 k2 : Nat) (w : World) (hr1 : Sl w A c (limbs m)) (hr2 : Sl w B d (limbs n)) (h1 : (limbs m).length = k1) (h2 : (limbs n).length = k2) (hk1 : k1 ≤ 96) (hk2 : k2 ≤ 96) (hn : n ≠ 0) :
    Calls Try.prog 54 #[.bool ng, .slice A k1 c, .slice B k2 d] w (RqR w (low ng m n)) := by
  obtain ⟨g, hg⟩ : ∃ g, g = Nat.gcd m n := ⟨_, rfl⟩
  have hg0 : 0 < g := by rw [hg]; exact Nat.gcd_pos_of_pos_right _ (by omega)
  have hgn : g ≤ n := by rw [hg]; exact Nat.gcd_le_right _ (by omega)
  have hgl : (limbs g).length ≤ 96 := len_le (by omega) hgn
  have hm0 : m / g = 0 ↔ m = 0 := by
    constructor
    · intro e
      have hdvd : g ∣ m := by rw [hg]; exact Nat.gcd_dvd_left _ _
      have := Nat.div_mul_cancel hdvd
      rw [e] at this; omega
    · intro e; rw [e]; exact Nat.zero_div _
  have hlow : low ng m n = ⟨ng && decide (0 < (limbs (m / g)).length), limbs (m / g), limbs (n / g)⟩ := by
    unfold low
    rw [← hg]
    congr 2
    rw [decide_eq_decide]
    constructor
    · intro h; exact List.length_pos_iff.2 (fun e => h (hm0.1 (limbs_len_eq_zero.1 (by rw [e]; rfl))))
    · intro h e; rw [hm0.2 e, limbs_zero] at h; simp at h
  obtain ⟨gl, hgle⟩ : ∃ l, l = limbs g := ⟨_, rfl⟩
  obtain ⟨q1, hq1⟩ : ∃ l, l = limbs (m / g) := ⟨_, rfl⟩
  obtain ⟨q2, hq2⟩ : ∃ l, l = limbs (n / g) := ⟨_, rfl⟩
  obtain ⟨r1, hr1'⟩ : ∃ l, l = limbs (m % g) := ⟨_, rfl⟩
  obtain ⟨r2, hr2'⟩ : ∃ l, l = limbs (n % g) := ⟨_, rfl⟩
  have G : gcdM (limbs m) (limbs n) = (gl, 0) := by rw [hgle]; exact gcdL (by omega) (by omega) hg.symm
  have D1 : divM (limbs m) gl = ((q1, r1), 0) := by rw [hgle, hq1, hr1']; exact divL (by omega) hgl (by omega) rfl rfl
  have D2 : divM (limbs n) gl = ((q2, r2), 0) := by rw [hgle, hq2, hr2']; exact divL (by omega) hgl (by omega) rfl rfl
  rw [← hq1, ← hq2] at hlow
  rw [hlow]
  have HG := Lib.hid (fun wx bs (hk : Kp w bs wx) => rgcd_c A B c d k1 k2 (limbs m) (limbs n) wx gl 0 (hk.sl hr1) (hk.sl hr2) h1 h2 G)
  have HD1 := Lib.hid (fun wx bs (hk : Kp w bs wx) A' c' (hs : Sl wx A' c' gl) => rdiv_c A A' c c' k1 gl.length (limbs m) gl wx q1 r1 0 (hk.sl hr1) hs h1 rfl D1)
  have HD2 := Lib.hid (fun wx bs (hk : Kp w bs wx) A' c' (hs : Sl wx A' c' gl) => rdiv_c B A' d c' k2 gl.length (limbs n) gl wx q2 r2 0 (hk.sl hr2) hs h2 rfl D2)
  have hK := (Kp.refl w).alloc #[.bool false, .slice none 0 0, .slice none 0 0] 27 _ rfl
  have HK := Lib.hid hK
  clear hK hg hg0 hgn hgl hm0 hlow hgle hq1 hq2 hr1' hr2' G D1 D2 hr1 hr2 h1 h2 hn hk1 hk2
  go_enter Try.func54, Try.ntmps54
  go_wp2_with fail
  refine (HG.out _ _ HK.out).mono ?_
  rintro e w1 ⟨A1, c1, rfl, hs1, hb1⟩
  have HK1 := Lib.hid (HK.out.next hb1)
  have HS1 := Lib.hid hs1
  clear hs1 hb1
  go_wp2_with fail
  refine (HD1.out _ _ HK1.out A1 c1 HS1.out).mono ?_
  rintro e w2 ⟨A2, A3, c2, c3, rfl, hs2, hs3, hb2⟩
  have HK2 := Lib.hid (HK1.out.next hb2)
  have HS2 := Lib.hid hs2
  have HS1' := Lib.hid (HS1.out.to hb2)
  clear hs2 hs3 hb2
  go_wp2_with fail
  refine (HD2.out _ _ HK2.out A1 c1 HS1'.out).mono ?_
  rintro e w3 ⟨A4, A5, c4, c5, rfl, hs4, hs5, hb3⟩
  have HK3 := Lib.hid (HK2.out.next hb3)
  have HS4 := Lib.hid hs4
  have HS2' := Lib.hid (HS2.out.to hb3)
  have HB := Lib.hid (HK3.out.blk0)
  clear hs4 hs5 hb3
  have HF := Lib.hid (fun w6 (hg6 : w3.grownBy w6 (some w.heap.size)) => show ∀ b, RqS w6 A2 c2 A4 c4 ⟨b, q1, q2⟩ from fun b => ⟨HS2'.out.off HB.out (noU_rq _ _ _ _ _ _ _) hg6, HS4.out.off HB.out (noU_rq _ _ _ _ _ _ _) hg6⟩)
  cases ng with
  | false =>
    go_wp2_with (first
      | (with_reducible refine wpList_store_rq rfl (.tmp 6) (.tmp 43) rfl w.heap.size rfl HB.out rfl (A := A2) (c := c2) (B := A4) (d := c4) (x := ⟨false, q1, q2⟩) rfl ?_; intro w6 hb6 hg6))
    refine rq_ret rfl rfl hb6 rfl rfl ⟨A2, c2, A4, c4, rfl, HF.out _ hg6 _, below_own HK3.out.1 hg6 (by omega)⟩
  | true =>
    go_wp2_with (first
      | (with_reducible refine wpList_store_rq rfl (.tmp 6) (.tmp 43) rfl w.heap.size rfl HB.out rfl (A := A2) (c := c2) (B := A4) (d := c4) (x := ⟨true && decide (0 < q1.length), q1, q2⟩) rfl ?_; intro w6 hb6 hg6))
    refine rq_ret rfl rfl hb6 rfl rfl ⟨A2, c2, A4, c4, rfl, HF.out _ hg6 _, below_own HK3.out.1 hg6 (by omega)⟩

set_option maxRecDepth 100000 in
set_option maxHeartbeats 1000000 in
theorem rfar_any (n : Int) (m : Nat) (h1 : -9223372036854775808 ≤ n) (h2 : n ≤ 9223372036854775807) (hm : n.natAbs = m) (w : World) :
    Calls Try.prog 56 #[.int .i64 n] w fun e w' => e = .returned (.int .u64 m) ∧ w' = w := by
  by_cases h0 : n < 0
  · have K : decide (n < 0) = true := decide_eq_true h0
    have W1 : IntKind.i64.wrap (n + 1) = n + 1 := i64w (by omega) (by omega)
    have W2 : IntKind.i64.wrap (-(n + 1)) = -(n + 1) := i64w (by omega) (by omega)
    have W3 : IntKind.u64.wrap (-(n + 1)) = -(n + 1) := by rw [IntKind.wrap_u64]; omega
    have W4 : IntKind.u64.wrap (-(n + 1) + 1) = (m : Int) := by rw [IntKind.wrap_u64]; omega
    obtain ⟨z, hz⟩ : ∃ z, z = -(n + 1) := ⟨_, rfl⟩
    rw [← hz] at W2 W3 W4
    have hz' : -(n + 1) = z := hz.symm
    clear hm hz
    go_enter Try.func56, Try.ntmps56
    go_wp2_with fail
    go_ret
    exact ⟨rfl, rfl⟩
  · have K : decide (n < 0) = false := decide_eq_false h0
    have W1 : IntKind.u64.wrap n = (m : Int) := by rw [IntKind.wrap_u64]; omega
    clear hm
    go_enter Try.func56, Try.ntmps56
    go_wp2_with fail
    go_ret
    exact ⟨rfl, rfl⟩

set_option maxRecDepth 100000 in
set_option maxHeartbeats 2000000 in
theorem rOf4_any (n d : Int) (x : Rq) (er : Int) (hn1 : -9223372036854775808 ≤ n) (hn2 : n ≤ 9223372036854775807) (hd1 : -9223372036854775808 ≤ d) (hd2 : d ≤ 9223372036854775807) (hM : Hid (ofR n d = (x, er))) (w : World) :
    Calls Try.prog 30 #[.int .i64 n, .int .i64 d] w (RqE w x er) := by
  by_cases h0 : d = 0
  · subst h0
    obtain ⟨rfl, rfl⟩ : Rq.zero = x ∧ 40 = er := by have := hM.out; unfold ofR at this; rw [if_pos rfl] at this; simpa using this
    go_enter Try.func30, Try.ntmps30
    go_wp2_with fail
    exact rq_ret2 rfl rfl (Blk.new w _ _) rfl rfl ⟨none, 0, none, 0, rfl, RqS.zero _, below_new w _⟩
  · have K0 : (d == 0) = false := by rw [beq_eq_false_iff_ne]; exact h0
    obtain ⟨p, hp⟩ : ∃ p, p = decide (n < 0) := ⟨_, rfl⟩
    obtain ⟨q, hq⟩ : ∃ p, p = decide (d < 0) := ⟨_, rfl⟩
    obtain ⟨m, hm⟩ : ∃ m, n.natAbs = m := ⟨_, rfl⟩
    obtain ⟨k, hk⟩ : ∃ m, d.natAbs = m := ⟨_, rfl⟩
    obtain ⟨hx, rfl⟩ : low (p != q) m k = x ∧ 0 = er := by have := hM.out; rw [ofR_low h0, ← hp, ← hq, hm, hk] at this; simpa using this
    have hml := limbs_few (m := m) (by omega)
    have hkl := limbs_few (m := k) (by omega)
    have HF1 := Lib.hid (fun wx => rfar_any n m hn1 hn2 hm wx)
    have HF2 := Lib.hid (fun wx => rfar_any d k hd1 hd2 hk wx)
    have HS1 := Lib.hid (fun wx => rof_c m wx (limbs m) (by omega) rfl)
    have HS2 := Lib.hid (fun wx => rof_c k wx (limbs k) (by omega) rfl)
    obtain ⟨k1, hk1⟩ : ∃ z, (limbs m).length = z := ⟨_, rfl⟩
    obtain ⟨k2, hk2⟩ : ∃ z, (limbs k).length = z := ⟨_, rfl⟩
    rw [hk1] at HS1 hml
    rw [hk2] at HS2 hkl
    have HL := Lib.hid (fun wx (A B : Option Addr) (c d' : Nat) (h1 : Sl wx A c (limbs m)) (h2 : Sl wx B d' (limbs k)) => rlow_any (p != q) A B c d' m k k1 k2 wx h1 h2 hk1 hk2 hml hkl (by omega))
    have hK := (Kp.refl w).alloc #[.bool false, .slice none 0 0, .slice none 0 0] 27 _ rfl
    have HK := Lib.hid hK
    rw [hx] at HL
    have hp' : decide (n < 0) = p := hp.symm
    have hq' : decide (d < 0) = q := hq.symm
    clear hK hp hq hm hk hk1 hk2 hml hkl h0 hx
    go_enter Try.func30, Try.ntmps30
    go_wp2_with fail
    refine (HF1.out _).mono ?_
    rintro e wz ⟨rfl, rfl⟩
    go_wp2_with fail
    refine (HS1.out _).mono ?_
    rintro e w1 ⟨A1, c1, rfl, hs1, hb1⟩
    have HK1 := Lib.hid (HK.out.next hb1)
    have HQ1 := Lib.hid hs1
    clear hs1 hb1
    go_wp2_with fail
    refine (HF2.out _).mono ?_
    rintro e wz ⟨rfl, rfl⟩
    go_wp2_with fail
    refine (HS2.out _).mono ?_
    rintro e w2 ⟨A2, c2, rfl, hs2, hb2⟩
    have HK2 := Lib.hid (HK1.out.next hb2)
    have HQ1' := Lib.hid (HQ1.out.to hb2)
    have HQ2 := Lib.hid hs2
    clear hs2 hb2
    go_wp2_with fail
    refine (HL.out _ _ _ _ _ HQ1'.out HQ2.out).mono ?_
    rintro e w3 ⟨A3, c3, A4, c4, rfl, hs3, hb3⟩
    have HK3 := Lib.hid (HK2.out.next hb3)
    have HQ3 := Lib.hid hs3
    have HB := Lib.hid HK3.out.blk0
    clear hs3 hb3
    go_wp2_with (first
      | (with_reducible refine wpList_store_rq rfl (.tmp 4) (.tmp 20) rfl w.heap.size rfl HB.out rfl (A := A3) (c := c3) (B := A4) (d := c4) (x := x) rfl ?_; intro w6 hb6 hg6))
    refine rq_ret2 rfl rfl hb6 rfl rfl ⟨A3, c3, A4, c4, rfl, HQ3.out.off HB.out (noU_rq _ _ _ _ _ _ _) hg6, below_own HK3.out.1 hg6 (by omega)⟩
end Go.Proofs.Ytefoccjphbbmhaa
