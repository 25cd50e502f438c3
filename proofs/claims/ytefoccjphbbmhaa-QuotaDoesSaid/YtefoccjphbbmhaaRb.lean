/- ratio's lowest, Of, Whole. -/
import Derived.Test.YtefoccjphbbmhaaRa
namespace Go.Proofs.Ytefoccjphbbmhaa
open Go.RowKit
set_option linter.unusedVariables false

set_option maxRecDepth 100000 in
set_option maxHeartbeats 2000000 in
theorem lowest_any (ng : Bool) (A B : Option Addr) (c d m n k1 k2 : Nat) (w : World) (hr1 : Sl w A c (limbs m)) (hr2 : Sl w B d (limbs n)) (h1 : (limbs m).length = k1) (h2 : (limbs n).length = k2) (hk1 : k1 ≤ 96) (hk2 : k2 ≤ 96) (hn : n ≠ 0) :
    Calls Try.prog 52 #[.agg #[.bool ng, .slice A k1 c, .slice B k2 d]] w (RqR w (low ng m n)) := by
  obtain ⟨g, hg⟩ : ∃ g, g = Nat.gcd m n := ⟨_, rfl⟩
  have hg0 : 0 < g := by rw [hg]; exact Nat.gcd_pos_of_pos_right _ (by omega)
  have hgn : g ≤ n := by rw [hg]; exact Nat.gcd_le_right _ (by omega)
  have hgl : (limbs g).length ≤ 96 := len_le (by omega) hgn
  have hm0 : m / g = 0 ↔ m = 0 := by
    constructor
    · intro e
      have hdvd : g ∣ m := by rw [hg]; exact Nat.gcd_dvd_left _ _
      have := Nat.div_mul_cancel hdvd
      rw [e] at this; omega
    · intro e; rw [e]; exact Nat.zero_div _
  have hlow : low ng m n = ⟨ng && decide (0 < (limbs (m / g)).length), limbs (m / g), limbs (n / g)⟩ := by
    unfold low
    rw [← hg]
    congr 2
    rw [decide_eq_decide]
    constructor
    · intro h; exact List.length_pos_iff.2 (fun e => h (hm0.1 (limbs_len_eq_zero.1 (by rw [e]; rfl))))
    · intro h e; rw [hm0.2 e, limbs_zero] at h; simp at h
  obtain ⟨gl, hgle⟩ : ∃ l, l = limbs g := ⟨_, rfl⟩
  obtain ⟨q1, hq1⟩ : ∃ l, l = limbs (m / g) := ⟨_, rfl⟩
  obtain ⟨q2, hq2⟩ : ∃ l, l = limbs (n / g) := ⟨_, rfl⟩
  obtain ⟨r1, hr1'⟩ : ∃ l, l = limbs (m % g) := ⟨_, rfl⟩
  obtain ⟨r2, hr2'⟩ : ∃ l, l = limbs (n % g) := ⟨_, rfl⟩
  have G : gcdM (limbs m) (limbs n) = (gl, 0) := by rw [hgle]; exact gcdL (by omega) (by omega) hg.symm
  have D1 : divM (limbs m) gl = ((q1, r1), 0) := by rw [hgle, hq1, hr1']; exact divL (by omega) hgl (by omega) rfl rfl
  have D2 : divM (limbs n) gl = ((q2, r2), 0) := by rw [hgle, hq2, hr2']; exact divL (by omega) hgl (by omega) rfl rfl
  rw [← hq1, ← hq2] at hlow
  rw [hlow]
  have HG := Lib.hid (fun wx bs (hk : Kp w bs wx) => gcd_c A B c d k1 k2 (limbs m) (limbs n) wx gl 0 (hk.sl hr1) (hk.sl hr2) h1 h2 G)
  have HD1 := Lib.hid (fun wx bs (hk : Kp w bs wx) A' c' (hs : Sl wx A' c' gl) => div_c A A' c c' k1 gl.length (limbs m) gl wx q1 r1 0 (hk.sl hr1) hs h1 rfl D1)
  have HD2 := Lib.hid (fun wx bs (hk : Kp w bs wx) A' c' (hs : Sl wx A' c' gl) => div_c B A' d c' k2 gl.length (limbs n) gl wx q2 r2 0 (hk.sl hr2) hs h2 rfl D2)
  have hK := ((Kp.refl w).alloc #[.bool ng, .slice A k1 c, .slice B k2 d] 27 _ rfl).alloc #[.bool false, .slice none 0 0, .slice none 0 0] 27 (w.heap.size + 1) (by simp)
  have HK := Lib.hid hK
  clear hK hg hg0 hgn hgl hm0 hlow hgle hq1 hq2 hr1' hr2' G D1 D2 hr1 hr2 h1 h2 hn hk1 hk2
  go_enter Try.func52, Try.ntmps52
  go_wp2_with fail
  refine (HG.out _ _ HK.out).mono ?_
  rintro e w1 ⟨A1, c1, rfl, hs1, hb1⟩
  have HK1 := Lib.hid (HK.out.next hb1)
  have HS1 := Lib.hid hs1
  have x0 := HK1.out.blk1.at_ 0 rfl
  have x1 := HK1.out.blk1.at_ 1 rfl
  have x2 := HK1.out.blk1.at_ 2 rfl
  clear hs1 hb1
  go_wp2_with fail
  refine (HD1.out _ _ HK1.out A1 c1 HS1.out).mono ?_
  rintro e w2 ⟨A2, A3, c2, c3, rfl, hs2, hs3, hb2⟩
  have HK2 := Lib.hid (HK1.out.next hb2)
  have HS2 := Lib.hid hs2
  have HS1' := Lib.hid (HS1.out.to hb2)
  clear x0 x1 x2
  have x0 := HK2.out.blk1.at_ 0 rfl
  have x1 := HK2.out.blk1.at_ 1 rfl
  have x2 := HK2.out.blk1.at_ 2 rfl
  clear hs2 hs3 hb2
  go_wp2_with fail
  refine (HD2.out _ _ HK2.out A1 c1 HS1'.out).mono ?_
  rintro e w3 ⟨A4, A5, c4, c5, rfl, hs4, hs5, hb3⟩
  have HK3 := Lib.hid (HK2.out.next hb3)
  have HS4 := Lib.hid hs4
  have HS2' := Lib.hid (HS2.out.to hb3)
  clear x0 x1 x2
  have x0 := HK3.out.blk1.at_ 0 rfl
  have HB := Lib.hid (HK3.out.blk0)
  clear hs4 hs5 hb3
  have HF := Lib.hid (fun w6 (hg6 : w3.grownBy w6 (some (w.heap.size + 1))) => show ∀ b, RqS w6 A2 c2 A4 c4 ⟨b, q1, q2⟩ from fun b => ⟨HS2'.out.off HB.out (noU_rq _ _ _ _ _ _ _) hg6, HS4.out.off HB.out (noU_rq _ _ _ _ _ _ _) hg6⟩)
  cases ng with
  | false =>
    go_wp2_with (first
      | (with_reducible refine wpList_store_rq rfl (.tmp 2) (.tmp 44) rfl (w.heap.size + 1) rfl HB.out rfl (A := A2) (c := c2) (B := A4) (d := c4) (x := ⟨false, q1, q2⟩) rfl ?_; intro w6 hb6 hg6))
    refine rq_ret rfl rfl hb6 rfl rfl ⟨A2, c2, A4, c4, rfl, HF.out _ hg6 _, below_own HK3.out.1 hg6 (by omega)⟩
  | true =>
    go_wp2_with (first
      | (with_reducible refine wpList_store_rq rfl (.tmp 2) (.tmp 44) rfl (w.heap.size + 1) rfl HB.out rfl (A := A2) (c := c2) (B := A4) (d := c4) (x := ⟨true && decide (0 < q1.length), q1, q2⟩) rfl ?_; intro w6 hb6 hg6))
    refine rq_ret rfl rfl hb6 rfl rfl ⟨A2, c2, A4, c4, rfl, HF.out _ hg6 _, below_own HK3.out.1 hg6 (by omega)⟩
end Go.Proofs.Ytefoccjphbbmhaa
