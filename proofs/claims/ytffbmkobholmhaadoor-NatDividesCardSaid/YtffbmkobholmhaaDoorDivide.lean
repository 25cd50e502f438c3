/- nat's divide. -/
import Derived.Test.YtffbmkobholmhaaDoorOnce
import Derived.Test.YtffbmkobholmhaaDoorDivPure
namespace Go.Proofs.YtffbmkobholmhaaDoor
open Go.RowKit
set_option linter.unusedVariables false

theorem shiftedUp_n (A : Option Addr) (c n na : Nat) (a : List UInt32) (w : World) (hr : Rf uv w w.heap.size A c a) (ha : a.length ≤ 400000) (hn : n ≤ 31) (hna : a.length = na) :
    Calls Tryd.prog 69 #[.slice A na c, .int .i64 n] w fun e w' => MulP w w' (na + 1) (val a * 2 ^ n) e := by
  subst hna
  exact shiftedUp_any A c n a w hr ha hn
theorem twin_n (A : Option Addr) (c B n na : Nat) (L : List UInt32) (w : World) (hr : Rf uv w B A c L) (hB : B ≤ w.heap.size) (hn : L.length ≤ n) (hl : n ≤ 1000000) (hna : L.length = na) :
    Calls Tryd.prog 46 #[.slice A na c, .int .i64 n] w fun e w' => e = .returned (.slice (some ⟨w.heap.size, 0, none⟩) n n) ∧ Ub w' w.heap.size 45 (L ++ List.replicate (n - L.length) 0) ∧ Below w.heap.size w w' ∧ w.heap.size < w'.heap.size := by
  subst hna
  exact twin_any A c B n L w hr hB hn hl
theorem trim_n (A : Option Addr) (c B na k : Nat) (L : List UInt32) (w : World) (hr : Rf uv w B A c L) (hl : L.length ≤ 1000000) (hna : L.length = na) (hk : (limbs (val L)).length = k) :
    Calls Tryd.prog 45 #[.slice A na c] w fun e w' => e = .returned (.slice A k k) ∧ w = w' := by
  subst hna hk
  exact trim_any A c B L w hr hl
theorem divideOnce_n (g i j n n1 c cb B : Nat) (A : Option Addr) (L D : List UInt32) (w : World) (hu : Ub w g 45 L) (hn : n = j + 1) (hn1 : n1 = n + 1) (hD : D.length = n) (hon : i + (n + 1) ≤ L.length) (hnc : n + 1 ≤ c) (hl : L.length ≤ 1000000) (hr : Rf uv w B A cb D) (hB : B ≤ w.heap.size) (hne : 0 < D.length → blk A ≠ some g)
    (hd0 : ∀ h : j < D.length, D[j] ≠ 0) (hlt : val (seg L i (n + 1)) < val D * 4294967296) :
    Calls Tryd.prog 70 #[.slice (some ⟨g, i, none⟩) n1 c, .slice A n cb] w fun e w' => OnceP g i n L D w w' e := by
  subst hn1
  exact divideOnce_any g i j n c cb B A L D w hu hn hD hon hnc hl hr hB hne hd0 hlt

def DivP (w w' : World) (q r : Nat) (e : Ending) : Prop :=
  ∃ A1 A2 c1 c2, e = .returned (.tuple #[.slice A1 (limbs q).length c1, .slice A2 (limbs r).length c2]) ∧ Rf uv w' w'.heap.size A1 c1 (limbs q) ∧ Rf uv w' w'.heap.size A2 c2 (limbs r) ∧ Below w.heap.size w w'

/-- What holds at the head of the loop of divide. -/
structure DivRel (w wr : World) (g1 g2 g3 la j m n s k : Nat) (R D0 Q : List UInt32) : Prop where
  lr : R.length = la + 1
  lq : Q.length = la - j
  hi : val (R.drop k) < n * 2 ^ s
  sum : m * 2 ^ s = val R + n * 2 ^ s * (bp k * val (Q.drop k))
  u1 : Ub wr g1 45 R
  u2 : Ub wr g2 45 D0
  u3 : Ub wr g3 45 Q
  bel : Below w.heap.size w wr
theorem div_reads {w : World} {g j n s : Nat} {D0 : List UInt32} (hu : Ub w g 45 D0) (hl : D0.length = j + 1 + 1) (hv : val D0 = n * 2 ^ s) (hd : (limbs (n * 2 ^ s)).length = j + 1) (hj : j + 1 ≤ 400000) : Rf uv w w.heap.size (some ⟨g, 0, none⟩) (j + 1) (limbs (n * 2 ^ s)) := by
  have h := (hu.rf_all (c := j + 1 + 1) (Nat.le_of_eq hl) (by unfold maxLen; omega)).trim
  rw [hv, hd] at h
  exact h

set_option maxRecDepth 100000 in
set_option maxHeartbeats 2000000 in
theorem divide_any (A1 A2 : Option Addr) (c1 c2 m n : Nat) (w : World) (hr1 : Rf uv w w.heap.size A1 c1 (limbs m)) (hr2 : Rf uv w w.heap.size A2 c2 (limbs n)) (hm : (limbs m).length ≤ 400000) (hn : (limbs n).length ≤ 400000) (hn0 : 0 < n) :
    Calls Tryd.prog 53 #[.slice A1 (limbs m).length c1, .slice A2 (limbs n).length c2] w fun e w' => DivP w w' (m / n) (m % n) e := by
  obtain ⟨la, hla⟩ : ∃ la, (limbs m).length = la := ⟨_, rfl⟩
  have hj0 : (limbs n).length ≠ 0 := fun e => by rw [limbs_len_eq_zero] at e; omega
  obtain ⟨j, hj⟩ : ∃ j, (limbs n).length = j + 1 := ⟨(limbs n).length - 1, by omega⟩
  clear hj0
  rw [hla, hj]
  rw [hla] at hm
  rw [hj] at hn
  have hcap1 : la ≤ c1 := by rw [← hla]; exact hr1.cap
  have hcap2 : j + 1 ≤ c2 := by rw [← hj]; exact hr2.cap
  have HLA := Lib.hid hla
  have HJ := Lib.hid hj
  by_cases hlt : la < j + 1
  · have hmn : m < n := val_lt_of_len (by omega)
    have HQ := Lib.hid (show m / n = 0 from Nat.div_eq_of_lt hmn)
    have HR := Lib.hid (show m % n = m from Nat.mod_eq_of_lt hmn)
    have hlt2 : (la : Int) < (j : Int) + 1 := by omega
    clear hla hj
    go_enter Tryd.func53, Tryd.ntmps53
    go_wp2_with fail
    (with_reducible refine (twin_n A1 c1 w.heap.size la la (limbs m) w hr1 (Nat.le_refl _) (Nat.le_of_eq HLA.out) (by omega) HLA.out).mono ?_)
    rintro e w1 ⟨rfl, hu1, hb1, hs1⟩
    have HU := Lib.hid hu1
    have HB1 := Lib.hid hb1
    clear hu1 hb1
    go_wp2_with fail
    go_ret2
    rw [HQ.out, HR.out]
    refine ⟨none, some ⟨w.heap.size, 0, none⟩, 0, la, ?_, ?_, ?_, HB1.out⟩
    · rw [limbs_zero, HLA.out]; rfl
    · rw [limbs_zero]; exact Rf.empty _ _
    · have e := HU.out
      have e2 : limbs m ++ List.replicate (la - (limbs m).length) 0 = limbs m := by rw [HLA.out]; simp
      rw [e2] at e
      exact e.rf_all (Nat.le_of_eq HLA.out) (by unfold maxLen; omega)
  · have hjl : j < (limbs n).length := by omega
    obtain ⟨b, o, rfl, hb, hcd⟩ := hr2.at_ hjl
    have hc3 := hcd j hjl
    unfold uv at hc3
    clear hcd
    have hx3 := u32_lt (limbs n)[j]
    have hdp : 0 < ((limbs n)[j]).toNat := by
      rcases Nat.eq_zero_or_pos ((limbs n)[j]).toNat with e | e
      · exact absurd (u32_eq (by rw [e]; rfl)) (limbs_last hj)
      · exact e
    obtain ⟨x, hx⟩ : ∃ x, x = ((limbs n)[j]).toNat := ⟨_, rfl⟩
    have HSL : ∀ s, s ≤ 31 → x * 2 ^ s < 4294967296 → (limbs (n * 2 ^ s)).length = j + 1 := fun s hs ht => shifted_len hj hs (by rw [← hx]; exact ht)
    rw [← hx] at hc3 hx3 hdp
    have HS0 := Lib.hid HSL
    have hlt2 : (j : Int) + 1 ≤ (la : Int) := by omega
    have hlt3 : decide ((la : Int) < (j : Int) + 1) = false := by simp; omega
    clear hla hj hx HSL
    go_enter Tryd.func53, Tryd.ntmps53
    go_wp2_with fail
    refine (zeros_any x w hx3 hdp).mono ?_
    rintro e w' ⟨s, rfl, hs, hxs, rfl⟩
    have HSL := Lib.hid (HS0.out s hs hxs)
    clear hxs
    go_wp2_with fail
    (with_reducible refine (shiftedUp_n A1 c1 s la (limbs m) w hr1 (by rw [HLA.out]; exact hm) hs HLA.out).mono ?_)
    rintro e w1 ⟨R0, rfl, hl1, hv1, hu1, hb1, hs1⟩
    have HL1 := Lib.hid hl1
    have HV1 := Lib.hid (show val R0 = m * 2 ^ s by rw [hv1, val_limbs])
    have HU1 := Lib.hid hu1
    have HB1 := Lib.hid hb1
    clear hl1 hv1 hu1 hb1
    go_wp2_with fail
    have hr2' := (hr2.below HB1.out).more (Nat.le_of_lt hs1)
    (with_reducible refine (shiftedUp_n (some ⟨b, o, none⟩) c2 s (j + 1) (limbs n) w1 hr2' (by rw [HJ.out]; exact hn) hs HJ.out).mono ?_)
    rintro e w2 ⟨D0, rfl, hl2, hv2, hu2, hb2, hs2⟩
    have HL2 := Lib.hid hl2
    have HV2 := Lib.hid (show val D0 = n * 2 ^ s by rw [hv2, val_limbs])
    have HU2 := Lib.hid hu2
    have HB2 := Lib.hid hb2
    clear hl2 hv2 hu2 hb2
    go_wp2_with fail
    have hrD := HU2.out.rf_all (c := j + 1 + 1) (Nat.le_of_eq HL2.out) (by unfold maxLen; omega)
    (with_reducible refine (trim_n (some ⟨w1.heap.size, 0, none⟩) (j + 1 + 1) _ (j + 1 + 1) (j + 1) D0 w2 hrD (by rw [HL2.out]; omega) HL2.out (by rw [HV2.out]; exact HSL.out)).mono ?_)
    rintro e w2' ⟨rfl, rfl⟩
    have HRT := Lib.hid (hrD.trim)
    clear hrD
    go_wp2_with (at_make; refine wpList_make_ub _ rfl _ _ rfl _ (la - j) rfl rfl (by omega) (by omega) ?_; intro w3 hu3 hb3 hs3)
    have HR0 : Hid (DivRel w w3 w.heap.size w1.heap.size w2.heap.size la j m n s (la - j) R0 D0 (List.replicate (la - j) 0)) := by
      refine ⟨HL1.out, by simp, long_start HL1.out HV1.out (limbs_lt HLA.out) (limbs_ge HJ.out) (by omega), ?_, ((HU1.out.below HB2.out hs1).below hb3 (by omega)), HU2.out.below hb3 hs2, hu3, ?_⟩
      · rw [List.drop_of_length_le (by simp), val_nil, HV1.out]; omega
      · exact (HB1.out.trans (HB2.out.mono (Nat.le_of_lt hs1))).trans (hb3.mono (by omega))
    have HND := Lib.hid (show 0 < n * 2 ^ s from Nat.mul_pos hn0 (Nat.pow_pos (by decide)))
    clear HU1 HB1 HB2 hu3 hb3 HRT
    go_loopw [10] (fun i wr => ∃ k : Nat, ∃ R Q : List UInt32, k ≤ la - j ∧ i = .int .i64 ((k : Int) - 1) ∧ Hid (DivRel w wr w.heap.size w1.heap.size w2.heap.size la j m n s k R D0 Q)) (fun i _ => (intOf i + 1).toNat)
    case atStart => exact ⟨la - j, R0, List.replicate (la - j) 0, Nat.le_refl _, rfl, HR0⟩
    case round =>
      obtain ⟨k, R, Q, hk, rfl, hrel⟩ := hrel
      by_cases h0 : k = 0
      · subst h0
        have hrd := hrel.out
        have hvR : val R < n * 2 ^ s := by have := hrd.hi; simpa using this
        have hsum : m * 2 ^ s = val R + n * 2 ^ s * val Q := by have := hrd.sum; simpa [bp_zero] using this
        have HE := Lib.hid (long_end hn0 hsum hvR)
        have HR3 := Lib.hid hrd.u3
        have HBL := Lib.hid hrd.bel
        have hlR : R.length ≤ la + 1 := Nat.le_of_eq hrd.lr
        have HLR := Lib.hid hrd.lr
        have HLQ := Lib.hid hrd.lq
        have HU1' := Lib.hid hrd.u1
        have HVR := Lib.hid (show val R / 2 ^ s < bp (la + 1) by
          have h1 := val_lt R
          rw [hrd.lr] at h1
          exact Nat.lt_of_le_of_lt (Nat.div_le_self _ _) h1)
        clear hrd hvR hsum
        go_wp2_with fail
        (with_reducible refine (shiftDown_any w.heap.size (la + 1) (la + 1) s R wr HU1'.out HLR.out.symm (Nat.le_refl _) (by omega) hs).mono ?_)
        rintro e w5 ⟨rfl, hu5, hg5⟩
        have HU5 := Lib.hid hu5
        have HQ5 := Lib.hid (HR3.out.grown hg5 (by intro e; injection e with e; omega))
        have HB5 := Lib.hid (HBL.out.trans (below_of_grown hg5 HBL.out.size (by intro g e; injection e with e; omega)))
        clear hu5 hg5
        have hrq := HQ5.out.rf_all (c := la - j) (Nat.le_of_eq HLQ.out) (by unfold maxLen; omega)
        have hrr := HU5.out.rf_all (c := la + 1) (by rw [lmb_len]; exact Nat.le_refl _) (by unfold maxLen; omega)
        have HQV := Lib.hid (show (limbs (val Q)).length = (limbs (m / n)).length by rw [HE.out.1])
        have HRV0 := Lib.hid (show val (lmb (la + 1) (val R / 2 ^ s)) = m % n by rw [val_lmb, Nat.mod_eq_of_lt HVR.out, HE.out.2])
        go_wp2_with fail
        (with_reducible refine (trim_n (some ⟨w2.heap.size, 0, none⟩) (la - j) _ (la - j) (limbs (m / n)).length Q w5 hrq (by rw [HLQ.out]; omega) HLQ.out HQV.out).mono ?_)
        rintro e w6 ⟨rfl, rfl⟩
        go_wp2_with fail
        (with_reducible refine (trim_n (some ⟨w.heap.size, 0, none⟩) (la + 1) _ (la + 1) (limbs (m % n)).length (lmb (la + 1) (val R / 2 ^ s)) w5 hrr (by rw [lmb_len]; omega) (lmb_len _ _) (by rw [HRV0.out])).mono ?_)
        rintro e w6 ⟨rfl, rfl⟩
        go_wp2_with fail
        go_ret2
        refine ⟨_, _, _, _, rfl, ?_, ?_, HB5.out⟩
        · have := hrq.trim
          rwa [HE.out.1] at this
        · have := hrr.trim
          rwa [HRV0.out] at this
      · obtain ⟨i, rfl⟩ : ∃ i, k = i + 1 := ⟨k - 1, by omega⟩
        have hlr := hrel.out.lr
        have hlq := hrel.out.lq
        have hrd := div_reads hrel.out.u2 HL2.out HV2.out HSL.out hn
        have hil : i + (j + 1 + 1) ≤ R.length := by omega
        have hlR : R.length ≤ 1000000 := by omega
        have hiq : i < Q.length := by omega
        have hqc : ∃ y : UInt32, Q[i]? = some y := ⟨Q[i], List.getElem?_eq_getElem hiq⟩
        have HLR := Lib.hid hlr
        have HLQ := Lib.hid hlq
        have hne : 0 < (limbs (n * 2 ^ s)).length → blk (some ⟨w1.heap.size, 0, none⟩) ≠ some w.heap.size := fun _ e => by
          have e2 : w1.heap.size = w.heap.size := by simpa [blk] using e
          omega
        have hd0 : ∀ h : j < (limbs (n * 2 ^ s)).length, (limbs (n * 2 ^ s))[j] ≠ 0 := fun _ => limbs_last HSL.out
        have HNE := Lib.hid hne
        have HDN := Lib.hid hd0
        have HASK := Lib.hid (show val (seg R i (j + 1 + 1)) < val (limbs (n * 2 ^ s)) * 4294967296 by rw [val_limbs]; exact long_ask hil hrel.out.hi)
        have hi0 : (0 : Int) ≤ (i : Int) := by omega
        have hi1 : (i : Int) < ((la - j : Nat) : Int) := by omega
        have hi2 : (i : Int) + (j + 1 + 1) ≤ (la : Int) + 1 := by omega
        have hi3 : i < la - j := by omega
        have hi4 : i + (j + 1 + 1) ≤ la + 1 := by omega
        clear hlr hlq hne hd0 hqc
        go_wp2_with fail
        (with_reducible refine (divideOnce_n w.heap.size i j (j + 1) (j + 1 + 1) (j + 1 + 1) (j + 1) wr.heap.size (some ⟨w1.heap.size, 0, none⟩) R (limbs (n * 2 ^ s)) wr hrel.out.u1 rfl rfl HSL.out hil (Nat.le_refl _) hlR hrd (Nat.le_refl _) HNE.out HDN.out HASK.out).mono ?_)
        rintro e w4 ⟨R4, rfl, hf4, hv4, hu4, hg4⟩
        rw [val_limbs] at hv4
        have hu3 := hrel.out.u3.grown hg4 (by intro e; injection e with e; omega)
        have hcq := hu3.cell hiq
        have hfq := hu3.frozen i
        have HST := Lib.hid (long_step (M := m * 2 ^ s) hil (limbs_lt HSL.out) HND.out hrel.out.hi hf4 hv4 hiq hrel.out.sum)
        have HU4 := Lib.hid hu4
        have HU3 := Lib.hid hu3
        have HU2' := Lib.hid (hrel.out.u2.grown hg4 (by intro e; injection e with e; omega))
        have HB4 := Lib.hid (hrel.out.bel.trans (below_of_grown hg4 hrel.out.bel.size (by intro g e; injection e with e; omega)))
        have HL4 := Lib.hid (hf4.1)
        obtain ⟨qd, hqd⟩ : ∃ qd, qd = val (seg R i (j + 1 + 1)) / (n * 2 ^ s) := ⟨_, rfl⟩
        have hql : qd < 4294967296 := by
          have h1 := HASK.out
          rw [val_limbs] at h1
          rw [hqd, Nat.div_lt_iff_lt_mul HND.out, Nat.mul_comm]
          exact h1
        rw [val_limbs, ← hqd]
        have HQD := Lib.hid hqd
        clear hf4 hv4 hu3 hu4 hg4 hqd
        go_wp2_with fail
        have HREL : Hid (DivRel w (w4.setCell ⟨w2.heap.size, i, none⟩ (.int .u32 qd)) w.heap.size w1.heap.size w2.heap.size la j m n s i R4 D0 (Q.set i (UInt32.ofNat qd))) := by
          have e := HST.out
          rw [← HQD.out] at e
          refine ⟨by rw [HL4.out, HLR.out], by rw [List.length_set, HLQ.out], e.1, e.2, HU4.out.away (by simp; omega) _, HU2'.out.away (by simp; omega) _, HU3.out.set_ i _ _ (by rw [u32_of _ hql]), HB4.out.setCell (by simp; omega) _⟩
        go_roundw
        case rel => exact ⟨i, R4, Q.set i (UInt32.ofNat qd), by omega, by go_num, HREL⟩
        case measure => simp [intOf]
end Go.Proofs.YtffbmkobholmhaaDoor
