/- nat's division and its exported functions; the reference's Check and Same; each call as the walks ask it. -/
import Derived.Test.YtefoccjphbbmhaaMb
import Derived.Test.YtefoccjphbbmhaaMa
import Derived.Deep.LoopGhost
namespace Go.Proofs.Ytefoccjphbbmhaa
open Go.RowKit
set_option linter.unusedVariables false

theorem shiftedUp_n (A : Option Addr) (c n na : Nat) (a : List UInt32) (w : World) (hr : Rf uv w w.heap.size A c a) (ha : a.length ≤ 400000) (hn : n ≤ 31) (hna : a.length = na) :
    Calls Try.prog 90 #[.slice A na c, .int .i64 n] w fun e w' => MulP w w' (na + 1) (val a * 2 ^ n) e := by
  subst hna
  exact shiftedUp_any A c n a w hr ha hn
theorem twin_n (A : Option Addr) (c B n na : Nat) (L : List UInt32) (w : World) (hr : Rf uv w B A c L) (hB : B ≤ w.heap.size) (hn : L.length ≤ n) (hl : n ≤ 1000000) (hna : L.length = na) :
    Calls Try.prog 80 #[.slice A na c, .int .i64 n] w fun e w' => e = .returned (.slice (some ⟨w.heap.size, 0, none⟩) n n) ∧ Ub w' w.heap.size 55 (L ++ List.replicate (n - L.length) 0) ∧ Below w.heap.size w w' ∧ w.heap.size < w'.heap.size := by
  subst hna
  exact twin_any A c B n L w hr hB hn hl
theorem trim_n (A : Option Addr) (c B na k : Nat) (L : List UInt32) (w : World) (hr : Rf uv w B A c L) (hl : L.length ≤ 1000000) (hna : L.length = na) (hk : (limbs (val L)).length = k) :
    Calls Try.prog 81 #[.slice A na c] w fun e w' => e = .returned (.slice A k k) ∧ w = w' := by
  subst hna hk
  exact trim_any A c B L w hr hl
theorem divideOnce_n (g i j n n1 c cb B : Nat) (A : Option Addr) (L D : List UInt32) (w : World) (hu : Ub w g 55 L) (hn : n = j + 1) (hn1 : n1 = n + 1) (hD : D.length = n) (hon : i + (n + 1) ≤ L.length) (hnc : n + 1 ≤ c) (hl : L.length ≤ 1000000) (hr : Rf uv w B A cb D) (hB : B ≤ w.heap.size) (hne : 0 < D.length → blk A ≠ some g)
    (hd0 : ∀ h : j < D.length, D[j] ≠ 0) (hlt : val (seg L i (n + 1)) < val D * 4294967296) :
    Calls Try.prog 91 #[.slice (some ⟨g, i, none⟩) n1 c, .slice A n cb] w fun e w' => OnceP g i n L D w w' e := by
  subst hn1
  exact divideOnce_any g i j n c cb B A L D w hu hn hD hon hnc hl hr hB hne hd0 hlt

def DivP (w w' : World) (q r : Nat) (e : Ending) : Prop :=
  ∃ A1 A2 c1 c2, e = .returned (.tuple #[.slice A1 (limbs q).length c1, .slice A2 (limbs r).length c2]) ∧ Rf uv w' w'.heap.size A1 c1 (limbs q) ∧ Rf uv w' w'.heap.size A2 c2 (limbs r) ∧ Below w.heap.size w w'

/-- What holds at the head of the loop of divide. -/
structure DivRel (w wr : World) (g1 g2 g3 la j m n s k : Nat) (R D0 Q : List UInt32) : Prop where
  lr : R.length = la + 1
  lq : Q.length = la - j
  hi : val (R.drop k) < n * 2 ^ s
  sum : m * 2 ^ s = val R + n * 2 ^ s * (bp k * val (Q.drop k))
  u1 : Ub wr g1 55 R
  u2 : Ub wr g2 55 D0
  u3 : Ub wr g3 55 Q
  bel : Below w.heap.size w wr
theorem div_reads {w : World} {g j n s : Nat} {D0 : List UInt32} (hu : Ub w g 55 D0) (hl : D0.length = j + 1 + 1) (hv : val D0 = n * 2 ^ s) (hd : (limbs (n * 2 ^ s)).length = j + 1) (hj : j + 1 ≤ 400000) : Rf uv w w.heap.size (some ⟨g, 0, none⟩) (j + 1) (limbs (n * 2 ^ s)) := by
  have h := (hu.rf_all (c := j + 1 + 1) (Nat.le_of_eq hl) (by unfold maxLen; omega)).trim
  rw [hv, hd] at h
  exact h

set_option maxRecDepth 100000 in
set_option maxHeartbeats 2000000 in
theorem divide_any (A1 A2 : Option Addr) (c1 c2 m n : Nat) (w : World) (hr1 : Rf uv w w.heap.size A1 c1 (limbs m)) (hr2 : Rf uv w w.heap.size A2 c2 (limbs n)) (hm : (limbs m).length ≤ 400000) (hn : (limbs n).length ≤ 400000) (hn0 : 0 < n) :
    Calls Try.prog 79 #[.slice A1 (limbs m).length c1, .slice A2 (limbs n).length c2] w fun e w' => DivP w w' (m / n) (m % n) e := by
  obtain ⟨la, hla⟩ : ∃ la, (limbs m).length = la := ⟨_, rfl⟩
  have hj0 : (limbs n).length ≠ 0 := fun e => by rw [limbs_len_eq_zero] at e; omega
  obtain ⟨j, hj⟩ : ∃ j, (limbs n).length = j + 1 := ⟨(limbs n).length - 1, by omega⟩
  clear hj0
  rw [hla, hj]
  rw [hla] at hm
  rw [hj] at hn
  have hcap1 : la ≤ c1 := by rw [← hla]; exact hr1.cap
  have hcap2 : j + 1 ≤ c2 := by rw [← hj]; exact hr2.cap
  have HLA := Lib.hid hla
  have HJ := Lib.hid hj
  by_cases hlt : la < j + 1
  · have hmn : m < n := val_lt_of_len (by omega)
    have HQ := Lib.hid (show m / n = 0 from Nat.div_eq_of_lt hmn)
    have HR := Lib.hid (show m % n = m from Nat.mod_eq_of_lt hmn)
    have hlt2 : (la : Int) < (j : Int) + 1 := by omega
    clear hla hj
    go_enter Try.func79, Try.ntmps79
    go_wp2_with fail
    (with_reducible refine (twin_n A1 c1 w.heap.size la la (limbs m) w hr1 (Nat.le_refl _) (Nat.le_of_eq HLA.out) (by omega) HLA.out).mono ?_)
    rintro e w1 ⟨rfl, hu1, hb1, hs1⟩
    have HU := Lib.hid hu1
    have HB1 := Lib.hid hb1
    clear hu1 hb1
    go_wp2_with fail
    go_ret2
    rw [HQ.out, HR.out]
    refine ⟨none, some ⟨w.heap.size, 0, none⟩, 0, la, ?_, ?_, ?_, HB1.out⟩
    · rw [limbs_zero, HLA.out]; rfl
    · rw [limbs_zero]; exact Rf.empty _ _
    · have e := HU.out
      have e2 : limbs m ++ List.replicate (la - (limbs m).length) 0 = limbs m := by rw [HLA.out]; simp
      rw [e2] at e
      exact e.rf_all (Nat.le_of_eq HLA.out) (by unfold maxLen; omega)
  · have hjl : j < (limbs n).length := by omega
    obtain ⟨b, o, rfl, hb, hcd⟩ := hr2.at_ hjl
    have hc3 := hcd j hjl
    unfold uv at hc3
    clear hcd
    have hx3 := u32_lt (limbs n)[j]
    have hdp : 0 < ((limbs n)[j]).toNat := by
      rcases Nat.eq_zero_or_pos ((limbs n)[j]).toNat with e | e
      · exact absurd (u32_eq (by rw [e]; rfl)) (limbs_last hj)
      · exact e
    obtain ⟨x, hx⟩ : ∃ x, x = ((limbs n)[j]).toNat := ⟨_, rfl⟩
    have HSL : ∀ s, s ≤ 31 → x * 2 ^ s < 4294967296 → (limbs (n * 2 ^ s)).length = j + 1 := fun s hs ht => shifted_len hj hs (by rw [← hx]; exact ht)
    rw [← hx] at hc3 hx3 hdp
    have HS0 := Lib.hid HSL
    have hlt2 : (j : Int) + 1 ≤ (la : Int) := by omega
    have hlt3 : decide ((la : Int) < (j : Int) + 1) = false := by simp; omega
    clear hla hj hx HSL
    go_enter Try.func79, Try.ntmps79
    go_wp2_with fail
    refine (zeros_any x w hx3 hdp).mono ?_
    rintro e w' ⟨s, rfl, hs, hxs, rfl⟩
    have HSL := Lib.hid (HS0.out s hs hxs)
    clear hxs
    go_wp2_with fail
    (with_reducible refine (shiftedUp_n A1 c1 s la (limbs m) w hr1 (by rw [HLA.out]; exact hm) hs HLA.out).mono ?_)
    rintro e w1 ⟨R0, rfl, hl1, hv1, hu1, hb1, hs1⟩
    have HL1 := Lib.hid hl1
    have HV1 := Lib.hid (show val R0 = m * 2 ^ s by rw [hv1, val_limbs])
    have HU1 := Lib.hid hu1
    have HB1 := Lib.hid hb1
    clear hl1 hv1 hu1 hb1
    go_wp2_with fail
    have hr2' := (hr2.below HB1.out).more (Nat.le_of_lt hs1)
    (with_reducible refine (shiftedUp_n (some ⟨b, o, none⟩) c2 s (j + 1) (limbs n) w1 hr2' (by rw [HJ.out]; exact hn) hs HJ.out).mono ?_)
    rintro e w2 ⟨D0, rfl, hl2, hv2, hu2, hb2, hs2⟩
    have HL2 := Lib.hid hl2
    have HV2 := Lib.hid (show val D0 = n * 2 ^ s by rw [hv2, val_limbs])
    have HU2 := Lib.hid hu2
    have HB2 := Lib.hid hb2
    clear hl2 hv2 hu2 hb2
    go_wp2_with fail
    have hrD := HU2.out.rf_all (c := j + 1 + 1) (Nat.le_of_eq HL2.out) (by unfold maxLen; omega)
    (with_reducible refine (trim_n (some ⟨w1.heap.size, 0, none⟩) (j + 1 + 1) _ (j + 1 + 1) (j + 1) D0 w2 hrD (by rw [HL2.out]; omega) HL2.out (by rw [HV2.out]; exact HSL.out)).mono ?_)
    rintro e w2' ⟨rfl, rfl⟩
    have HRT := Lib.hid (hrD.trim)
    clear hrD
    go_wp2_with (at_make; refine wpList_make_ub _ rfl _ _ rfl _ (la - j) rfl rfl (by omega) (by omega) ?_; intro w3 hu3 hb3 hs3)
    have HR0 : Hid (DivRel w w3 w.heap.size w1.heap.size w2.heap.size la j m n s (la - j) R0 D0 (List.replicate (la - j) 0)) := by
      refine ⟨HL1.out, by simp, long_start HL1.out HV1.out (limbs_lt HLA.out) (limbs_ge HJ.out) (by omega), ?_, ((HU1.out.below HB2.out hs1).below hb3 (by omega)), HU2.out.below hb3 hs2, hu3, ?_⟩
      · rw [List.drop_of_length_le (by simp), val_nil, HV1.out]; omega
      · exact (HB1.out.trans (HB2.out.mono (Nat.le_of_lt hs1))).trans (hb3.mono (by omega))
    have HND := Lib.hid (show 0 < n * 2 ^ s from Nat.mul_pos hn0 (Nat.pow_pos (by decide)))
    clear HU1 HB1 HB2 hu3 hb3 HRT
    go_loopw [10] (fun i wr => ∃ k : Nat, ∃ R Q : List UInt32, k ≤ la - j ∧ i = .int .i64 ((k : Int) - 1) ∧ Hid (DivRel w wr w.heap.size w1.heap.size w2.heap.size la j m n s k R D0 Q)) (fun i _ => (intOf i + 1).toNat)
    case atStart => exact ⟨la - j, R0, List.replicate (la - j) 0, Nat.le_refl _, rfl, HR0⟩
    case round =>
      obtain ⟨k, R, Q, hk, rfl, hrel⟩ := hrel
      by_cases h0 : k = 0
      · subst h0
        have hrd := hrel.out
        have hvR : val R < n * 2 ^ s := by have := hrd.hi; simpa using this
        have hsum : m * 2 ^ s = val R + n * 2 ^ s * val Q := by have := hrd.sum; simpa [bp_zero] using this
        have HE := Lib.hid (long_end hn0 hsum hvR)
        have HR3 := Lib.hid hrd.u3
        have HBL := Lib.hid hrd.bel
        have hlR : R.length ≤ la + 1 := Nat.le_of_eq hrd.lr
        have HLR := Lib.hid hrd.lr
        have HLQ := Lib.hid hrd.lq
        have HU1' := Lib.hid hrd.u1
        have HVR := Lib.hid (show val R / 2 ^ s < bp (la + 1) by
          have h1 := val_lt R
          rw [hrd.lr] at h1
          exact Nat.lt_of_le_of_lt (Nat.div_le_self _ _) h1)
        clear hrd hvR hsum
        go_wp2_with fail
        (with_reducible refine (shiftDown_any w.heap.size (la + 1) (la + 1) s R wr HU1'.out HLR.out.symm (Nat.le_refl _) (by omega) hs).mono ?_)
        rintro e w5 ⟨rfl, hu5, hg5⟩
        have HU5 := Lib.hid hu5
        have HQ5 := Lib.hid (HR3.out.grown hg5 (by intro e; injection e with e; omega))
        have HB5 := Lib.hid (HBL.out.trans (below_of_grown hg5 HBL.out.size (by intro g e; injection e with e; omega)))
        clear hu5 hg5
        have hrq := HQ5.out.rf_all (c := la - j) (Nat.le_of_eq HLQ.out) (by unfold maxLen; omega)
        have hrr := HU5.out.rf_all (c := la + 1) (by rw [lmb_len]; exact Nat.le_refl _) (by unfold maxLen; omega)
        have HQV := Lib.hid (show (limbs (val Q)).length = (limbs (m / n)).length by rw [HE.out.1])
        have HRV0 := Lib.hid (show val (lmb (la + 1) (val R / 2 ^ s)) = m % n by rw [val_lmb, Nat.mod_eq_of_lt HVR.out, HE.out.2])
        go_wp2_with fail
        (with_reducible refine (trim_n (some ⟨w2.heap.size, 0, none⟩) (la - j) _ (la - j) (limbs (m / n)).length Q w5 hrq (by rw [HLQ.out]; omega) HLQ.out HQV.out).mono ?_)
        rintro e w6 ⟨rfl, rfl⟩
        go_wp2_with fail
        (with_reducible refine (trim_n (some ⟨w.heap.size, 0, none⟩) (la + 1) _ (la + 1) (limbs (m % n)).length (lmb (la + 1) (val R / 2 ^ s)) w5 hrr (by rw [lmb_len]; omega) (lmb_len _ _) (by rw [HRV0.out])).mono ?_)
        rintro e w6 ⟨rfl, rfl⟩
        go_wp2_with fail
        go_ret2
        refine ⟨_, _, _, _, rfl, ?_, ?_, HB5.out⟩
        · have := hrq.trim
          rwa [HE.out.1] at this
        · have := hrr.trim
          rwa [HRV0.out] at this
      · obtain ⟨i, rfl⟩ : ∃ i, k = i + 1 := ⟨k - 1, by omega⟩
        have hlr := hrel.out.lr
        have hlq := hrel.out.lq
        have hrd := div_reads hrel.out.u2 HL2.out HV2.out HSL.out hn
        have hil : i + (j + 1 + 1) ≤ R.length := by omega
        have hlR : R.length ≤ 1000000 := by omega
        have hiq : i < Q.length := by omega
        have hqc : ∃ y : UInt32, Q[i]? = some y := ⟨Q[i], List.getElem?_eq_getElem hiq⟩
        have HLR := Lib.hid hlr
        have HLQ := Lib.hid hlq
        have hne : 0 < (limbs (n * 2 ^ s)).length → blk (some ⟨w1.heap.size, 0, none⟩) ≠ some w.heap.size := fun _ e => by
          have e2 : w1.heap.size = w.heap.size := by simpa [blk] using e
          omega
        have hd0 : ∀ h : j < (limbs (n * 2 ^ s)).length, (limbs (n * 2 ^ s))[j] ≠ 0 := fun _ => limbs_last HSL.out
        have HNE := Lib.hid hne
        have HDN := Lib.hid hd0
        have HASK := Lib.hid (show val (seg R i (j + 1 + 1)) < val (limbs (n * 2 ^ s)) * 4294967296 by rw [val_limbs]; exact long_ask hil hrel.out.hi)
        have hi0 : (0 : Int) ≤ (i : Int) := by omega
        have hi1 : (i : Int) < ((la - j : Nat) : Int) := by omega
        have hi2 : (i : Int) + (j + 1 + 1) ≤ (la : Int) + 1 := by omega
        have hi3 : i < la - j := by omega
        have hi4 : i + (j + 1 + 1) ≤ la + 1 := by omega
        clear hlr hlq hne hd0 hqc
        go_wp2_with fail
        (with_reducible refine (divideOnce_n w.heap.size i j (j + 1) (j + 1 + 1) (j + 1 + 1) (j + 1) wr.heap.size (some ⟨w1.heap.size, 0, none⟩) R (limbs (n * 2 ^ s)) wr hrel.out.u1 rfl rfl HSL.out hil (Nat.le_refl _) hlR hrd (Nat.le_refl _) HNE.out HDN.out HASK.out).mono ?_)
        rintro e w4 ⟨R4, rfl, hf4, hv4, hu4, hg4⟩
        rw [val_limbs] at hv4
        have hu3 := hrel.out.u3.grown hg4 (by intro e; injection e with e; omega)
        have hcq := hu3.cell hiq
        have hfq := hu3.frozen i
        have HST := Lib.hid (long_step (M := m * 2 ^ s) hil (limbs_lt HSL.out) HND.out hrel.out.hi hf4 hv4 hiq hrel.out.sum)
        have HU4 := Lib.hid hu4
        have HU3 := Lib.hid hu3
        have HU2' := Lib.hid (hrel.out.u2.grown hg4 (by intro e; injection e with e; omega))
        have HB4 := Lib.hid (hrel.out.bel.trans (below_of_grown hg4 hrel.out.bel.size (by intro g e; injection e with e; omega)))
        have HL4 := Lib.hid (hf4.1)
        obtain ⟨qd, hqd⟩ : ∃ qd, qd = val (seg R i (j + 1 + 1)) / (n * 2 ^ s) := ⟨_, rfl⟩
        have hql : qd < 4294967296 := by
          have h1 := HASK.out
          rw [val_limbs] at h1
          rw [hqd, Nat.div_lt_iff_lt_mul HND.out, Nat.mul_comm]
          exact h1
        rw [val_limbs, ← hqd]
        have HQD := Lib.hid hqd
        clear hf4 hv4 hu3 hu4 hg4 hqd
        go_wp2_with fail
        have HREL : Hid (DivRel w (w4.setCell ⟨w2.heap.size, i, none⟩ (.int .u32 qd)) w.heap.size w1.heap.size w2.heap.size la j m n s i R4 D0 (Q.set i (UInt32.ofNat qd))) := by
          have e := HST.out
          rw [← HQD.out] at e
          refine ⟨by rw [HL4.out, HLR.out], by rw [List.length_set, HLQ.out], e.1, e.2, HU4.out.away (by simp; omega) _, HU2'.out.away (by simp; omega) _, HU3.out.set_ i _ _ (by rw [u32_of _ hql]), HB4.out.setCell (by simp; omega) _⟩
        go_roundw
        case rel => exact ⟨i, R4, Q.set i (UInt32.ofNat qd), by omega, by go_num, HREL⟩
        case measure => simp [intOf]

def sameB (a b : List UInt32) : Bool := decide (a = b)
theorem sameB_iff {a b : List UInt32} : sameB a b = true ↔ a = b := by unfold sameB; simp
theorem sameB_no {a b : List UInt32} (h : a ≠ b) : sameB a b = false := by unfold sameB; simpa using h
theorem sameB_refl (a : List UInt32) : sameB a a = true := sameB_iff.2 rfl
def NumP (w w' : World) (l : List UInt32) (e : Ending) : Prop := ∃ A c, e = .returned (.slice A l.length c) ∧ Rf uv w' w'.heap.size A c l ∧ Below w.heap.size w w'
def NumErr (w w' : World) (q : List UInt32 × Int) (e : Ending) : Prop := ∃ A c, e = .returned (.tuple #[.slice A q.1.length c, .int .i64 q.2]) ∧ Rf uv w' w'.heap.size A c q.1 ∧ Below w.heap.size w w'
theorem numErr_bad (w : World) (er : Int) : NumErr w w ([], er) (.returned (.tuple #[.slice none 0 0, .int .i64 er])) := ⟨none, 0, rfl, Rf.empty _ _, Below.refl _ _⟩

set_option maxHeartbeats 400000 in
theorem check_any (A : Option Addr) (c B : Nat) (l : List UInt32) (w : World) (hr : Rf uv w B A c l) :
    Calls Try.prog 88 #[.slice A l.length c] w fun e w' => e = .returned (.int .i64 (chk l)) ∧ w = w' := by
  have hcap := hr.cap
  have hcm := hr.capm
  unfold maxLen at hcm
  by_cases h1 : 96 < l.length
  · have HC := Lib.hid (chk_many h1)
    have h1i : (96 : Int) < (l.length : Int) := by omega
    go_enter Try.func88, Try.ntmps88
    go_wp2_with fail
    go_ret
    exact ⟨by rw [HC.out]; rfl, rfl⟩
  · have h1d : decide ((96 : Int) < (l.length : Int)) = false := by simp; omega
    obtain ⟨k, hk⟩ : ∃ k, l.length = k := ⟨_, rfl⟩
    by_cases h0 : k = 0
    · subst h0
      have hl : l = [] := List.eq_nil_of_length_eq_zero hk
      subst hl
      have HC := Lib.hid chk_nil
      clear h1 hk
      go_enter Try.func88, Try.ntmps88
      go_wp2_with fail
      go_ret
      exact ⟨by rw [HC.out]; rfl, rfl⟩
    · obtain ⟨j, rfl⟩ : ∃ j, k = j + 1 := ⟨k - 1, by omega⟩
      have hj : j < l.length := by omega
      obtain ⟨b, o, rfl, hb, hc⟩ := hr.at_ hj
      have hcj := hc j hj
      unfold uv at hcj
      clear hc
      by_cases hx : l[j] = 0
      · have HC := Lib.hid (chk_bad h1 (fun e => last_of_limbs hk e hx))
        have HX : ((l[j]).toNat : Int) = 0 := by rw [hx]; rfl
        rw [HX] at hcj
        have hjb : (j : Int) + 1 ≤ 96 := by omega
        rw [hk]
        rw [hk] at h1d
        have h2d : decide ((96 : Int) < (j : Int) + 1) = false := by simp; omega
        clear hx h1 hk hj HX
        go_enter Try.func88, Try.ntmps88
        go_wp2_with fail
        go_ret
        exact ⟨by rw [HC.out]; rfl, rfl⟩
      · have HC := Lib.hid (chk_ok h1 (limbs_val_last hk hx))
        have hxn : (l[j]).toNat ≠ 0 := fun e => hx (u32_eq (by rw [e]; rfl))
        have HX : (((l[j]).toNat : Int) == 0) = false := by simp; omega
        obtain ⟨x, hx2⟩ : ∃ x, x = (l[j]).toNat := ⟨_, rfl⟩
        rw [← hx2] at hcj HX
        rw [hk]
        rw [hk] at h1d
        have h2d : decide ((96 : Int) < (j : Int) + 1) = false := by simp; omega
        have hjb : (j : Int) + 1 ≤ 96 := by omega
        clear hx h1 hk hj hx2 hxn
        go_enter Try.func88, Try.ntmps88
        go_wp2_with fail
        go_ret
        exact ⟨by rw [HC.out]; rfl, rfl⟩

set_option maxHeartbeats 400000 in
theorem checkBoth_any (A1 A2 : Option Addr) (c1 c2 B1 B2 : Nat) (a b : List UInt32) (w : World) (hr1 : Rf uv w B1 A1 c1 a) (hr2 : Rf uv w B2 A2 c2 b) :
    Calls Try.prog 78 #[.slice A1 a.length c1, .slice A2 b.length c2] w fun e w' => e = .returned (.int .i64 (chk2 a b)) ∧ w = w' := by
  by_cases h : chk a = 0
  · have HC := Lib.hid (show chk2 a b = chk b by unfold chk2; rw [if_pos h])
    have HA := Lib.hid h
    clear h
    go_enter Try.func78, Try.ntmps78
    go_wp2_with fail
    refine (check_any A1 c1 B1 a w hr1).mono ?_
    rintro e w' ⟨rfl, rfl⟩
    rw [HA.out]
    go_wp2_with fail
    refine (check_any A2 c2 B2 b w hr2).mono ?_
    rintro e w' ⟨rfl, rfl⟩
    go_wp2_with fail
    go_ret
    exact ⟨by rw [HC.out]; rfl, rfl⟩
  · have HC := Lib.hid (show chk2 a b = chk a by unfold chk2; rw [if_neg h])
    have hb : (chk a != 0) = true := by simpa using h
    clear h
    go_enter Try.func78, Try.ntmps78
    go_wp2_with fail
    refine (check_any A1 c1 B1 a w hr1).mono ?_
    rintro e w' ⟨rfl, rfl⟩
    go_wp2_with fail
    go_ret
    exact ⟨by rw [HC.out]; rfl, rfl⟩

theorem uBuild : Try.prog.underlying 25 = some (.slice 55) := Try.underlying25
set_option maxHeartbeats 400000 in
theorem of_any (n : Nat) (w : World) (hn : n < 18446744073709551616) : Calls Try.prog 66 #[.int .u64 n] w fun e w' => NumP w w' (limbs n) e := by
  obtain ⟨L, hL⟩ : ∃ L, L = [UInt32.ofNat (n % 4294967296), UInt32.ofNat (n / 4294967296)] := ⟨_, rfl⟩
  have hv : val L = n := by
    rw [hL, val_cons, val_one, u32_of _ (by omega), u32_of _ (by omega)]; omega
  have hcells : (L.map uv).toArray = #[.int .u32 ((n : Int) % 4294967296), .int .u32 ((n : Int) / 4294967296)] := by
    rw [hL]; simp [uv]; omega
  have hl2 : L.length = 2 := by rw [hL]; rfl
  have HV := Lib.hid hv
  have HC := Lib.hid hcells
  have HL := Lib.hid hl2
  clear hL hv hcells hl2
  go_enter Try.func66, Try.ntmps66
  go_wp2_with fail
  have hub : Ub (w.alloc (.cells #[.int .u32 ((n : Int) % 4294967296), .int .u32 ((n : Int) / 4294967296)] 55)) w.heap.size 55 L := by
    unfold Ub
    rw [HC.out]
    exact Blk.new w _ _
  have hrf := hub.rf_all (c := 2) (Nat.le_of_eq HL.out) (by simp [maxLen])
  (with_reducible refine (trim_n (some ⟨w.heap.size, 0, none⟩) 2 _ 2 (limbs n).length L _ hrf (by rw [HL.out]; decide) HL.out (by rw [HV.out])).mono ?_)
  rintro e w' ⟨rfl, rfl⟩
  have HR := Lib.hid hrf.trim
  clear hrf hub
  go_wp2_with fail
  go_ret
  have e := HR.out
  rw [HV.out] at e
  exact ⟨_, _, rfl, e, below_new _ _⟩

set_option maxHeartbeats 400000 in
theorem fitting_any (A : Option Addr) (c na : Nat) (L : List UInt32) (w : World) (hr : Rf uv w w.heap.size A c L) (hl : L.length ≤ 1000000) (hna : L.length = na) :
    Calls Try.prog 83 #[.slice A na c] w fun e w' => NumErr w w' (numM (val L)) e := by
  have hle := limbs_val_le L
  have HR := Lib.hid hr.trim
  obtain ⟨k, hk⟩ : ∃ k, (limbs (val L)).length = k := ⟨_, rfl⟩
  by_cases h : k ≤ 96
  · have HQ := Lib.hid (numM_ok (n := val L) (by omega))
    have hki : decide ((96 : Int) < (k : Int)) = false := by simp; omega
    have HK := Lib.hid hk
    have HN := Lib.hid hna
    clear hk hle hna
    go_enter Try.func83, Try.ntmps83
    go_wp2_with fail
    (with_reducible refine (trim_n A c _ na k L w hr hl HN.out HK.out).mono ?_)
    rintro e w' ⟨rfl, rfl⟩
    go_wp2_with fail
    go_ret2
    rw [HQ.out]
    have e := HR.out
    refine ⟨A, k, by rw [HK.out]; rfl, ?_, Below.refl _ _⟩
    rwa [HK.out] at e
  · have HQ := Lib.hid (numM_great (n := val L) (by omega))
    have hki : (96 : Int) < (k : Int) := by omega
    have HK := Lib.hid hk
    have HN := Lib.hid hna
    clear hk hle hna
    go_enter Try.func83, Try.ntmps83
    go_wp2_with fail
    (with_reducible refine (trim_n A c _ na k L w hr hl HN.out HK.out).mono ?_)
    rintro e w' ⟨rfl, rfl⟩
    go_wp2_with fail
    go_ret2
    rw [HQ.out]
    exact numErr_bad w 30

theorem limbs_of_chk {a : List UInt32} (h : chk a = 0) : ∃ m, a = limbs m ∧ (limbs m).length ≤ 96 := ⟨val a, (chk_zero h).2.symm, by rw [(chk_zero h).2]; exact (chk_zero h).1⟩
theorem val_two {a : List UInt32} (h : a.length ≤ 2) : val a = 4294967296 * lat a 1 + lat a 0 := by
  have h1 := val_take_lat a 0
  have h2 := val_take_lat a 1
  rw [List.take_of_length_le h] at h2
  rw [h2, h1, List.take_zero, val_nil, bp_zero, bp_one]
  omega

set_option maxHeartbeats 1000000 in
theorem word2_any (A : Option Addr) (c B : Nat) (a : List UInt32) (w : World) (hr : Rf uv w B A c a) :
    Calls Try.prog 84 #[.slice A a.length c] w fun e w' => e = .returned (.tuple #[.int .u64 (wordM a).1, .int .i64 (wordM a).2]) ∧ w = w' := by
  have hcap := hr.cap
  have hcm := hr.capm
  unfold maxLen at hcm
  by_cases h : chk a = 0
  · by_cases h2 : a.length ≤ 2
    · have HQ := Lib.hid (wordM_ok h h2)
      have HV := Lib.hid (val_two h2)
      have HA := Lib.hid h
      have h2d : decide ((2 : Int) < (a.length : Int)) = false := by simp; omega
      obtain ⟨z, hz⟩ : ∃ z, z = 4294967296 * lat a 1 + lat a 0 := ⟨_, rfl⟩
      have HW := Lib.hid (fun W => word_n (lat a 1) (lat a 0) z W (lat_lt _ _) (lat_lt _ _) hz)
      have HZ := Lib.hid hz
      clear h hz
      go_enter Try.func84, Try.ntmps84
      go_wp2_with fail
      refine (check_any A c B a w hr).mono ?_
      rintro e w' ⟨rfl, rfl⟩
      rw [HA.out]
      go_wp2_with fail
      (with_reducible refine (limbAt_n A a.length c B a 1 1 w hr rfl (by decide) (by decide)).mono ?_)
      rintro e w' ⟨rfl, rfl⟩
      go_wp2_with fail
      (with_reducible refine (limbAt_n A a.length c B a 0 0 w hr rfl (by decide) (by decide)).mono ?_)
      rintro e w' ⟨rfl, rfl⟩
      go_wp2_with fail
      (with_reducible refine (HW.out w).mono ?_)
      rintro e w' ⟨rfl, rfl⟩
      go_wp2_with fail
      go_ret2
      rw [HQ.out, HV.out, ← HZ.out]
      exact ⟨rfl, rfl⟩
    · have HQ := Lib.hid (wordM_great h h2)
      have HA := Lib.hid h
      have h2d : (2 : Int) < (a.length : Int) := by omega
      clear h
      go_enter Try.func84, Try.ntmps84
      go_wp2_with fail
      refine (check_any A c B a w hr).mono ?_
      rintro e w' ⟨rfl, rfl⟩
      rw [HA.out]
      go_wp2_with fail
      go_ret2
      rw [HQ.out]
      exact ⟨rfl, rfl⟩
  · have HQ := Lib.hid (wordM_err h)
    have hb : (chk a != 0) = true := by simpa using h
    clear h
    go_enter Try.func84, Try.ntmps84
    go_wp2_with fail
    refine (check_any A c B a w hr).mono ?_
    rintro e w' ⟨rfl, rfl⟩
    go_wp2_with fail
    go_ret2
    rw [HQ.out]
    exact ⟨rfl, rfl⟩

theorem max_int (m n : Nat) : max (m : Int) (n : Int) = ((max m n : Nat) : Int) := by omega
theorem val_pad (a : List UInt32) (k : Nat) : val (a ++ List.replicate k 0) = val a := by rw [val_append, val_zeros]; omega
set_option maxHeartbeats 1000000 in
theorem add2_any (A1 A2 : Option Addr) (c1 c2 : Nat) (a b : List UInt32) (w : World) (hr1 : Rf uv w w.heap.size A1 c1 a) (hr2 : Rf uv w w.heap.size A2 c2 b) :
    Calls Try.prog 68 #[.slice A1 a.length c1, .slice A2 b.length c2] w fun e w' => NumErr w w' (addM a b) e := by
  by_cases h : chk2 a b = 0
  · have HQ := Lib.hid (addM_ok h)
    have HA := Lib.hid h
    have ha := (chk_zero (chk2_zero h).1).1
    have hb := (chk_zero (chk2_zero h).2).1
    clear h
    go_enter Try.func68, Try.ntmps68
    go_wp2_with fail
    refine (checkBoth_any A1 A2 c1 c2 _ _ _ _ w hr1 hr2).mono ?_
    rintro e w' ⟨rfl, rfl⟩
    rw [HA.out]
    go_wp2_with fail
    obtain ⟨k, hk⟩ : ∃ k, k = max a.length b.length + 1 := ⟨_, rfl⟩
    have ek : max (a.length : Int) (b.length : Int) + 1 = (k : Int) := by omega
    rw [ek]
    have hk1 : a.length ≤ k := by omega
    have hk2 : b.length ≤ k := by omega
    have hk3 : a.length + 1 ≤ k := by omega
    have hk4 : b.length + 1 ≤ k := by omega
    have hkl : k ≤ 1000 := by omega
    clear ek hk
    (with_reducible refine (twin_any A1 c1 w.heap.size k a w hr1 (Nat.le_refl _) hk1 (by omega)).mono ?_)
    rintro e w1 ⟨rfl, hu1, hb1, hs1⟩
    have HU1 := Lib.hid hu1
    have HB1 := Lib.hid hb1
    clear hu1 hb1
    go_wp2_with fail
    have hr2' := hr2.below HB1.out
    have hLl : (a ++ List.replicate (k - a.length) 0).length = k := by simp; omega
    (with_reducible refine (add_any w.heap.size 0 k k c2 w.heap.size A2 (a ++ List.replicate (k - a.length) 0) b w1 HU1.out (by omega) (Nat.le_refl _) (by omega) hr2' HB1.out.size (hr2'.ne (Nat.le_refl _)) hk2).mono ?_)
    rintro e w2 ⟨M, cr, rfl, hcr, hf, hv, hub, hg⟩
    have hML : M.length = k := by rw [hf.1, hLl]
    have hVM : val M = val a + val b := by
      have e1 : seg M 0 k = M := by rw [← hML, seg_all]
      have e2 : seg (a ++ List.replicate (k - a.length) 0) 0 k = a ++ List.replicate (k - a.length) 0 := by rw [seg_take, List.take_of_length_le (by omega)]
      rw [e1, e2, val_pad] at hv
      have h1 := val_lt a
      have h2 := val_lt b
      have h3 := bp_mono (show a.length ≤ k - 1 by omega)
      have h4 := bp_mono (show b.length ≤ k - 1 by omega)
      have h5 : bp k = 4294967296 * bp (k - 1) := by rw [← bp_succ]; congr 1; omega
      have h6 : cr = 0 := by
        rcases Nat.eq_zero_or_pos cr with e | e
        · exact e
        · have : cr = 1 := by omega
          rw [this, h5] at hv
          have := bp_pos (k - 1)
          omega
      rw [h6] at hv
      omega
    have HML := Lib.hid hML
    have HVM := Lib.hid hVM
    have HUB := Lib.hid hub
    have HBL := Lib.hid (HB1.out.trans (below_of_grown hg HB1.out.size (by intro g e; injection e with e; omega)))
    clear hLl hf hv hub hg hML hVM
    go_wp2_with fail
    have hrf := HUB.out.rf_all (c := k) (Nat.le_of_eq HML.out) (by unfold maxLen; omega)
    (with_reducible refine (fitting_any (some ⟨w.heap.size, 0, none⟩) k k M w2 hrf (by rw [HML.out]; omega) HML.out).mono ?_)
    rintro e w3 ⟨A3, c3, rfl, hrd, hbl⟩
    have HR3 := Lib.hid hrd
    have HB3 := Lib.hid hbl
    clear hrd hbl hrf
    go_wp2_with fail
    go_ret2
    rw [HQ.out, ← HVM.out]
    exact ⟨A3, c3, rfl, HR3.out, HBL.out.trans (HB3.out.mono HBL.out.size)⟩
  · have HQ := Lib.hid (addM_err h)
    have hb : (chk2 a b != 0) = true := by simpa using h
    clear h
    go_enter Try.func68, Try.ntmps68
    go_wp2_with fail
    refine (checkBoth_any A1 A2 c1 c2 _ _ a b w hr1 hr2).mono ?_
    rintro e w' ⟨rfl, rfl⟩
    go_wp2_with fail
    go_ret2
    rw [HQ.out]
    exact numErr_bad w _

theorem subtract_1 (g o n c cb B : Nat) (A : Option Addr) (L m : List UInt32) (w : World) (hu : Ub w g 55 L) (hon : o + n ≤ L.length) (hnc : n ≤ c) (hl : L.length ≤ 1000000) (hr : Rf uv w B A cb m) (hB : B ≤ w.heap.size) (hne : 0 < m.length → blk A ≠ some g) (hm : m.length ≤ n) :
    Calls Try.prog 99 #[.slice (some ⟨g, o, none⟩) n c, .slice A m.length cb, .int .u32 1] w fun e w' => SubP g o n 1 L m w w' e :=
  subtract_any g o n c cb B 1 A L m w hu hon hnc hl hr hB hne hm (by decide)
set_option maxHeartbeats 1000000 in
theorem mul2_any (A1 A2 : Option Addr) (c1 c2 : Nat) (a b : List UInt32) (w : World) (hr1 : Rf uv w w.heap.size A1 c1 a) (hr2 : Rf uv w w.heap.size A2 c2 b) :
    Calls Try.prog 86 #[.slice A1 a.length c1, .slice A2 b.length c2] w fun e w' => NumErr w w' (mulM a b) e := by
  by_cases h : chk2 a b = 0
  · have HQ := Lib.hid (mulM_ok h)
    have HA := Lib.hid h
    have ha := (chk_zero (chk2_zero h).1).1
    have hb := (chk_zero (chk2_zero h).2).1
    clear h
    go_enter Try.func86, Try.ntmps86
    go_wp2_with fail
    refine (checkBoth_any A1 A2 c1 c2 _ _ _ _ w hr1 hr2).mono ?_
    rintro e w' ⟨rfl, rfl⟩
    rw [HA.out]
    go_wp2_with fail
    (with_reducible refine (multiply_any A1 A2 c1 c2 a b w hr1 hr2 (by omega) (by omega)).mono ?_)
    rintro e w2 ⟨M, rfl, hML, hVM, hub, hbl, hs⟩
    have HML := Lib.hid hML
    have HVM := Lib.hid hVM
    have HUB := Lib.hid hub
    have HBL := Lib.hid hbl
    have hMl : M.length ≤ 1000 := by omega
    clear hML hVM hub hbl
    go_wp2_with fail
    have hrf := HUB.out.rf_all (c := a.length + b.length) (Nat.le_of_eq HML.out) (by unfold maxLen; omega)
    (with_reducible refine (fitting_any (some ⟨w.heap.size, 0, none⟩) (a.length + b.length) (a.length + b.length) M w2 hrf (by omega) HML.out).mono ?_)
    rintro e w3 ⟨A3, c3, rfl, hrd, hbl⟩
    have HR3 := Lib.hid hrd
    have HB3 := Lib.hid hbl
    clear hrd hbl hrf
    go_wp2_with fail
    go_ret2
    rw [HQ.out, ← HVM.out]
    exact ⟨A3, c3, rfl, HR3.out, HBL.out.trans (HB3.out.mono HBL.out.size)⟩
  · have HQ := Lib.hid (mulM_err h)
    have hb : (chk2 a b != 0) = true := by simpa using h
    clear h
    go_enter Try.func86, Try.ntmps86
    go_wp2_with fail
    refine (checkBoth_any A1 A2 c1 c2 _ _ a b w hr1 hr2).mono ?_
    rintro e w' ⟨rfl, rfl⟩
    go_wp2_with fail
    go_ret2
    rw [HQ.out]
    exact numErr_bad w _

def DivErr (w w' : World) (q : (List UInt32 × List UInt32) × Int) (e : Ending) : Prop :=
  ∃ A1 A2 c1 c2, e = .returned (.tuple #[.slice A1 q.1.1.length c1, .slice A2 q.1.2.length c2, .int .i64 q.2]) ∧ Rf uv w' w'.heap.size A1 c1 q.1.1 ∧ Rf uv w' w'.heap.size A2 c2 q.1.2 ∧ Below w.heap.size w w'
theorem divErr_bad (w : World) (er : Int) : DivErr w w (([], []), er) (.returned (.tuple #[.slice none 0 0, .slice none 0 0, .int .i64 er])) := ⟨none, none, 0, 0, rfl, Rf.empty _ _, Rf.empty _ _, Below.refl _ _⟩

set_option maxHeartbeats 1000000 in
theorem div2_any (A1 A2 : Option Addr) (c1 c2 : Nat) (a b : List UInt32) (w : World) (hr1 : Rf uv w w.heap.size A1 c1 a) (hr2 : Rf uv w w.heap.size A2 c2 b) :
    Calls Try.prog 67 #[.slice A1 a.length c1, .slice A2 b.length c2] w fun e w' => DivErr w w' (divM a b) e := by
  by_cases h : chk2 a b = 0
  · have HA := Lib.hid h
    obtain ⟨m, rfl, hm⟩ := limbs_of_chk (chk2_zero h).1
    obtain ⟨n, rfl, hn⟩ := limbs_of_chk (chk2_zero h).2
    by_cases hn0 : n = 0
    · have HQ := Lib.hid (divM_zero h (by rw [val_limbs]; exact hn0))
      have HZ := Lib.hid (limbs_len_eq_zero.2 hn0)
      clear h hn0
      go_enter Try.func67, Try.ntmps67
      go_wp2_with fail
      refine (checkBoth_any A1 A2 c1 c2 _ _ _ _ w hr1 hr2).mono ?_
      rintro e w' ⟨rfl, rfl⟩
      rw [HA.out, HZ.out]
      go_wp2_with fail
      go_ret3
      rw [HQ.out]
      exact divErr_bad w 40
    · have HQ := Lib.hid (show divM (limbs m) (limbs n) = ((limbs (m / n), limbs (m % n)), 0) by rw [divM_ok h (by rw [val_limbs]; exact hn0), val_limbs, val_limbs])
      have hl0 : (((limbs n).length : Int) == 0) = false := by
        have : (limbs n).length ≠ 0 := fun e => hn0 (limbs_len_eq_zero.1 e)
        rw [beq_eq_false_iff_ne]; omega
      have hnp : 0 < n := by omega
      obtain ⟨k, hk⟩ : ∃ k, k = (limbs n).length := ⟨_, rfl⟩
      have HK := Lib.hid hk
      have hlk : ((k : Int) == 0) = false := by rw [hk]; exact hl0
      rw [← hk]
      clear h hn0 hl0 hk
      go_enter Try.func67, Try.ntmps67
      go_wp2_with fail
      rw [HK.out]
      refine (checkBoth_any A1 A2 c1 c2 _ _ _ _ w hr1 hr2).mono ?_
      rintro e w' ⟨rfl, rfl⟩
      rw [HA.out, ← HK.out]
      go_wp2_with fail
      rw [HK.out]
      (with_reducible refine (divide_any A1 A2 c1 c2 m n w hr1 hr2 (by omega) (by omega) hnp).mono ?_)
      rintro e w2 ⟨A3, A4, c3, c4, rfl, h3, h4, hb⟩
      have H3 := Lib.hid h3
      have H4 := Lib.hid h4
      have HB := Lib.hid hb
      clear h3 h4 hb
      go_wp2_with fail
      go_ret3
      rw [HQ.out]
      exact ⟨A3, A4, c3, c4, rfl, H3.out, H4.out, HB.out⟩
  · have HQ := Lib.hid (divM_err h)
    have hb : (chk2 a b != 0) = true := by simpa using h
    clear h
    go_enter Try.func67, Try.ntmps67
    go_wp2_with fail
    refine (checkBoth_any A1 A2 c1 c2 _ _ a b w hr1 hr2).mono ?_
    rintro e w' ⟨rfl, rfl⟩
    go_wp2_with fail
    go_ret3
    rw [HQ.out]
    exact divErr_bad w _

set_option maxRecDepth 100000 in
set_option maxHeartbeats 1000000 in
theorem gcd2_any (A1 A2 : Option Addr) (c1 c2 : Nat) (a b : List UInt32) (w : World) (hr1 : Rf uv w w.heap.size A1 c1 a) (hr2 : Rf uv w w.heap.size A2 c2 b) :
    Calls Try.prog 63 #[.slice A1 a.length c1, .slice A2 b.length c2] w fun e w' => NumErr w w' (gcdM a b) e := by
  by_cases h : chk2 a b = 0
  · have HA := Lib.hid h
    obtain ⟨m, rfl, hm⟩ := limbs_of_chk (chk2_zero h).1
    obtain ⟨n, rfl, hn⟩ := limbs_of_chk (chk2_zero h).2
    have HQ := Lib.hid (show gcdM (limbs m) (limbs n) = (limbs (Nat.gcd m n), 0) by rw [gcdM_ok h, val_limbs, val_limbs])
    clear h
    go_enter Try.func63, Try.ntmps63
    go_wp2_with fail
    refine (checkBoth_any A1 A2 c1 c2 _ _ _ _ w hr1 hr2).mono ?_
    rintro e w' ⟨rfl, rfl⟩
    rw [HA.out]
    go_wp2_with fail
    go_loopg [0, 1] n (fun y s0 s1 wr => ∃ (x : Nat) (A A' : Option Addr) (c c' : Nat), s0 = .slice A (limbs x).length c ∧ s1 = .slice A' (limbs y).length c' ∧ (limbs x).length ≤ 96 ∧ (limbs y).length ≤ 96 ∧ Hid (Nat.gcd x y = Nat.gcd m n) ∧ Hid (Rf uv wr wr.heap.size A c (limbs x)) ∧ Hid (Rf uv wr wr.heap.size A' c' (limbs y)) ∧ Hid (Below w.heap.size w wr))
    case atStart => exact ⟨m, A1, A2, c1, c2, rfl, rfl, hm, hn, rfl, hr1, hr2, Below.refl _ _⟩
    case round =>
      obtain ⟨x, A, A', c, c', rfl, rfl, hx, hy, hg, hrx, hry, hbl⟩ := hrel
      by_cases hg0 : gk = 0
      · subst hg0
        have HZ := Lib.hid (limbs_len_eq_zero.2 (rfl : (0 : Nat) = 0))
        have HX := Lib.hid (show Nat.gcd m n = x by rw [← hg.out]; simp)
        obtain ⟨lx, hlx⟩ : ∃ lx, (limbs x).length = lx := ⟨_, rfl⟩
        rw [hlx] at hx
        rw [hlx, HZ.out]
        have HLX := Lib.hid hlx
        clear hlx hy
        go_wp2_with fail
        (with_reducible refine (twin_n A c wr.heap.size lx lx (limbs x) wr hrx.out (Nat.le_refl _) (Nat.le_of_eq HLX.out) (by omega) HLX.out).mono ?_)
        rintro e w1 ⟨rfl, hu1, hb1, hs1⟩
        have HU1 := Lib.hid (show Ub w1 wr.heap.size 55 (limbs x) by
          have e2 : limbs x ++ List.replicate (lx - (limbs x).length) 0 = limbs x := by rw [HLX.out]; simp
          rw [e2] at hu1
          exact hu1)
        have HB1 := Lib.hid (hbl.out.trans (hb1.mono hbl.out.size))
        clear hu1 hb1
        go_wp2_with fail
        go_ret2
        rw [HQ.out, HX.out]
        refine ⟨some ⟨wr.heap.size, 0, none⟩, lx, by rw [HLX.out]; rfl, ?_, HB1.out⟩
        exact HU1.out.rf_all (Nat.le_of_eq HLX.out) (by unfold maxLen; omega)
      · have hgp : 0 < gk := by omega
        have hl0 : (0 : Int) < ((limbs gk).length : Int) := by
          have : (limbs gk).length ≠ 0 := fun e => hg0 (limbs_len_eq_zero.1 e)
          omega
        have HGN := Lib.hid (show Nat.gcd gk (x % gk) = Nat.gcd m n by rw [← hg.out, Nat.gcd_comm x gk, Nat.gcd_rec gk x, Nat.gcd_comm])
        have hml := Nat.le_trans (limbs_mono (Nat.le_of_lt (Nat.mod_lt x hgp))) hy
        have hmlt := Nat.mod_lt x hgp
        clear hg0
        go_wp2_with fail
        (with_reducible refine (divide_any A A' c c' x gk wr hrx.out hry.out (by omega) (by omega) hgp).mono ?_)
        rintro e w2 ⟨A3, A4, c3, c4, rfl, h3, h4, hb⟩
        have H4 := Lib.hid h4
        have H2 := Lib.hid ((hry.out.below hb).more hb.size)
        have HB := Lib.hid (hbl.out.trans (hb.mono hbl.out.size))
        clear h3 h4 hb
        go_wp2_with fail
        go_roundg (x % gk)
        case measure => exact hmlt
        case rel => exact ⟨gk, A', A4, c', c4, rfl, rfl, hy, hml, HGN, H2, H4, HB⟩
  · have HQ := Lib.hid (gcdM_err h)
    have hb : (chk2 a b != 0) = true := by simpa using h
    clear h
    go_enter Try.func63, Try.ntmps63
    go_wp2_with fail
    refine (checkBoth_any A1 A2 c1 c2 _ _ a b w hr1 hr2).mono ?_
    rintro e w' ⟨rfl, rfl⟩
    go_wp2_with fail
    go_ret2
    rw [HQ.out]
    exact numErr_bad w _

theorem grown_step' {a b c : World} {r s : Option Nat} (h : a.grownBy b r) (k : b.grownBy c s) (hs : ∀ g, s = some g → r = some g ∨ a.heap.size ≤ g) : a.grownBy c r :=
  ⟨k.os.trans h.os, k.tape.trans h.tape, k.output.trans h.output, Nat.le_trans h.size k.size, fun i hi hne => (k.block i (Nat.lt_of_lt_of_le hi h.size) (fun e => by
    rcases hs i e.symm with h1 | h1
    · exact hne h1.symm
    · omega)).trans (h.block i hi hne)⟩

set_option maxHeartbeats 400000 in
theorem rcheck_any (A : Option Addr) (c B : Nat) (l : List UInt32) (w : World) (hr : Rf uv w B A c l) :
    Calls Try.prog 74 #[.slice A l.length c] w fun e w' => e = .returned (.int .i64 (chk l)) ∧ w = w' := by
  have hcap := hr.cap
  have hcm := hr.capm
  unfold maxLen at hcm
  by_cases h1 : 96 < l.length
  · have HC := Lib.hid (chk_many h1)
    have h1i : (96 : Int) < (l.length : Int) := by omega
    go_enter Try.func74, Try.ntmps74
    go_wp2_with fail
    go_ret
    exact ⟨by rw [HC.out]; rfl, rfl⟩
  · have h1d : decide ((96 : Int) < (l.length : Int)) = false := by simp; omega
    obtain ⟨k, hk⟩ : ∃ k, l.length = k := ⟨_, rfl⟩
    by_cases h0 : k = 0
    · subst h0
      have hl : l = [] := List.eq_nil_of_length_eq_zero hk
      subst hl
      have HC := Lib.hid chk_nil
      clear h1 hk
      go_enter Try.func74, Try.ntmps74
      go_wp2_with fail
      go_ret
      exact ⟨by rw [HC.out]; rfl, rfl⟩
    · obtain ⟨j, rfl⟩ : ∃ j, k = j + 1 := ⟨k - 1, by omega⟩
      have hj : j < l.length := by omega
      obtain ⟨b, o, rfl, hb, hc⟩ := hr.at_ hj
      have hcj := hc j hj
      unfold uv at hcj
      clear hc
      by_cases hx : l[j] = 0
      · have HC := Lib.hid (chk_bad h1 (fun e => last_of_limbs hk e hx))
        have HX : ((l[j]).toNat : Int) = 0 := by rw [hx]; rfl
        rw [HX] at hcj
        have hjb : (j : Int) + 1 ≤ 96 := by omega
        rw [hk]
        rw [hk] at h1d
        have h2d : decide ((96 : Int) < (j : Int) + 1) = false := by simp; omega
        clear hx h1 hk hj HX
        go_enter Try.func74, Try.ntmps74
        go_wp2_with fail
        go_ret
        exact ⟨by rw [HC.out]; rfl, rfl⟩
      · have HC := Lib.hid (chk_ok h1 (limbs_val_last hk hx))
        have hxn : (l[j]).toNat ≠ 0 := fun e => hx (u32_eq (by rw [e]; rfl))
        have HX : (((l[j]).toNat : Int) == 0) = false := by simp; omega
        obtain ⟨x, hx2⟩ : ∃ x, x = (l[j]).toNat := ⟨_, rfl⟩
        rw [← hx2] at hcj HX
        rw [hk]
        rw [hk] at h1d
        have h2d : decide ((96 : Int) < (j : Int) + 1) = false := by simp; omega
        have hjb : (j : Int) + 1 ≤ 96 := by omega
        clear hx h1 hk hj hx2 hxn
        go_enter Try.func74, Try.ntmps74
        go_wp2_with fail
        go_ret
        exact ⟨by rw [HC.out]; rfl, rfl⟩

set_option maxHeartbeats 1000000 in
theorem rsame_any (A1 A2 : Option Addr) (c1 c2 B1 B2 : Nat) (L M : List UInt32) (w : World) (hr1 : Rf uv w B1 A1 c1 L) (hr2 : Rf uv w B2 A2 c2 M) :
    Calls Try.prog 31 #[.slice A1 L.length c1, .slice A2 M.length c2] w fun e w' => e = .returned (.bool (sameB L M)) ∧ ∃ q, w' = w.drewN q := by
  by_cases hlen : L.length = M.length
  · have HLen := Lib.hid hlen
    have hle1 : L.length ≤ M.length := Nat.le_of_eq hlen
    rw [← hlen]
    have hcap := hr1.cap
    have hcm := hr1.capm
    unfold maxLen at hcm
    clear hlen
    go_enter Try.func31, Try.ntmps31
    go_wp2_with fail
    go_loopw [5] (fun i wr => ∃ k q : Nat, k ≤ L.length ∧ i = .int .i64 k ∧ Hid (L.take k = M.take k) ∧ Hid (wr = w.drewN q)) (fun i _ => L.length - (intOf i).toNat)
    case atStart => exact ⟨0, 0, Nat.zero_le _, rfl, (by simp [Hid]), rfl⟩
    case round =>
      obtain ⟨k, q, hk, rfl, hd, hw⟩ := hrel
      by_cases hlt : k < L.length
      · have hj2 : k < M.length := by omega
        obtain ⟨b1, o1, rfl, hb1, hc1⟩ := hr1.at_ hlt
        obtain ⟨b2, o2, rfl, hb2, hc2⟩ := hr2.at_ hj2
        have hcj1 := hc1 k hlt
        have hcj2 := hc2 k hj2
        unfold uv at hcj1 hcj2
        obtain rfl := hw.out
        have hi0 : (0 : Int) ≤ (k : Int) := by omega
        have hi1 : (k : Int) < (L.length : Int) := by omega
        have hi2 : (k : Int) < (M.length : Int) := by omega
        clear hc1 hc2
        by_cases hx : L[k] = M[k]
        · have HN : Hid (L.take (k + 1) = M.take (k + 1)) := by
            show L.take (k + 1) = M.take (k + 1)
            rw [List.take_succ_eq_append_getElem hlt, List.take_succ_eq_append_getElem hj2, hd.out, hx]
          have HX : ((((L[k]).toNat : Int)) != ((M[k]).toNat : Int)) = false := by rw [hx]; simp
          clear hx
          go_wp2_with fail
          go_quiet (fail)
          go_wp2_with fail
          go_roundw
          case rel => exact ⟨k + 1, q + nq, by omega, by go_num, HN, by simp [Hid]⟩
          case measure => simp [intOf]; omega
        · have hx2 : (L[k]).toNat ≠ (M[k]).toNat := fun e => hx (u32_eq e)
          have HC := Lib.hid (sameB_no (a := L) (b := M) (fun e => hx (by subst e; rfl)))
          have HX : ((((L[k]).toNat : Int)) != ((M[k]).toNat : Int)) = true := by simp; omega
          clear hx hx2
          go_wp2_with fail
          go_quiet (fail)
          go_wp2_with fail
          go_ret
          rw [HC.out]
          exact ⟨rfl, _, by rw [World.drewN_drewN]⟩
      · obtain rfl : k = L.length := by omega
        have HC := Lib.hid (show sameB L M = true by
          rw [sameB_iff]
          have := hd.out
          rwa [List.take_of_length_le (Nat.le_refl _), List.take_of_length_le (by have := HLen.out; omega)] at this)
        go_wp2_with fail
        go_ret
        rw [HC.out]
        exact ⟨rfl, q, hw.out⟩
  · have h3 : ((L.length : Int) != (M.length : Int)) = true := by simp; omega
    have HC := Lib.hid (sameB_no (a := L) (b := M) (fun e => hlen (by rw [e])))
    clear hlen
    go_enter Try.func31, Try.ntmps31
    go_wp2_with fail
    go_ret
    rw [HC.out]
    exact ⟨rfl, 0, rfl⟩

/-- A slice of limbs. -/
structure El where
  A : Option Addr
  c : Nat
  l : List UInt32
def El.v (x : El) : Value := .slice x.A x.l.length x.c
theorem elv_one (x : El) : x.v.oneCell' = true := rfl
def rightB (most : Nat) (ls : List (List UInt32)) : Bool := ls.all fun l => decide (l.length ≤ most) && decide (chk l = 0)
theorem rightB_bad {most k : Nat} {els : List El} (hk : k < els.length) (h : most < (els[k]).l.length ∨ chk (els[k]).l ≠ 0) : rightB most (els.map (·.l)) = false := by
  unfold rightB
  rw [List.all_eq_false]
  refine ⟨(els[k]).l, List.mem_map.2 ⟨_, List.getElem_mem hk, rfl⟩, ?_⟩
  rcases h with h | h
  · simp; intro h2; omega
  · simp [h]
theorem rightB_all {most : Nat} {els : List El} (h : ∀ x ∈ els, x.l.length ≤ most ∧ chk x.l = 0) : rightB most (els.map (·.l)) = true := by
  unfold rightB
  rw [List.all_eq_true]
  intro l hl
  obtain ⟨x, hx, rfl⟩ := List.mem_map.1 hl
  have := h x hx
  simp [this.1, this.2]

/-- The slice reads as l in the world w. -/
def Sl (w : World) (A : Option Addr) (c : Nat) (l : List UInt32) : Prop := Rf uv w w.heap.size A c l
theorem Sl.to {w w' : World} {A : Option Addr} {c : Nat} {l : List UInt32} (h : Sl w A c l) (hb : Below w.heap.size w w') : Sl w' A c l := (Rf.below h hb).more hb.size
theorem Sl.drewN {w : World} {A : Option Addr} {c : Nat} {l : List UInt32} (h : Sl w A c l) (n : Nat) : Sl (w.drewN n) A c l := Rf.drewN h n
theorem Sl.nil (w : World) : Sl w none 0 [] := Rf.empty _ _
/-- A literal. -/
theorem Sl.lit (w : World) (L : List UInt32) (cs : Array Value) (h : (L.map uv).toArray = cs) (hl : L.length ≤ 1000) : Sl (w.alloc (.cells cs 55)) (some ⟨w.heap.size, 0, none⟩) L.length L := by
  subst h
  have hu : Ub (w.alloc (.cells (L.map uv).toArray 55)) w.heap.size 55 L := Blk.new w _ _
  exact hu.rf_all (Nat.le_refl _) (by unfold maxLen; omega)
theorem Sl.litg (w : World) (g : Nat) (L : List UInt32) (cs : Array Value) (hg : g = w.heap.size) (h : (L.map uv).toArray = cs) (n : Nat) (hn : L.length = n) (hl : n ≤ 1000) : Sl (w.alloc (.cells cs 55)) (some ⟨g, 0, none⟩) n L := by
  subst hg hn
  exact Sl.lit w L cs h hl
def ResP (w w' : World) (l : List UInt32) (er : Int) (e : Ending) : Prop := ∃ A c, e = .returned (.tuple #[.slice A l.length c, .int .i64 er]) ∧ Sl w' A c l ∧ Below w.heap.size w w'
def Res2P (w w' : World) (q r : List UInt32) (er : Int) (e : Ending) : Prop := ∃ A1 A2 c1 c2, e = .returned (.tuple #[.slice A1 q.length c1, .slice A2 r.length c2, .int .i64 er]) ∧ Sl w' A1 c1 q ∧ Sl w' A2 c2 r ∧ Below w.heap.size w w'
theorem resP_of {w w' : World} {q : List UInt32 × Int} {l : List UInt32} {er : Int} {e : Ending} (hq : q = (l, er)) (h : NumErr w w' q e) : ResP w w' l er e := by subst hq; exact h

section
variable (A1 A2 : Option Addr) (c1 c2 n1 n2 : Nat) (a b : List UInt32) (w : World)
theorem add_c (l : List UInt32) (er : Int) (hr1 : Hid (Sl w A1 c1 a)) (hr2 : Hid (Sl w A2 c2 b)) (h1 : Hid (a.length = n1)) (h2 : Hid (b.length = n2)) (hq : Hid (addM a b = (l, er))) :
    Calls Try.prog 68 #[.slice A1 n1 c1, .slice A2 n2 c2] w fun e w' => ResP w w' l er e := by
  obtain rfl := h1.out
  obtain rfl := h2.out
  exact (add2_any A1 A2 c1 c2 a b w hr1.out hr2.out).mono fun e w' h => resP_of hq.out h
theorem mul_c (l : List UInt32) (er : Int) (hr1 : Hid (Sl w A1 c1 a)) (hr2 : Hid (Sl w A2 c2 b)) (h1 : Hid (a.length = n1)) (h2 : Hid (b.length = n2)) (hq : Hid (mulM a b = (l, er))) :
    Calls Try.prog 86 #[.slice A1 n1 c1, .slice A2 n2 c2] w fun e w' => ResP w w' l er e := by
  obtain rfl := h1.out
  obtain rfl := h2.out
  exact (mul2_any A1 A2 c1 c2 a b w hr1.out hr2.out).mono fun e w' h => resP_of hq.out h
theorem gcd_c (l : List UInt32) (er : Int) (hr1 : Hid (Sl w A1 c1 a)) (hr2 : Hid (Sl w A2 c2 b)) (h1 : Hid (a.length = n1)) (h2 : Hid (b.length = n2)) (hq : Hid (gcdM a b = (l, er))) :
    Calls Try.prog 63 #[.slice A1 n1 c1, .slice A2 n2 c2] w fun e w' => ResP w w' l er e := by
  obtain rfl := h1.out
  obtain rfl := h2.out
  exact (gcd2_any A1 A2 c1 c2 a b w hr1.out hr2.out).mono fun e w' h => resP_of hq.out h
theorem div_c (q r : List UInt32) (er : Int) (hr1 : Hid (Sl w A1 c1 a)) (hr2 : Hid (Sl w A2 c2 b)) (h1 : Hid (a.length = n1)) (h2 : Hid (b.length = n2)) (hq : Hid (divM a b = ((q, r), er))) :
    Calls Try.prog 67 #[.slice A1 n1 c1, .slice A2 n2 c2] w fun e w' => Res2P w w' q r er e := by
  obtain rfl := h1.out
  obtain rfl := h2.out
  refine (div2_any A1 A2 c1 c2 a b w hr1.out hr2.out).mono fun e w' h => ?_
  rw [hq.out] at h
  exact h
theorem rsame_c (v : Bool) (hr1 : Hid (Sl w A1 c1 a)) (hr2 : Hid (Sl w A2 c2 b)) (h1 : Hid (a.length = n1)) (h2 : Hid (b.length = n2)) (hq : Hid (sameB a b = v)) :
    Calls Try.prog 31 #[.slice A1 n1 c1, .slice A2 n2 c2] w fun e w' => e = .returned (.bool v) ∧ Below w.heap.size w w' := by
  obtain rfl := h1.out
  obtain rfl := h2.out
  refine (rsame_any A1 A2 c1 c2 _ _ a b w hr1.out hr2.out).mono ?_
  rintro e w' ⟨he, q, rfl⟩
  rw [hq.out] at he
  exact ⟨he, below_drewN _ _ _⟩
theorem check_c (v : Int) (hr1 : Hid (Sl w A1 c1 a)) (h1 : Hid (a.length = n1)) (hq : Hid (chk a = v)) :
    Calls Try.prog 88 #[.slice A1 n1 c1] w fun e w' => e = .returned (.int .i64 v) ∧ w = w' := by
  obtain rfl := h1.out
  have h := check_any A1 c1 _ a w hr1.out
  rw [hq.out] at h
  exact h
theorem word_c (v : Nat) (er : Int) (hr1 : Hid (Sl w A1 c1 a)) (h1 : Hid (a.length = n1)) (hq : Hid (wordM a = (v, er))) :
    Calls Try.prog 84 #[.slice A1 n1 c1] w fun e w' => e = .returned (.tuple #[.int .u64 v, .int .i64 er]) ∧ w = w' := by
  obtain rfl := h1.out
  have h := word2_any A1 c1 _ a w hr1.out
  rw [hq.out] at h
  exact h
end
theorem of_c (n : Nat) (w : World) (l : List UInt32) (hn : n < 18446744073709551616) (hq : Hid (limbs n = l)) :
    Calls Try.prog 66 #[.int .u64 n] w fun e w' => ∃ A c, e = .returned (.slice A l.length c) ∧ Sl w' A c l ∧ Below w.heap.size w w' := by
  obtain rfl := hq.out
  exact of_any n w hn

/-- right at a list of arguments that the call has just laid. -/
theorem els_lit (w : World) (els : List El) (cs : Array Value) (h : (els.map El.v).toArray = cs) (hl : els.length ≤ 1000) : Rf El.v (w.alloc (.cells cs 25)) (w.alloc (.cells cs 25)).heap.size (some ⟨w.heap.size, 0, none⟩) els.length els := by
  subst h
  have hb := Blk.new w 25 (els.map El.v).toArray
  refine ⟨Nat.le_refl _, by unfold maxLen; omega, (fun e => by cases e), fun ad e j hj => ?_⟩
  obtain rfl := Option.some.inj e
  refine ⟨by simp, ?_⟩
  rw [add_plain, hb.cell]
  simp [hj]
theorem chk_lit {l : List UInt32} {n : Nat} (h : l.length = n + 1) (hn : n < 96) (hx : l[n]? ≠ some 0) : chk l = 0 := by
  refine chk_ok (by omega) (limbs_val_last h (fun e => hx ?_))
  rw [List.getElem?_eq_getElem (by omega), e]
theorem limbs_lit {l : List UInt32} {n v : Nat} (h : l.length = n + 1) (hx : l[n]? ≠ some 0) (hv : val l = v) : limbs v = l := by
  subst hv
  refine limbs_val_last h (fun e => hx ?_)
  rw [List.getElem?_eq_getElem (by omega), e]
end Go.Proofs.Ytefoccjphbbmhaa
