/- nat's divideOnce. -/
import Derived.Test.YtffbmkobholmhaaDoorShift
namespace Go.Proofs.YtffbmkobholmhaaDoor
open Go.RowKit
set_option linter.unusedVariables false

def OnceP (g i n : Nat) (L D : List UInt32) (w w' : World) (e : Ending) : Prop :=
  ∃ (M : List UInt32), e = .returned (.int .u32 ((val (seg L i (n + 1)) / val D : Nat) : Int)) ∧ far M L i (n + 1) ∧ val (seg M i (n + 1)) = val (seg L i (n + 1)) % val D ∧ Ub w' g 45 M ∧ w.grownBy w' (some g)

theorem subtract_n (g o n c cb B t nb : Nat) (A : Option Addr) (L m : List UInt32) (w : World) (hu : Ub w g 45 L) (hon : o + n ≤ L.length) (hnc : n ≤ c) (hl : L.length ≤ 1000000) (hr : Rf uv w B A cb m) (hB : B ≤ w.heap.size) (hne : 0 < m.length → blk A ≠ some g) (hm : m.length ≤ n) (ht : t < 4294967296) (hnb : m.length = nb) :
    Calls Tryd.prog 50 #[.slice (some ⟨g, o, none⟩) n c, .slice A nb cb, .int .u32 t] w fun e w' => SubP g o n t L m w w' e := by
  subst hnb
  exact subtract_any g o n c cb B t A L m w hu hon hnc hl hr hB hne hm ht
theorem add_n (g o n c cb B nb : Nat) (A : Option Addr) (L m : List UInt32) (w : World) (hu : Ub w g 45 L) (hon : o + n ≤ L.length) (hnc : n ≤ c) (hl : L.length ≤ 1000000) (hr : Rf uv w B A cb m) (hB : B ≤ w.heap.size) (hne : 0 < m.length → blk A ≠ some g) (hm : m.length ≤ n) (hnb : m.length = nb) :
    Calls Tryd.prog 47 #[.slice (some ⟨g, o, none⟩) n c, .slice A nb cb] w fun e w' => AddP g o n cb A L m w w' e := by
  subst hnb
  exact add_any g o n c cb B A L m w hu hon hnc hl hr hB hne hm
theorem guess_int {z x G : Nat} (hx : 0 < x) (hz : z < 18446744073709551616) (hG : G = min (z / x) 4294967295) : min (IntKind.u64.wrap ((z : Int) / (x : Int))) 4294967295 % 4294967296 = (G : Int) := by
  have h1 : z / x ≤ z := Nat.div_le_self z x
  have e1 : (z : Int) / (x : Int) = ((z / x : Nat) : Int) := by simp
  have e2 : IntKind.u64.wrap ((z / x : Nat) : Int) = ((z / x : Nat) : Int) := by
    generalize z / x = q at h1
    rw [IntKind.wrap_u64]
    omega
  rw [e1, e2]
  generalize z / x = q at hG
  omega

set_option maxRecDepth 100000 in
set_option maxHeartbeats 1000000 in
theorem divideOnce_any (g i j n c cb B : Nat) (A : Option Addr) (L D : List UInt32) (w : World) (hu : Ub w g 45 L) (hn : n = j + 1) (hD : D.length = n) (hon : i + (n + 1) ≤ L.length) (hnc : n + 1 ≤ c) (hl : L.length ≤ 1000000) (hr : Rf uv w B A cb D) (hB : B ≤ w.heap.size) (hne : 0 < D.length → blk A ≠ some g)
    (hd0 : ∀ h : j < D.length, D[j] ≠ 0) (hlt : val (seg L i (n + 1)) < val D * 4294967296) :
    Calls Tryd.prog 70 #[.slice (some ⟨g, i, none⟩) (n + 1) c, .slice A n cb] w fun e w' => OnceP g i n L D w w' e := by
  subst hn
  have hjD : j < D.length := by omega
  have hc1 := Ub.cell hu (i := i + (j + 1)) (by omega)
  have hc2 := Ub.cell hu (i := i + j) (by omega)
  obtain ⟨b, o, rfl, hb, hcd⟩ := hr.at_ hjD
  have hc3 := hcd j hjD
  unfold uv at hc3
  clear hcd
  have hx1 := u32_lt L[i + (j + 1)]
  have hx2 := u32_lt L[i + j]
  have hx3 := u32_lt D[j]
  have hdp : 0 < (D[j]).toNat := by
    rcases Nat.eq_zero_or_pos (D[j]).toNat with e | e
    · exact absurd (u32_eq (by rw [e]; rfl)) (hd0 hjD)
    · exact e
  have e1 : val (seg L i (j + 1 + 1)) < (4294967296 * (L[i + (j + 1)]).toNat + (L[i + j]).toNat + 1) * bp j := by
    have h1 := val_seg_snoc (l := L) (o := i) (n := j + 1) (by omega)
    have h2 := val_seg_snoc (l := L) (o := i) (n := j) (by omega)
    have h3 := val_seg_lt L i j (by omega)
    rw [h1, h2, bp_succ]
    have e : (4294967296 * (L[i + (j + 1)]).toNat + (L[i + j]).toNat + 1) * bp j = 4294967296 * bp j * (L[i + (j + 1)]).toNat + bp j * (L[i + j]).toNat + bp j := by
      rw [Nat.add_mul, Nat.add_mul, Nat.one_mul, Nat.mul_comm (L[i + j]).toNat]
      congr 2
      rw [Nat.mul_assoc, Nat.mul_assoc, Nat.mul_comm (L[i + (j + 1)]).toNat]
    rw [e]
    omega
  have e2 : (D[j]).toNat * bp j ≤ val D := by
    have h1 := val_take_succ hjD
    rw [List.take_of_length_le (by omega), Nat.mul_comm] at h1
    omega
  have hD0 : 0 < val D := Nat.lt_of_lt_of_le (Nat.mul_pos hdp (bp_pos j)) e2
  have HG := Lib.hid (guess_ge hdp e1 e2 hlt)
  obtain ⟨x1, hh1⟩ : ∃ x, x = (L[i + (j + 1)]).toNat := ⟨_, rfl⟩
  obtain ⟨x2, hh2⟩ : ∃ x, x = (L[i + j]).toNat := ⟨_, rfl⟩
  obtain ⟨x3, hh3⟩ : ∃ x, x = (D[j]).toNat := ⟨_, rfl⟩
  rw [← hh1, ← hh2, ← hh3] at HG
  rw [← hh1] at hc1 hx1
  rw [← hh2] at hc2 hx2
  rw [← hh3] at hc3 hx3 hdp
  obtain ⟨z, hz⟩ : ∃ z, z = 4294967296 * x1 + x2 := ⟨_, rfl⟩
  rw [← hz] at HG
  have hzl : z < 18446744073709551616 := by omega
  have hwd := fun W => word_n x1 x2 z W hx1 hx2 hz
  have HW := Lib.hid hwd
  obtain ⟨G, hG⟩ : ∃ G, G = min (z / x3) 4294967295 := ⟨_, rfl⟩
  rw [← hG] at HG
  have HGG := Lib.hid hG
  have hGl : G ≤ 4294967295 := by omega
  have HDL := Lib.hid hD
  have HD0 := Lib.hid hd0
  have HQ := Lib.hid (guess_int hdp hzl HGG.out)
  have hwrap : IntKind.i64.wrap ((j : Int) + 1 - 1) = (j : Int) := by rw [IntWalk.i64_in _ (by omega)]; omega
  clear hh1 hh2 hh3 hz e1 e2 hwd hG hD hd0 hlt
  go_enter Tryd.func70, Tryd.ntmps70
  go_wp2_with fail
  go_quiet ((go_at_call 38; exact quiet_left (HW.out _)))
  clear hwrap
  go_wp2_with fail
  rw [HQ.out]
  have hBq : B ≤ (w.drewN nq).heap.size := hB
  have hjl : D.length ≤ j + 1 + 1 := by have := HDL.out; omega
  (with_reducible refine (subtract_n g i (j + 1 + 1) c cb B G (j + 1) (some ⟨b, o, none⟩) L D (w.drewN nq) (hu.drewN nq) hon hnc hl (hr.drewN nq) hBq hne hjl (by omega) HDL.out).mono ?_)
  rintro e w1 ⟨M1, k1, rfl, hk1, hf1, hv1, hub1, hg1⟩
  have HF1 := Lib.hid hf1
  have HV1 := Lib.hid hv1
  have HU1 := Lib.hid hub1
  have HK1 := Lib.hid (show w.grownBy w1 (some g) from (grown_drewN (grown_refl w (some g)) nq).trans hg1)
  clear hf1 hv1 hub1 hg1
  obtain ⟨S, hS⟩ : ∃ S, S = val (seg L i (j + 1 + 1)) := ⟨_, rfl⟩
  obtain ⟨DV, hDV⟩ : ∃ DV, DV = val D := ⟨_, rfl⟩
  rw [← hS, ← hDV] at HG
  rw [← hDV] at hD0
  rw [← hS, ← hDV] at HV1
  have HSS := Lib.hid hS
  have HDV := Lib.hid hDV
  clear hS hDV
  go_wp2_with fail
  go_loopw [6, 7] (fun gv ov wr => ∃ gu ow : Nat, ∃ M : List UInt32, gu ≤ 4294967295 ∧ ow < 4294967296 ∧ gv = .int .u32 gu ∧ ov = .int .u32 ow ∧ Hid (far M L i (j + 1 + 1)) ∧ Hid (val (seg M i (j + 1 + 1)) + gu * DV = S + bp (j + 1 + 1) * ow) ∧ Hid (S / DV ≤ gu) ∧ Hid (Ub wr g 45 M) ∧ Hid (w.grownBy wr (some g))) (fun gv _ _ => (intOf gv).toNat)
  case atStart => exact ⟨G, k1, M1, hGl, hk1, rfl, rfl, HF1, (by have := HV1.out; rw [Nat.mul_comm] at this; exact this), HG, HU1, HK1⟩
  case round =>
    obtain ⟨gu, ow, M, hgu, how, rfl, rfl, hf, hv, hq, hub, hg⟩ := hrel
    by_cases h0 : ow = 0
    · subst h0
      have hend := guess_end hD0 (by have := hv.out; rw [Nat.mul_zero, Nat.add_zero] at this; exact this) hq.out
      have HE := Lib.hid hend
      clear hend
      go_wp2_with fail
      go_ret
      refine ⟨M, ?_, hf.out, ?_, hub.out, hg.out⟩
      · have e := HE.out.1
        rw [HSS.out, HDV.out] at e
        rw [← e]; rfl
      · have e := HE.out.2
        rwa [HSS.out, HDV.out] at e
    · have hlM := hf.out.1
      have hR := val_seg_lt M i (j + 1 + 1) (by omega)
      have hh := guess_high hD0 hv.out hR (by omega) hq.out
      have HQ2 := Lib.hid hh.1
      have hg1 : 1 ≤ gu := hh.2
      have how1 : 0 < ow := by omega
      have hon2 : i + (j + 1 + 1) ≤ M.length := by omega
      have hl2 : M.length ≤ 1000000 := by omega
      have hrr := hr.grown hg.out hB hne
      have hBr : B ≤ wr.heap.size := Nat.le_trans hB hg.out.size
      have HLM := Lib.hid hlM
      clear hlM hh hR h0
      go_wp2_with fail
      (with_reducible refine (add_n g i (j + 1 + 1) c cb B (j + 1) (some ⟨b, o, none⟩) M D wr hub.out hon2 hnc hl2 hrr hBr hne hjl HDL.out).mono ?_)
      rintro e w4 ⟨M4, cr, rfl, hcr, hf4, hv4, hub4, hg4⟩
      have HF4 := Lib.hid (far_trans hf4 hf.out)
      have HV4 := Lib.hid (guess_step (c := cr) (R' := val (seg M4 i (j + 1 + 1))) hv.out hg1 (by omega) (by rw [HDV.out]; exact hv4))
      have HU4 := Lib.hid hub4
      have HK4 := Lib.hid (hg.out.trans hg4)
      clear hf4 hv4 hub4 hg4
      go_wp2_with fail
      go_roundw
      case rel => exact ⟨gu - 1, ow - cr, M4, by omega, by omega, by go_num, by go_num, HF4, HV4, HQ2, HU4, HK4⟩
      case measure => simp [intOf]; omega
end Go.Proofs.YtffbmkobholmhaaDoor
