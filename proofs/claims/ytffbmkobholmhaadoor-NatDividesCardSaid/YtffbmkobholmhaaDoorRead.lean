/- nat's Read. -/
import Derived.Test.YtffbmkobholmhaaDoorTextR
namespace Go.Proofs.YtffbmkobholmhaaDoor
open Go.RowKit
set_option linter.unusedVariables false
attribute [local go_sem] mk_get

theorem len_norm {L r : List UInt32} {t d : Nat} (hL : limbs (val L) = L) (hv : val r = val L * t + d) (ht : 1 ≤ t) (h1 : L.length ≤ r.length) (h2 : r.length ≤ L.length + 1) (h3 : r.length = L.length + 1 → limbs (val r) = r) : limbs (val r) = r := by
  by_cases h : r.length = L.length + 1
  · exact h3 h
  · have he : r.length = L.length := by omega
    have hle : val L ≤ val r := by
      have : val L * 1 ≤ val L * t := Nat.mul_le_mul_left _ ht
      omega
    have h4 := limbs_mono hle
    rw [hL] at h4
    have h5 := limbs_val_le r
    exact val_inj _ _ (by omega) (val_limbs _)
theorem lengthen_d (A : Option Addr) (c n base d : Nat) (L : List UInt32) (w : World) (v : Int) (how : Ow uv w base 45 A c L) (hn : L.length = n) (hl : n ≤ 1000) (hbase : base ≤ w.heap.size) (hm : d < 10) (hv : v = (d : Int)) :
    Calls Tryd.prog 60 #[.slice A n c, .int .u32 10, .int .u32 v] w fun e w' => LenP L 10 d w w' base A e := by
  subst hv
  exact lengthen_any A c n base d L w how hn hl hbase hm

set_option maxRecDepth 100000 in
set_option maxHeartbeats 2000000 in
theorem read_any (s : List UInt8) (w : World) (hl : s.length ≤ 100000) :
    Calls Tryd.prog 32 #[.string ⟨s.toArray⟩] w fun e w' => NumErr w w' (readM s) e := by
  by_cases h : isNatB s = true
  · have HQ := Lib.hid (readM_ok h)
    have HA := Lib.hid h
    have HALL := Lib.hid ((isOfB_iff 48 57 s).1 (isNatB_digits h)).2
    clear h
    go_enter Tryd.func32, Tryd.ntmps32
    go_wp2_with fail
    refine (isDecimal_any s w (by omega)).mono ?_
    rintro e w' ⟨rfl, rfl⟩
    rw [HA.out]
    go_wp2_with fail
    go_loopw [4, 11] (fun v i wr => ∃ (k : Nat) (A : Option Addr) (c : Nat) (L : List UInt32), k ≤ s.length ∧ i = .int .i64 k ∧ v = .slice A L.length c ∧ L.length ≤ 96 ∧ Hid (L = limbs (valD (s.take k))) ∧ Hid (Ow uv wr w.heap.size 45 A c L) ∧ Hid (Below w.heap.size w wr)) (fun _ i _ => s.length - (intOf i).toNat)
    case atStart => exact ⟨0, none, 0, [], Nat.zero_le _, rfl, rfl, by simp, (show [] = limbs (valD (s.take 0)) by rw [List.take_zero]; exact limbs_zero.symm), Ow.nil _ _ _, Below.refl _ _⟩
    case round =>
      obtain ⟨k, A, c, L, hk, rfl, rfl, hL96, hL, ho, hb⟩ := hrel
      by_cases hlt : k < s.length
      · have hdig := HALL.out _ (List.getElem_mem hlt)
        have hlo : (48 : Int) ≤ ((s[k].toNat : Nat) : Int) := by omega
        have hhi : ((s[k].toNat : Nat) : Int) ≤ 57 := by omega
        obtain ⟨d, hd⟩ : ∃ d, d = s[k].toNat - 48 := ⟨_, rfl⟩
        have hd10 : d < 10 := by omega
        have HD := Lib.hid (show ((s[k].toNat : Nat) : Int) - 48 = (d : Int) by omega)
        have HV := Lib.hid (show valD (s.take (k + 1)) = 10 * valD (s.take k) + d by rw [valD_take s k hlt, hd])
        have hbz := hb.out.size
        clear hd hdig
        go_wp2_with fail
        (with_reducible refine (lengthen_d A c L.length w.heap.size d L wr _ ho.out rfl (by omega) hbz hd10 HD.out).mono ?_)
        rintro e w2 ⟨A2, c2, r, rfl, hv2, hl1, hl2, hl3, ho2, hg2, hb2⟩
        have hnr := len_norm (show limbs (val L) = L by rw [hL.out, val_limbs]) hv2 (by decide) hl1 hl2 hl3
        have HR := Lib.hid (show r = limbs (valD (s.take (k + 1))) by
          rw [← hnr, hv2, HV.out]
          have e : val L = valD (s.take k) := by rw [hL.out, val_limbs]
          rw [e, Nat.mul_comm])
        have HO2 := Lib.hid ho2
        have HB2 := Lib.hid (hb.out.trans (below_of_grown hg2 hb.out.size (fun g hg => (ho.out.blk_ge g hg).1)))
        clear hv2 hl1 hl3 ho2 hg2 hb2 hnr
        by_cases h96 : 96 < r.length
        · have h96i : (96 : Int) < (r.length : Int) := by omega
          have HBAD := Lib.hid (show readM s = ([], 30) by
            rw [HQ.out]
            refine numM_great ?_
            have h1 := limbs_mono (valD_take_le s (k + 1))
            rw [← HR.out] at h1
            omega)
          go_wp2_with fail
          go_ret2
          rw [HBAD.out]
          exact ⟨none, 0, rfl, Rf.empty _ _, HB2.out⟩
        · have h96d : decide ((96 : Int) < (r.length : Int)) = false := by simp; omega
          go_wp2_with fail
          go_roundw
          case rel => exact ⟨k + 1, A2, c2, r, by omega, by go_num, rfl, by omega, HR, HO2, HB2⟩
          case measure => simp [intOf]; omega
      · obtain rfl : k = s.length := by omega
        have hLv : val L = valD s := by rw [hL.out, val_limbs, List.take_of_length_le (Nat.le_refl _)]
        have HN := Lib.hid (show (limbs (val L)).length = L.length by rw [hL.out, val_limbs])
        have HEQ := Lib.hid (show readM s = (L, 0) by
          have e : L = limbs (valD s) := by rw [← hLv, hL.out, val_limbs]
          rw [HQ.out, numM_ok (by rw [← e]; exact hL96), ← e])
        have HRD := Lib.hid ho.out.rd
        have hLL := Lib.hid (show limbs (val L) = L by rw [hL.out, val_limbs])
        clear hLv
        go_wp2_with fail
        (with_reducible refine (trim_n A c _ L.length L.length L wr HRD.out (by omega) rfl HN.out).mono ?_)
        rintro e w5 ⟨rfl, rfl⟩
        go_wp2_with fail
        go_ret2
        rw [HEQ.out]
        have e := HRD.out.trim
        rw [hLL.out] at e
        exact ⟨A, L.length, rfl, e, hb.out⟩
  · have HQ := Lib.hid (readM_form h)
    have hf : isNatB s = false := by simpa using h
    have HF := Lib.hid hf
    clear h hf
    go_enter Tryd.func32, Tryd.ntmps32
    go_wp2_with fail
    refine (isDecimal_any s w (by omega)).mono ?_
    rintro e w' ⟨rfl, rfl⟩
    rw [HF.out]
    go_wp2_with fail
    go_ret2
    rw [HQ.out]
    exact numErr_bad w 11
end Go.Proofs.YtffbmkobholmhaaDoor
