/- The reference's Read. -/
import Derived.Test.YtffbmkobholmhaaDoorRefG
import Derived.Test.YtffbmkobholmhaaDoorRead
namespace Go.Proofs.YtffbmkobholmhaaDoor
open Go.RowKit
set_option linter.unusedVariables false
attribute [local go_sem] mk_get

set_option maxRecDepth 100000 in
set_option maxHeartbeats 4000000 in
theorem rread_any (s : List UInt8) (w : World) (hl : s.length ≤ 100000) :
    Calls Tryd.prog 33 #[.string ⟨s.toArray⟩] w fun e w' => NumErr w w' (readM s) e := by
  obtain ⟨i0, hi, hz0, hz1, hz2⟩ := info_parts uInfo
  by_cases h0 : s.length = 0
  · obtain rfl := List.eq_nil_of_length_eq_zero h0
    have HB := Lib.hid (show readM [] = ([], 11) from readM_form (by decide))
    go_enter Tryd.func33, Tryd.ntmps33
    go_wp2_with fail
    go_ret2
    rw [HB.out]
    exact numErr_bad w 11
  · have hp : 0 < s.length := by omega
    have h0d : ((s.length : Int) == 0) = false := by rw [beq_eq_false_iff_ne]; omega
    have hhead : s.head? = some s[0] := by rw [List.head?_eq_getElem?, List.getElem?_eq_getElem hp]
    by_cases h1 : 1 < s.length
    · have h1i : (1 : Int) < (s.length : Int) := by omega
      by_cases h48 : s[0].toNat = 48
      · have HB := Lib.hid (show readM s = ([], 11) from readM_form (by
          have e48 : s[0] = 48 := UInt8.toNat_inj.1 h48
          rw [isNatB_not (fun e => by rw [e] at h1; simp at h1) (.inr (by rw [hhead, e48]))]; simp))
        have h48i : ((s[0].toNat : Nat) : Int) = 48 := by omega
        clear hhead h0 h48
        go_enter Tryd.func33, Tryd.ntmps33
        go_wp2_with fail
        go_ret2
        rw [HB.out]
        exact numErr_bad w 11
      · have HNAT := Lib.hid (show (∀ b ∈ s, 48 ≤ b.toNat ∧ b.toNat ≤ 57) → isNatB s = true from fun hall =>
          isNatB_yes ((isOfB_iff 48 57 s).2 ⟨fun e => h0 (by rw [e]; rfl), hall⟩) (by
            rw [hhead]; intro e; exact h48 (by rw [Option.some.inj e]; rfl)))
        have h48i : (((s[0].toNat : Nat) : Int) == 48) = false := by rw [beq_eq_false_iff_ne]; omega
        clear hhead h0 h48
        go_enter Tryd.func33, Tryd.ntmps33
        go_wp2_with fail
        go_loop [4] (fun i => ∃ k : Nat, k ≤ s.length ∧ i = .int .i64 k ∧ Hid (∀ b ∈ s.take k, 48 ≤ b.toNat ∧ b.toNat ≤ 57)) (fun i => s.length - (intOf i).toNat)
        case atStart => exact ⟨0, Nat.zero_le _, rfl, by simp [Hid]⟩
        case round =>
          obtain ⟨k, hk, rfl, hpre⟩ := hrel
          by_cases hlt : k < s.length
          · by_cases h1 : s[k].toNat < 48
            · have HB := Lib.hid (show readM s = ([], 11) from readM_form (by rw [natB_bad (List.getElem_mem hlt) (.inl h1)]; simp))
              have h1d : decide (((s[k].toNat : Nat) : Int) < 48) = true := by rw [decide_eq_true_eq]; omega
              go_wp2_with fail
              go_ret2
              rw [HB.out]
              exact numErr_bad w 11
            · have h1d : decide (((s[k].toNat : Nat) : Int) < 48) = false := by simp; omega
              by_cases h2 : 57 < s[k].toNat
              · have HB := Lib.hid (show readM s = ([], 11) from readM_form (by rw [natB_bad (List.getElem_mem hlt) (.inr h2)]; simp))
                have h2d : decide ((57 : Int) < ((s[k].toNat : Nat) : Int)) = true := by simp; omega
                go_wp2_with fail
                go_ret2
                rw [HB.out]
                exact numErr_bad w 11
              · have h2d : decide ((57 : Int) < ((s[k].toNat : Nat) : Int)) = false := by simp; omega
                have HN : Hid (∀ b ∈ s.take (k + 1), 48 ≤ b.toNat ∧ b.toNat ≤ 57) := by
                  intro b hb
                  rw [List.take_succ_eq_append_getElem hlt] at hb
                  rcases List.mem_append.1 hb with h | h
                  · exact hpre.out b h
                  · simp at h; rw [h]; omega
                go_wp2_with fail
                go_round
                case rel => exact ⟨k + 1, by omega, by go_num, HN⟩
                case measure => simp [intOf]; omega
          · obtain rfl : k = s.length := by omega
            have hall : ∀ b ∈ s, 48 ≤ b.toNat ∧ b.toNat ≤ 57 := by have := hpre.out; rwa [List.take_of_length_le (Nat.le_refl _)] at this
            have HALL := Lib.hid hall
            have HQ := Lib.hid (readM_ok (HNAT.out hall))
            clear hpre hall hlt
            go_wp2_with fail
            go_loopw [5, 6] (fun v i wr => ∃ (k : Nat) (A : Option Addr) (c : Nat) (L : List UInt32), k ≤ s.length ∧ i = .int .i64 k ∧ v = .slice A L.length c ∧ L.length ≤ 96 ∧ Hid (L = limbs (valD (s.take k))) ∧ Hid (Ow uv wr w.heap.size 45 A c L) ∧ Hid (Below w.heap.size w wr)) (fun _ i _ => s.length - (intOf i).toNat)
            case atStart => exact ⟨0, none, 0, [], Nat.zero_le _, rfl, rfl, by simp, (show [] = limbs (valD (s.take 0)) by rw [List.take_zero]; exact limbs_zero.symm), Ow.nil _ _ _, Below.refl _ _⟩
            case round =>
              obtain ⟨k, A, c, L, hk, rfl, rfl, hL96, hL, ho, hb⟩ := hrel
              by_cases hlt : k < s.length
              · have hdig := HALL.out _ (List.getElem_mem hlt)
                have hlo : (48 : Int) ≤ ((s[k].toNat : Nat) : Int) := by omega
                have hhi : ((s[k].toNat : Nat) : Int) ≤ 57 := by omega
                obtain ⟨d, hd⟩ : ∃ d, d = s[k].toNat - 48 := ⟨_, rfl⟩
                have hd10 : d < 10 := by omega
                have HV := Lib.hid (show valD (s.take (k + 1)) = 10 * valD (s.take k) + d by rw [valD_take s k hlt, hd])
                have hdz : ((s[k].toNat : Nat) : Int) - 48 = (d : Int) := by omega
                have hbz := hb.out.size
                have HREL0 : Hid (LenRel L 10 d w.heap.size A c wr wr 0 d L) := ⟨rfl, fun _ _ => rfl, by simp [val_nil, bp_zero], ho.out, grown_refl _ _⟩
                have hbg := fun g hg => (ho.out.blk_ge g hg).1
                have HBG := Lib.hid hbg
                clear hd hdig hbg
                obtain ⟨wo, rfl⟩ : ∃ wo, wo = wr := ⟨_, rfl⟩
                go_wp2_with fail
                go_loopw [7, 8] (fun x i wx => ∃ (j mo : Nat) (M : List UInt32), x = .int .u64 mo ∧ i = .int .i64 j ∧ j ≤ L.length ∧ mo < 10 ∧ Hid (LenRel L 10 d w.heap.size A c wo wx j mo M)) (fun _ i _ => L.length - (intOf i).toNat)
                case atStart => exact ⟨0, d, L, rfl, rfl, Nat.zero_le _, hd10, HREL0⟩
                case round =>
                  obtain ⟨j, mo, M, rfl, rfl, hj, hmo, hrl⟩ := hrel
                  by_cases hjl : j < L.length
                  · obtain ⟨hM, hhi2, hv, hown, hg⟩ := hrl.out
                    have hA : ∃ g, A = some ⟨g, 0, none⟩ := by
                      rcases hown.form with ⟨_, _, e⟩ | ⟨g, e, _⟩
                      · rw [e] at hM; simp at hM; omega
                      · exact ⟨g, e⟩
                    obtain ⟨g, rfl⟩ := hA
                    have hcell : wr.cell? ⟨g, j, none⟩ = some (.int .u32 ((L[j]).toNat : Int)) := by
                      have e := hhi2 j (Nat.le_refl _)
                      rw [List.getElem?_eq_getElem hjl, List.getElem?_eq_getElem (by omega)] at e
                      rw [hown.cell_ (by omega), Option.some.inj e]
                    have hfz := hown.frozen_ j
                    have hxlt := u32_lt L[j]
                    obtain ⟨x, hx⟩ : ∃ x, x = (L[j]).toNat := ⟨_, rfl⟩
                    have HS := Lib.hid (len_step (t := 10) (p := x * 10) (m0 := d) hM hjl hx rfl hv)
                    rw [← hx] at hcell hxlt
                    have HREL : ∀ v : Int, v = (((x * 10 + mo) % 4294967296 : Nat) : Int) → Hid (LenRel L 10 d w.heap.size (some ⟨g, 0, none⟩) c wo (wr.setCell ⟨g, j, none⟩ (.int .u32 v)) (j + 1) ((x * 10 + mo) / 4294967296) (M.set j (UInt32.ofNat ((x * 10 + mo) % 4294967296)))) := fun v hv2 =>
                      ⟨by rw [List.length_set]; exact hM, fun j' hj' => by rw [List.getElem?_set_ne (by omega)]; exact hhi2 j' (by omega), HS.out, hown.set_ j _ v (by rw [u32_of _ (by omega), hv2]) (by omega), grown_setCell hg _ _⟩
                    have HRELH := Lib.hid HREL
                    have hi0 : (0 : Int) ≤ (j : Int) := by omega
                    have hi1 : (j : Int) < (L.length : Int) := by omega
                    clear hx hhi2 hv hown hg hM HREL hdz
                    go_wp2_with fail
                    go_roundw
                    case rel => exact ⟨j + 1, (x * 10 + mo) / 4294967296, _, by go_num, by go_num, by omega, by omega, HRELH.out _ (by omega)⟩
                    case measure => simp [intOf]; omega
                  · obtain rfl : j = L.length := by omega
                    obtain ⟨hM, _, hv, hown, hg⟩ := hrl.out
                    have hval : val M + bp L.length * mo = val L * 10 + d := by
                      rw [List.take_of_length_le (by omega), List.take_of_length_le (by omega)] at hv
                      omega
                    have HVM := Lib.hid hval
                    have HM := Lib.hid hM
                    have HO := Lib.hid hown
                    have HG := Lib.hid hg
                    have hgz := hg.size
                    have HBw := Lib.hid (hb.out.trans (below_of_grown hg hb.out.size HBG.out))
                    clear hval hM hown hg hv hrl hdz hlo hhi
                    by_cases hm0 : mo = 0
                    · subst hm0
                      obtain ⟨r, hr⟩ : ∃ r, r = M := ⟨_, rfl⟩
                      obtain ⟨A2, hA2⟩ : ∃ A2, A2 = A := ⟨_, rfl⟩
                      obtain ⟨c2, hc2⟩ : ∃ c2, c2 = c := ⟨_, rfl⟩
                      have hrn : r.length = L.length := by rw [hr]; exact HM.out
                      have hrl1 : L.length ≤ r.length := by omega
                      have hrl2 : r.length ≤ L.length + 1 := by omega
                      have HL3 := Lib.hid (show r.length = L.length + 1 → limbs (val r) = r from fun h => by omega)
                      have HV2 := Lib.hid (show val r = val L * 10 + d by rw [hr]; have := HVM.out; omega)
                      have HO2 := Lib.hid (show Ow uv wr w.heap.size 45 A2 c2 r by rw [hr, hA2, hc2]; exact HO.out)
                      have HB2 := HBw
                      have HRN := Lib.hid hrn
                      rw [← hA2, ← hc2, ← hrn]
                      clear hr hA2 hc2 hrn HO HM
                      have HR := Lib.hid (show r = limbs (valD (s.take (k + 1))) by
                        have hnr := len_norm (show limbs (val L) = L by rw [hL.out, val_limbs]) HV2.out (by decide) hrl1 hrl2 HL3.out
                        rw [← hnr, HV2.out, HV.out]
                        have e : val L = valD (s.take k) := by rw [hL.out, val_limbs]
                        rw [e, Nat.mul_comm])
                      by_cases h96 : 96 < r.length
                      · have h96i : (96 : Int) < (r.length : Int) := by omega
                        have HBAD := Lib.hid (show readM s = ([], 30) by
                          rw [HQ.out]
                          refine numM_great ?_
                          have h1 := limbs_mono (valD_take_le s (k + 1))
                          rw [← HR.out] at h1
                          omega)
                        go_wp2_with fail
                        go_ret2
                        rw [HBAD.out]
                        exact ⟨none, 0, rfl, Rf.empty _ _, HB2.out⟩
                      · have h96d : decide ((96 : Int) < (r.length : Int)) = false := by simp; omega
                        go_wp2_with fail
                        go_roundw
                        case rel => exact ⟨k + 1, A2, c2, r, by omega, by go_num, rfl, by omega, HR, HO2, HB2⟩
                        case measure => simp [intOf]; omega
                    · have hmi : (0 : Int) < (mo : Int) := by omega
                      obtain ⟨xm, hxm⟩ : ∃ xm, xm = UInt32.ofNat mo := ⟨_, rfl⟩
                      have hxn : xm.toNat = mo := by rw [hxm, u32_of _ (by omega)]
                      have HXN := Lib.hid hxn
                      have HRO := Lib.hid (ro_one wr xm (mo : Int) (by rw [hxn]))
                      have HMM := HM.out
                      have hml : M.length ≤ 1000 := by omega
                      have hbz2 : w.heap.size ≤ wr.heap.size := HBw.out.size
                      rw [← HMM]
                      clear hxm hxn HMM
                      go_wp2_with (at_builtin; refine wpList_append_f _ uv_one rfl _ _ 22 rfl w.heap.size 45 4 i0 _ Tryd.underlying22 hi hz0 hz1 hz2 (by decide) rfl M [xm] rfl rfl (HO.out.alloc _) HRO.out (by simp; omega) (by simp; omega) ?_; intro A2 c2 w2 r hr2 HO2 hg2 hb2)
                      all_goals
                        have hr3 : r = M ++ [xm] := hr2.out
                        have hrl1 : L.length ≤ r.length := by rw [hr3]; simp; have := HM.out; omega
                        have hrl2 : r.length ≤ L.length + 1 := by rw [hr3]; simp; have := HM.out; omega
                        have HL3 := Lib.hid (show r.length = L.length + 1 → limbs (val r) = r from fun _ => by
                          rw [hr3]
                          refine limbs_val_snoc _ _ (fun e => ?_)
                          have := HXN.out
                          rw [e] at this
                          simp at this
                          omega)
                        have HV2 := Lib.hid (show val r = val L * 10 + d by rw [hr3, val_snoc, HXN.out, HM.out]; have := HVM.out; omega)
                        have HB2 := Lib.hid ((HBw.out.trans ((below_new wr _).mono hbz2)).trans (below_of_grown hg2 (by simp; omega) HBG.out))
                        clear hr3 hr2 hg2 hb2
                        have HR := Lib.hid (show r = limbs (valD (s.take (k + 1))) by
                          have hnr := len_norm (show limbs (val L) = L by rw [hL.out, val_limbs]) HV2.out (by decide) hrl1 hrl2 HL3.out
                          rw [← hnr, HV2.out, HV.out]
                          have e : val L = valD (s.take k) := by rw [hL.out, val_limbs]
                          rw [e, Nat.mul_comm])
                      · have h96 : 96 < r.length := by omega
                        have HBAD := Lib.hid (show readM s = ([], 30) by
                          rw [HQ.out]
                          refine numM_great ?_
                          have h1 := limbs_mono (valD_take_le s (k + 1))
                          rw [← HR.out] at h1
                          omega)
                        go_ret2
                        rw [HBAD.out]
                        exact ⟨none, 0, rfl, Rf.empty _ _, HB2.out⟩
                      · have h96 : r.length ≤ 96 := by omega
                        go_roundw
                        case rel => exact ⟨k + 1, A2, c2, r, by omega, by go_num, rfl, by omega, HR, HO2, HB2⟩
                        case measure => simp [intOf]; omega
              · obtain rfl : k = s.length := by omega
                have HEQ := Lib.hid (show readM s = (L, 0) by
                  have e : L = limbs (valD s) := by have := hL.out; rwa [List.take_of_length_le (Nat.le_refl _)] at this
                  rw [HQ.out, numM_ok (by rw [← e]; exact hL96), ← e])
                go_wp2_with fail
                go_ret2
                rw [HEQ.out]
                exact ⟨A, c, rfl, ho.out.rd, hb.out⟩
    · have h1i : decide ((1 : Int) < (s.length : Int)) = false := by simp; omega
      have HNAT := Lib.hid (show (∀ b ∈ s, 48 ≤ b.toNat ∧ b.toNat ≤ 57) → isNatB s = true from fun hall => by
        by_cases h48 : s[0].toNat = 48
        · have e48 : s[0] = 48 := UInt8.toNat_inj.1 h48
          have e : s = [48] := by
            rw [← e48]
            exact List.ext_getElem (by simp; omega) (fun i h2 h3 => by simp at h3; subst h3; rfl)
          rw [e]; exact isNatB_zero
        · exact isNatB_yes ((isOfB_iff 48 57 s).2 ⟨fun e => h0 (by rw [e]; rfl), hall⟩) (by
            rw [hhead]; intro e; exact h48 (by rw [Option.some.inj e]; rfl)))
      clear hhead h0
      go_enter Tryd.func33, Tryd.ntmps33
      go_wp2_with fail
      go_loop [4] (fun i => ∃ k : Nat, k ≤ s.length ∧ i = .int .i64 k ∧ Hid (∀ b ∈ s.take k, 48 ≤ b.toNat ∧ b.toNat ≤ 57)) (fun i => s.length - (intOf i).toNat)
      case atStart => exact ⟨0, Nat.zero_le _, rfl, by simp [Hid]⟩
      case round =>
        obtain ⟨k, hk, rfl, hpre⟩ := hrel
        by_cases hlt : k < s.length
        · by_cases h1 : s[k].toNat < 48
          · have HB := Lib.hid (show readM s = ([], 11) from readM_form (by rw [natB_bad (List.getElem_mem hlt) (.inl h1)]; simp))
            have h1d : decide (((s[k].toNat : Nat) : Int) < 48) = true := by rw [decide_eq_true_eq]; omega
            go_wp2_with fail
            go_ret2
            rw [HB.out]
            exact numErr_bad w 11
          · have h1d : decide (((s[k].toNat : Nat) : Int) < 48) = false := by simp; omega
            by_cases h2 : 57 < s[k].toNat
            · have HB := Lib.hid (show readM s = ([], 11) from readM_form (by rw [natB_bad (List.getElem_mem hlt) (.inr h2)]; simp))
              have h2d : decide ((57 : Int) < ((s[k].toNat : Nat) : Int)) = true := by simp; omega
              go_wp2_with fail
              go_ret2
              rw [HB.out]
              exact numErr_bad w 11
            · have h2d : decide ((57 : Int) < ((s[k].toNat : Nat) : Int)) = false := by simp; omega
              have HN : Hid (∀ b ∈ s.take (k + 1), 48 ≤ b.toNat ∧ b.toNat ≤ 57) := by
                intro b hb
                rw [List.take_succ_eq_append_getElem hlt] at hb
                rcases List.mem_append.1 hb with h | h
                · exact hpre.out b h
                · simp at h; rw [h]; omega
              go_wp2_with fail
              go_round
              case rel => exact ⟨k + 1, by omega, by go_num, HN⟩
              case measure => simp [intOf]; omega
        · obtain rfl : k = s.length := by omega
          have hall : ∀ b ∈ s, 48 ≤ b.toNat ∧ b.toNat ≤ 57 := by have := hpre.out; rwa [List.take_of_length_le (Nat.le_refl _)] at this
          have HALL := Lib.hid hall
          have HQ := Lib.hid (readM_ok (HNAT.out hall))
          clear hpre hall hlt
          go_wp2_with fail
          go_loopw [5, 6] (fun v i wr => ∃ (k : Nat) (A : Option Addr) (c : Nat) (L : List UInt32), k ≤ s.length ∧ i = .int .i64 k ∧ v = .slice A L.length c ∧ L.length ≤ 96 ∧ Hid (L = limbs (valD (s.take k))) ∧ Hid (Ow uv wr w.heap.size 45 A c L) ∧ Hid (Below w.heap.size w wr)) (fun _ i _ => s.length - (intOf i).toNat)
          case atStart => exact ⟨0, none, 0, [], Nat.zero_le _, rfl, rfl, by simp, (show [] = limbs (valD (s.take 0)) by rw [List.take_zero]; exact limbs_zero.symm), Ow.nil _ _ _, Below.refl _ _⟩
          case round =>
            obtain ⟨k, A, c, L, hk, rfl, rfl, hL96, hL, ho, hb⟩ := hrel
            by_cases hlt : k < s.length
            · have hdig := HALL.out _ (List.getElem_mem hlt)
              have hlo : (48 : Int) ≤ ((s[k].toNat : Nat) : Int) := by omega
              have hhi : ((s[k].toNat : Nat) : Int) ≤ 57 := by omega
              obtain ⟨d, hd⟩ : ∃ d, d = s[k].toNat - 48 := ⟨_, rfl⟩
              have hd10 : d < 10 := by omega
              have HV := Lib.hid (show valD (s.take (k + 1)) = 10 * valD (s.take k) + d by rw [valD_take s k hlt, hd])
              have hdz : ((s[k].toNat : Nat) : Int) - 48 = (d : Int) := by omega
              have hbz := hb.out.size
              have HREL0 : Hid (LenRel L 10 d w.heap.size A c wr wr 0 d L) := ⟨rfl, fun _ _ => rfl, by simp [val_nil, bp_zero], ho.out, grown_refl _ _⟩
              have hbg := fun g hg => (ho.out.blk_ge g hg).1
              have HBG := Lib.hid hbg
              clear hd hdig hbg
              obtain ⟨wo, rfl⟩ : ∃ wo, wo = wr := ⟨_, rfl⟩
              go_wp2_with fail
              go_loopw [7, 8] (fun x i wx => ∃ (j mo : Nat) (M : List UInt32), x = .int .u64 mo ∧ i = .int .i64 j ∧ j ≤ L.length ∧ mo < 10 ∧ Hid (LenRel L 10 d w.heap.size A c wo wx j mo M)) (fun _ i _ => L.length - (intOf i).toNat)
              case atStart => exact ⟨0, d, L, rfl, rfl, Nat.zero_le _, hd10, HREL0⟩
              case round =>
                obtain ⟨j, mo, M, rfl, rfl, hj, hmo, hrl⟩ := hrel
                by_cases hjl : j < L.length
                · obtain ⟨hM, hhi2, hv, hown, hg⟩ := hrl.out
                  have hA : ∃ g, A = some ⟨g, 0, none⟩ := by
                    rcases hown.form with ⟨_, _, e⟩ | ⟨g, e, _⟩
                    · rw [e] at hM; simp at hM; omega
                    · exact ⟨g, e⟩
                  obtain ⟨g, rfl⟩ := hA
                  have hcell : wr.cell? ⟨g, j, none⟩ = some (.int .u32 ((L[j]).toNat : Int)) := by
                    have e := hhi2 j (Nat.le_refl _)
                    rw [List.getElem?_eq_getElem hjl, List.getElem?_eq_getElem (by omega)] at e
                    rw [hown.cell_ (by omega), Option.some.inj e]
                  have hfz := hown.frozen_ j
                  have hxlt := u32_lt L[j]
                  obtain ⟨x, hx⟩ : ∃ x, x = (L[j]).toNat := ⟨_, rfl⟩
                  have HS := Lib.hid (len_step (t := 10) (p := x * 10) (m0 := d) hM hjl hx rfl hv)
                  rw [← hx] at hcell hxlt
                  have HREL : ∀ v : Int, v = (((x * 10 + mo) % 4294967296 : Nat) : Int) → Hid (LenRel L 10 d w.heap.size (some ⟨g, 0, none⟩) c wo (wr.setCell ⟨g, j, none⟩ (.int .u32 v)) (j + 1) ((x * 10 + mo) / 4294967296) (M.set j (UInt32.ofNat ((x * 10 + mo) % 4294967296)))) := fun v hv2 =>
                    ⟨by rw [List.length_set]; exact hM, fun j' hj' => by rw [List.getElem?_set_ne (by omega)]; exact hhi2 j' (by omega), HS.out, hown.set_ j _ v (by rw [u32_of _ (by omega), hv2]) (by omega), grown_setCell hg _ _⟩
                  have HRELH := Lib.hid HREL
                  have hi0 : (0 : Int) ≤ (j : Int) := by omega
                  have hi1 : (j : Int) < (L.length : Int) := by omega
                  clear hx hhi2 hv hown hg hM HREL hdz
                  go_wp2_with fail
                  go_roundw
                  case rel => exact ⟨j + 1, (x * 10 + mo) / 4294967296, _, by go_num, by go_num, by omega, by omega, HRELH.out _ (by omega)⟩
                  case measure => simp [intOf]; omega
                · obtain rfl : j = L.length := by omega
                  obtain ⟨hM, _, hv, hown, hg⟩ := hrl.out
                  have hval : val M + bp L.length * mo = val L * 10 + d := by
                    rw [List.take_of_length_le (by omega), List.take_of_length_le (by omega)] at hv
                    omega
                  have HVM := Lib.hid hval
                  have HM := Lib.hid hM
                  have HO := Lib.hid hown
                  have HG := Lib.hid hg
                  have hgz := hg.size
                  have HBw := Lib.hid (hb.out.trans (below_of_grown hg hb.out.size HBG.out))
                  clear hval hM hown hg hv hrl hdz hlo hhi
                  by_cases hm0 : mo = 0
                  · subst hm0
                    obtain ⟨r, hr⟩ : ∃ r, r = M := ⟨_, rfl⟩
                    obtain ⟨A2, hA2⟩ : ∃ A2, A2 = A := ⟨_, rfl⟩
                    obtain ⟨c2, hc2⟩ : ∃ c2, c2 = c := ⟨_, rfl⟩
                    have hrn : r.length = L.length := by rw [hr]; exact HM.out
                    have hrl1 : L.length ≤ r.length := by omega
                    have hrl2 : r.length ≤ L.length + 1 := by omega
                    have HL3 := Lib.hid (show r.length = L.length + 1 → limbs (val r) = r from fun h => by omega)
                    have HV2 := Lib.hid (show val r = val L * 10 + d by rw [hr]; have := HVM.out; omega)
                    have HO2 := Lib.hid (show Ow uv wr w.heap.size 45 A2 c2 r by rw [hr, hA2, hc2]; exact HO.out)
                    have HB2 := HBw
                    have HRN := Lib.hid hrn
                    rw [← hA2, ← hc2, ← hrn]
                    clear hr hA2 hc2 hrn HO HM
                    have HR := Lib.hid (show r = limbs (valD (s.take (k + 1))) by
                      have hnr := len_norm (show limbs (val L) = L by rw [hL.out, val_limbs]) HV2.out (by decide) hrl1 hrl2 HL3.out
                      rw [← hnr, HV2.out, HV.out]
                      have e : val L = valD (s.take k) := by rw [hL.out, val_limbs]
                      rw [e, Nat.mul_comm])
                    by_cases h96 : 96 < r.length
                    · have h96i : (96 : Int) < (r.length : Int) := by omega
                      have HBAD := Lib.hid (show readM s = ([], 30) by
                        rw [HQ.out]
                        refine numM_great ?_
                        have h1 := limbs_mono (valD_take_le s (k + 1))
                        rw [← HR.out] at h1
                        omega)
                      go_wp2_with fail
                      go_ret2
                      rw [HBAD.out]
                      exact ⟨none, 0, rfl, Rf.empty _ _, HB2.out⟩
                    · have h96d : decide ((96 : Int) < (r.length : Int)) = false := by simp; omega
                      go_wp2_with fail
                      go_roundw
                      case rel => exact ⟨k + 1, A2, c2, r, by omega, by go_num, rfl, by omega, HR, HO2, HB2⟩
                      case measure => simp [intOf]; omega
                  · have hmi : (0 : Int) < (mo : Int) := by omega
                    obtain ⟨xm, hxm⟩ : ∃ xm, xm = UInt32.ofNat mo := ⟨_, rfl⟩
                    have hxn : xm.toNat = mo := by rw [hxm, u32_of _ (by omega)]
                    have HXN := Lib.hid hxn
                    have HRO := Lib.hid (ro_one wr xm (mo : Int) (by rw [hxn]))
                    have HMM := HM.out
                    have hml : M.length ≤ 1000 := by omega
                    have hbz2 : w.heap.size ≤ wr.heap.size := HBw.out.size
                    rw [← HMM]
                    clear hxm hxn HMM
                    go_wp2_with (at_builtin; refine wpList_append_f _ uv_one rfl _ _ 22 rfl w.heap.size 45 4 i0 _ Tryd.underlying22 hi hz0 hz1 hz2 (by decide) rfl M [xm] rfl rfl (HO.out.alloc _) HRO.out (by simp; omega) (by simp; omega) ?_; intro A2 c2 w2 r hr2 HO2 hg2 hb2)
                    all_goals
                      have hr3 : r = M ++ [xm] := hr2.out
                      have hrl1 : L.length ≤ r.length := by rw [hr3]; simp; have := HM.out; omega
                      have hrl2 : r.length ≤ L.length + 1 := by rw [hr3]; simp; have := HM.out; omega
                      have HL3 := Lib.hid (show r.length = L.length + 1 → limbs (val r) = r from fun _ => by
                        rw [hr3]
                        refine limbs_val_snoc _ _ (fun e => ?_)
                        have := HXN.out
                        rw [e] at this
                        simp at this
                        omega)
                      have HV2 := Lib.hid (show val r = val L * 10 + d by rw [hr3, val_snoc, HXN.out, HM.out]; have := HVM.out; omega)
                      have HB2 := Lib.hid ((HBw.out.trans ((below_new wr _).mono hbz2)).trans (below_of_grown hg2 (by simp; omega) HBG.out))
                      clear hr3 hr2 hg2 hb2
                      have HR := Lib.hid (show r = limbs (valD (s.take (k + 1))) by
                        have hnr := len_norm (show limbs (val L) = L by rw [hL.out, val_limbs]) HV2.out (by decide) hrl1 hrl2 HL3.out
                        rw [← hnr, HV2.out, HV.out]
                        have e : val L = valD (s.take k) := by rw [hL.out, val_limbs]
                        rw [e, Nat.mul_comm])
                    · have h96 : 96 < r.length := by omega
                      have HBAD := Lib.hid (show readM s = ([], 30) by
                        rw [HQ.out]
                        refine numM_great ?_
                        have h1 := limbs_mono (valD_take_le s (k + 1))
                        rw [← HR.out] at h1
                        omega)
                      go_ret2
                      rw [HBAD.out]
                      exact ⟨none, 0, rfl, Rf.empty _ _, HB2.out⟩
                    · have h96 : r.length ≤ 96 := by omega
                      go_roundw
                      case rel => exact ⟨k + 1, A2, c2, r, by omega, by go_num, rfl, by omega, HR, HO2, HB2⟩
                      case measure => simp [intOf]; omega
            · obtain rfl : k = s.length := by omega
              have HEQ := Lib.hid (show readM s = (L, 0) by
                have e : L = limbs (valD s) := by have := hL.out; rwa [List.take_of_length_le (Nat.le_refl _)] at this
                rw [HQ.out, numM_ok (by rw [← e]; exact hL96), ← e])
              go_wp2_with fail
              go_ret2
              rw [HEQ.out]
              exact ⟨A, c, rfl, ho.out.rd, hb.out⟩
end Go.Proofs.YtffbmkobholmhaaDoor
