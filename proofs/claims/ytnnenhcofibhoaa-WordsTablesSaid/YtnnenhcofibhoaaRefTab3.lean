/- The reference's Table. -/
import Derived.Test.YtnnenhcofibhoaaRefTab2
import Derived.Test.YtnnenhcofibhoaaTab2
namespace Go.Proofs.Ytnnenhcofibhoaa
open Go.RowKit
set_option linter.unusedVariables false
attribute [local go_sem] mk_get mk_append mk_extract

theorem tabP_le (W : Nat → Nat) (rs : List Row) {i : Nat} (h : i ≤ rs.length) : (tabP W rs i).length ≤ (tabP W rs rs.length).length := by
  have := tabP_mono W rs i (rs.length - i)
  rwa [show i + (rs.length - i) = rs.length by omega] at this
theorem rowP_le (W : Nat → Nat) (r : Row) {j : Nat} (h : j ≤ r.length) : (rowP W r j).length ≤ (rowP W r r.length).length := by
  have := rowP_mono W r j (r.length - j)
  rwa [show j + (r.length - j) = r.length by omega] at this
/-- What has been laid within row i is a beginning of the whole. -/
theorem part_le (W : Nat → Nat) (rs : List Row) {i j : Nat} (hi : i < rs.length) (hj : j ≤ rs[i].length) : (tabP W rs i).length + (rowP W rs[i] j).length ≤ (tabP W rs rs.length).length := by
  have h1 := tabP_le W rs (i := i + 1) hi
  have h2 := rowP_le W rs[i] hj
  rw [tabP_succ W rs i hi, List.length_append, List.length_append] at h1
  omega

set_option maxRecDepth 100000 in
set_option maxHeartbeats 4000000 in
theorem refTable_any (A : Option Addr) (c B : Nat) (rows : List Rw) (w : World) (hr : RfR w B A c rows) (hs : sumR (txts rows) ≤ 4000000) :
    Calls Try.prog 18 #[.slice A rows.length c] w (TextErr w (tableM (txts rows))) := by
  have hlen : rows.length ≤ 4000000 := by have := sumR_len (txts rows); rw [txts_len] at this; omega
  have HS := Lib.hid hs
  have hrowsum : ∀ i (h : i < rows.length), sumL rows[i].l ≤ 4000000 := by
    intro i h
    have h1 := sumR_get (txts rows) i (by rw [txts_len]; exact h)
    have h2 : (txts rows)[i]'(by rw [txts_len]; exact h) = rows[i].l := by simp [txts]
    rw [h2] at h1
    have h3 : (rows[i].l.map fun y => y.length + 1).sum = sumL rows[i].l := rfl
    omega
  have HRS := Lib.hid hrowsum
  clear hrowsum hs
  go_enter Try.func18, Try.ntmps18
  go_wp2_with fail
  go_loop [4] (fun i => ∃ k : Nat, k ≤ rows.length ∧ i = .int .i64 k ∧ Hid (∀ r ∈ (txts rows).take k, areWordsB r = true)) (fun i => rows.length - (intOf i).toNat)
  case atStart => exact ⟨0, Nat.zero_le _, rfl, by simp [Hid]⟩
  case round =>
    obtain ⟨k, hk, rfl, hpre⟩ := hrel
    by_cases hlt : k < rows.length
    · have hltt : k < (txts rows).length := by rw [txts_len]; exact hlt
      obtain ⟨b, o, rfl, hbb, hc⟩ := hr.top.at_ hlt
      have hcx := hc k hlt
      have hrow := hr.row rows[k] (List.getElem_mem hlt)
      have hsm := HRS.out k hlt
      have hgt : (txts rows)[k]'hltt = rows[k].l := by simp [txts]
      have hm : rows[k].l ∈ txts rows := by rw [← hgt]; exact List.getElem_mem hltt
      have hst := fun h => take_mem_succ (P := fun r => areWordsB r = true) (txts rows) k hltt hpre.out h
      rw [hgt] at hst
      obtain ⟨xA, xc, xl, hx⟩ : ∃ a c l, rows[k] = Rw.mk a c l := ⟨_, _, _, rfl⟩
      rw [hx] at hcx hrow hsm hm hst
      dsimp only at hrow hsm hm hst
      unfold Rw.v at hcx
      have HST := Lib.hid hst
      have HM := Lib.hid hm
      have HSM := Lib.hid hsm
      have hxl : xl.length ≤ 4000000 := Nat.le_trans (sumL_len xl) hsm
      clear hc hx hgt hm hst hsm
      go_wp2_with fail
      go_loop [5] (fun i => ∃ j : Nat, j ≤ xl.length ∧ i = .int .i64 j ∧ Hid (∀ x ∈ xl.take j, isWordB x = true)) (fun i => xl.length - (intOf i).toNat)
      case atStart => exact ⟨0, Nat.zero_le _, rfl, by simp [Hid]⟩
      case round =>
        obtain ⟨j, hj, rfl, hpj⟩ := hrel
        by_cases hjl : j < xl.length
        · obtain ⟨b2, o2, hA, hb2, hc2⟩ := hrow.at_ hjl
          have hcy := hc2 j hjl
          have hyl := sumL_get xl j hjl
          have hmy := List.getElem_mem hjl
          have hsy := fun h => take_mem_succ (P := fun x => isWordB x = true) xl j hjl hpj.out h
          obtain ⟨y, hy⟩ : ∃ y, y = xl[j] := ⟨_, rfl⟩
          rw [← hy] at hcy hyl hmy hsy
          have hyl2 : y.length ≤ 4000000 := by have := HSM.out; omega
          unfold sv at hcy
          have HMY := Lib.hid hmy
          have HSY := Lib.hid hsy
          clear hc2 hy hyl hmy hsy
          subst hA
          cases hw : isWordB y with
          | false =>
            have hbad : areWordsB xl = false := by
              unfold areWordsB
              rw [List.all_eq_false]
              exact ⟨y, HMY.out, by simp [hw]⟩
            have HE := Lib.hid (tableM_bad HM.out hbad)
            have HW := Lib.hid hw
            clear hw hbad
            go_wp2_with fail
            refine (refWord_any y _ (by omega)).mono ?_
            rintro e w' ⟨rfl, rfl⟩
            rw [HW.out]
            go_wp2_with fail
            go_ret2
            rw [HE.out]
            exact ⟨rfl, Below.refl _ _⟩
          | true =>
            have HW := Lib.hid hw
            clear hw
            go_wp2_with fail
            refine (refWord_any y _ (by omega)).mono ?_
            rintro e w' ⟨rfl, rfl⟩
            rw [HW.out]
            go_wp2_with fail
            go_round
            case rel => exact ⟨j + 1, by omega, by go_num, HSY.out HW.out⟩
            case measure => simp [intOf]; omega
        · obtain rfl : j = xl.length := by omega
          have haw : Hid (areWordsB xl = true) := by
            show _ = _
            unfold areWordsB
            rw [List.all_eq_true]
            exact mem_take_len (P := fun x => isWordB x = true) xl hpj.out
          go_wp2_with fail
          go_round
          case rel => exact ⟨k + 1, by omega, by go_num, HST.out haw.out⟩
          case measure => simp [intOf]; omega
    · obtain rfl : k = rows.length := by omega
      have hall : ∀ r ∈ txts rows, areWordsB r = true := by have := hpre.out; rwa [← txts_len, List.take_of_length_le (Nat.le_refl _)] at this
      have HALL := Lib.hid hall
      clear hall hpre hlt
      by_cases hm : 512 < rows.length
      · have HE := Lib.hid (tableM_big HALL.out (.inl (by rw [txts_len]; exact hm)))
        have hi : (512 : Int) < rows.length := by omega
        go_wp2_with fail
        go_ret2
        rw [HE.out]
        exact ⟨rfl, Below.refl _ _⟩
      have hi : ¬ (512 : Int) < rows.length := by omega
      have hl512 : rows.length ≤ 512 := by omega
      obtain ⟨W, hW⟩ : ∃ W, W = wd (txts rows) := ⟨_, rfl⟩
      have HB : Hid (16384 < (tabP W (txts rows) (txts rows).length).length → tableM (txts rows) = ([], 4)) := fun h => tableM_big HALL.out (.inr (by rw [← hW]; exact h))
      have HGD : Hid (¬ 16384 < (tabP W (txts rows) (txts rows).length).length → tableM (txts rows) = (tabP W (txts rows) (txts rows).length, 0)) := fun h => by
        have h2 := tableM_good HALL.out (by rw [← hW, txts_len]; rw [txts_len] at h; rintro (h3 | h3) <;> omega)
        rw [h2, hW]
      have HWW := Lib.hid hW
      clear hm hW
      go_wp2_with fail
      go_loop [6, 7] (fun v i => ∃ k : Nat, k ≤ rows.length ∧ i = .int .i64 k ∧ v = .string ⟨(tabP W (txts rows) k).toArray⟩ ∧ Hid ((tabP W (txts rows) k).length ≤ 16384 + k)) (fun _ i => rows.length - (intOf i).toNat)
      case atStart => exact ⟨0, Nat.zero_le _, rfl, rfl, by simp [Hid, tabP]⟩
      case round =>
        obtain ⟨k, hk2, rfl, rfl, hle⟩ := hrel
        by_cases hlt : k < rows.length
        · have hltt : k < (txts rows).length := by rw [txts_len]; exact hlt
          obtain ⟨b, o, rfl, hbb, hc⟩ := hr.top.at_ hlt
          have hcx := hc k hlt
          have hrow := hr.row rows[k] (List.getElem_mem hlt)
          have hsm := HRS.out k hlt
          have hgt : (txts rows)[k]'hltt = rows[k].l := by simp [txts]
          have hm : rows[k].l ∈ txts rows := by rw [← hgt]; exact List.getElem_mem hltt
          have htp := tabP_succ W (txts rows) k hltt
          have hpl := fun j hj => part_le W (txts rows) hltt (j := j) hj
          rw [hgt] at htp hpl
          obtain ⟨xA, xc, xl, hx⟩ : ∃ a c l, rows[k] = Rw.mk a c l := ⟨_, _, _, rfl⟩
          rw [hx] at hcx hrow hsm hm htp hpl
          dsimp only at hrow hsm hm htp hpl
          unfold Rw.v at hcx
          have HM := Lib.hid hm
          have HSM := Lib.hid hsm
          have HTP := Lib.hid htp
          have HPL := Lib.hid hpl
          have hxl : xl.length ≤ 4000000 := Nat.le_trans (sumL_len xl) hsm
          obtain ⟨t, ht⟩ : ∃ t, t = tabP W (txts rows) k := ⟨_, rfl⟩
          have htl : t.length ≤ 16384 + k := by rw [ht]; exact hle.out
          rw [← ht]
          have HT := Lib.hid ht
          clear hc hx hgt hm hsm htp hpl ht
          go_wp2_with fail
          go_loop [6, 8, 9] (fun v i q => ∃ j : Nat, j ≤ xl.length ∧ i = .int .i64 j ∧ v = .string ⟨(t ++ rowP W xl j).toArray⟩ ∧ Hid ((t ++ rowP W xl j).length ≤ 16384 + k) ∧ Hid (0 < j → (t ++ rowP W xl j).length ≤ 16384)) (fun _ i _ => xl.length - (intOf i).toNat)
          case atStart => exact ⟨0, Nat.zero_le _, rfl, by rw [show rowP W xl 0 = [] from rfl, List.append_nil], by show _ ≤ _; rw [show rowP W xl 0 = [] from rfl, List.append_nil]; exact htl, (fun h => by omega)⟩
          case round =>
            obtain ⟨j, hj, rfl, rfl, hle1, hle2⟩ := hrel
            by_cases hjl : j < xl.length
            · obtain ⟨b2, o2, hA, hb2, hc2⟩ := hrow.at_ hjl
              have hcy := hc2 j hjl
              have hyl := sumL_get xl j hjl
              have hrp := rowP_succ W xl j hjl
              have hwc : cellW xl j = xl[j].length + 2 := cellW_in hjl
              have hwd := wd_wide HM.out hjl
              have hwg := wd_ge HM.out j
              rw [hwc, ← HWW.out] at hwg
              rw [← HWW.out] at hwd
              obtain ⟨y, hy⟩ : ∃ y, y = xl[j] := ⟨_, rfl⟩
              rw [← hy] at hcy hyl hrp hwg
              have hyl2 : y.length ≤ 4000000 := by have := HSM.out; omega
              unfold sv at hcy
              obtain ⟨t1, ht1⟩ : ∃ t1, t1 = t ++ rowP W xl j := ⟨_, rfl⟩
              have ht1l : t1.length ≤ 17000 := by have := hle1.out; rw [← ht1] at this; omega
              rw [← ht1]
              have HT1 := Lib.hid ht1
              obtain ⟨q, hq⟩ : ∃ q, q = wideM (txts rows) j := ⟨_, rfl⟩
              rw [← hq] at hwd
              have hqg : y.length ≤ q := by omega
              have hql : q ≤ 4000000 := by
                rw [hq]
                refine foldl_max_le (Nat.zero_le _) fun z hz => ?_
                obtain ⟨r, hr2, rfl⟩ := List.mem_map.1 hz
                obtain ⟨i, hil, hir⟩ := List.getElem_of_mem hr2
                have h1 := sumR_get (txts rows) i hil
                rw [hir] at h1
                have h3 : (r.map fun y => y.length + 1).sum = sumL r := rfl
                have h4 := HS.out
                by_cases hjr : j < r.length
                · rw [lenW_in hjr]
                  have := sumL_get r j hjr
                  omega
                · rw [lenW_out (by omega)]; omega
              have HQ := Lib.hid hq
              have HWD := Lib.hid hwd
              have HRP := Lib.hid hrp
              have hjb : j ≤ 4000000 := by omega
              clear hc2 hy hyl hrp hwc hwd hwg ht1 hq
              subst hA
              go_wp2_with fail
              go_loop [6, 9] (fun v i => ∃ m : Nat, i = .int .i64 ((y.length + m : Nat) : Int) ∧ v = .string ⟨(t1 ++ y ++ List.replicate m 32).toArray⟩ ∧ Hid (j + 1 = xl.length → m = 0) ∧ y.length + m ≤ q + 2 ∧ m ≤ 20000) (fun _ i => q + 2 - (intOf i).toNat)
              case atStart => exact ⟨0, by simp, by simp, (fun _ => rfl), by omega, by omega⟩
              case round =>
                obtain ⟨m, rfl, rfl, hmz, hmq, hm20⟩ := hrel
                have HPLj : Hid ((t1 ++ y ++ List.replicate m 32).length ≤ (tabP W (txts rows) (txts rows).length).length) := by
                  show _ ≤ _
                  have h1 := HPL.out (j + 1) hjl
                  rw [HRP.out, ← HT.out] at h1
                  have h2 : (t1 ++ y ++ List.replicate m 32).length = t.length + (rowP W xl j).length + y.length + m := by rw [HT1.out]; simp; omega
                  have h3 : (rowP W xl j ++ (y ++ if j + 1 < xl.length then List.replicate (W j - y.length) 32 else [])).length = (rowP W xl j).length + y.length + (if j + 1 < xl.length then W j - y.length else 0) := by
                    split <;> simp <;> omega
                  rw [h3] at h1
                  rw [h2]
                  have h4 := HWD.out
                  split at h1
                  · omega
                  · have := hmz.out (by omega); omega
                obtain ⟨out, hout⟩ : ∃ out, out = t1 ++ y ++ List.replicate m 32 := ⟨_, rfl⟩
                have houl : out.length = t1.length + y.length + m := by rw [hout]; simp; omega
                have houb : out.length ≤ 5000000 := by omega
                rw [← hout] at HPLj ⊢
                have HO := Lib.hid hout
                have HOUL := Lib.hid houl
                clear hout houl
                by_cases hlast : j + 1 < xl.length
                · have hli : (j : Int) + 1 < xl.length := by omega
                  by_cases hmw : y.length + m < q + 2
                  · have hmi : (y.length : Int) + m < (q : Int) + 2 := by omega
                    by_cases hlo : out.length ≤ 16384
                    · have hloi : (out.length : Int) ≤ 16384 := by omega
                      have HMM : Hid (m + 1 ≤ 20000) := by show _ ≤ _; have := HOUL.out; omega
                      have HMW := Lib.hid hmw
                      clear hlo hmw
                      go_wp2_with fail
                      refine (wide_any _ c B j rows _ hr HS.out hjb).mono ?_
                      rintro e w' ⟨rfl, rfl⟩
                      rw [← HQ.out]
                      go_wp2_with fail
                      go_round
                      case rel => exact ⟨m + 1, by go_num, by rw [HO.out, List.replicate_succ']; simp [List.append_assoc], fun h => by omega, by have := HMW.out; omega, HMM.out⟩
                      case measure => have := HMW.out; simp [intOf]; omega
                    · have hloi : ¬ (out.length : Int) ≤ 16384 := by omega
                      have hbi : (16384 : Int) < out.length := by omega
                      have HE := Lib.hid (HB.out (by have := HPLj.out; omega))
                      clear hlo hmw
                      go_wp2_with fail
                      refine (wide_any _ c B j rows _ hr HS.out hjb).mono ?_
                      rintro e w' ⟨rfl, rfl⟩
                      rw [← HQ.out]
                      go_wp2_with fail
                      go_ret2
                      rw [HE.out]
                      exact ⟨rfl, Below.refl _ _⟩
                  · have hmi : ¬ (y.length : Int) + m < (q : Int) + 2 := by omega
                    have HON : Hid (out = t ++ rowP W xl (j + 1)) := by
                      show _ = _
                      have e1 : W j - y.length = m := by have := HWD.out; omega
                      rw [HRP.out, if_pos hlast, e1, HO.out, HT1.out]
                      simp [List.append_assoc]
                    clear hmw
                    by_cases hbg : 16384 < out.length
                    · have HE := Lib.hid (HB.out (by have := HPLj.out; omega))
                      have hbi : (16384 : Int) < out.length := by omega
                      clear hbg
                      go_wp2_with fail
                      refine (wide_any _ c B j rows _ hr HS.out hjb).mono ?_
                      rintro e w' ⟨rfl, rfl⟩
                      rw [← HQ.out]
                      go_wp2_with fail
                      go_ret2
                      rw [HE.out]
                      exact ⟨rfl, Below.refl _ _⟩
                    · have hbi : ¬ (16384 : Int) < out.length := by omega
                      have HOL : Hid (out.length ≤ 16384) := by show _ ≤ _; omega
                      clear hbg
                      go_wp2_with fail
                      refine (wide_any _ c B j rows _ hr HS.out hjb).mono ?_
                      rintro e w' ⟨rfl, rfl⟩
                      rw [← HQ.out]
                      go_wp2_with fail
                      go_round
                      case rel => exact ⟨j + 1, by omega, by go_num, by rw [← HON.out], by show _ ≤ _; rw [← HON.out]; have := HOL.out; omega, fun _ => by rw [← HON.out]; exact HOL.out⟩
                      case measure => simp [intOf]; omega
                · have hli : ¬ (j : Int) + 1 < xl.length := by omega
                  have hm0 : m = 0 := hmz.out (by omega)
                  have HON : Hid (out = t ++ rowP W xl (j + 1)) := by
                    show _ = _
                    rw [HRP.out, if_neg hlast, HO.out, HT1.out, hm0]
                    simp [List.append_assoc]
                  subst hm0
                  by_cases hbg : 16384 < out.length
                  · have HE := Lib.hid (HB.out (by have := HPLj.out; omega))
                    have hbi : (16384 : Int) < out.length := by omega
                    clear hbg
                    go_wp2_with fail
                    go_ret2
                    rw [HE.out]
                    exact ⟨rfl, Below.refl _ _⟩
                  · have hbi : ¬ (16384 : Int) < out.length := by omega
                    have HOL : Hid (out.length ≤ 16384) := by show _ ≤ _; omega
                    clear hbg
                    go_wp2_with fail
                    go_round
                    case rel => exact ⟨j + 1, by omega, by go_num, by rw [← HON.out], by show _ ≤ _; rw [← HON.out]; have := HOL.out; omega, fun _ => by rw [← HON.out]; exact HOL.out⟩
                    case measure => simp [intOf]; omega
            · obtain rfl : j = xl.length := by omega
              have HTN : Hid (tabP W (txts rows) (k + 1) = t ++ rowP W xl xl.length ++ [10]) := by
                show _ = _
                rw [HTP.out, ← HT.out, List.append_assoc]
              have HLN : Hid ((t ++ rowP W xl xl.length ++ [10]).length ≤ 16384 + (k + 1)) := by
                show _ ≤ _
                rw [List.length_append]
                have h1 := hle1.out
                by_cases hx0 : 0 < xl.length
                · have := hle2.out hx0
                  simp only [List.length_cons, List.length_nil]
                  omega
                · simp only [List.length_cons, List.length_nil]
                  omega
              obtain ⟨u, hu⟩ : ∃ u, u = t ++ rowP W xl xl.length := ⟨_, rfl⟩
              have hul : u.length ≤ 17000 := by have := hle1.out; rw [← hu] at this; omega
              rw [← hu] at HTN HLN ⊢
              clear hu
              go_wp2_with fail
              go_round
              case rel => exact ⟨k + 1, by omega, by go_num, by rw [HTN.out], by show _ ≤ _; rw [HTN.out]; exact HLN.out⟩
              case measure => simp [intOf]; omega
        · obtain rfl : k = rows.length := by omega
          have HTL : Hid ((txts rows).length = rows.length) := txts_len rows
          have hbnd : (tabP W (txts rows) rows.length).length ≤ 17000 := by have := hle.out; omega
          obtain ⟨u, hu⟩ : ∃ u, u = tabP W (txts rows) rows.length := ⟨_, rfl⟩
          rw [← hu] at hbnd ⊢
          have HU := Lib.hid hu
          clear hu hlt
          by_cases hbg : 16384 < u.length
          · have HE := Lib.hid (HB.out (by rw [HTL.out, ← HU.out]; exact hbg))
            have hbi : (16384 : Int) < u.length := by omega
            clear hbg
            go_wp2_with fail
            go_ret2
            rw [HE.out]
            exact ⟨rfl, Below.refl _ _⟩
          · have HE := Lib.hid (HGD.out (by rw [HTL.out, ← HU.out]; exact hbg))
            have hbi : ¬ (16384 : Int) < u.length := by omega
            clear hbg
            go_wp2_with fail
            go_ret2
            rw [HE.out, HTL.out, ← HU.out]
            exact ⟨rfl, Below.refl _ _⟩
end Go.Proofs.Ytnnenhcofibhoaa
