/- The reference's Number. -/
import Derived.Test.YtnnenhcofibhoaaDoorRefNum
namespace Go.Proofs.YtnnenhcofibhoaaDoor
open Go.RowKit
set_option linter.unusedVariables false
attribute [local go_sem] mk_get mk_append mk_extract

theorem byte_eq {b : UInt8} {c : Nat} (hc : c < 256) (h : ((b.toNat : Nat) : Int) = (c : Int)) : b = UInt8.ofNat c := by
  apply UInt8.toNat_inj.1
  rw [UInt8.toNat_ofNat']
  omega

set_option maxRecDepth 100000 in
set_option maxHeartbeats 2000000 in
theorem refNumber_neg (r : List UInt8) (w : World) (hrl : r.length ≤ 4000000000) :
    Calls Tryd.prog 20 #[.string ⟨(45 :: r).toArray⟩] w (NumErr (numberM (45 :: r)) w) := by
  by_cases h0 : r = []
  · subst h0
    go_enter Tryd.func20, Tryd.ntmps20
    go_wp2_with fail
    go_ret2
    exact ⟨rfl, rfl⟩
  obtain ⟨d, r', rfl⟩ := List.exists_cons_of_ne_nil h0
  have hr' : r'.length ≤ 4000000000 := by simp at hrl; omega
  by_cases h48 : d = 48
  · subst h48
    have HQ := Lib.hid (numberM_form (l := 45 :: 48 :: r') (by
      rw [digD_cons, negB_cons]
      by_cases hr : r' = []
      · subst hr; exact .inr ⟨rfl, rfl⟩
      · exact .inl (isNatB_not (by simpa using hr) (.inr rfl))))
    go_enter Tryd.func20, Tryd.ntmps20
    go_wp2_with fail
    go_ret2
    rw [HQ.out]
    exact ⟨rfl, rfl⟩
  · have hb : (((d.toNat : Nat) : Int) == 48) = false := by
      rw [beq_eq_false_iff_ne]
      exact fun e => h48 (byte_eq (c := 48) (by decide) e)
    obtain ⟨t, ht⟩ : ∃ t, t = d :: r' := ⟨_, rfl⟩
    have HD : Hid (digD (45 :: t) = t) := digD_cons t
    have HG : Hid (negB (45 :: t) = true) := negB_cons t
    have HZ : Hid (¬ (negB (45 :: t) = true ∧ digD (45 :: t) = [48])) := by
      rintro ⟨_, h⟩
      rw [digD_cons, ht] at h
      simp at h
      exact h48 h.1
    have HNL : Hid (isOfB 48 57 t = isNatB t) := by
      show _ = _
      cases e : isOfB 48 57 t with
      | true => exact (isNatB_yes e (by rw [ht]; simpa using h48)).symm
      | false => exact (isNatB_not (by rw [ht]; intro h; simp at h; exact h48 h.1) (.inl e)).symm
    have HNE : Hid (t ≠ []) := by
      show _ ≠ _
      rw [ht]
      simp
    have HTT := Lib.hid ht
    clear h48 ht
    go_enter Tryd.func20, Tryd.ntmps20
    go_wp2_with fail
    rw [← HTT.out]
    have htl : t.length ≤ 4000000000 := by rw [HTT.out]; exact hrl
    go_loop [5] (fun i => ∃ k : Nat, k ≤ t.length ∧ i = .int .i64 k ∧ Hid (∀ b ∈ t.take k, 48 ≤ b.toNat ∧ b.toNat ≤ 57)) (fun i => t.length - (intOf i).toNat)
    case atStart => exact ⟨0, Nat.zero_le _, rfl, by simp [Hid]⟩
    case round =>
      obtain ⟨k, hk, rfl, hpre⟩ := hrel
      by_cases hlt : k < t.length
      · by_cases h1 : t[k].toNat < 48
        · have HQ := Lib.hid (numberM_form (l := 45 :: t) (.inl (by rw [HD.out, ← HNL.out]; exact isOfB_bad (List.getElem_mem hlt) (.inl h1))))
          have h1i : ((t[k].toNat : Nat) : Int) < 48 := by omega
          have h1d : decide (((t[k].toNat : Nat) : Int) < 48) = true := by simpa using h1i
          go_wp2_with fail
          go_ret2
          first | rw [HQ.out] | rw [← HTT.out, HQ.out]
          exact ⟨rfl, rfl⟩
        · have h1i : ¬ ((t[k].toNat : Nat) : Int) < 48 := by omega
          have h1d : decide (((t[k].toNat : Nat) : Int) < 48) = false := by simpa using h1i
          by_cases h2 : 57 < t[k].toNat
          · have HQ := Lib.hid (numberM_form (l := 45 :: t) (.inl (by rw [HD.out, ← HNL.out]; exact isOfB_bad (List.getElem_mem hlt) (.inr h2))))
            have h2i : 57 < ((t[k].toNat : Nat) : Int) := by omega
            have h2d : decide (57 < ((t[k].toNat : Nat) : Int)) = true := by simpa using h2i
            go_wp2_with fail
            go_ret2
            first | rw [HQ.out] | rw [← HTT.out, HQ.out]
            exact ⟨rfl, rfl⟩
          · have h2i : ¬ 57 < ((t[k].toNat : Nat) : Int) := by omega
            have h2d : decide (57 < ((t[k].toNat : Nat) : Int)) = false := by simpa using h2i
            have HN := Lib.hid (take_mem_succ (P := fun b => 48 ≤ b.toNat ∧ b.toNat ≤ 57) t k hlt hpre.out ⟨by omega, by omega⟩)
            go_wp2_with fail
            go_round
            case rel => exact ⟨k + 1, by omega, by go_num, HN⟩
            case measure => simp [intOf]; omega
      · obtain rfl : k = t.length := by omega
        have hdig : ∀ b ∈ t, 48 ≤ b.toNat ∧ b.toNat ≤ 57 := by have := hpre.out; rwa [List.take_of_length_le (Nat.le_refl _)] at this
        have HN := Lib.hid (show isNatB t = true by rw [← HNL.out]; exact (isOfB_iff 48 57 t).2 ⟨HNE.out, hdig⟩)
        have HDG := Lib.hid hdig
        clear hdig hpre hlt
        go_wp2_with fail
        go_loop [6, 7] (fun v i => ∃ k n : Nat, k ≤ t.length ∧ i = .int .i64 k ∧ v = .int .i64 n ∧ Hid (n = valD (t.take k))) (fun _ i => t.length - (intOf i).toNat)
        case atStart => exact ⟨0, 0, Nat.zero_le _, rfl, rfl, rfl⟩
        case round =>
          obtain ⟨k, n, hk2, rfl, rfl, hv⟩ := hrel
          by_cases hlt : k < t.length
          · by_cases hbig : 461168601842738790 < n
            · have HQ := Lib.hid (numberM_great (l := 45 :: t) (by rw [HD.out]; exact HN.out) HZ.out (by rw [HD.out]; exact valD_over t k hlt (by rw [← hv.out]; exact hbig)))
              have hbi : (461168601842738790 : Int) < n := by omega
              clear hbig
              go_wp2_with fail
              go_ret2
              first | rw [HQ.out] | rw [← HTT.out, HQ.out]
              exact ⟨rfl, rfl⟩
            · have hbi : ¬ (461168601842738790 : Int) < n := by omega
              have hc := HDG.out t[k] (List.getElem_mem hlt)
              have hc1 : (48 : Int) ≤ ((t[k].toNat : Nat) : Int) := by omega
              have hc2 : ((t[k].toNat : Nat) : Int) ≤ 57 := by omega
              have HT := Lib.hid (valD_take t k hlt)
              have HC := Lib.hid hc
              clear hbig hc
              go_wp2_with fail
              go_round
              case rel => exact ⟨k + 1, 10 * n + (t[k].toNat - 48), by omega, by go_num, by go_num, by show _ = _; rw [HT.out, hv.out]⟩
              case measure => simp [intOf]; omega
          · obtain rfl : k = t.length := by omega
            have hv2 : n = valD t := by have := hv.out; rwa [List.take_of_length_le (Nat.le_refl _)] at this
            by_cases hbig : 4611686018427387904 < n
            · have HQ := Lib.hid (numberM_great (l := 45 :: t) (by rw [HD.out]; exact HN.out) HZ.out (by rw [HD.out, ← hv2]; exact hbig))
              have hbi : (4611686018427387904 : Int) < n := by omega
              clear hbig hv2
              go_wp2_with fail
              go_ret2
              first | rw [HQ.out] | rw [← HTT.out, HQ.out]
              exact ⟨rfl, rfl⟩
            · have HQ := Lib.hid (numberM_good (l := 45 :: t) (by rw [HD.out]; exact HN.out) HZ.out (by rw [HD.out, ← hv2]; exact hbig))
              have hbi : ¬ (4611686018427387904 : Int) < n := by omega
              have HV := Lib.hid hv2
              clear hbig hv2
              go_wp2_with fail
              go_ret2
              first | rw [HQ.out, HG.out, HD.out, ← HV.out] | rw [← HTT.out, HQ.out, HG.out, HD.out, ← HV.out]
              exact ⟨rfl, rfl⟩

set_option maxRecDepth 100000 in
set_option maxHeartbeats 2000000 in
theorem refNumber_pos (l : List UInt8) (w : World) (hl : l.length ≤ 4000000000) (hneg : ¬ ∃ r, l = 45 :: r) :
    Calls Tryd.prog 20 #[.string ⟨l.toArray⟩] w (NumErr (numberM l) w) := by
  have HD := Lib.hid (digD_no hneg)
  have HG := Lib.hid (negB_no hneg)
  have HZ : Hid (¬ (negB l = true ∧ digD l = [48])) := by
    rintro ⟨h, _⟩
    rw [HG.out] at h
    cases h
  by_cases h0 : l = []
  · subst h0
    go_enter Tryd.func20, Tryd.ntmps20
    go_wp2_with fail
    go_ret2
    exact ⟨rfl, rfl⟩
  obtain ⟨d, r', hlr⟩ := List.exists_cons_of_ne_nil h0
  have h45 : ¬ d = 45 := fun e => hneg ⟨r', by rw [hlr, e]⟩
  have hb45 : (((d.toNat : Nat) : Int) == 45) = false := by
    rw [beq_eq_false_iff_ne]
    exact fun e => h45 (byte_eq (c := 45) (by decide) e)
  clear hneg h45
  have HNE := Lib.hid h0
  clear h0
  by_cases h48 : d = 48
  · subst h48
    by_cases hr : r' = []
    · subst hr
      obtain ⟨t, ht⟩ : ∃ t : List UInt8, t = [48] := ⟨_, rfl⟩
      have e : l = t := by rw [hlr, ht]
      subst e
      have HNL : Hid (isOfB 48 57 l = isNatB l) := by show _ = _; rw [hlr]; decide
      have HLR := Lib.hid hlr
      rw [hlr]
      clear ht hlr
      go_enter Tryd.func20, Tryd.ntmps20
      go_wp2_with fail
      rw [← HLR.out]
      obtain ⟨t, ht⟩ : ∃ t, t = l := ⟨_, rfl⟩
      subst ht
      clear hb45
      go_loop [5] (fun i => ∃ k : Nat, k ≤ t.length ∧ i = .int .i64 k ∧ Hid (∀ b ∈ t.take k, 48 ≤ b.toNat ∧ b.toNat ≤ 57)) (fun i => t.length - (intOf i).toNat)
      case atStart => exact ⟨0, Nat.zero_le _, rfl, by simp [Hid]⟩
      case round =>
        obtain ⟨k, hk, rfl, hpre⟩ := hrel
        by_cases hlt : k < t.length
        · by_cases h1 : t[k].toNat < 48
          · have HQ := Lib.hid (numberM_form (l := t) (.inl (by rw [HD.out, ← HNL.out]; exact isOfB_bad (List.getElem_mem hlt) (.inl h1))))
            have h1i : ((t[k].toNat : Nat) : Int) < 48 := by omega
            have h1d : decide (((t[k].toNat : Nat) : Int) < 48) = true := by simpa using h1i
            go_wp2_with fail
            go_ret2
            first | rw [HQ.out] | rw [← HLR.out, HQ.out]
            exact ⟨rfl, rfl⟩
          · have h1i : ¬ ((t[k].toNat : Nat) : Int) < 48 := by omega
            have h1d : decide (((t[k].toNat : Nat) : Int) < 48) = false := by simpa using h1i
            by_cases h2 : 57 < t[k].toNat
            · have HQ := Lib.hid (numberM_form (l := t) (.inl (by rw [HD.out, ← HNL.out]; exact isOfB_bad (List.getElem_mem hlt) (.inr h2))))
              have h2i : 57 < ((t[k].toNat : Nat) : Int) := by omega
              have h2d : decide (57 < ((t[k].toNat : Nat) : Int)) = true := by simpa using h2i
              go_wp2_with fail
              go_ret2
              first | rw [HQ.out] | rw [← HLR.out, HQ.out]
              exact ⟨rfl, rfl⟩
            · have h2i : ¬ 57 < ((t[k].toNat : Nat) : Int) := by omega
              have h2d : decide (57 < ((t[k].toNat : Nat) : Int)) = false := by simpa using h2i
              have HN := Lib.hid (take_mem_succ (P := fun b => 48 ≤ b.toNat ∧ b.toNat ≤ 57) t k hlt hpre.out ⟨by omega, by omega⟩)
              go_wp2_with fail
              go_round
              case rel => exact ⟨k + 1, by omega, by go_num, HN⟩
              case measure => simp [intOf]; omega
        · obtain rfl : k = t.length := by omega
          have hdig : ∀ b ∈ t, 48 ≤ b.toNat ∧ b.toNat ≤ 57 := by have := hpre.out; rwa [List.take_of_length_le (Nat.le_refl _)] at this
          have HN := Lib.hid (show isNatB t = true by rw [← HNL.out]; exact (isOfB_iff 48 57 t).2 ⟨HNE.out, hdig⟩)
          have HDG := Lib.hid hdig
          clear hdig hpre hlt
          go_wp2_with fail
          go_loop [6, 7] (fun v i => ∃ k n : Nat, k ≤ t.length ∧ i = .int .i64 k ∧ v = .int .i64 n ∧ Hid (n = valD (t.take k))) (fun _ i => t.length - (intOf i).toNat)
          case atStart => exact ⟨0, 0, Nat.zero_le _, rfl, rfl, rfl⟩
          case round =>
            obtain ⟨k, n, hk2, rfl, rfl, hv⟩ := hrel
            by_cases hlt : k < t.length
            · by_cases hbig : 461168601842738790 < n
              · have HQ := Lib.hid (numberM_great (l := t) (by rw [HD.out]; exact HN.out) HZ.out (by rw [HD.out]; exact valD_over t k hlt (by rw [← hv.out]; exact hbig)))
                have hbi : (461168601842738790 : Int) < n := by omega
                clear hbig
                go_wp2_with fail
                go_ret2
                first | rw [HQ.out] | rw [← HLR.out, HQ.out]
                exact ⟨rfl, rfl⟩
              · have hbi : ¬ (461168601842738790 : Int) < n := by omega
                have hc := HDG.out t[k] (List.getElem_mem hlt)
                have hc1 : (48 : Int) ≤ ((t[k].toNat : Nat) : Int) := by omega
                have hc2 : ((t[k].toNat : Nat) : Int) ≤ 57 := by omega
                have HT := Lib.hid (valD_take t k hlt)
                have HC := Lib.hid hc
                clear hbig hc
                go_wp2_with fail
                go_round
                case rel => exact ⟨k + 1, 10 * n + (t[k].toNat - 48), by omega, by go_num, by go_num, by show _ = _; rw [HT.out, hv.out]⟩
                case measure => simp [intOf]; omega
            · obtain rfl : k = t.length := by omega
              have hv2 : n = valD t := by have := hv.out; rwa [List.take_of_length_le (Nat.le_refl _)] at this
              by_cases hbig : 4611686018427387904 < n
              · have HQ := Lib.hid (numberM_great (l := t) (by rw [HD.out]; exact HN.out) HZ.out (by rw [HD.out, ← hv2]; exact hbig))
                have hbi : (4611686018427387904 : Int) < n := by omega
                clear hbig hv2
                go_wp2_with fail
                go_ret2
                first | rw [HQ.out] | rw [← HLR.out, HQ.out]
                exact ⟨rfl, rfl⟩
              · have HQ := Lib.hid (numberM_good (l := t) (by rw [HD.out]; exact HN.out) HZ.out (by rw [HD.out, ← hv2]; exact hbig))
                have hbi : ¬ (4611686018427387904 : Int) < n := by omega
                have HV := Lib.hid hv2
                clear hbig hv2
                go_wp2_with fail
                go_ret2
                first | rw [HQ.out, HG.out, HD.out, ← HV.out] | rw [← HLR.out, HQ.out, HG.out, HD.out, ← HV.out]
                exact ⟨rfl, rfl⟩
    · have HQ := Lib.hid (numberM_form (l := 48 :: r') (.inl (by
        rw [← hlr, HD.out, hlr]
        exact isNatB_not (by simpa using hr) (.inr rfl))))
      have hpos : 0 < r'.length := List.length_pos_iff.2 hr
      have hi1 : (1 : Int) < (r'.length : Int) + 1 := by omega
      have hi0 : ((r'.length : Int) + 1 == 0) = false := by rw [beq_eq_false_iff_ne]; omega
      have hrl : r'.length ≤ 4000000000 := by rw [hlr] at hl; simp at hl; omega
      subst hlr
      clear hr HD HG HZ HNE
      go_enter Tryd.func20, Tryd.ntmps20
      go_wp2_with fail
      go_ret2
      rw [HQ.out]
      exact ⟨rfl, rfl⟩
  · have hb : (((d.toNat : Nat) : Int) == 48) = false := by
      rw [beq_eq_false_iff_ne]
      exact fun e => h48 (byte_eq (c := 48) (by decide) e)
    have HNL : Hid (isOfB 48 57 l = isNatB l) := by
      show _ = _
      cases e : isOfB 48 57 l with
      | true => exact (isNatB_yes e (by rw [hlr]; simpa using h48)).symm
      | false => exact (isNatB_not (by rw [hlr]; intro h; simp at h; exact h48 h.1) (.inl e)).symm
    have hrl : r'.length ≤ 4000000000 := by rw [hlr] at hl; simp at hl; omega
    have HLR := Lib.hid hlr
    rw [hlr]
    clear h48 hlr
    go_enter Tryd.func20, Tryd.ntmps20
    go_wp2_with fail
    rw [← HLR.out]
    obtain ⟨t, ht⟩ : ∃ t, t = l := ⟨_, rfl⟩
    subst ht
    clear hb45 hb
    go_loop [5] (fun i => ∃ k : Nat, k ≤ t.length ∧ i = .int .i64 k ∧ Hid (∀ b ∈ t.take k, 48 ≤ b.toNat ∧ b.toNat ≤ 57)) (fun i => t.length - (intOf i).toNat)
    case atStart => exact ⟨0, Nat.zero_le _, rfl, by simp [Hid]⟩
    case round =>
      obtain ⟨k, hk, rfl, hpre⟩ := hrel
      by_cases hlt : k < t.length
      · by_cases h1 : t[k].toNat < 48
        · have HQ := Lib.hid (numberM_form (l := t) (.inl (by rw [HD.out, ← HNL.out]; exact isOfB_bad (List.getElem_mem hlt) (.inl h1))))
          have h1i : ((t[k].toNat : Nat) : Int) < 48 := by omega
          have h1d : decide (((t[k].toNat : Nat) : Int) < 48) = true := by simpa using h1i
          go_wp2_with fail
          go_ret2
          first | rw [HQ.out] | rw [← HLR.out, HQ.out]
          exact ⟨rfl, rfl⟩
        · have h1i : ¬ ((t[k].toNat : Nat) : Int) < 48 := by omega
          have h1d : decide (((t[k].toNat : Nat) : Int) < 48) = false := by simpa using h1i
          by_cases h2 : 57 < t[k].toNat
          · have HQ := Lib.hid (numberM_form (l := t) (.inl (by rw [HD.out, ← HNL.out]; exact isOfB_bad (List.getElem_mem hlt) (.inr h2))))
            have h2i : 57 < ((t[k].toNat : Nat) : Int) := by omega
            have h2d : decide (57 < ((t[k].toNat : Nat) : Int)) = true := by simpa using h2i
            go_wp2_with fail
            go_ret2
            first | rw [HQ.out] | rw [← HLR.out, HQ.out]
            exact ⟨rfl, rfl⟩
          · have h2i : ¬ 57 < ((t[k].toNat : Nat) : Int) := by omega
            have h2d : decide (57 < ((t[k].toNat : Nat) : Int)) = false := by simpa using h2i
            have HN := Lib.hid (take_mem_succ (P := fun b => 48 ≤ b.toNat ∧ b.toNat ≤ 57) t k hlt hpre.out ⟨by omega, by omega⟩)
            go_wp2_with fail
            go_round
            case rel => exact ⟨k + 1, by omega, by go_num, HN⟩
            case measure => simp [intOf]; omega
      · obtain rfl : k = t.length := by omega
        have hdig : ∀ b ∈ t, 48 ≤ b.toNat ∧ b.toNat ≤ 57 := by have := hpre.out; rwa [List.take_of_length_le (Nat.le_refl _)] at this
        have HN := Lib.hid (show isNatB t = true by rw [← HNL.out]; exact (isOfB_iff 48 57 t).2 ⟨HNE.out, hdig⟩)
        have HDG := Lib.hid hdig
        clear hdig hpre hlt
        go_wp2_with fail
        go_loop [6, 7] (fun v i => ∃ k n : Nat, k ≤ t.length ∧ i = .int .i64 k ∧ v = .int .i64 n ∧ Hid (n = valD (t.take k))) (fun _ i => t.length - (intOf i).toNat)
        case atStart => exact ⟨0, 0, Nat.zero_le _, rfl, rfl, rfl⟩
        case round =>
          obtain ⟨k, n, hk2, rfl, rfl, hv⟩ := hrel
          by_cases hlt : k < t.length
          · by_cases hbig : 461168601842738790 < n
            · have HQ := Lib.hid (numberM_great (l := t) (by rw [HD.out]; exact HN.out) HZ.out (by rw [HD.out]; exact valD_over t k hlt (by rw [← hv.out]; exact hbig)))
              have hbi : (461168601842738790 : Int) < n := by omega
              clear hbig
              go_wp2_with fail
              go_ret2
              first | rw [HQ.out] | rw [← HLR.out, HQ.out]
              exact ⟨rfl, rfl⟩
            · have hbi : ¬ (461168601842738790 : Int) < n := by omega
              have hc := HDG.out t[k] (List.getElem_mem hlt)
              have hc1 : (48 : Int) ≤ ((t[k].toNat : Nat) : Int) := by omega
              have hc2 : ((t[k].toNat : Nat) : Int) ≤ 57 := by omega
              have HT := Lib.hid (valD_take t k hlt)
              have HC := Lib.hid hc
              clear hbig hc
              go_wp2_with fail
              go_round
              case rel => exact ⟨k + 1, 10 * n + (t[k].toNat - 48), by omega, by go_num, by go_num, by show _ = _; rw [HT.out, hv.out]⟩
              case measure => simp [intOf]; omega
          · obtain rfl : k = t.length := by omega
            have hv2 : n = valD t := by have := hv.out; rwa [List.take_of_length_le (Nat.le_refl _)] at this
            by_cases hbig : 4611686018427387904 < n
            · have HQ := Lib.hid (numberM_great (l := t) (by rw [HD.out]; exact HN.out) HZ.out (by rw [HD.out, ← hv2]; exact hbig))
              have hbi : (4611686018427387904 : Int) < n := by omega
              clear hbig hv2
              go_wp2_with fail
              go_ret2
              first | rw [HQ.out] | rw [← HLR.out, HQ.out]
              exact ⟨rfl, rfl⟩
            · have HQ := Lib.hid (numberM_good (l := t) (by rw [HD.out]; exact HN.out) HZ.out (by rw [HD.out, ← hv2]; exact hbig))
              have hbi : ¬ (4611686018427387904 : Int) < n := by omega
              have HV := Lib.hid hv2
              clear hbig hv2
              go_wp2_with fail
              go_ret2
              first | rw [HQ.out, HG.out, HD.out, ← HV.out] | rw [← HLR.out, HQ.out, HG.out, HD.out, ← HV.out]
              exact ⟨rfl, rfl⟩

theorem refNumber_any (l : List UInt8) (w : World) (hl : l.length ≤ 4000000000) :
    Calls Tryd.prog 20 #[.string ⟨l.toArray⟩] w (NumErr (numberM l) w) := by
  by_cases hneg : ∃ r, l = 45 :: r
  · obtain ⟨r, rfl⟩ := hneg
    exact refNumber_neg r w (by simp at hl; omega)
  · exact refNumber_pos l w hl hneg
end Go.Proofs.YtnnenhcofibhoaaDoor
