/- The reference's Check and Same; the statements' own 'right'. -/
import Derived.Test.YtffbmkobholmhaaDoorRead
namespace Go.Proofs.YtffbmkobholmhaaDoor
open Go.RowKit
set_option linter.unusedVariables false

set_option maxHeartbeats 400000 in
theorem rcheck_any (A : Option Addr) (c B : Nat) (l : List UInt32) (w : World) (hr : Rf uv w B A c l) :
    Calls Tryd.prog 17 #[.slice A l.length c] w fun e w' => e = .returned (.int .i64 (chk l)) ∧ w = w' := by
  have hcap := hr.cap
  have hcm := hr.capm
  unfold maxLen at hcm
  by_cases h1 : 96 < l.length
  · have HC := Lib.hid (chk_many h1)
    have h1i : (96 : Int) < (l.length : Int) := by omega
    go_enter Tryd.func17, Tryd.ntmps17
    go_wp2_with fail
    go_ret
    exact ⟨by rw [HC.out]; rfl, rfl⟩
  · have h1d : decide ((96 : Int) < (l.length : Int)) = false := by simp; omega
    obtain ⟨k, hk⟩ : ∃ k, l.length = k := ⟨_, rfl⟩
    by_cases h0 : k = 0
    · subst h0
      have hl : l = [] := List.eq_nil_of_length_eq_zero hk
      subst hl
      have HC := Lib.hid chk_nil
      clear h1 hk
      go_enter Tryd.func17, Tryd.ntmps17
      go_wp2_with fail
      go_ret
      exact ⟨by rw [HC.out]; rfl, rfl⟩
    · obtain ⟨j, rfl⟩ : ∃ j, k = j + 1 := ⟨k - 1, by omega⟩
      have hj : j < l.length := by omega
      obtain ⟨b, o, rfl, hb, hc⟩ := hr.at_ hj
      have hcj := hc j hj
      unfold uv at hcj
      clear hc
      by_cases hx : l[j] = 0
      · have HC := Lib.hid (chk_bad h1 (fun e => last_of_limbs hk e hx))
        have HX : ((l[j]).toNat : Int) = 0 := by rw [hx]; rfl
        rw [HX] at hcj
        have hjb : (j : Int) + 1 ≤ 96 := by omega
        rw [hk]
        rw [hk] at h1d
        have h2d : decide ((96 : Int) < (j : Int) + 1) = false := by simp; omega
        clear hx h1 hk hj HX
        go_enter Tryd.func17, Tryd.ntmps17
        go_wp2_with fail
        go_ret
        exact ⟨by rw [HC.out]; rfl, rfl⟩
      · have HC := Lib.hid (chk_ok h1 (limbs_val_last hk hx))
        have hxn : (l[j]).toNat ≠ 0 := fun e => hx (u32_eq (by rw [e]; rfl))
        have HX : (((l[j]).toNat : Int) == 0) = false := by simp; omega
        obtain ⟨x, hx2⟩ : ∃ x, x = (l[j]).toNat := ⟨_, rfl⟩
        rw [← hx2] at hcj HX
        rw [hk]
        rw [hk] at h1d
        have h2d : decide ((96 : Int) < (j : Int) + 1) = false := by simp; omega
        have hjb : (j : Int) + 1 ≤ 96 := by omega
        clear hx h1 hk hj hx2 hxn
        go_enter Tryd.func17, Tryd.ntmps17
        go_wp2_with fail
        go_ret
        exact ⟨by rw [HC.out]; rfl, rfl⟩

set_option maxHeartbeats 1000000 in
theorem rsame_any (A1 A2 : Option Addr) (c1 c2 B1 B2 : Nat) (L M : List UInt32) (w : World) (hr1 : Rf uv w B1 A1 c1 L) (hr2 : Rf uv w B2 A2 c2 M) :
    Calls Tryd.prog 19 #[.slice A1 L.length c1, .slice A2 M.length c2] w fun e w' => e = .returned (.bool (sameB L M)) ∧ ∃ q, w' = w.drewN q := by
  by_cases hlen : L.length = M.length
  · have HLen := Lib.hid hlen
    have hle1 : L.length ≤ M.length := Nat.le_of_eq hlen
    rw [← hlen]
    have hcap := hr1.cap
    have hcm := hr1.capm
    unfold maxLen at hcm
    clear hlen
    go_enter Tryd.func19, Tryd.ntmps19
    go_wp2_with fail
    go_loopw [5] (fun i wr => ∃ k q : Nat, k ≤ L.length ∧ i = .int .i64 k ∧ Hid (L.take k = M.take k) ∧ Hid (wr = w.drewN q)) (fun i _ => L.length - (intOf i).toNat)
    case atStart => exact ⟨0, 0, Nat.zero_le _, rfl, (by simp [Hid]), rfl⟩
    case round =>
      obtain ⟨k, q, hk, rfl, hd, hw⟩ := hrel
      by_cases hlt : k < L.length
      · have hj2 : k < M.length := by omega
        obtain ⟨b1, o1, rfl, hb1, hc1⟩ := hr1.at_ hlt
        obtain ⟨b2, o2, rfl, hb2, hc2⟩ := hr2.at_ hj2
        have hcj1 := hc1 k hlt
        have hcj2 := hc2 k hj2
        unfold uv at hcj1 hcj2
        obtain rfl := hw.out
        have hi0 : (0 : Int) ≤ (k : Int) := by omega
        have hi1 : (k : Int) < (L.length : Int) := by omega
        have hi2 : (k : Int) < (M.length : Int) := by omega
        clear hc1 hc2
        by_cases hx : L[k] = M[k]
        · have HN : Hid (L.take (k + 1) = M.take (k + 1)) := by
            show L.take (k + 1) = M.take (k + 1)
            rw [List.take_succ_eq_append_getElem hlt, List.take_succ_eq_append_getElem hj2, hd.out, hx]
          have HX : ((((L[k]).toNat : Int)) != ((M[k]).toNat : Int)) = false := by rw [hx]; simp
          clear hx
          go_wp2_with fail
          go_quiet (fail)
          go_wp2_with fail
          go_roundw
          case rel => exact ⟨k + 1, q + nq, by omega, by go_num, HN, by simp [Hid]⟩
          case measure => simp [intOf]; omega
        · have hx2 : (L[k]).toNat ≠ (M[k]).toNat := fun e => hx (u32_eq e)
          have HC := Lib.hid (sameB_no (a := L) (b := M) (fun e => hx (by subst e; rfl)))
          have HX : ((((L[k]).toNat : Int)) != ((M[k]).toNat : Int)) = true := by simp; omega
          clear hx hx2
          go_wp2_with fail
          go_quiet (fail)
          go_wp2_with fail
          go_ret
          rw [HC.out]
          exact ⟨rfl, _, by rw [World.drewN_drewN]⟩
      · obtain rfl : k = L.length := by omega
        have HC := Lib.hid (show sameB L M = true by
          rw [sameB_iff]
          have := hd.out
          rwa [List.take_of_length_le (Nat.le_refl _), List.take_of_length_le (by have := HLen.out; omega)] at this)
        go_wp2_with fail
        go_ret
        rw [HC.out]
        exact ⟨rfl, q, hw.out⟩
  · have h3 : ((L.length : Int) != (M.length : Int)) = true := by simp; omega
    have HC := Lib.hid (sameB_no (a := L) (b := M) (fun e => hlen (by rw [e])))
    clear hlen
    go_enter Tryd.func19, Tryd.ntmps19
    go_wp2_with fail
    go_ret
    rw [HC.out]
    exact ⟨rfl, 0, rfl⟩

/-- A slice of limbs. -/
structure El where
  A : Option Addr
  c : Nat
  l : List UInt32
def El.v (x : El) : Value := .slice x.A x.l.length x.c
theorem elv_one (x : El) : x.v.oneCell' = true := rfl
def rightB (most : Nat) (ls : List (List UInt32)) : Bool := ls.all fun l => decide (l.length ≤ most) && decide (chk l = 0)
theorem rightB_bad {most k : Nat} {els : List El} (hk : k < els.length) (h : most < (els[k]).l.length ∨ chk (els[k]).l ≠ 0) : rightB most (els.map (·.l)) = false := by
  unfold rightB
  rw [List.all_eq_false]
  refine ⟨(els[k]).l, List.mem_map.2 ⟨_, List.getElem_mem hk, rfl⟩, ?_⟩
  rcases h with h | h
  · simp; intro h2; omega
  · simp [h]
theorem rightB_all {most : Nat} {els : List El} (h : ∀ x ∈ els, x.l.length ≤ most ∧ chk x.l = 0) : rightB most (els.map (·.l)) = true := by
  unfold rightB
  rw [List.all_eq_true]
  intro l hl
  obtain ⟨x, hx, rfl⟩ := List.mem_map.1 hl
  have := h x hx
  simp [this.1, this.2]

set_option maxRecDepth 100000 in
set_option maxHeartbeats 1000000 in
theorem right_any (most c n B : Nat) (A : Option Addr) (els : List El) (w : World) (hr : Rf El.v w B A c els) (hx : Hid (∀ x ∈ els, ∃ B, Rf uv w B x.A x.c x.l)) (hn : els.length = n) (hm : most ≤ 1000) (hl : n ≤ 1000) :
    Calls Tryd.prog 37 #[.int .i64 most, .slice A n c] w fun e w' => e = .returned (.bool (rightB most (els.map (·.l)))) ∧ w = w' := by
  subst hn
  go_enter Tryd.func37, Tryd.ntmps37
  go_wp2_with fail
  go_loop [5] (fun i => ∃ k : Nat, k ≤ els.length ∧ i = .int .i64 k ∧ Hid (∀ x ∈ els.take k, x.l.length ≤ most ∧ chk x.l = 0)) (fun i => els.length - (intOf i).toNat)
  case atStart => exact ⟨0, Nat.zero_le _, rfl, by simp [Hid]⟩
  case round =>
    obtain ⟨k, hk, rfl, hpre⟩ := hrel
    by_cases hlt : k < els.length
    · obtain ⟨b, o, rfl, hb, hc⟩ := hr.at_ hlt
      have hcj := hc k hlt
      obtain ⟨Bx, hrx⟩ := hx.out _ (List.getElem_mem hlt)
      have hbad := fun h => rightB_bad (most := most) hlt h
      have hnext : (els[k]).l.length ≤ most → chk (els[k]).l = 0 → ∀ x ∈ els.take (k + 1), x.l.length ≤ most ∧ chk x.l = 0 := by
        intro h1 h2 x hxm
        rw [List.take_succ_eq_append_getElem hlt] at hxm
        rcases List.mem_append.1 hxm with h | h
        · exact hpre.out x h
        · simp at h; rw [h]; exact ⟨h1, h2⟩
      obtain ⟨xA, xc, xl, hxe⟩ : ∃ a c l, els[k] = El.mk a c l := ⟨_, _, _, rfl⟩
      rw [hxe] at hcj hrx hbad hnext
      have hcap := hrx.cap
      have hcm := hrx.capm
      unfold maxLen at hcm
      have HBAD := Lib.hid hbad
      have HNEXT := Lib.hid hnext
      have hcj2 : w.cell? ⟨b, o + k, none⟩ = some (.slice xA xl.length xc) := hcj
      have hk0 : (0 : Int) ≤ (k : Int) := by omega
      have hk1 : (k : Int) < (els.length : Int) := by omega
      clear hc hcj hxe hbad hnext
      by_cases h1 : most < xl.length
      · have h1i : (most : Int) < (xl.length : Int) := by omega
        have h1d : decide ((most : Int) < (xl.length : Int)) = true := by simpa using h1
        have HE := Lib.hid (HBAD.out (.inl h1))
        go_wp2_with fail
        go_ret
        exact ⟨by rw [HE.out]; rfl, rfl⟩
      · have h1d : decide (most < xl.length) = false := by simpa using h1
        by_cases h2 : chk xl = 0
        · have H2 := Lib.hid h2
          have HN := Lib.hid (HNEXT.out (by show xl.length ≤ most; omega) h2)
          clear h2
          go_wp2_with fail
          refine (rcheck_any xA xc Bx xl w hrx).mono ?_
          rintro e w' ⟨rfl, rfl⟩
          rw [H2.out]
          go_wp2_with fail
          go_round
          case rel => exact ⟨k + 1, by omega, by go_num, HN⟩
          case measure => simp [intOf]; omega
        · have HE := Lib.hid (HBAD.out (.inr h2))
          have h2b : (chk xl != 0) = true := by simpa using h2
          clear h2
          go_wp2_with fail
          refine (rcheck_any xA xc Bx xl w hrx).mono ?_
          rintro e w' ⟨rfl, rfl⟩
          go_wp2_with fail
          go_ret
          exact ⟨by rw [HE.out]; rfl, rfl⟩
    · obtain rfl : k = els.length := by omega
      have HE := Lib.hid (rightB_all (by have := hpre.out; rwa [List.take_of_length_le (Nat.le_refl _)] at this))
      go_wp2_with fail
      go_ret
      exact ⟨by rw [HE.out]; rfl, rfl⟩
end Go.Proofs.YtffbmkobholmhaaDoor
