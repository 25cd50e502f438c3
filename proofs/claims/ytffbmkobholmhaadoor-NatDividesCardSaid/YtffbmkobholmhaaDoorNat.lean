/- What nat hands out: Check, Of, Word, Same, Cmp, Add, Sub, Mul. -/
import Derived.Test.YtffbmkobholmhaaDoorDivide
namespace Go.Proofs.YtffbmkobholmhaaDoor
open Go.RowKit
set_option linter.unusedVariables false

def sameB (a b : List UInt32) : Bool := decide (a = b)
theorem sameB_iff {a b : List UInt32} : sameB a b = true ↔ a = b := by unfold sameB; simp
theorem sameB_no {a b : List UInt32} (h : a ≠ b) : sameB a b = false := by unfold sameB; simpa using h
theorem sameB_refl (a : List UInt32) : sameB a a = true := sameB_iff.2 rfl
def NumP (w w' : World) (l : List UInt32) (e : Ending) : Prop := ∃ A c, e = .returned (.slice A l.length c) ∧ Rf uv w' w'.heap.size A c l ∧ Below w.heap.size w w'
def NumErr (w w' : World) (q : List UInt32 × Int) (e : Ending) : Prop := ∃ A c, e = .returned (.tuple #[.slice A q.1.length c, .int .i64 q.2]) ∧ Rf uv w' w'.heap.size A c q.1 ∧ Below w.heap.size w w'
theorem numErr_bad (w : World) (er : Int) : NumErr w w ([], er) (.returned (.tuple #[.slice none 0 0, .int .i64 er])) := ⟨none, 0, rfl, Rf.empty _ _, Below.refl _ _⟩

set_option maxHeartbeats 400000 in
theorem check_any (A : Option Addr) (c B : Nat) (l : List UInt32) (w : World) (hr : Rf uv w B A c l) :
    Calls Tryd.prog 16 #[.slice A l.length c] w fun e w' => e = .returned (.int .i64 (chk l)) ∧ w = w' := by
  have hcap := hr.cap
  have hcm := hr.capm
  unfold maxLen at hcm
  by_cases h1 : 96 < l.length
  · have HC := Lib.hid (chk_many h1)
    have h1i : (96 : Int) < (l.length : Int) := by omega
    go_enter Tryd.func16, Tryd.ntmps16
    go_wp2_with fail
    go_ret
    exact ⟨by rw [HC.out]; rfl, rfl⟩
  · have h1d : decide ((96 : Int) < (l.length : Int)) = false := by simp; omega
    obtain ⟨k, hk⟩ : ∃ k, l.length = k := ⟨_, rfl⟩
    by_cases h0 : k = 0
    · subst h0
      have hl : l = [] := List.eq_nil_of_length_eq_zero hk
      subst hl
      have HC := Lib.hid chk_nil
      clear h1 hk
      go_enter Tryd.func16, Tryd.ntmps16
      go_wp2_with fail
      go_ret
      exact ⟨by rw [HC.out]; rfl, rfl⟩
    · obtain ⟨j, rfl⟩ : ∃ j, k = j + 1 := ⟨k - 1, by omega⟩
      have hj : j < l.length := by omega
      obtain ⟨b, o, rfl, hb, hc⟩ := hr.at_ hj
      have hcj := hc j hj
      unfold uv at hcj
      clear hc
      by_cases hx : l[j] = 0
      · have HC := Lib.hid (chk_bad h1 (fun e => last_of_limbs hk e hx))
        have HX : ((l[j]).toNat : Int) = 0 := by rw [hx]; rfl
        rw [HX] at hcj
        have hjb : (j : Int) + 1 ≤ 96 := by omega
        rw [hk]
        rw [hk] at h1d
        have h2d : decide ((96 : Int) < (j : Int) + 1) = false := by simp; omega
        clear hx h1 hk hj HX
        go_enter Tryd.func16, Tryd.ntmps16
        go_wp2_with fail
        go_ret
        exact ⟨by rw [HC.out]; rfl, rfl⟩
      · have HC := Lib.hid (chk_ok h1 (limbs_val_last hk hx))
        have hxn : (l[j]).toNat ≠ 0 := fun e => hx (u32_eq (by rw [e]; rfl))
        have HX : (((l[j]).toNat : Int) == 0) = false := by simp; omega
        obtain ⟨x, hx2⟩ : ∃ x, x = (l[j]).toNat := ⟨_, rfl⟩
        rw [← hx2] at hcj HX
        rw [hk]
        rw [hk] at h1d
        have h2d : decide ((96 : Int) < (j : Int) + 1) = false := by simp; omega
        have hjb : (j : Int) + 1 ≤ 96 := by omega
        clear hx h1 hk hj hx2 hxn
        go_enter Tryd.func16, Tryd.ntmps16
        go_wp2_with fail
        go_ret
        exact ⟨by rw [HC.out]; rfl, rfl⟩

set_option maxHeartbeats 400000 in
theorem checkBoth_any (A1 A2 : Option Addr) (c1 c2 B1 B2 : Nat) (a b : List UInt32) (w : World) (hr1 : Rf uv w B1 A1 c1 a) (hr2 : Rf uv w B2 A2 c2 b) :
    Calls Tryd.prog 40 #[.slice A1 a.length c1, .slice A2 b.length c2] w fun e w' => e = .returned (.int .i64 (chk2 a b)) ∧ w = w' := by
  by_cases h : chk a = 0
  · have HC := Lib.hid (show chk2 a b = chk b by unfold chk2; rw [if_pos h])
    have HA := Lib.hid h
    clear h
    go_enter Tryd.func40, Tryd.ntmps40
    go_wp2_with fail
    refine (check_any A1 c1 B1 a w hr1).mono ?_
    rintro e w' ⟨rfl, rfl⟩
    rw [HA.out]
    go_wp2_with fail
    refine (check_any A2 c2 B2 b w hr2).mono ?_
    rintro e w' ⟨rfl, rfl⟩
    go_wp2_with fail
    go_ret
    exact ⟨by rw [HC.out]; rfl, rfl⟩
  · have HC := Lib.hid (show chk2 a b = chk a by unfold chk2; rw [if_neg h])
    have hb : (chk a != 0) = true := by simpa using h
    clear h
    go_enter Tryd.func40, Tryd.ntmps40
    go_wp2_with fail
    refine (check_any A1 c1 B1 a w hr1).mono ?_
    rintro e w' ⟨rfl, rfl⟩
    go_wp2_with fail
    go_ret
    exact ⟨by rw [HC.out]; rfl, rfl⟩

theorem uBuild : Tryd.prog.underlying 22 = some (.slice 45) := Tryd.underlying22
set_option maxHeartbeats 400000 in
theorem of_any (n : Nat) (w : World) (hn : n < 18446744073709551616) : Calls Tryd.prog 20 #[.int .u64 n] w fun e w' => NumP w w' (limbs n) e := by
  obtain ⟨L, hL⟩ : ∃ L, L = [UInt32.ofNat (n % 4294967296), UInt32.ofNat (n / 4294967296)] := ⟨_, rfl⟩
  have hv : val L = n := by
    rw [hL, val_cons, val_one, u32_of _ (by omega), u32_of _ (by omega)]; omega
  have hcells : (L.map uv).toArray = #[.int .u32 ((n : Int) % 4294967296), .int .u32 ((n : Int) / 4294967296)] := by
    rw [hL]; simp [uv]; omega
  have hl2 : L.length = 2 := by rw [hL]; rfl
  have HV := Lib.hid hv
  have HC := Lib.hid hcells
  have HL := Lib.hid hl2
  clear hL hv hcells hl2
  go_enter Tryd.func20, Tryd.ntmps20
  go_wp2_with fail
  have hub : Ub (w.alloc (.cells #[.int .u32 ((n : Int) % 4294967296), .int .u32 ((n : Int) / 4294967296)] 45)) w.heap.size 45 L := by
    unfold Ub
    rw [HC.out]
    exact Blk.new w _ _
  have hrf := hub.rf_all (c := 2) (Nat.le_of_eq HL.out) (by simp [maxLen])
  (with_reducible refine (trim_n (some ⟨w.heap.size, 0, none⟩) 2 _ 2 (limbs n).length L _ hrf (by rw [HL.out]; decide) HL.out (by rw [HV.out])).mono ?_)
  rintro e w' ⟨rfl, rfl⟩
  have HR := Lib.hid hrf.trim
  clear hrf hub
  go_wp2_with fail
  go_ret
  have e := HR.out
  rw [HV.out] at e
  exact ⟨_, _, rfl, e, below_new _ _⟩

set_option maxHeartbeats 1000000 in
theorem equal_any (A1 A2 : Option Addr) (c1 c2 B1 B2 : Nat) (L M : List UInt32) (w : World) (hr1 : Rf uv w B1 A1 c1 L) (hr2 : Rf uv w B2 A2 c2 M) :
    Calls Tryd.prog 44 #[.slice A1 L.length c1, .slice A2 M.length c2] w fun e w' => e = .returned (.bool (sameB L M)) ∧ ∃ q, w' = w.drewN q := by
  by_cases hlen : L.length = M.length
  · have HLen := Lib.hid hlen
    have hle1 : L.length ≤ M.length := Nat.le_of_eq hlen
    rw [← hlen]
    have hcap := hr1.cap
    have hcm := hr1.capm
    unfold maxLen at hcm
    clear hlen
    go_enter Tryd.func44, Tryd.ntmps44
    go_wp2_with fail
    go_loopw [13] (fun i wr => ∃ k q : Nat, k ≤ L.length ∧ i = .int .i64 k ∧ Hid (L.take k = M.take k) ∧ Hid (wr = w.drewN q)) (fun i _ => L.length - (intOf i).toNat)
    case atStart => exact ⟨0, 0, Nat.zero_le _, rfl, (by simp [Hid]), rfl⟩
    case round =>
      obtain ⟨k, q, hk, rfl, hd, hw⟩ := hrel
      by_cases hlt : k < L.length
      · have hj2 : k < M.length := by omega
        obtain ⟨b1, o1, rfl, hb1, hc1⟩ := hr1.at_ hlt
        obtain ⟨b2, o2, rfl, hb2, hc2⟩ := hr2.at_ hj2
        have hcj1 := hc1 k hlt
        have hcj2 := hc2 k hj2
        unfold uv at hcj1 hcj2
        obtain rfl := hw.out
        have hi0 : (0 : Int) ≤ (k : Int) := by omega
        have hi1 : (k : Int) < (L.length : Int) := by omega
        have hi2 : (k : Int) < (M.length : Int) := by omega
        clear hc1 hc2
        by_cases hx : L[k] = M[k]
        · have HN : Hid (L.take (k + 1) = M.take (k + 1)) := by
            show L.take (k + 1) = M.take (k + 1)
            rw [List.take_succ_eq_append_getElem hlt, List.take_succ_eq_append_getElem hj2, hd.out, hx]
          have HX : ((((L[k]).toNat : Int)) != ((M[k]).toNat : Int)) = false := by rw [hx]; simp
          clear hx
          go_wp2_with fail
          go_quiet (fail)
          go_wp2_with fail
          go_roundw
          case rel => exact ⟨k + 1, q + nq, by omega, by go_num, HN, by simp [Hid]⟩
          case measure => simp [intOf]; omega
        · have hx2 : (L[k]).toNat ≠ (M[k]).toNat := fun e => hx (u32_eq e)
          have HC := Lib.hid (sameB_no (a := L) (b := M) (fun e => hx (by subst e; rfl)))
          have HX : ((((L[k]).toNat : Int)) != ((M[k]).toNat : Int)) = true := by simp; omega
          clear hx hx2
          go_wp2_with fail
          go_quiet (fail)
          go_wp2_with fail
          go_ret
          rw [HC.out]
          exact ⟨rfl, _, by rw [World.drewN_drewN]⟩
      · obtain rfl : k = L.length := by omega
        have HC := Lib.hid (show sameB L M = true by
          rw [sameB_iff]
          have := hd.out
          rwa [List.take_of_length_le (Nat.le_refl _), List.take_of_length_le (by have := HLen.out; omega)] at this)
        go_wp2_with fail
        go_ret
        rw [HC.out]
        exact ⟨rfl, q, hw.out⟩
  · have h3 : ((L.length : Int) != (M.length : Int)) = true := by simp; omega
    have HC := Lib.hid (sameB_no (a := L) (b := M) (fun e => hlen (by rw [e])))
    clear hlen
    go_enter Tryd.func44, Tryd.ntmps44
    go_wp2_with fail
    go_ret
    rw [HC.out]
    exact ⟨rfl, 0, rfl⟩
set_option maxHeartbeats 400000 in
theorem same_any (A1 A2 : Option Addr) (c1 c2 B1 B2 : Nat) (L M : List UInt32) (w : World) (hr1 : Rf uv w B1 A1 c1 L) (hr2 : Rf uv w B2 A2 c2 M) :
    Calls Tryd.prog 18 #[.slice A1 L.length c1, .slice A2 M.length c2] w fun e w' => e = .returned (.bool (sameB L M)) ∧ ∃ q, w' = w.drewN q := by
  go_enter Tryd.func18, Tryd.ntmps18
  go_wp2_with fail
  refine (equal_any A1 A2 c1 c2 B1 B2 L M w hr1 hr2).mono ?_
  rintro e w' ⟨rfl, q, rfl⟩
  go_wp2_with fail
  go_ret
  exact ⟨rfl, q, rfl⟩

set_option maxHeartbeats 400000 in
theorem fitting_any (A : Option Addr) (c na : Nat) (L : List UInt32) (w : World) (hr : Rf uv w w.heap.size A c L) (hl : L.length ≤ 1000000) (hna : L.length = na) :
    Calls Tryd.prog 48 #[.slice A na c] w fun e w' => NumErr w w' (numM (val L)) e := by
  have hle := limbs_val_le L
  have HR := Lib.hid hr.trim
  obtain ⟨k, hk⟩ : ∃ k, (limbs (val L)).length = k := ⟨_, rfl⟩
  by_cases h : k ≤ 96
  · have HQ := Lib.hid (numM_ok (n := val L) (by omega))
    have hki : decide ((96 : Int) < (k : Int)) = false := by simp; omega
    have HK := Lib.hid hk
    have HN := Lib.hid hna
    clear hk hle hna
    go_enter Tryd.func48, Tryd.ntmps48
    go_wp2_with fail
    (with_reducible refine (trim_n A c _ na k L w hr hl HN.out HK.out).mono ?_)
    rintro e w' ⟨rfl, rfl⟩
    go_wp2_with fail
    go_ret2
    rw [HQ.out]
    have e := HR.out
    refine ⟨A, k, by rw [HK.out]; rfl, ?_, Below.refl _ _⟩
    rwa [HK.out] at e
  · have HQ := Lib.hid (numM_great (n := val L) (by omega))
    have hki : (96 : Int) < (k : Int) := by omega
    have HK := Lib.hid hk
    have HN := Lib.hid hna
    clear hk hle hna
    go_enter Tryd.func48, Tryd.ntmps48
    go_wp2_with fail
    (with_reducible refine (trim_n A c _ na k L w hr hl HN.out HK.out).mono ?_)
    rintro e w' ⟨rfl, rfl⟩
    go_wp2_with fail
    go_ret2
    rw [HQ.out]
    exact numErr_bad w 30
end Go.Proofs.YtffbmkobholmhaaDoor
