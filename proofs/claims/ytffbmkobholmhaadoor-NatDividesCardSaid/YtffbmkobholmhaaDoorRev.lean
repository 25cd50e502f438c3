/- The library's Reverse at bytes. -/
import Derived.Test.YtffbmkobholmhaaDoorText2
namespace Go.Proofs.YtffbmkobholmhaaDoor
open Go.RowKit
set_option linter.unusedVariables false

theorem Ow.setb {w : World} {base g c : Nat} {l : List UInt8} (h : Ow bv w base 5 (some ⟨g, 0, none⟩) c l) (k : Nat) (x : UInt8) : Ow bv (w.setCell ⟨g, k, none⟩ (bv x)) base 5 (some ⟨g, 0, none⟩) c (l.set k x) := by
  have e := (World.ownsRow.stored h k (bv x)).1
  unfold Ow
  rw [List.length_set, List.map_set]
  exact e
theorem Ow.cellb {w : World} {base g c : Nat} {l : List UInt8} (h : Ow bv w base 5 (some ⟨g, 0, none⟩) c l) {k : Nat} (hk : k < l.length) : w.cell? ⟨g, k, none⟩ = some (.int .u8 ((l[k]).toNat : Int)) := by
  rw [World.ownsRow.cellAt h k (by omega)]
  simp [hk, bv]
theorem Ow.frozenb {w : World} {base g c : Nat} {l : List UInt8} (h : Ow bv w base 5 (some ⟨g, 0, none⟩) c l) (k : Nat) : w.frozen? ⟨g, k, none⟩ = false := World.ownsRow.frozenAt h k
/-- A list whose first k and last k elements are exchanged. -/
def RevK (X Y : List UInt8) (k : Nat) : Prop := Y.length = X.length ∧ ∀ i, i < X.length → Y[i]? = if i < k ∨ X.length - k ≤ i then X[X.length - 1 - i]? else X[i]?
theorem revK_start (X : List UInt8) : RevK X X 0 := ⟨rfl, fun i hi => by rw [if_neg (by omega)]⟩
theorem revK_end {X Y : List UInt8} {k : Nat} (h : RevK X Y k) (hk : X.length ≤ k + k + 1) : Y = X.reverse := by
  apply List.ext_getElem?
  intro i
  by_cases hi : i < X.length
  · rw [h.2 i hi, List.getElem?_reverse hi]
    split
    · rfl
    · congr 1; omega
  · rw [List.getElem?_eq_none (by rw [h.1]; omega), List.getElem?_eq_none (by simp; omega)]
theorem revK_step {X Y : List UInt8} {k p : Nat} (h : RevK X Y k) (hp : p + k + 1 = X.length) (hk : k < p) : RevK X ((Y.set k (X[p]'(by omega))).set p (X[k]'(by omega))) (k + 1) := by
  refine ⟨by rw [List.length_set, List.length_set]; exact h.1, fun i hi => ?_⟩
  have hl := h.1
  by_cases h1 : i = p
  · subst h1
    rw [List.getElem?_set_self (by rw [List.length_set]; omega), if_pos (by omega), List.getElem?_eq_getElem (by omega)]
    congr 2
    omega
  · rw [List.getElem?_set_ne (by omega)]
    by_cases h2 : i = k
    · subst h2
      rw [List.getElem?_set_self (by omega), if_pos (by omega), List.getElem?_eq_getElem (by omega)]
      congr 2
      omega
    · rw [List.getElem?_set_ne (by omega), h.2 i hi]
      by_cases h3 : i < k ∨ X.length - k ≤ i
      · rw [if_pos h3, if_pos (by omega)]
      · rw [if_neg h3, if_neg (by omega)]
theorem revK_mid {X Y : List UInt8} {k i : Nat} (h : RevK X Y k) (h1 : k ≤ i) (h2 : i + k + 1 ≤ X.length) : ∃ hi : i < Y.length, Y[i] = X[i]'(by omega) := by
  have e := h.2 i (by omega)
  rw [if_neg (by omega), List.getElem?_eq_getElem (by have := h.1; omega), List.getElem?_eq_getElem (by omega)] at e
  exact ⟨by have := h.1; omega, Option.some.inj e⟩

set_option maxRecDepth 100000 in
set_option maxHeartbeats 1000000 in
theorem reverse_any (g c n base : Nat) (X : List UInt8) (w : World) (hown : Ow bv w base 5 (some ⟨g, 0, none⟩) c X) (hn : X.length = n) (hl : n ≤ 1000000) (hp : 0 < n) :
    Calls Tryd.prog 58 #[.slice (some ⟨g, 0, none⟩) n c] w fun e w' => e = .returned (.tuple #[]) ∧ Ow bv w' base 5 (some ⟨g, 0, none⟩) c X.reverse ∧ w.grownBy w' (some g) := by
  have HN := Lib.hid hn
  have hcap := hown.rd.cap
  have hxn : n ≤ X.length := Nat.le_of_eq hn.symm
  clear hn
  go_enter Tryd.func58, Tryd.ntmps58
  go_wp2_with fail
  go_loopw [2, 3] (fun i j wr => ∃ k p : Nat, ∃ Y : List UInt8, k + k ≤ n ∧ Hid (p + k + 1 = n) ∧ i = .int .i64 k ∧ j = .int .i64 p ∧ Hid (RevK X Y k) ∧ Hid (Ow bv wr base 5 (some ⟨g, 0, none⟩) c Y) ∧ Hid (w.grownBy wr (some g))) (fun i _ _ => n - (intOf i).toNat)
  case atStart => exact ⟨0, n - 1, X, Nat.zero_le _, (show n - 1 + 0 + 1 = n by omega), rfl, by go_num, revK_start X, hown, grown_refl _ _⟩
  case round =>
    obtain ⟨k, p, Y, hk, hpk, rfl, rfl, hr, ho, hg⟩ := hrel
    have hp1 : p + k + 1 ≤ n := Nat.le_of_eq hpk.out
    have hp1b : n ≤ p + k + 1 := Nat.le_of_eq hpk.out.symm
    by_cases hlt : k < p
    · have hkX : k < X.length := by omega
      have hpX : p < X.length := by omega
      obtain ⟨hkY, ek⟩ := revK_mid hr.out (Nat.le_refl _) (by omega)
      obtain ⟨hpY, ep⟩ := revK_mid hr.out (i := p) (by omega) (by omega)
      have hc1 := ho.out.cellb hkY
      have hc2 := ho.out.cellb hpY
      rw [ek] at hc1
      rw [ep] at hc2
      have hf1 := ho.out.frozenb k
      have hf2 := ho.out.frozenb p
      have HS := Lib.hid (revK_step hr.out (by rw [HN.out]; exact hpk.out) hlt)
      have HO := Lib.hid (Ow.drew ((ho.out.setb k X[p]).setb p X[k]))
      have hk0 : (0 : Int) ≤ (k : Int) := by omega
      have hk1 : (k : Int) < (n : Int) := by omega
      have hp0 : (0 : Int) ≤ (p : Int) := by omega
      have hp2 : (p : Int) < (n : Int) := by omega
      have hlti : (k : Int) < (p : Int) := by omega
      have hne : ¬ k = p := by omega
      have hne2 : ¬ p = k := by omega
      have hpn : p < n := by omega
      have hkn : k + 1 < n := by omega
      clear ek ep
      go_wp2_with fail
      go_region
      go_wp2_with fail
      go_roundw
      case rel => exact ⟨k + 1, p - 1, _, by omega, (show p - 1 + (k + 1) + 1 = n by omega), by go_num, by go_num, HS, HO, grown_drew (grown_setCell (grown_setCell hg.out _ _) _ _)⟩
      case measure => simp [intOf]; omega
    · have HE := Lib.hid (revK_end hr.out (by rw [HN.out]; omega))
      have hlti : decide ((k : Int) < (p : Int)) = false := by simp; omega
      go_wp2_with fail
      go_end0
      refine ⟨rfl, ?_, hg.out⟩
      have e := ho.out
      rw [HE.out] at e
      exact e
end Go.Proofs.YtffbmkobholmhaaDoor
