/- Voters as values and in memory; the reference's May, at, Great, Same. The reference's Great, many, Same. The reference's Same, Check. The reference's Check. -/
import Derived.Test.YtikhffdbjelanaaDoorGe
import Derived.Test.YtikhffdbjelanaaDoorGd
import Derived.BigQuiet
import Derived.Deep.RegionLaw
import Derived.Deep.CutRange
import Derived.Deep.LoopGhost
import Derived.Deep.QuietTactic
import Derived.WalkArith
namespace Go.Proofs.YtikhffdbjelanaaDoor
open Go.RowKit
set_option linter.unusedVariables false

/-- The cells of a voter. -/
def vl (v : Vt) : List Value := [.string ⟨v.name.toArray⟩, .int .i64 v.pre, .int .u8 (v.state : Nat)]
def vvs (v : Vt) : Array Value := #[.string ⟨v.name.toArray⟩, .int .i64 v.pre, .int .u8 (v.state : Nat)]
def vv (v : Vt) : Value := .agg (vvs v)
theorem vl_len (v : Vt) : (vl v).length = 3 := rfl
theorem vl_pos (v : Vt) : 0 < (vl v).length := by rw [vl_len]; omega
theorem vl_one (v : Vt) : ∀ u ∈ vl v, u.oneCell' = true := by
  intro u hu
  simp [vl] at hu
  rcases hu with rfl | rfl | rfl <;> rfl
/-- A list of voters that reads. -/
abbrev Rvt (w : World) (B : Nat) (A : Option Addr) (c : Nat) (l : List Vt) : Prop := Rk 3 vl w B A c l
theorem Rk.vt {w : World} {B c : Nat} {A : Option Addr} {l : List Vt} (h : Rvt w B A c l) {k : Nat} (hk : k < l.length) :
    ∃ b o, A = some ⟨b, o, none⟩ ∧ b < B ∧ ∀ j (hj : j < l.length), w.cell? ⟨b, o + j * 3, none⟩ = some (.string ⟨l[j].name.toArray⟩) ∧ w.cell? ⟨b, o + j * 3 + 1, none⟩ = some (.int .i64 l[j].pre) ∧ w.cell? ⟨b, o + j * 3 + 2, none⟩ = some (.int .u8 (l[j].state : Nat)) := by
  obtain ⟨b, o, hA, hb, hc⟩ := Rk.at_ h vl_pos hk
  refine ⟨b, o, hA, hb, fun j hj => ⟨hc j hj 0 _ rfl, ?_, ?_⟩⟩
  · have := hc j hj 1 _ rfl
    rwa [← Nat.add_assoc] at this
  · have := hc j hj 2 _ rfl
    rwa [← Nat.add_assoc] at this

theorem Rk.vt1 {w : World} {B c : Nat} {A : Option Addr} {l : List Vt} (h : Rvt w B A c l) {k : Nat} (hk : k < l.length) {x : Vt} (hx : x = l[k]) :
    ∃ b o, A = some ⟨b, o, none⟩ ∧ b < B ∧ w.cell? ⟨b, o + k * 3, none⟩ = some (.string ⟨x.name.toArray⟩) ∧ w.cell? ⟨b, o + k * 3 + 1, none⟩ = some (.int .i64 x.pre) ∧ w.cell? ⟨b, o + k * 3 + 2, none⟩ = some (.int .u8 (x.state : Nat)) := by
  obtain ⟨b, o, hA, hb, hc⟩ := h.vt hk
  subst hx
  exact ⟨b, o, hA, hb, hc k hk⟩

set_option maxRecDepth 100000 in
set_option maxHeartbeats 1000000 in
theorem refMayV_any (v : Vt) (w : World) (hn : v.name.length ≤ 4000000000) :
    Calls Tryd.prog 48 #[vv v] w fun e w' => e = .returned (.bool (mayV v)) ∧ Below w.heap.size w w' := by
  obtain ⟨n, p, s⟩ := v
  unfold vv vvs
  have hbw := fun (o : Obj) => below_new w o
  simp only at hn ⊢
  have hm : mayV ⟨n, p, s⟩ = (nameB n && (decide (0 ≤ p) && (decide (p < 8) && (decide (1 ≤ s) && decide (s ≤ 4))))) := rfl
  cases hnm : nameB n with
  | false =>
    have HNM := Lib.hid hnm
    have HM := Lib.hid (show mayV ⟨n, p, s⟩ = false by rw [hm, hnm]; rfl)
    clear hm hnm
    go_enter Tryd.func48, Tryd.ntmps48
    go_wp2_with fail
    refine (refName_any n _ hn).mono ?_
    rintro e w1 ⟨rfl, rfl⟩
    rw [HNM.out]
    go_wp2_with fail
    go_ret
    exact ⟨by rw [HM.out] <;> rfl, hbw _⟩
  | true =>
    have HNM := Lib.hid hnm
    by_cases h0 : 0 ≤ p
    · have h0d : decide ((0 : Int) ≤ p) = true := by simpa using h0
      by_cases h1 : p < 8
      · have h1d : decide (p < 8) = true := by simpa using h1
        by_cases h2 : 1 ≤ s
        · have h2d : decide ((1 : Int) ≤ (s : Int)) = true := by simp; omega
          have HM := Lib.hid (show mayV ⟨n, p, s⟩ = decide ((s : Int) ≤ 4) by rw [hm, hnm, decide_eq_true h0, decide_eq_true h1, decide_eq_true h2]; simp; omega)
          clear hm hnm h0 h1 h2
          go_enter Tryd.func48, Tryd.ntmps48
          go_wp2_with fail
          refine (refName_any n _ hn).mono ?_
          rintro e w1 ⟨rfl, rfl⟩
          rw [HNM.out]
          go_wp2_with fail
          go_ret
          exact ⟨by rw [HM.out] <;> rfl, hbw _⟩
        · have h2d : decide ((1 : Int) ≤ (s : Int)) = false := by simp; omega
          have HM := Lib.hid (show mayV ⟨n, p, s⟩ = false by rw [hm, decide_eq_false h2]; simp)
          clear hm hnm h0 h1 h2
          go_enter Tryd.func48, Tryd.ntmps48
          go_wp2_with fail
          refine (refName_any n _ hn).mono ?_
          rintro e w1 ⟨rfl, rfl⟩
          rw [HNM.out]
          go_wp2_with fail
          go_ret
          exact ⟨by rw [HM.out] <;> rfl, hbw _⟩
      · have h1d : decide (p < 8) = false := by simpa using h1
        have HM := Lib.hid (show mayV ⟨n, p, s⟩ = false by rw [hm, h1d]; simp)
        clear hm hnm h0 h1
        go_enter Tryd.func48, Tryd.ntmps48
        go_wp2_with fail
        refine (refName_any n _ hn).mono ?_
        rintro e w1 ⟨rfl, rfl⟩
        rw [HNM.out]
        go_wp2_with fail
        go_ret
        exact ⟨by rw [HM.out] <;> rfl, hbw _⟩
    · have h0d : decide ((0 : Int) ≤ p) = false := by simpa using h0
      have HM := Lib.hid (show mayV ⟨n, p, s⟩ = false by rw [hm, h0d]; simp)
      clear hm hnm h0
      go_enter Tryd.func48, Tryd.ntmps48
      go_wp2_with fail
      refine (refName_any n _ hn).mono ?_
      rintro e w1 ⟨rfl, rfl⟩
      rw [HNM.out]
      go_wp2_with fail
      go_ret
      exact ⟨by rw [HM.out] <;> rfl, hbw _⟩

set_option maxRecDepth 100000 in
set_option maxHeartbeats 1000000 in
theorem refAt_any (l : List Vt) (n : List UInt8) (A : Option Addr) (c : Nat) (w : World) (hr : Rvt w w.heap.size A c l) (hl : l.length ≤ 1000000) :
    Calls Tryd.prog 46 #[.slice A l.length c, .string ⟨n.toArray⟩] w fun e w' => e = .returned (.int .i64 (atI l n)) ∧ w' = w := by
  go_enter Tryd.func46, Tryd.ntmps46
  go_wp2_with fail
  go_loop [5] (fun i => ∃ k : Nat, k ≤ l.length ∧ i = .int .i64 k ∧ Hid (∀ j (h : j < l.length), j < k → l[j].name ≠ n)) (fun i => l.length - (intOf i).toNat)
  case atStart => exact ⟨0, Nat.zero_le _, rfl, fun j h hj => absurd hj (Nat.not_lt_zero j)⟩
  case round =>
    obtain ⟨k, hk, rfl, hpre⟩ := hrel
    by_cases hlt : k < l.length
    · obtain ⟨b, o, rfl, hbb, hc⟩ := hr.vt hlt
      have hcx := (hc k hlt).1
      obtain ⟨x, hx⟩ : ∃ x, x = l[k].name := ⟨_, rfl⟩
      rw [← hx] at hcx
      by_cases he : x = n
      · have HA := Lib.hid (show atI l n = k by
          unfold atI
          rw [atV_mk hlt (hx.symm.trans he) (fun j hj => hpre.out j (by omega) hj)])
        subst he
        clear hc hx
        go_wp2_with fail
        go_ret
        exact ⟨by rw [HA.out] <;> rfl, rfl⟩
      · have HN := Lib.hid (show ∀ j (h : j < l.length), j < k + 1 → l[j].name ≠ n from fun j h hj => by
          by_cases e : j = k
          · subst e; rw [← hx]; exact he
          · exact hpre.out j h (by omega))
        have hed : (x == n) = false := by simpa using he
        clear hc hx he
        go_wp2_with fail
        go_round
        case rel => exact ⟨k + 1, by omega, by go_num, HN⟩
        case measure => simp [intOf]; omega
    · have HA := Lib.hid (show atI l n = -1 by
        unfold atI
        rw [atV_none.2 (fun v hv => by
          obtain ⟨j, hj, rfl⟩ := List.getElem_of_mem hv
          exact hpre.out j hj (by omega))])
      obtain rfl : k = l.length := by omega
      go_wp2_with fail
      go_ret
      exact ⟨by rw [HA.out] <;> rfl, rfl⟩
end Go.Proofs.YtikhffdbjelanaaDoor
namespace Go.Proofs.YtikhffdbjelanaaDoor
open Go.RowKit
set_option linter.unusedVariables false

def greatV (l : List Vt) : Bool := decide (100 < l.length) || l.any fun v => decide (1000 < v.name.length)
theorem greatV_no {l : List Vt} (h : greatV l = false) : l.length ≤ 100 ∧ ∀ v ∈ l, v.name.length ≤ 1000 := by
  simp [greatV] at h
  exact h

set_option maxRecDepth 100000 in
set_option maxHeartbeats 1000000 in
theorem refGreat_any (l : List Vt) (A : Option Addr) (c : Nat) (w : World) (hr : Rvt w w.heap.size A c l) :
    Calls Tryd.prog 23 #[.slice A l.length c] w fun e w' => e = .returned (.bool (greatV l)) ∧ w' = w := by
  by_cases h1 : 100 < l.length
  · have HG := Lib.hid (show greatV l = true by simp [greatV, h1])
    have h1d : decide ((100 : Int) < (l.length : Int)) = true := by simp; omega
    clear h1
    go_enter Tryd.func23, Tryd.ntmps23
    go_wp2_with fail
    go_ret
    exact ⟨by rw [HG.out] <;> rfl, rfl⟩
  have h1d : decide ((100 : Int) < (l.length : Int)) = false := by simp; omega
  have hl : l.length ≤ 100 := by omega
  clear h1
  go_enter Tryd.func23, Tryd.ntmps23
  go_wp2_with fail
  go_loop [3] (fun i => ∃ k : Nat, k ≤ l.length ∧ i = .int .i64 k ∧ Hid (∀ v ∈ l.take k, v.name.length ≤ 1000)) (fun i => l.length - (intOf i).toNat)
  case atStart => exact ⟨0, Nat.zero_le _, rfl, by simp [Hid]⟩
  case round =>
    obtain ⟨k, hk, rfl, hpre⟩ := hrel
    by_cases hlt : k < l.length
    · obtain ⟨b, o, rfl, hbb, hc⟩ := hr.vt hlt
      have hcx := (hc k hlt).1
      have hm := List.getElem_mem hlt
      have hs := fun h => take_mem_succ (P := fun v : Vt => v.name.length ≤ 1000) l k hlt hpre.out h
      obtain ⟨x, hx⟩ : ∃ x, x = l[k] := ⟨_, rfl⟩
      rw [← hx] at hcx hm hs
      have HS := Lib.hid hs
      have HM := Lib.hid hm
      clear hc hx hs hm
      by_cases h3 : 1000 < x.name.length
      · have h3d : decide ((1000 : Int) < (x.name.length : Int)) = true := by simp; omega
        have HB := Lib.hid (show greatV l = true by
          unfold greatV
          rw [List.any_eq_true.2 ⟨x, HM.out, by simpa using h3⟩]; simp)
        clear h3
        go_wp2_with fail
        go_ret
        exact ⟨by rw [HB.out] <;> rfl, rfl⟩
      · have h3d : decide ((1000 : Int) < (x.name.length : Int)) = false := by simp; omega
        have HN := Lib.hid (HS.out (by omega))
        clear h3
        go_wp2_with fail
        go_round
        case rel => exact ⟨k + 1, by omega, by go_num, HN⟩
        case measure => simp [intOf]; omega
    · obtain rfl : k = l.length := by omega
      have HB := Lib.hid (show greatV l = false by
        have h := hpre.out
        rw [List.take_of_length_le (Nat.le_refl _)] at h
        unfold greatV
        rw [decide_eq_false (by omega), Bool.false_or, Bool.eq_false_iff]
        intro e
        obtain ⟨y, hy, e⟩ := List.any_eq_true.1 e
        have := h y hy
        simp at e
        omega)
      go_wp2_with fail
      go_ret
      exact ⟨by rw [HB.out] <;> rfl, rfl⟩

theorem manyV_take (l : List Vt) (p : Int) (s k : Nat) (h : k < l.length) : manyV (l.take (k + 1)) p s = manyV (l.take k) p s + if decide (l[k].state = s) && (decide (p < 0) || decide (l[k].pre = p)) then 1 else 0 := by
  unfold manyV
  rw [List.take_succ_eq_append_getElem h, List.countP_append, List.countP_singleton]
theorem manyV_le (l : List Vt) (p : Int) (s : Nat) : manyV l p s ≤ l.length := List.countP_le_length

set_option maxRecDepth 100000 in
set_option maxHeartbeats 1000000 in
theorem refMany_any (l : List Vt) (p : Int) (s : Nat) (A : Option Addr) (c : Nat) (w : World) (hr : Rvt w w.heap.size A c l) (hl : l.length ≤ 1000000) :
    Calls Tryd.prog 47 #[.slice A l.length c, .int .i64 p, .int .u8 (s : Nat)] w fun e w' => e = .returned (.int .i64 (manyV l p s)) ∧ w' = w := by
  go_enter Tryd.func47, Tryd.ntmps47
  go_wp2_with fail
  go_loop [7, 8] (fun n i => ∃ k m : Nat, k ≤ l.length ∧ i = .int .i64 k ∧ n = .int .i64 m ∧ m ≤ 1000000 ∧ Hid (m = manyV (l.take k) p s)) (fun n i => l.length - (intOf i).toNat)
  case atStart => exact ⟨0, 0, Nat.zero_le _, rfl, rfl, by omega, rfl⟩
  case round =>
    obtain ⟨k, m, hk, rfl, rfl, hm, hpre⟩ := hrel
    by_cases hlt : k < l.length
    · obtain ⟨b, o, rfl, hbb, hc⟩ := hr.vt hlt
      have hcx := (hc k hlt).2.2
      have hcp := (hc k hlt).2.1
      have hs := manyV_take l p s k hlt
      have hm' : manyV (l.take (k + 1)) p s ≤ 1000000 := Nat.le_trans (manyV_le _ _ _) (by simp; omega)
      obtain ⟨x, hx⟩ : ∃ x, x = l[k] := ⟨_, rfl⟩
      rw [← hx] at hcx hcp hs
      rw [← hpre.out] at hs
      clear hc hx
      by_cases he : x.state = s
      · rw [he] at hcx
        by_cases hp : p < 0
        · have hpd : decide (p < 0) = true := by simpa using hp
          have HN := Lib.hid (show m + 1 = manyV (l.take (k + 1)) p s by rw [hs, he, hpd]; simp)
          have hm2 : m + 1 ≤ 1000000 := by rw [HN.out]; exact hm'
          clear hs hp he
          go_wp2_with fail
          go_round
          case rel => exact ⟨k + 1, m + 1, by omega, by go_num, by go_num, hm2, HN⟩
          case measure => simp [intOf]; omega
        · have hpd : decide (p < 0) = false := by simpa using hp
          by_cases hq : x.pre = p
          · rw [hq] at hcp
            have HN := Lib.hid (show m + 1 = manyV (l.take (k + 1)) p s by rw [hs, he, hq]; simp)
            have hm2 : m + 1 ≤ 1000000 := by rw [HN.out]; exact hm'
            clear hs hp hq he
            go_wp2_with fail
            go_round
            case rel => exact ⟨k + 1, m + 1, by omega, by go_num, by go_num, hm2, HN⟩
            case measure => simp [intOf]; omega
          · have HN := Lib.hid (show m = manyV (l.take (k + 1)) p s by rw [hs, hpd, decide_eq_false hq]; simp)
            clear hs hp he
            go_wp2_with fail
            go_round
            case rel => exact ⟨k + 1, m, by omega, by go_num, rfl, hm, HN⟩
            case measure => simp [intOf]; omega
      · have HN := Lib.hid (show m = manyV (l.take (k + 1)) p s by rw [hs, decide_eq_false he]; simp)
        have hei : ¬ (x.state : Int) = (s : Int) := by omega
        clear hs he
        go_wp2_with fail
        go_round
        case rel => exact ⟨k + 1, m, by omega, by go_num, rfl, hm, HN⟩
        case measure => simp [intOf]; omega
    · obtain rfl : k = l.length := by omega
      have HB := Lib.hid (show manyV l p s = m by rw [hpre.out, List.take_of_length_le (Nat.le_refl _)])
      go_wp2_with fail
      go_ret
      exact ⟨by rw [HB.out] <;> rfl, rfl⟩
end Go.Proofs.YtikhffdbjelanaaDoor
namespace Go.Proofs.YtikhffdbjelanaaDoor
open Go.RowKit
set_option linter.unusedVariables false

theorem vt_ext {x y : Vt} (h1 : x.name = y.name) (h2 : x.pre = y.pre) (h3 : (x.state : Int) = (y.state : Int)) : x = y := by
  obtain ⟨a, b, c⟩ := x
  obtain ⟨d, e, f⟩ := y
  simp only at h1 h2 h3
  subst h1 h2
  have : c = f := by omega
  rw [this]

set_option maxRecDepth 100000 in
set_option maxHeartbeats 1000000 in
theorem refSame_any (l m : List Vt) (A A2 : Option Addr) (c c2 : Nat) (w : World) (hr : Rvt w w.heap.size A c l) (hr2 : Rvt w w.heap.size A2 c2 m) (hl : l.length ≤ 1000000) (hm : m.length ≤ 1000000) :
    Calls Tryd.prog 21 #[.slice A l.length c, .slice A2 m.length c2] w fun e w' => e = .returned (.bool (decide (l = m))) ∧ Below w.heap.size w w' := by
  by_cases hne : l.length = m.length
  · have hd : decide ((l.length : Int) = (m.length : Int)) = true := by simp; omega
    have hi : (l.length : Int) = (m.length : Int) := by omega
    have HN := Lib.hid hne
    have hle : l.length ≤ m.length := by omega
    clear hne
    have hbw := below_drewN w.heap.size w
    go_enter Tryd.func21, Tryd.ntmps21
    go_wp2_with fail
    go_loopw [5] (fun i wr => ∃ k : Nat, k ≤ l.length ∧ i = .int .i64 k ∧ Hid (∀ j (h : j < l.length) (h' : j < m.length), j < k → l[j] = m[j]) ∧ ∃ q, wr = w.drewN q) (fun i _ => l.length - (intOf i).toNat)
    case atStart => exact ⟨0, Nat.zero_le _, rfl, (fun j h h' hj => absurd hj (Nat.not_lt_zero j)), 0, rfl⟩
    case round =>
      obtain ⟨k, hk, rfl, hpre, q, rfl⟩ := hrel
      by_cases hlt : k < l.length
      · have hlt2 : k < m.length := by omega
        obtain ⟨b, o, rfl, hbb, hc⟩ := hr.vt hlt
        obtain ⟨b2, o2, rfl, hbb2, hc2⟩ := hr2.vt hlt2
        obtain ⟨f1, f2, f3⟩ := hc k hlt
        obtain ⟨g1, g2, g3⟩ := hc2 k hlt2
        obtain ⟨x, hx⟩ : ∃ x, x = l[k] := ⟨_, rfl⟩
        obtain ⟨y, hy⟩ : ∃ y, y = m[k] := ⟨_, rfl⟩
        rw [← hx] at f1 f2 f3
        rw [← hy] at g1 g2 g3
        have HB := Lib.hid (fun (h : x ≠ y) => show decide (l = m) = false from by
          rw [decide_eq_false_iff_not]; intro e; subst e; exact h (hx.trans hy.symm))
        have HS := Lib.hid (fun (h : x = y) => show ∀ j (h : j < l.length) (h' : j < m.length), j < k + 1 → l[j] = m[j] from fun j hj hj' hjk => by
          by_cases e : j = k
          · subst e; rw [← hx, ← hy]; exact h
          · exact hpre.out j hj hj' (by omega))
        clear hc hc2 hx hy
        by_cases h1 : x.name = y.name
        · by_cases h2 : x.pre = y.pre
          · by_cases h3 : (x.state : Int) = (y.state : Int)
            · have HN := Lib.hid (HS.out (vt_ext h1 h2 h3))
              go_wp2_with fail
              go_region
              go_wp2_with fail
              go_roundw
              case rel => exact ⟨k + 1, by omega, by go_num, HN, _, by first | rfl | rw [World.drewN_drewN]⟩
              case measure => simp [intOf]; omega
            · have HF := Lib.hid (HB.out (fun e => h3 (by rw [e])))
              go_wp2_with fail
              go_region
              go_wp2_with fail
              go_ret
              exact ⟨by rw [HF.out] <;> rfl, by first | exact hbw _ | (rw [World.drewN_drewN]; exact hbw _)⟩
          · have HF := Lib.hid (HB.out (fun e => h2 (by rw [e])))
            go_wp2_with fail
            go_region
            go_wp2_with fail
            go_ret
            exact ⟨by rw [HF.out] <;> rfl, by first | exact hbw _ | (rw [World.drewN_drewN]; exact hbw _)⟩
        · have HF := Lib.hid (HB.out (fun e => h1 (by rw [e])))
          go_wp2_with fail
          go_region
          go_wp2_with fail
          go_ret
          exact ⟨by rw [HF.out] <;> rfl, by first | exact hbw _ | (rw [World.drewN_drewN]; exact hbw _)⟩
      · have HB := Lib.hid (show decide (l = m) = true by
          rw [decide_eq_true_iff]
          exact List.ext_getElem HN.out fun j h h' => hpre.out j h h' (by omega))
        obtain rfl : k = l.length := by omega
        go_wp2_with fail
        go_ret
        exact ⟨by rw [HB.out] <;> rfl, hbw _⟩
  · have hd : decide ((l.length : Int) = (m.length : Int)) = false := by simp; omega
    have HB := Lib.hid (show decide (l = m) = false by rw [decide_eq_false_iff_not]; intro e; exact hne (by rw [e]))
    have hi : ¬ (l.length : Int) = (m.length : Int) := by omega
    clear hne
    go_enter Tryd.func21, Tryd.ntmps21
    go_wp2_with fail
    go_ret
    exact ⟨by rw [HB.out] <;> rfl, Below.refl _ _⟩
end Go.Proofs.YtikhffdbjelanaaDoor
namespace Go.Proofs.YtikhffdbjelanaaDoor
open Go.RowKit
set_option linter.unusedVariables false

theorem checkV_big {l : List Vt} (h : 64 < l.length) : checkV l = 4 := by unfold checkV; rw [if_pos h]
theorem checkV_bad {l : List Vt} (h : ¬ 64 < l.length) {i : Nat} (hi : i < l.length) (hb : mayV l[i] = false ∨ (0 < i ∧ ltB (l[i-1]'(by omega)).name l[i].name = false)) : checkV l = 8 := by
  unfold checkV
  rw [if_neg h, if_neg]
  intro e
  have := (rowV_at l).1 e i hi
  rcases hb with hb | ⟨h0, hb⟩
  · rw [hb] at this; exact absurd this.1 (by simp)
  · have h2 := this.2 h0
    rw [hb] at h2; cases h2

/-- Behind the first k operations of a region that draws its order the rest only reads: one walk in the order of the text. -/
theorem wpAny_quiet_rest24 {P : Program} {L : List Oper} {Q : Exit → Act → World → Prop} {a : Act} {w : World} {listed : Array Bool} {fuel : Nat} (k : Nat) (hs : Region.noSelect L.toArray = true) (hf : fuel = (L.drop k).length)
    (hB : Region.lexFrom .any L.toArray (L.drop k).length k listed = true)
    (h : wpQuiet P L.toArray (fun w' => ∃ n, w' = w.drewN n) (fun a' => ∀ w', (∃ n, w' = w.drewN n) → Q .normal a' w') (L.drop k) a) : wpAny P .any L.toArray Q fuel listed a w := by
  subst hf
  refine wpAny_of_quiet (C := fun w' => ∃ n, w' = w.drewN n) (Q := fun a' => ∀ w', (∃ n, w' = w.drewN n) → Q .normal a' w') (fun _ w' hw' h => h w' hw') _ _ _ _ ⟨0, rfl⟩ ?_
  exact wpAnyQ_lex hs (L.drop k) k listed a (fun j => by simp [List.getElem?_drop]) hB h

set_option maxRecDepth 100000 in
set_option maxHeartbeats 4000000 in
theorem refCheckV_any (l : List Vt) (A : Option Addr) (c : Nat) (w : World) (hr : Rvt w w.heap.size A c l) (hn : ∀ v ∈ l, v.name.length ≤ 4000000000) :
    Calls Tryd.prog 28 #[.slice A l.length c] w fun e w' => e = .returned (.int .i64 (checkV l)) ∧ Below w.heap.size w w' := by
  by_cases h1 : 64 < l.length
  · have HG := Lib.hid (checkV_big h1)
    have h1d : decide ((64 : Int) < (l.length : Int)) = true := by simp; omega
    clear h1
    go_enter Tryd.func28, Tryd.ntmps28
    go_wp2_with fail
    go_ret
    exact ⟨by rw [HG.out] <;> rfl, Below.refl _ _⟩
  have h1d : decide ((64 : Int) < (l.length : Int)) = false := by simp; omega
  have hl : l.length ≤ 64 := by omega
  have HR := Lib.hid hr
  have HM := Lib.hid (fun (v : Vt) (wx : World) (h : v ∈ l) => refMayV_any v wx (hn v h))
  have HBAD := Lib.hid (fun (i : Nat) (hi : i < l.length) => checkV_bad h1 hi)
  clear h1 hr hn
  go_enter Tryd.func28, Tryd.ntmps28
  go_wp2_with fail
  go_loopw [3] (fun i wr => ∃ k : Nat, k ≤ l.length ∧ i = .int .i64 k ∧ Hid (∀ j (h : j < l.length), j < k → mayV l[j] = true ∧ (0 < j → ltB (l[j-1]'(by omega)).name l[j].name = true)) ∧ Hid (Below w.heap.size w wr)) (fun i _ => l.length - (intOf i).toNat)
  case atStart => exact ⟨0, Nat.zero_le _, rfl, (fun j h hj => absurd hj (Nat.not_lt_zero j)), Below.refl _ _⟩
  case round =>
    obtain ⟨k, hk, rfl, hpre, hbw⟩ := hrel
    have hsz := hbw.out.size
    by_cases hlt : k < l.length
    · obtain ⟨b, o, rfl, hbb, hc⟩ := (HR.out.below hbw.out).vt hlt
      obtain ⟨f1, f2, f3⟩ := hc k hlt
      have hm := List.getElem_mem hlt
      have hbad := HBAD.out k hlt
      have hs := fun (h : mayV l[k] = true ∧ (0 < k → ltB (l[k-1]'(by omega)).name l[k].name = true)) => show ∀ j (h : j < l.length), j < k + 1 → mayV l[j] = true ∧ (0 < j → ltB (l[j-1]'(by omega)).name l[j].name = true) from fun j hj hjk => by
        by_cases e : j = k
        · subst e; exact h
        · exact hpre.out j hj (by omega)
      by_cases h0 : 0 < k
      · have h0d : decide ((0 : Int) < (k : Int)) = true := by simp; omega
        have hk1 : k - 1 < l.length := by omega
        have g1 := (hc (k - 1) hk1).1
        have ek : (k : Int) - 1 = ((k - 1 : Nat) : Int) := by omega
        obtain ⟨p, hp⟩ : ∃ p, p = k - 1 := ⟨_, rfl⟩
        obtain ⟨x, hx⟩ : ∃ x, x = l[k] := ⟨_, rfl⟩
        obtain ⟨y, hy⟩ : ∃ y, y = l[k-1]'hk1 := ⟨_, rfl⟩
        rw [← hx] at f1 f2 f3 hm hbad hs
        rw [← hy] at g1 hbad hs
        rw [← hp] at g1 ek
        have HM1 := Lib.hid (fun wx => HM.out x wx hm)
        unfold vv vvs at HM1
        cases hmx : mayV x with
        | false =>
          have HMX := Lib.hid hmx
          have HC := Lib.hid (hbad (.inl hmx))
          clear hs hbad hmx hc hx hy hp g1
          go_wp2_with fail
          refine wp_region_any (by kernel_rfl) ?_
          change wpAny _ _ _ _ _ _ _ (World.drew _)
          refine wpAny_ready (rs := [0, 1]) (by decide +kernel) (by simp) (AllReady.cons rfl (fun K hK => ?_) (AllReady.cons rfl (fun K hK => ?_) AllReady.nil))
          all_goals go_simp; refine hK _ _ ?_; clear hK K
          all_goals (first | refine wpAny_ready (rs := [1]) (by decide +kernel) (by simp) (AllReady.cons rfl (fun K hK => ?_) AllReady.nil) | refine wpAny_ready (rs := [0]) (by decide +kernel) (by simp) (AllReady.cons rfl (fun K hK => ?_) AllReady.nil))
          all_goals
            go_simp
            refine hK _ _ ?_
            clear hK K
            refine wpAny_ready (rs := [2]) (by kernel_rfl) (by simp) (AllReady.cons rfl (fun K hK => ?_) AllReady.nil)
            go_simp
            refine hK _ _ ?_
            clear hK K
            refine wpAny_ready (rs := [3]) (by kernel_rfl) (by simp) (AllReady.cons rfl (fun K hK => ?_) AllReady.nil)
            go_simp
            refine hK _ _ ?_
            clear hK K
            refine wpAny_ready (rs := [4]) (by kernel_rfl) (by simp) (AllReady.cons rfl (fun K hK => ?_) AllReady.nil)
            go_simp
            go_at_call 48
            refine (HM1.out _).mono ?_
            rintro e wA ⟨rfl, hbA⟩
            rw [HMX.out]
            have HBA := Lib.hid (hbw.out.drew.trans (hbA.mono (by simpa using hsz)))
            clear hbA
            refine hK _ _ ?_
            clear hK K
            refine wpAny_quiet_rest24 5 (by kernel_rfl) (by kernel_rfl) (by kernel_rfl) ?_
            simp only [List.drop_succ_cons, List.drop_zero]
            repeat (go_big_quiet_step (fail))
            refine wpQuiet_nil ?_
            intro _ hw'
            obtain ⟨nq, hw''⟩ := hw'
            subst hw''
            go_wp2_with fail
            go_ret
            exact ⟨by rw [HC.out] <;> rfl, HBA.out.trans (below_drewN _ _ nq)⟩
        | true =>
          have HMX := Lib.hid hmx
          cases hlx : ltB y.name x.name with
          | false =>
            have HC := Lib.hid (hbad (.inr ⟨h0, hlx⟩))
            clear hs hbad hmx hc hx hy hp
            unfold ltB at hlx
            go_wp2_with fail
            refine wp_region_any (by kernel_rfl) ?_
            change wpAny _ _ _ _ _ _ _ (World.drew _)
            refine wpAny_ready (rs := [0, 1]) (by decide +kernel) (by simp) (AllReady.cons rfl (fun K hK => ?_) (AllReady.cons rfl (fun K hK => ?_) AllReady.nil))
            all_goals go_simp; refine hK _ _ ?_; clear hK K
            all_goals (first | refine wpAny_ready (rs := [1]) (by decide +kernel) (by simp) (AllReady.cons rfl (fun K hK => ?_) AllReady.nil) | refine wpAny_ready (rs := [0]) (by decide +kernel) (by simp) (AllReady.cons rfl (fun K hK => ?_) AllReady.nil))
            all_goals
              go_simp
              refine hK _ _ ?_
              clear hK K
              refine wpAny_ready (rs := [2]) (by kernel_rfl) (by simp) (AllReady.cons rfl (fun K hK => ?_) AllReady.nil)
              go_simp
              refine hK _ _ ?_
              clear hK K
              refine wpAny_ready (rs := [3]) (by kernel_rfl) (by simp) (AllReady.cons rfl (fun K hK => ?_) AllReady.nil)
              go_simp
              refine hK _ _ ?_
              clear hK K
              refine wpAny_ready (rs := [4]) (by kernel_rfl) (by simp) (AllReady.cons rfl (fun K hK => ?_) AllReady.nil)
              go_simp
              go_at_call 48
              refine (HM1.out _).mono ?_
              rintro e wA ⟨rfl, hbA⟩
              rw [HMX.out]
              have HBA := Lib.hid (hbw.out.drew.trans (hbA.mono (by simpa using hsz)))
              have f1A := (hbA.cell (p := ⟨b, o + k * 3, none⟩) (by simp; omega)).trans f1
              have g1A := (hbA.cell (p := ⟨b, o + p * 3, none⟩) (by simp; omega)).trans g1
              clear hbA
              refine hK _ _ ?_
              clear hK K
              refine wpAny_quiet_rest24 5 (by kernel_rfl) (by kernel_rfl) (by kernel_rfl) ?_
              simp only [List.drop_succ_cons, List.drop_zero]
              repeat (go_big_quiet_step (fail))
              refine wpQuiet_nil ?_
              intro _ hw'
              obtain ⟨nq, hw''⟩ := hw'
              subst hw''
              go_wp2_with fail
              go_ret
              exact ⟨by rw [HC.out] <;> rfl, HBA.out.trans (below_drewN _ _ nq)⟩
          | true =>
            have HN := Lib.hid (hs ⟨hmx, fun _ => hlx⟩)
            clear hs hbad hmx hc hx hy hp
            unfold ltB at hlx
            go_wp2_with fail
            refine wp_region_any (by kernel_rfl) ?_
            change wpAny _ _ _ _ _ _ _ (World.drew _)
            refine wpAny_ready (rs := [0, 1]) (by decide +kernel) (by simp) (AllReady.cons rfl (fun K hK => ?_) (AllReady.cons rfl (fun K hK => ?_) AllReady.nil))
            all_goals go_simp; refine hK _ _ ?_; clear hK K
            all_goals (first | refine wpAny_ready (rs := [1]) (by decide +kernel) (by simp) (AllReady.cons rfl (fun K hK => ?_) AllReady.nil) | refine wpAny_ready (rs := [0]) (by decide +kernel) (by simp) (AllReady.cons rfl (fun K hK => ?_) AllReady.nil))
            all_goals
              go_simp
              refine hK _ _ ?_
              clear hK K
              refine wpAny_ready (rs := [2]) (by kernel_rfl) (by simp) (AllReady.cons rfl (fun K hK => ?_) AllReady.nil)
              go_simp
              refine hK _ _ ?_
              clear hK K
              refine wpAny_ready (rs := [3]) (by kernel_rfl) (by simp) (AllReady.cons rfl (fun K hK => ?_) AllReady.nil)
              go_simp
              refine hK _ _ ?_
              clear hK K
              refine wpAny_ready (rs := [4]) (by kernel_rfl) (by simp) (AllReady.cons rfl (fun K hK => ?_) AllReady.nil)
              go_simp
              go_at_call 48
              refine (HM1.out _).mono ?_
              rintro e wA ⟨rfl, hbA⟩
              rw [HMX.out]
              have HBA := Lib.hid (hbw.out.drew.trans (hbA.mono (by simpa using hsz)))
              have f1A := (hbA.cell (p := ⟨b, o + k * 3, none⟩) (by simp; omega)).trans f1
              have g1A := (hbA.cell (p := ⟨b, o + p * 3, none⟩) (by simp; omega)).trans g1
              clear hbA
              refine hK _ _ ?_
              clear hK K
              refine wpAny_quiet_rest24 5 (by kernel_rfl) (by kernel_rfl) (by kernel_rfl) ?_
              simp only [List.drop_succ_cons, List.drop_zero]
              repeat (go_big_quiet_step (fail))
              refine wpQuiet_nil ?_
              intro _ hw'
              obtain ⟨nq, hw''⟩ := hw'
              subst hw''
              go_wp2_with fail
              go_roundw
              case rel => exact ⟨k + 1, by omega, by go_num, HN, HBA.out.trans (below_drewN _ _ nq)⟩
              case measure => simp [intOf]; omega
      · have h0d : decide ((0 : Int) < (k : Int)) = false := by simp; omega
        obtain ⟨x, hx⟩ : ∃ x, x = l[k] := ⟨_, rfl⟩
        have hs2 := fun (h : mayV x = true) => hs ⟨by rw [← hx]; exact h, fun h => absurd h h0⟩
        rw [← hx] at f1 f2 f3 hm hbad
        have HM1 := Lib.hid (fun wx => HM.out x wx hm)
        unfold vv vvs at HM1
        cases hmx : mayV x with
        | false =>
          have HMX := Lib.hid hmx
          have HC := Lib.hid (hbad (.inl hmx))
          clear hs hs2 hbad hmx hc hx
          go_wp2_with fail
          refine wp_region_any (by kernel_rfl) ?_
          change wpAny _ _ _ _ _ _ _ (World.drew _)
          refine wpAny_ready (rs := [0, 1]) (by decide +kernel) (by simp) (AllReady.cons rfl (fun K hK => ?_) (AllReady.cons rfl (fun K hK => ?_) AllReady.nil))
          all_goals go_simp; refine hK _ _ ?_; clear hK K
          all_goals (first | refine wpAny_ready (rs := [1]) (by decide +kernel) (by simp) (AllReady.cons rfl (fun K hK => ?_) AllReady.nil) | refine wpAny_ready (rs := [0]) (by decide +kernel) (by simp) (AllReady.cons rfl (fun K hK => ?_) AllReady.nil))
          all_goals
            go_simp
            refine hK _ _ ?_
            clear hK K
            refine wpAny_ready (rs := [2]) (by kernel_rfl) (by simp) (AllReady.cons rfl (fun K hK => ?_) AllReady.nil)
            go_simp
            refine hK _ _ ?_
            clear hK K
            refine wpAny_ready (rs := [3]) (by kernel_rfl) (by simp) (AllReady.cons rfl (fun K hK => ?_) AllReady.nil)
            go_simp
            refine hK _ _ ?_
            clear hK K
            refine wpAny_ready (rs := [4]) (by kernel_rfl) (by simp) (AllReady.cons rfl (fun K hK => ?_) AllReady.nil)
            go_simp
            go_at_call 48
            refine (HM1.out _).mono ?_
            rintro e wA ⟨rfl, hbA⟩
            rw [HMX.out]
            have HBA := Lib.hid (hbw.out.drew.trans (hbA.mono (by simpa using hsz)))
            clear hbA
            refine hK _ _ ?_
            clear hK K
            refine wpAny_quiet_rest24 5 (by kernel_rfl) (by kernel_rfl) (by kernel_rfl) ?_
            simp only [List.drop_succ_cons, List.drop_zero]
            repeat (go_big_quiet_step (fail))
            refine wpQuiet_nil ?_
            intro _ hw'
            obtain ⟨nq, hw''⟩ := hw'
            subst hw''
            go_wp2_with fail
            go_ret
            exact ⟨by rw [HC.out] <;> rfl, HBA.out.trans (below_drewN _ _ nq)⟩
        | true =>
          have HMX := Lib.hid hmx
          have HN := Lib.hid (hs2 hmx)
          clear hs hs2 hbad hmx hc hx
          go_wp2_with fail
          refine wp_region_any (by kernel_rfl) ?_
          change wpAny _ _ _ _ _ _ _ (World.drew _)
          refine wpAny_ready (rs := [0, 1]) (by decide +kernel) (by simp) (AllReady.cons rfl (fun K hK => ?_) (AllReady.cons rfl (fun K hK => ?_) AllReady.nil))
          all_goals go_simp; refine hK _ _ ?_; clear hK K
          all_goals (first | refine wpAny_ready (rs := [1]) (by decide +kernel) (by simp) (AllReady.cons rfl (fun K hK => ?_) AllReady.nil) | refine wpAny_ready (rs := [0]) (by decide +kernel) (by simp) (AllReady.cons rfl (fun K hK => ?_) AllReady.nil))
          all_goals
            go_simp
            refine hK _ _ ?_
            clear hK K
            refine wpAny_ready (rs := [2]) (by kernel_rfl) (by simp) (AllReady.cons rfl (fun K hK => ?_) AllReady.nil)
            go_simp
            refine hK _ _ ?_
            clear hK K
            refine wpAny_ready (rs := [3]) (by kernel_rfl) (by simp) (AllReady.cons rfl (fun K hK => ?_) AllReady.nil)
            go_simp
            refine hK _ _ ?_
            clear hK K
            refine wpAny_ready (rs := [4]) (by kernel_rfl) (by simp) (AllReady.cons rfl (fun K hK => ?_) AllReady.nil)
            go_simp
            go_at_call 48
            refine (HM1.out _).mono ?_
            rintro e wA ⟨rfl, hbA⟩
            rw [HMX.out]
            have HBA := Lib.hid (hbw.out.drew.trans (hbA.mono (by simpa using hsz)))
            clear hbA
            refine hK _ _ ?_
            clear hK K
            refine wpAny_quiet_rest24 5 (by kernel_rfl) (by kernel_rfl) (by kernel_rfl) ?_
            simp only [List.drop_succ_cons, List.drop_zero]
            repeat (go_big_quiet_step (fail))
            refine wpQuiet_nil ?_
            intro _ hw'
            obtain ⟨nq, hw''⟩ := hw'
            subst hw''
            go_wp2_with fail
            go_roundw
            case rel => exact ⟨k + 1, by omega, by go_num, HN, HBA.out.trans (below_drewN _ _ nq)⟩
            case measure => simp [intOf]; omega
    · have HB := Lib.hid (show checkV l = 0 from checkV_ok.2 ⟨hl, (rowV_at l).2 fun i hi => hpre.out i hi (by omega)⟩)
      obtain rfl : k = l.length := by omega
      go_wp2_with fail
      go_ret
      exact ⟨by rw [HB.out] <;> rfl, hbw.out⟩
end Go.Proofs.YtikhffdbjelanaaDoor
