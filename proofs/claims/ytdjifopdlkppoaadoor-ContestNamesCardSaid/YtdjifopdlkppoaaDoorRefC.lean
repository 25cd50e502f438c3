/- A contest as a value; the reference's Great. -/
import Derived.Test.YtdjifopdlkppoaaDoorRefW
namespace Go.Proofs.YtdjifopdlkppoaaDoor
open Go.RowKit
set_option linter.unusedVariables false

/-- The cells of a contest. -/
def cvs (A : Option Addr) (c : Nat) (x : Ct) : Array Value := #[.string ⟨x.name.toArray⟩, .slice A x.cands.length c, .int .i64 x.seats, .int .u8 x.rule]
/-- A contest as a value. -/
def cv (A : Option Addr) (c : Nat) (x : Ct) : Value := .agg (cvs A c x)
def greatM (x : Ct) : Bool := decide (100 < x.cands.length) || (decide (1000 < x.name.length) || x.cands.any fun y => decide (1000 < y.length))
theorem greatM_no {x : Ct} (h : greatM x = false) : x.cands.length ≤ 100 ∧ x.name.length ≤ 1000 ∧ ∀ y ∈ x.cands, y.length ≤ 1000 := by
  simp [greatM] at h
  exact ⟨by omega, by omega, fun y hy => h.2.2 y hy⟩

set_option maxRecDepth 100000 in
set_option maxHeartbeats 400000 in
theorem great_any (x : Ct) (A : Option Addr) (c : Nat) (w : World) (hr : Rf sv w w.heap.size A c x.cands) :
    Calls Tryd.prog 26 #[cv A c x] w fun e w' => e = .returned (.bool (greatM x)) ∧ Below w.heap.size w w' := by
  have hg0 : ∀ b, b = greatM x → Hid (b = greatM x) := fun _ h => h
  obtain ⟨n, l, s, r⟩ := x
  unfold cv cvs
  have hbw := fun (o : Obj) => below_new w o
  simp only at hr ⊢
  by_cases h1 : 100 < l.length
  · have HG := hg0 true (by simp [greatM]; exact .inl h1)
    have h1d : decide ((100 : Int) < (l.length : Int)) = true := by simp; omega
    clear h1 hg0
    go_enter Tryd.func26, Tryd.ntmps26
    go_wp2_with fail
    go_ret
    exact ⟨by rw [← HG.out] <;> rfl, hbw _⟩
  · have h1d : decide ((100 : Int) < (l.length : Int)) = false := by simp; omega
    by_cases h2 : 1000 < n.length
    · have HG := hg0 true (by simp [greatM]; exact .inr (.inl h2))
      have h2d : decide ((1000 : Int) < (n.length : Int)) = true := by simp; omega
      clear h1 h2 hg0
      go_enter Tryd.func26, Tryd.ntmps26
      go_wp2_with fail
      go_ret
      exact ⟨by rw [← HG.out] <;> rfl, hbw _⟩
    · have h2d : decide ((1000 : Int) < (n.length : Int)) = false := by simp; omega
      have HG := hg0 (l.any fun y => decide (1000 < y.length)) (by simp [greatM]; rw [decide_eq_false (by omega), decide_eq_false (by omega)]; simp)
      clear hg0 h2
      have hll : l.length ≤ 100 := by omega
      clear h1
      go_enter Tryd.func26, Tryd.ntmps26
      go_wp2_with fail
      go_loop [3] (fun i => ∃ k : Nat, k ≤ l.length ∧ i = .int .i64 k ∧ Hid (∀ y ∈ l.take k, y.length ≤ 1000)) (fun i => l.length - (intOf i).toNat)
      case atStart => exact ⟨0, Nat.zero_le _, rfl, by simp [Hid]⟩
      case round =>
        obtain ⟨k, hk, rfl, hpre⟩ := hrel
        by_cases hlt : k < l.length
        · obtain ⟨b, o, rfl, hbb, hc⟩ := (hr.alloc (Nat.le_refl _) (.cells #[.string ⟨n.toArray⟩, .slice A l.length c, .int .i64 s, .int .u8 r] 26)).at_ hlt
          have hcx := hc k hlt
          have hm := List.getElem_mem hlt
          have hs := fun h => take_mem_succ (P := fun y => y.length ≤ 1000) l k hlt hpre.out h
          obtain ⟨x, hx⟩ : ∃ x, x = l[k] := ⟨_, rfl⟩
          rw [← hx] at hcx hm hs
          unfold sv at hcx
          have HS := Lib.hid hs
          have HM := Lib.hid hm
          clear hc hx hs hm
          by_cases h3 : 1000 < x.length
          · have h3d : decide ((1000 : Int) < (x.length : Int)) = true := by simp; omega
            have HB := Lib.hid (show (l.any fun y => decide (1000 < y.length)) = true from List.any_eq_true.2 ⟨x, HM.out, by simpa using h3⟩)
            clear h3
            go_wp2_with fail
            go_ret
            exact ⟨by rw [← HG.out, HB.out] <;> rfl, hbw _⟩
          · have h3d : decide ((1000 : Int) < (x.length : Int)) = false := by simp; omega
            have HN := Lib.hid (HS.out (by omega))
            clear h3
            go_wp2_with fail
            go_round
            case rel => exact ⟨k + 1, by omega, by go_num, HN⟩
            case measure => simp [intOf]; omega
        · obtain rfl : k = l.length := by omega
          have HB := Lib.hid (show (l.any fun y => decide (1000 < y.length)) = false by
            have h := hpre.out
            rw [List.take_of_length_le (Nat.le_refl _)] at h
            rw [Bool.eq_false_iff]
            intro e
            obtain ⟨y, hy, e⟩ := List.any_eq_true.1 e
            have := h y hy
            simp at e
            omega)
          go_wp2_with fail
          go_ret
          exact ⟨by rw [← HG.out, HB.out] <;> rfl, hbw _⟩
end Go.Proofs.YtdjifopdlkppoaaDoor
