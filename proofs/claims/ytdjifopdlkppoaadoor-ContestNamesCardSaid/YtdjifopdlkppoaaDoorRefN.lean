/- The reference's Name, Is, One, Lists, KindOf, Kind, Marks, Most. -/
import Derived.Test.YtdjifopdlkppoaaDoorCt2
import Derived.Test.YtdjifopdlkppoaaDoorMem
import Derived.Test.YtdjifopdlkppoaaDoorProg
namespace Go.Proofs.YtdjifopdlkppoaaDoor
open Go.RowKit
set_option linter.unusedVariables false
attribute [local go_sem] mk_get

theorem take_mem_succ {α : Type} {P : α → Prop} (l : List α) (k : Nat) (h : k < l.length) (ha : ∀ b ∈ l.take k, P b) (hk : P l[k]) : ∀ b ∈ l.take (k + 1), P b := by
  rw [List.take_succ_eq_append_getElem h]
  intro b hb
  rcases List.mem_append.1 hb with h | h
  · exact ha b h
  · simp at h; rw [h]; exact hk

set_option maxRecDepth 100000 in
set_option maxHeartbeats 400000 in
theorem refName_any (l : List UInt8) (w : World) (hl : l.length ≤ 4000000000) :
    Calls Tryd.prog 63 #[.string ⟨l.toArray⟩] w fun e w' => e = .returned (.bool (nameB l)) ∧ w = w' := by
  by_cases h0 : l.length < 1
  · have HB := Lib.hid (nameB_size (.inl h0))
    have h0i : (l.length : Int) < 1 := by omega
    have hd : decide ((l.length : Int) < 1) = true := by simp; omega
    clear h0
    go_enter Tryd.func63, Tryd.ntmps63
    go_wp2_with fail
    go_ret
    exact ⟨by rw [HB.out]; rfl, rfl⟩
  · have h0d : decide ((l.length : Int) < 1) = false := by simp; omega
    by_cases h4 : 40 < l.length
    · have HB := Lib.hid (nameB_size (.inr h4))
      have h4d : decide ((40 : Int) < (l.length : Int)) = true := by simp; omega
      clear h4 h0
      go_enter Tryd.func63, Tryd.ntmps63
      go_wp2_with fail
      go_ret
      exact ⟨by rw [HB.out]; rfl, rfl⟩
    · have h4d : decide ((40 : Int) < (l.length : Int)) = false := by simp; omega
      have HL := Lib.hid (show 1 ≤ l.length ∧ l.length ≤ 40 from ⟨by omega, by omega⟩)
      clear h0 h4
      go_enter Tryd.func63, Tryd.ntmps63
      go_wp2_with fail
      go_loop [3] (fun i => ∃ k : Nat, k ≤ l.length ∧ i = .int .i64 k ∧ Hid (∀ b ∈ l.take k, 33 ≤ b.toNat ∧ b.toNat ≤ 126)) (fun i => l.length - (intOf i).toNat)
      case atStart => exact ⟨0, Nat.zero_le _, rfl, by simp [Hid]⟩
      case round =>
        obtain ⟨k, hk, rfl, hpre⟩ := hrel
        by_cases hlt : k < l.length
        · by_cases h1 : l[k].toNat < 33
          · have HB := Lib.hid (nameB_bad (List.getElem_mem hlt) (.inl h1))
            have h1d : decide (((l[k].toNat : Nat) : Int) < 33) = true := by simp; omega
            go_wp2_with fail
            go_ret
            exact ⟨by rw [HB.out]; rfl, rfl⟩
          · have h1d : decide (((l[k].toNat : Nat) : Int) < 33) = false := by simp; omega
            by_cases h2 : 126 < l[k].toNat
            · have HB := Lib.hid (nameB_bad (List.getElem_mem hlt) (.inr h2))
              have h2d : decide ((126 : Int) < ((l[k].toNat : Nat) : Int)) = true := by simp; omega
              go_wp2_with fail
              go_ret
              exact ⟨by rw [HB.out]; rfl, rfl⟩
            · have h2d : decide ((126 : Int) < ((l[k].toNat : Nat) : Int)) = false := by simp; omega
              have HN := Lib.hid (take_mem_succ (P := fun b => 33 ≤ b.toNat ∧ b.toNat ≤ 126) l k hlt hpre.out ⟨by omega, by omega⟩)
              go_wp2_with fail
              go_round
              case rel => exact ⟨k + 1, by omega, by go_num, HN⟩
              case measure => simp [intOf]; omega
        · obtain rfl : k = l.length := by omega
          have HB := Lib.hid (show nameB l = true from (nameB_iff l).2 ⟨HL.out.1, HL.out.2, by have := hpre.out; rwa [List.take_of_length_le (Nat.le_refl _)] at this⟩)
          go_wp2_with fail
          go_ret
          exact ⟨by rw [HB.out]; rfl, rfl⟩
end Go.Proofs.YtdjifopdlkppoaaDoor
