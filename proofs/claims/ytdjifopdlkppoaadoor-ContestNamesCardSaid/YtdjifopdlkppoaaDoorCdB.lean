/- contest's areNames, areDistinct; slices.Index, Contains, Equal over strings. -/
import Derived.Test.YtdjifopdlkppoaaDoorCdA
namespace Go.Proofs.YtdjifopdlkppoaaDoor
open Go.RowKit
set_option linter.unusedVariables false
attribute [local go_sem] mk_get

theorem Rf.take {α : Type} {f : α → Value} {w : World} {B c : Nat} {A : Option Addr} {xs : List α} (h : Rf f w B A c xs) (k : Nat) : Rf f w B A c (xs.take k) := by
  have hcap := h.cap
  refine ⟨by rw [List.length_take]; omega, h.capm, h.nil, fun ad e j hj => ?_⟩
  rw [List.length_take] at hj
  have := h.cell ad e j (by omega)
  rw [List.getElem_take]
  exact this

def bytesB (l : List UInt8) : Bool := l.all fun b => decide (33 ≤ b.toNat) && decide (b.toNat ≤ 126)
theorem bytesB_iff (l : List UInt8) : bytesB l = true ↔ ∀ b ∈ l, 33 ≤ b.toNat ∧ b.toNat ≤ 126 := by simp [bytesB]
theorem bytesB_bad {l : List UInt8} {b : UInt8} (hb : b ∈ l) (h : b.toNat < 33 ∨ 126 < b.toNat) : bytesB l = false := by
  rw [Bool.eq_false_iff]
  intro e
  have := (bytesB_iff l).1 e b hb
  omega
set_option maxRecDepth 100000 in
set_option maxHeartbeats 400000 in
theorem hasBytes_any (l : List UInt8) (w : World) (hl : l.length ≤ 4000000000) :
    Calls Tryd.prog 70 #[.string ⟨l.toArray⟩] w fun e w' => e = .returned (.bool (bytesB l)) ∧ w = w' := by
  go_enter Tryd.func70, Tryd.ntmps70
  go_wp2_with fail
  go_loop [6] (fun i => ∃ k : Nat, k ≤ l.length ∧ i = .int .i64 k ∧ Hid (∀ b ∈ l.take k, 33 ≤ b.toNat ∧ b.toNat ≤ 126)) (fun i => l.length - (intOf i).toNat)
  case atStart => exact ⟨0, Nat.zero_le _, rfl, by simp [Hid]⟩
  case round =>
    obtain ⟨k, hk, rfl, hpre⟩ := hrel
    by_cases hlt : k < l.length
    · by_cases h1 : l[k].toNat < 33
      · have HB := Lib.hid (bytesB_bad (List.getElem_mem hlt) (.inl h1))
        have h1d : decide (((l[k].toNat : Nat) : Int) < 33) = true := by simp; omega
        go_wp2_with fail
        go_ret
        exact ⟨by rw [HB.out]; rfl, rfl⟩
      · have h1d : decide (((l[k].toNat : Nat) : Int) < 33) = false := by simp; omega
        by_cases h2 : 126 < l[k].toNat
        · have HB := Lib.hid (bytesB_bad (List.getElem_mem hlt) (.inr h2))
          have h2d : decide ((126 : Int) < ((l[k].toNat : Nat) : Int)) = true := by simp; omega
          go_wp2_with fail
          go_ret
          exact ⟨by rw [HB.out]; rfl, rfl⟩
        · have h2d : decide ((126 : Int) < ((l[k].toNat : Nat) : Int)) = false := by simp; omega
          have HN := Lib.hid (take_mem_succ (P := fun b => 33 ≤ b.toNat ∧ b.toNat ≤ 126) l k hlt hpre.out ⟨by omega, by omega⟩)
          go_wp2_with fail
          go_round
          case rel => exact ⟨k + 1, by omega, by go_num, HN⟩
          case measure => simp [intOf]; omega
    · obtain rfl : k = l.length := by omega
      have HB := Lib.hid (show bytesB l = true from (bytesB_iff l).2 (by have := hpre.out; rwa [List.take_of_length_le (Nat.le_refl _)] at this))
      go_wp2_with fail
      go_ret
      exact ⟨by rw [HB.out]; rfl, rfl⟩

theorem nameB_of {l : List UInt8} (h1 : 1 ≤ l.length) (h2 : l.length ≤ 40) : nameB l = bytesB l := by
  unfold nameB bytesB
  rw [decide_eq_true h1, decide_eq_true h2]
  rfl
set_option maxRecDepth 100000 in
set_option maxHeartbeats 400000 in
theorem areNames_any (l : List (List UInt8)) (A : Option Addr) (c : Nat) (w : World) (hr : Rf sv w w.heap.size A c l) :
    Calls Tryd.prog 58 #[.slice A l.length c] w fun e w' => e = .returned (.bool (l.all nameB)) ∧ w = w' := by
  go_enter Tryd.func58, Tryd.ntmps58
  go_wp2_with fail
  go_loop [7] (fun i => ∃ k : Nat, k ≤ l.length ∧ i = .int .i64 k ∧ Hid (∀ y ∈ l.take k, nameB y = true)) (fun i => l.length - (intOf i).toNat)
  case atStart => exact ⟨0, Nat.zero_le _, rfl, by simp [Hid]⟩
  case round =>
    obtain ⟨k, hk, rfl, hpre⟩ := hrel
    have hcm := hr.capm
    have hcp := hr.cap
    unfold maxLen at hcm
    by_cases hlt : k < l.length
    · obtain ⟨b, o, rfl, hbb, hc⟩ := hr.at_ hlt
      have hcx := hc k hlt
      have hm := List.getElem_mem hlt
      have hs := fun h => take_mem_succ (P := fun y => nameB y = true) l k hlt hpre.out h
      obtain ⟨x, hx⟩ : ∃ x, x = l[k] := ⟨_, rfl⟩
      rw [← hx] at hcx hm hs
      unfold sv at hcx
      have HS := Lib.hid hs
      have HF := Lib.hid (show nameB x = false → l.all nameB = false from fun h => by
        rw [Bool.eq_false_iff]
        intro e
        have := List.all_eq_true.1 e x hm
        rw [h] at this
        cases this)
      clear hc hx hs hm
      by_cases h1 : x.length < 1
      · have HB := Lib.hid (HF.out (nameB_size (.inl h1)))
        have h1i : (x.length : Int) < 1 := by omega
        have h1d : decide ((x.length : Int) < 1) = true := by simp; omega
        clear h1
        go_wp2_with fail
        go_ret
        exact ⟨by rw [HB.out]; rfl, rfl⟩
      · have h1d : decide ((x.length : Int) < 1) = false := by simp; omega
        by_cases h2 : 40 < x.length
        · have HB := Lib.hid (HF.out (nameB_size (.inr h2)))
          have h2d : decide ((40 : Int) < (x.length : Int)) = true := by simp; omega
          clear h1 h2
          go_wp2_with fail
          go_ret
          exact ⟨by rw [HB.out]; rfl, rfl⟩
        · have h2d : decide ((40 : Int) < (x.length : Int)) = false := by simp; omega
          have HNB := Lib.hid (nameB_of (l := x) (by omega) (by omega))
          have hxl : x.length ≤ 4000000000 := by omega
          clear h1 h2
          cases hbx : bytesB x with
          | false =>
            have HX := Lib.hid hbx
            have HB := Lib.hid (HF.out (by rw [HNB.out]; exact hbx))
            clear hbx
            go_wp2_with fail
            refine (hasBytes_any x _ hxl).mono ?_
            rintro e w1 ⟨rfl, rfl⟩
            rw [HX.out]
            go_wp2_with fail
            go_ret
            exact ⟨by rw [HB.out]; rfl, rfl⟩
          | true =>
            have HX := Lib.hid hbx
            have HN := Lib.hid (HS.out (by rw [HNB.out]; exact hbx))
            clear hbx
            go_wp2_with fail
            refine (hasBytes_any x _ hxl).mono ?_
            rintro e w1 ⟨rfl, rfl⟩
            rw [HX.out]
            go_wp2_with fail
            go_round
            case rel => exact ⟨k + 1, by omega, by go_num, HN⟩
            case measure => simp [intOf]; omega
    · obtain rfl : k = l.length := by omega
      have HB := Lib.hid (show l.all nameB = true from List.all_eq_true.2 (by have := hpre.out; rwa [List.take_of_length_le (Nat.le_refl _)] at this))
      go_wp2_with fail
      go_ret
      exact ⟨by rw [HB.out]; rfl, rfl⟩

/-- slices.Index. -/
def indexM (l : List (List UInt8)) (y : List UInt8) : Int := if y ∈ l then ((l.idxOf y : Nat) : Int) else -1
set_option maxRecDepth 100000 in
set_option maxHeartbeats 400000 in
theorem index_any (l : List (List UInt8)) (y : List UInt8) (n : Nat) (hn : n = l.length) (A : Option Addr) (c : Nat) (w : World) (hr : Rf sv w w.heap.size A c l) :
    Calls Tryd.prog 44 #[.slice A n c, .string ⟨y.toArray⟩] w fun e w' => e = .returned (.int .i64 (indexM l y)) ∧ w = w' := by
  subst hn
  go_enter Tryd.func44, Tryd.ntmps44
  go_wp2_with fail
  go_loop [8] (fun i => ∃ k : Nat, k ≤ l.length ∧ i = .int .i64 k ∧ Hid (∀ t, t < k → l[t]? ≠ some y)) (fun i => l.length - (intOf i).toNat)
  case atStart => exact ⟨0, Nat.zero_le _, rfl, fun t ht => absurd ht (Nat.not_lt_zero t)⟩
  case round =>
    obtain ⟨k, hk, rfl, hpre⟩ := hrel
    have hcm := hr.capm
    have hcp := hr.cap
    unfold maxLen at hcm
    by_cases hlt : k < l.length
    · obtain ⟨b, o, rfl, hbb, hcc⟩ := hr.at_ hlt
      have hcx := hcc k hlt
      obtain ⟨z, hz⟩ : ∃ z, z = l[k] := ⟨_, rfl⟩
      have HZ := Lib.hid (show l[k]? = some z by rw [List.getElem?_eq_getElem hlt, hz])
      rw [← hz] at hcx
      unfold sv at hcx
      clear hcc hz
      by_cases he : y = z
      · have hbe : (y == z) = true := by rw [beq_iff_eq]; exact he
        have HB := Lib.hid (show indexM l y = ((k : Nat) : Int) by
          have h := HZ.out
          rw [← he] at h
          unfold indexM
          rw [if_pos (List.mem_of_getElem? h), idxOf_at l k hlt y (by rw [List.getElem?_eq_getElem hlt] at h; exact Option.some.inj h) hpre.out])
        clear he hpre
        go_wp2_with fail
        go_ret
        exact ⟨by rw [HB.out] <;> rfl, rfl⟩
      · have hbe : (y == z) = false := by rw [beq_eq_false_iff_ne]; exact he
        have HN := Lib.hid (show ∀ t, t < k + 1 → l[t]? ≠ some y from fun t ht => by
          by_cases e : t = k
          · subst e; rw [HZ.out]; intro e; exact he (Option.some.inj e).symm
          · exact hpre.out t (by omega))
        clear he hpre
        go_wp2_with fail
        go_round
        case rel => exact ⟨k + 1, by omega, by go_num, HN⟩
        case measure => simp [intOf]; omega
    · obtain rfl : k = l.length := by omega
      have HB := Lib.hid (show indexM l y = -1 by
        unfold indexM
        rw [if_neg]
        intro hm
        obtain ⟨j, hj, e⟩ := List.getElem_of_mem hm
        exact hpre.out j hj (by rw [← e]; exact List.getElem?_eq_getElem hj))
      clear hpre
      go_wp2_with fail
      go_ret
      exact ⟨by rw [HB.out] <;> rfl, rfl⟩

theorem contains_any (l : List (List UInt8)) (y : List UInt8) (n : Nat) (hn : n = l.length) (A : Option Addr) (c : Nat) (w : World) (hr : Rf sv w w.heap.size A c l) :
    Calls Tryd.prog 71 #[.slice A n c, .string ⟨y.toArray⟩] w fun e w' => e = .returned (.bool (decide (y ∈ l))) ∧ w = w' := by
  subst hn
  by_cases h : y ∈ l
  · have HB := Lib.hid (show decide (y ∈ l) = true from decide_eq_true h)
    obtain ⟨k, hk⟩ : ∃ k : Nat, indexM l y = k := ⟨l.idxOf y, by unfold indexM; rw [if_pos h]⟩
    have HK := Lib.hid hk
    clear h hk
    go_enter Tryd.func71, Tryd.ntmps71
    go_wp2_with fail
    refine (index_any l y _ rfl A c _ hr).mono ?_
    rintro e w1 ⟨rfl, rfl⟩
    rw [HK.out]
    go_wp2_with fail
    go_ret
    exact ⟨by rw [HB.out]; simp, rfl⟩
  · have HB := Lib.hid (show decide (y ∈ l) = false from decide_eq_false h)
    have HK := Lib.hid (show indexM l y = -1 by unfold indexM; rw [if_neg h])
    clear h
    go_enter Tryd.func71, Tryd.ntmps71
    go_wp2_with fail
    refine (index_any l y _ rfl A c _ hr).mono ?_
    rintro e w1 ⟨rfl, rfl⟩
    rw [HK.out]
    go_wp2_with fail
    go_ret
    exact ⟨by rw [HB.out]; rfl, rfl⟩

theorem distinct_false {l : List (List UInt8)} {k : Nat} (h : k < l.length) (hm : l[k] ∈ l.take k) : distinctB l = false := by
  rw [Bool.eq_false_iff]
  intro e
  obtain ⟨j, hj, he⟩ := List.getElem_of_mem hm
  have hj' : j < k := by simp at hj; omega
  refine not_nodup hj' h ?_ ((distinctB_iff l).1 e)
  rw [List.getElem?_eq_getElem (by omega), ← he, List.getElem_take]
theorem nodup_more {l : List (List UInt8)} {k : Nat} (h : k < l.length) (hd : (l.take k).Nodup) (hm : l[k] ∉ l.take k) : (l.take (k + 1)).Nodup :=
  nodup_snoc h hd fun j hj e => hm (by
    rw [List.getElem?_eq_getElem (by omega)] at e
    have := Option.some.inj e
    rw [← this]
    rw [show l[j] = (l.take k)[j]'(by simp; omega) by rw [List.getElem_take]]
    exact List.getElem_mem _)
set_option maxRecDepth 100000 in
set_option maxHeartbeats 400000 in
theorem areDistinct_any (l : List (List UInt8)) (A : Option Addr) (c : Nat) (w : World) (hr : Rf sv w w.heap.size A c l) :
    Calls Tryd.prog 59 #[.slice A l.length c] w fun e w' => e = .returned (.bool (distinctB l)) ∧ w = w' := by
  go_enter Tryd.func59, Tryd.ntmps59
  go_wp2_with fail
  go_loop [7] (fun i => ∃ k : Nat, k ≤ l.length ∧ i = .int .i64 k ∧ Hid ((l.take k).Nodup)) (fun i => l.length - (intOf i).toNat)
  case atStart => exact ⟨0, Nat.zero_le _, rfl, by simp [Hid]⟩
  case round =>
    obtain ⟨k, hk, rfl, hpre⟩ := hrel
    have hcm := hr.capm
    have hcp := hr.cap
    unfold maxLen at hcm
    by_cases hlt : k < l.length
    · obtain ⟨b, o, rfl, hbb, hcc⟩ := hr.at_ hlt
      have hcx := hcc k hlt
      have HD := Lib.hid (distinct_false hlt)
      have HM := Lib.hid (nodup_more hlt hpre.out)
      have HT := Lib.hid (fun wx (e : w = wx) => contains_any (l.take k) (l[k]) k (by rw [List.length_take]; omega) (some ⟨b, o, none⟩) c wx (e ▸ hr.take k))
      obtain ⟨z, hz⟩ : ∃ z, z = l[k] := ⟨_, rfl⟩
      rw [← hz] at hcx HD HM HT
      unfold sv at hcx
      clear hcc hz
      by_cases he : z ∈ l.take k
      · have HE := Lib.hid (decide_eq_true he)
        have HB := Lib.hid (HD.out he)
        clear he hpre
        go_wp2_with fail
        refine (HT.out _ rfl).mono ?_
        rintro e w1 ⟨rfl, rfl⟩
        rw [HE.out]
        go_wp2_with fail
        go_ret
        exact ⟨by rw [HB.out] <;> rfl, rfl⟩
      · have HE := Lib.hid (decide_eq_false he)
        have HN := Lib.hid (HM.out he)
        clear he hpre
        go_wp2_with fail
        refine (HT.out _ rfl).mono ?_
        rintro e w1 ⟨rfl, rfl⟩
        rw [HE.out]
        go_wp2_with fail
        go_round
        case rel => exact ⟨k + 1, by omega, by go_num, HN⟩
        case measure => simp [intOf]; omega
    · obtain rfl : k = l.length := by omega
      have HB := Lib.hid (show distinctB l = true from (distinctB_iff l).2 (by have := hpre.out; rwa [List.take_of_length_le (Nat.le_refl _)] at this))
      clear hpre
      go_wp2_with fail
      go_ret
      exact ⟨by rw [HB.out] <;> rfl, rfl⟩
end Go.Proofs.YtdjifopdlkppoaaDoor
