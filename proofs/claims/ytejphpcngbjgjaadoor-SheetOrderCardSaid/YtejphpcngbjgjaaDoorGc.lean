/- The reference's Name, Is, One, Lists, KindOf, Kind, Marks, Most. The reference's Is, One, Lists, KindOf, Kind, Marks, Most. The reference's words, Word, Rule. A contest as a value; the reference's Great. The reference's May, Check. The reference's Check, Place, Same. The reference's Same. What contest's calls answer, as one premise: T stands for 'the package's own tables hold what their text says'. Each law is proved from it; behind the landed code 'con : Con Tab' is proved. A contest in a block of the call's own: loaded and stored whole; the reference's Twin. -/
import Derived.Test.YtejphpcngbjgjaaDoorGb
import Derived.Test.YtejphpcngbjgjaaDoorProg
namespace Go.Proofs.YtejphpcngbjgjaaDoor
open Go.RowKit
set_option linter.unusedVariables false
attribute [local go_sem] mk_get

theorem take_mem_succ {α : Type} {P : α → Prop} (l : List α) (k : Nat) (h : k < l.length) (ha : ∀ b ∈ l.take k, P b) (hk : P l[k]) : ∀ b ∈ l.take (k + 1), P b := by
  rw [List.take_succ_eq_append_getElem h]
  intro b hb
  rcases List.mem_append.1 hb with h | h
  · exact ha b h
  · simp at h; rw [h]; exact hk

set_option maxRecDepth 100000 in
set_option maxHeartbeats 400000 in
theorem refName_any (l : List UInt8) (w : World) (hl : l.length ≤ 4000000000) :
    Calls Tryd.prog 51 #[.string ⟨l.toArray⟩] w fun e w' => e = .returned (.bool (nameB l)) ∧ w = w' := by
  by_cases h0 : l.length < 1
  · have HB := Lib.hid (nameB_size (.inl h0))
    have h0i : (l.length : Int) < 1 := by omega
    have hd : decide ((l.length : Int) < 1) = true := by simp; omega
    clear h0
    go_enter Tryd.func51, Tryd.ntmps51
    go_wp2_with fail
    go_ret
    exact ⟨by rw [HB.out]; rfl, rfl⟩
  · have h0d : decide ((l.length : Int) < 1) = false := by simp; omega
    by_cases h4 : 40 < l.length
    · have HB := Lib.hid (nameB_size (.inr h4))
      have h4d : decide ((40 : Int) < (l.length : Int)) = true := by simp; omega
      clear h4 h0
      go_enter Tryd.func51, Tryd.ntmps51
      go_wp2_with fail
      go_ret
      exact ⟨by rw [HB.out]; rfl, rfl⟩
    · have h4d : decide ((40 : Int) < (l.length : Int)) = false := by simp; omega
      have HL := Lib.hid (show 1 ≤ l.length ∧ l.length ≤ 40 from ⟨by omega, by omega⟩)
      clear h0 h4
      go_enter Tryd.func51, Tryd.ntmps51
      go_wp2_with fail
      go_loop [3] (fun i => ∃ k : Nat, k ≤ l.length ∧ i = .int .i64 k ∧ Hid (∀ b ∈ l.take k, 33 ≤ b.toNat ∧ b.toNat ≤ 126)) (fun i => l.length - (intOf i).toNat)
      case atStart => exact ⟨0, Nat.zero_le _, rfl, by simp [Hid]⟩
      case round =>
        obtain ⟨k, hk, rfl, hpre⟩ := hrel
        by_cases hlt : k < l.length
        · by_cases h1 : l[k].toNat < 33
          · have HB := Lib.hid (nameB_bad (List.getElem_mem hlt) (.inl h1))
            have h1d : decide (((l[k].toNat : Nat) : Int) < 33) = true := by simp; omega
            go_wp2_with fail
            go_ret
            exact ⟨by rw [HB.out]; rfl, rfl⟩
          · have h1d : decide (((l[k].toNat : Nat) : Int) < 33) = false := by simp; omega
            by_cases h2 : 126 < l[k].toNat
            · have HB := Lib.hid (nameB_bad (List.getElem_mem hlt) (.inr h2))
              have h2d : decide ((126 : Int) < ((l[k].toNat : Nat) : Int)) = true := by simp; omega
              go_wp2_with fail
              go_ret
              exact ⟨by rw [HB.out]; rfl, rfl⟩
            · have h2d : decide ((126 : Int) < ((l[k].toNat : Nat) : Int)) = false := by simp; omega
              have HN := Lib.hid (take_mem_succ (P := fun b => 33 ≤ b.toNat ∧ b.toNat ≤ 126) l k hlt hpre.out ⟨by omega, by omega⟩)
              go_wp2_with fail
              go_round
              case rel => exact ⟨k + 1, by omega, by go_num, HN⟩
              case measure => simp [intOf]; omega
        · obtain rfl : k = l.length := by omega
          have HB := Lib.hid (show nameB l = true from (nameB_iff l).2 ⟨HL.out.1, HL.out.2, by have := hpre.out; rwa [List.take_of_length_le (Nat.le_refl _)] at this⟩)
          go_wp2_with fail
          go_ret
          exact ⟨by rw [HB.out]; rfl, rfl⟩
end Go.Proofs.YtejphpcngbjgjaaDoor
namespace Go.Proofs.YtejphpcngbjgjaaDoor
open Go.RowKit
set_option linter.unusedVariables false

theorem refIs_any (r : Nat) (w : World) (hr : r ≤ 255) :
    Calls Tryd.prog 52 #[.int .u8 r] w fun e w' => e = .returned (.bool (ruleB r)) ∧ w = w' := by
  by_cases h1 : 1 ≤ r
  · have h1d : decide ((1 : Int) ≤ (r : Int)) = true := by simp; omega
    have h1e : decide (1 ≤ r) = true := by simp; omega
    by_cases h2 : r ≤ 16
    · have h2d : decide ((r : Int) ≤ 16) = true := by simp; omega
      have HB := Lib.hid (show ruleB r = true by simp [ruleB]; omega)
      clear h1 h2 h1e
      go_enter Tryd.func52, Tryd.ntmps52
      go_wp2_with fail
      go_ret
      exact ⟨by rw [HB.out]; rfl, rfl⟩
    · have h2d : decide ((r : Int) ≤ 16) = false := by simp; omega
      have HB := Lib.hid (show ruleB r = false by simp [ruleB]; omega)
      clear h1 h2 h1e
      go_enter Tryd.func52, Tryd.ntmps52
      go_wp2_with fail
      go_ret
      exact ⟨by rw [HB.out]; rfl, rfl⟩
  · have h1d : decide ((1 : Int) ≤ (r : Int)) = false := by simp; omega
    have HB := Lib.hid (show ruleB r = false by simp [ruleB]; omega)
    clear h1
    go_enter Tryd.func52, Tryd.ntmps52
    go_wp2_with fail
    go_ret
    exact ⟨by rw [HB.out]; rfl, rfl⟩

theorem refOne_any (r : Nat) (w : World) (hr : r ≤ 255) :
    Calls Tryd.prog 53 #[.int .u8 r] w fun e w' => e = .returned (.bool (oneB r)) ∧ w = w' := by
  by_cases h1 : 5 ≤ r
  · have h1d : decide ((5 : Int) ≤ (r : Int)) = true := by simp; omega
    have h1e : decide (5 ≤ r) = true := by simp; omega
    by_cases h2 : r ≤ 10
    · have h2d : decide ((r : Int) ≤ 10) = true := by simp; omega
      have HB := Lib.hid (show oneB r = true by simp [oneB]; omega)
      clear h1 h2 h1e
      go_enter Tryd.func53, Tryd.ntmps53
      go_wp2_with fail
      go_ret
      exact ⟨by rw [HB.out]; rfl, rfl⟩
    · have h2d : decide ((r : Int) ≤ 10) = false := by simp; omega
      have HB := Lib.hid (show oneB r = false by simp [oneB]; omega)
      clear h1 h2 h1e
      go_enter Tryd.func53, Tryd.ntmps53
      go_wp2_with fail
      go_ret
      exact ⟨by rw [HB.out]; rfl, rfl⟩
  · have h1d : decide ((5 : Int) ≤ (r : Int)) = false := by simp; omega
    have HB := Lib.hid (show oneB r = false by simp [oneB]; omega)
    clear h1
    go_enter Tryd.func53, Tryd.ntmps53
    go_wp2_with fail
    go_ret
    exact ⟨by rw [HB.out]; rfl, rfl⟩

theorem refLists_any (r : Nat) (w : World) (hr : r ≤ 255) :
    Calls Tryd.prog 48 #[.int .u8 r] w fun e w' => e = .returned (.bool (listsB r)) ∧ w = w' := by
  by_cases h1 : 14 ≤ r
  · have h1d : decide ((14 : Int) ≤ (r : Int)) = true := by simp; omega
    have h1e : decide (14 ≤ r) = true := by simp; omega
    by_cases h2 : r ≤ 16
    · have h2d : decide ((r : Int) ≤ 16) = true := by simp; omega
      have HB := Lib.hid (show listsB r = true by simp [listsB]; omega)
      clear h1 h2 h1e
      go_enter Tryd.func48, Tryd.ntmps48
      go_wp2_with fail
      go_ret
      exact ⟨by rw [HB.out]; rfl, rfl⟩
    · have h2d : decide ((r : Int) ≤ 16) = false := by simp; omega
      have HB := Lib.hid (show listsB r = false by simp [listsB]; omega)
      clear h1 h2 h1e
      go_enter Tryd.func48, Tryd.ntmps48
      go_wp2_with fail
      go_ret
      exact ⟨by rw [HB.out]; rfl, rfl⟩
  · have h1d : decide ((14 : Int) ≤ (r : Int)) = false := by simp; omega
    have HB := Lib.hid (show listsB r = false by simp [listsB]; omega)
    clear h1
    go_enter Tryd.func48, Tryd.ntmps48
    go_wp2_with fail
    go_ret
    exact ⟨by rw [HB.out]; rfl, rfl⟩

set_option maxHeartbeats 400000 in
theorem refKindOf_any (r : Nat) (w : World) (hr : r ≤ 255) :
    Calls Tryd.prog 30 #[.int .u8 r] w fun e w' => e = .returned (.int .u8 (kindM r)) ∧ w = w' := by
  by_cases h1 : r = 1
  · subst h1
    go_enter Tryd.func30, Tryd.ntmps30
    go_wp2_with fail
    go_ret
    exact ⟨rfl, rfl⟩
  by_cases h2 : r = 2
  · subst h2
    go_enter Tryd.func30, Tryd.ntmps30
    go_wp2_with fail
    go_ret
    exact ⟨rfl, rfl⟩
  by_cases h13 : r = 13
  · subst h13
    go_enter Tryd.func30, Tryd.ntmps30
    go_wp2_with fail
    go_ret
    exact ⟨rfl, rfl⟩
  by_cases h14 : r = 14
  · subst h14
    go_enter Tryd.func30, Tryd.ntmps30
    go_wp2_with fail
    go_ret
    exact ⟨rfl, rfl⟩
  by_cases h15 : r = 15
  · subst h15
    go_enter Tryd.func30, Tryd.ntmps30
    go_wp2_with fail
    go_ret
    exact ⟨rfl, rfl⟩
  by_cases h16 : r = 16
  · subst h16
    go_enter Tryd.func30, Tryd.ntmps30
    go_wp2_with fail
    go_ret
    exact ⟨rfl, rfl⟩
  by_cases h3 : r = 3
  · subst h3
    go_enter Tryd.func30, Tryd.ntmps30
    go_wp2_with fail
    go_ret
    exact ⟨rfl, rfl⟩
  have d1 : ((r : Int) == 1) = false := by simp; omega
  have d2 : ((r : Int) == 2) = false := by simp; omega
  have d13 : ((r : Int) == 13) = false := by simp; omega
  have d14 : ((r : Int) == 14) = false := by simp; omega
  have d15 : ((r : Int) == 15) = false := by simp; omega
  have d16 : ((r : Int) == 16) = false := by simp; omega
  have d3 : ((r : Int) == 3) = false := by simp; omega
  have HB := Lib.hid (show kindM r = 1 by unfold kindM; rw [if_neg (by omega), if_neg (by omega)])
  clear h1 h2 h13 h14 h15 h16 h3
  go_enter Tryd.func30, Tryd.ntmps30
  go_wp2_with fail
  go_ret
  exact ⟨by rw [HB.out]; rfl, rfl⟩

set_option maxHeartbeats 400000 in
theorem refMarks_any (r : Nat) (n : Int) (w : World) (hr : r ≤ 16) (hn : 1 ≤ n ∧ n ≤ 10) :
    Calls Tryd.prog 33 #[.int .u8 r, .int .i64 n] w fun e w' => e = .returned (.int .i64 (marksM r n)) ∧ w = w' := by
  by_cases h1 : r = 1
  · subst h1
    go_enter Tryd.func33, Tryd.ntmps33
    go_wp2_with fail
    go_ret
    exact ⟨rfl, rfl⟩
  · have h1d : decide ((r : Int) = 1) = false := by simp; omega
    have h1i : ¬ (r : Int) = 1 := by omega
    cases hl : listsB r with
    | true =>
      have HL := Lib.hid hl
      have HB := Lib.hid (show marksM r n = 1 by unfold marksM; simp [listsB] at hl; rw [if_pos (by omega)])
      clear hl h1
      go_enter Tryd.func33, Tryd.ntmps33
      go_wp2_with fail
      refine (refLists_any r _ (by omega)).mono ?_
      rintro e w1 ⟨rfl, rfl⟩
      rw [HL.out]
      go_wp2_with fail
      go_ret
      exact ⟨by rw [HB.out] <;> rfl, rfl⟩
    | false =>
      have HL := Lib.hid hl
      have HB := Lib.hid (show marksM r n = n by unfold marksM; simp [listsB] at hl; rw [if_neg (by omega)])
      clear hl h1
      go_enter Tryd.func33, Tryd.ntmps33
      go_wp2_with fail
      refine (refLists_any r _ (by omega)).mono ?_
      rintro e w1 ⟨rfl, rfl⟩
      rw [HL.out]
      go_wp2_with fail
      go_ret
      exact ⟨by rw [HB.out] <;> rfl, rfl⟩

end Go.Proofs.YtejphpcngbjgjaaDoor
namespace Go.Proofs.YtejphpcngbjgjaaDoor
open Go.RowKit
set_option linter.unusedVariables false

theorem idxOf_at : ∀ (l : List (List UInt8)) (k : Nat) (h : k < l.length) (y : List UInt8), l[k] = y → (∀ j, j < k → l[j]? ≠ some y) → l.idxOf y = k
  | a :: l, 0, _, y, e, _ => by simp at e; subst e; simp
  | a :: l, k + 1, h, y, e, hn => by
    have h0 : a ≠ y := by have := hn 0 (by omega); simpa using this
    have := idxOf_at l k (by simpa using h) y (by simpa using e) (fun j hj => by have := hn (j + 1) (by omega); simpa using this)
    rw [List.idxOf_cons, this, show (a == y) = false by rw [beq_eq_false_iff_ne]; exact h0]
    rfl

end Go.Proofs.YtejphpcngbjgjaaDoor
namespace Go.Proofs.YtejphpcngbjgjaaDoor
open Go.RowKit
set_option linter.unusedVariables false

/-- The cells of a contest. -/
def cvs (A : Option Addr) (c : Nat) (x : Ct) : Array Value := #[.string ⟨x.name.toArray⟩, .slice A x.cands.length c, .int .i64 x.seats, .int .u8 x.rule]
/-- A contest as a value. -/
def cv (A : Option Addr) (c : Nat) (x : Ct) : Value := .agg (cvs A c x)
def greatM (x : Ct) : Bool := decide (100 < x.cands.length) || (decide (1000 < x.name.length) || x.cands.any fun y => decide (1000 < y.length))
theorem greatM_no {x : Ct} (h : greatM x = false) : x.cands.length ≤ 100 ∧ x.name.length ≤ 1000 ∧ ∀ y ∈ x.cands, y.length ≤ 1000 := by
  simp [greatM] at h
  exact ⟨by omega, by omega, fun y hy => h.2.2 y hy⟩

set_option maxRecDepth 100000 in
set_option maxHeartbeats 400000 in
theorem great_any (x : Ct) (A : Option Addr) (c : Nat) (w : World) (hr : Rf sv w w.heap.size A c x.cands) :
    Calls Tryd.prog 7 #[cv A c x] w fun e w' => e = .returned (.bool (greatM x)) ∧ Below w.heap.size w w' := by
  have hg0 : ∀ b, b = greatM x → Hid (b = greatM x) := fun _ h => h
  obtain ⟨n, l, s, r⟩ := x
  unfold cv cvs
  have hbw := fun (o : Obj) => below_new w o
  simp only at hr ⊢
  by_cases h1 : 100 < l.length
  · have HG := hg0 true (by simp [greatM]; exact .inl h1)
    have h1d : decide ((100 : Int) < (l.length : Int)) = true := by simp; omega
    clear h1 hg0
    go_enter Tryd.func7, Tryd.ntmps7
    go_wp2_with fail
    go_ret
    exact ⟨by rw [← HG.out] <;> rfl, hbw _⟩
  · have h1d : decide ((100 : Int) < (l.length : Int)) = false := by simp; omega
    by_cases h2 : 1000 < n.length
    · have HG := hg0 true (by simp [greatM]; exact .inr (.inl h2))
      have h2d : decide ((1000 : Int) < (n.length : Int)) = true := by simp; omega
      clear h1 h2 hg0
      go_enter Tryd.func7, Tryd.ntmps7
      go_wp2_with fail
      go_ret
      exact ⟨by rw [← HG.out] <;> rfl, hbw _⟩
    · have h2d : decide ((1000 : Int) < (n.length : Int)) = false := by simp; omega
      have HG := hg0 (l.any fun y => decide (1000 < y.length)) (by simp [greatM]; rw [decide_eq_false (by omega), decide_eq_false (by omega)]; simp)
      clear hg0 h2
      have hll : l.length ≤ 100 := by omega
      clear h1
      go_enter Tryd.func7, Tryd.ntmps7
      go_wp2_with fail
      go_loop [3] (fun i => ∃ k : Nat, k ≤ l.length ∧ i = .int .i64 k ∧ Hid (∀ y ∈ l.take k, y.length ≤ 1000)) (fun i => l.length - (intOf i).toNat)
      case atStart => exact ⟨0, Nat.zero_le _, rfl, by simp [Hid]⟩
      case round =>
        obtain ⟨k, hk, rfl, hpre⟩ := hrel
        by_cases hlt : k < l.length
        · obtain ⟨b, o, rfl, hbb, hc⟩ := (hr.alloc (Nat.le_refl _) (.cells #[.string ⟨n.toArray⟩, .slice A l.length c, .int .i64 s, .int .u8 r] 24)).at_ hlt
          have hcx := hc k hlt
          have hm := List.getElem_mem hlt
          have hs := fun h => take_mem_succ (P := fun y => y.length ≤ 1000) l k hlt hpre.out h
          obtain ⟨x, hx⟩ : ∃ x, x = l[k] := ⟨_, rfl⟩
          rw [← hx] at hcx hm hs
          unfold sv at hcx
          have HS := Lib.hid hs
          have HM := Lib.hid hm
          clear hc hx hs hm
          by_cases h3 : 1000 < x.length
          · have h3d : decide ((1000 : Int) < (x.length : Int)) = true := by simp; omega
            have HB := Lib.hid (show (l.any fun y => decide (1000 < y.length)) = true from List.any_eq_true.2 ⟨x, HM.out, by simpa using h3⟩)
            clear h3
            go_wp2_with fail
            go_ret
            exact ⟨by rw [← HG.out, HB.out] <;> rfl, hbw _⟩
          · have h3d : decide ((1000 : Int) < (x.length : Int)) = false := by simp; omega
            have HN := Lib.hid (HS.out (by omega))
            clear h3
            go_wp2_with fail
            go_round
            case rel => exact ⟨k + 1, by omega, by go_num, HN⟩
            case measure => simp [intOf]; omega
        · obtain rfl : k = l.length := by omega
          have HB := Lib.hid (show (l.any fun y => decide (1000 < y.length)) = false by
            have h := hpre.out
            rw [List.take_of_length_le (Nat.le_refl _)] at h
            rw [Bool.eq_false_iff]
            intro e
            obtain ⟨y, hy, e⟩ := List.any_eq_true.1 e
            have := h y hy
            simp at e
            omega)
          go_wp2_with fail
          go_ret
          exact ⟨by rw [← HG.out, HB.out] <;> rfl, hbw _⟩
end Go.Proofs.YtejphpcngbjgjaaDoor
namespace Go.Proofs.YtejphpcngbjgjaaDoor
open Go.RowKit
set_option linter.unusedVariables false

theorem nodup_snoc {l : List (List UInt8)} {k : Nat} (h : k < l.length) (hd : (l.take k).Nodup) (hn : ∀ j, j < k → l[j]? ≠ some l[k]) : (l.take (k + 1)).Nodup := by
  rw [List.take_succ_eq_append_getElem h]
  refine List.nodup_append.2 ⟨hd, by simp, ?_⟩
  intro a ha b hb e
  obtain rfl := List.mem_singleton.1 hb
  subst e
  obtain ⟨j, hj, e⟩ := List.getElem_of_mem ha
  have hj' : j < k := by simp at hj; omega
  refine hn j hj' ?_
  rw [List.getElem?_eq_getElem (by omega)]
  rw [List.getElem_take] at e
  rw [e]
theorem not_nodup {l : List (List UInt8)} {j k : Nat} (hj : j < k) (h : k < l.length) (e : l[j]? = some l[k]) : ¬ l.Nodup := by
  intro hd
  rw [List.getElem?_eq_getElem (by omega)] at e
  exact List.pairwise_iff_getElem.1 hd j k (by omega) h hj (Option.some.inj e)

set_option maxRecDepth 100000 in
set_option maxHeartbeats 1000000 in
theorem refMay_any (x : Ct) (A : Option Addr) (c : Nat) (w : World) (hr : Rf sv w w.heap.size A c x.cands) (hn : x.name.length ≤ 4000000000) (hl : ∀ y ∈ x.cands, y.length ≤ 4000000000) (hrule : x.rule ≤ 255) (hsl : -9223372036854775808 ≤ x.seats ∧ x.seats ≤ 9223372036854775807) :
    Calls Tryd.prog 41 #[cv A c x] w fun e w' => e = .returned (.bool (mayB x)) ∧ Below w.heap.size w w' := by
  have hg0 : ∀ b, b = mayB x → Hid (b = mayB x) := fun _ h => h
  have hf0 := fun (h : ¬ (nameB x.name = true ∧ 1 ≤ x.cands.length ∧ x.cands.length ≤ 10 ∧ ruleB x.rule = true ∧ 1 ≤ x.seats ∧ x.seats ≤ 10 ∧ (∀ y ∈ x.cands, nameB y = true) ∧ x.cands.Nodup ∧ seatsB x = true)) => hg0 false (Bool.eq_false_iff.2 fun e => h ((mayB_iff x).1 e)).symm
  have ht0 := fun (h : nameB x.name = true ∧ 1 ≤ x.cands.length ∧ x.cands.length ≤ 10 ∧ ruleB x.rule = true ∧ 1 ≤ x.seats ∧ x.seats ≤ 10 ∧ (∀ y ∈ x.cands, nameB y = true) ∧ x.cands.Nodup) => hg0 (seatsB x) (by
    obtain ⟨h1, h2, h3, h4, h5, h6, h7, h8⟩ := h
    cases hs : seatsB x with
    | true => exact ((mayB_iff x).2 ⟨h1, h2, h3, h4, h5, h6, h7, h8, hs⟩).symm
    | false => exact (Bool.eq_false_iff.2 fun e => by have := ((mayB_iff x).1 e).2.2.2.2.2.2.2.2; rw [hs] at this; cases this).symm)
  clear hg0
  obtain ⟨n, l, s, r⟩ := x
  unfold cv cvs
  have hbw := fun (o : Obj) => below_new w o
  simp only at hr hn hl hrule hsl hf0 ht0 ⊢
  have HF := Lib.hid hf0
  have HT := Lib.hid ht0
  have HL := Lib.hid hl
  clear hf0 ht0 hl
  cases hnm : nameB n with
  | false =>
    have HNM := Lib.hid hnm
    have HG := Lib.hid (HF.out (fun h => by rw [hnm] at h; exact absurd h.1 (by simp)))
    go_enter Tryd.func41, Tryd.ntmps41
    go_wp2_with fail
    refine (refName_any n _ hn).mono ?_
    rintro e w1 ⟨rfl, rfl⟩
    rw [HNM.out]
    go_wp2_with fail
    go_ret
    exact ⟨by rw [← HG.out.out] <;> rfl, hbw _⟩
  | true =>
    have HNM := Lib.hid hnm
    by_cases h1 : l.length < 1
    · have h1d : decide ((l.length : Int) < 1) = true := by simp; omega
      have HG := Lib.hid (HF.out (fun h => by have := h.2.1; omega))
      go_enter Tryd.func41, Tryd.ntmps41
      go_wp2_with fail
      refine (refName_any n _ hn).mono ?_
      rintro e w1 ⟨rfl, rfl⟩
      rw [HNM.out]
      go_wp2_with fail
      go_ret
      exact ⟨by rw [← HG.out.out] <;> rfl, hbw _⟩
    have h1d : decide ((l.length : Int) < 1) = false := by simp; omega
    by_cases h2 : 10 < l.length
    · have h2d : decide ((10 : Int) < (l.length : Int)) = true := by simp; omega
      have HG := Lib.hid (HF.out (fun h => by have := h.2.2.1; omega))
      go_enter Tryd.func41, Tryd.ntmps41
      go_wp2_with fail
      refine (refName_any n _ hn).mono ?_
      rintro e w1 ⟨rfl, rfl⟩
      rw [HNM.out]
      go_wp2_with fail
      go_ret
      exact ⟨by rw [← HG.out.out] <;> rfl, hbw _⟩
    have h2d : decide ((10 : Int) < (l.length : Int)) = false := by simp; omega
    cases hrb : ruleB r with
    | false =>
      have HRB := Lib.hid hrb
      have HG := Lib.hid (HF.out (fun h => by rw [hrb] at h; exact absurd h.2.2.2.1 (by simp)))
      go_enter Tryd.func41, Tryd.ntmps41
      go_wp2_with fail
      refine (refName_any n _ hn).mono ?_
      rintro e w1 ⟨rfl, rfl⟩
      rw [HNM.out]
      go_wp2_with fail
      refine (refIs_any r _ hrule).mono ?_
      rintro e w1 ⟨rfl, rfl⟩
      rw [HRB.out]
      go_wp2_with fail
      go_ret
      exact ⟨by rw [← HG.out.out] <;> rfl, hbw _⟩
    | true =>
      have HRB := Lib.hid hrb
      by_cases h3 : s < 1
      · have h3d : decide (s < 1) = true := by simp; omega
        have HG := Lib.hid (HF.out (fun h => by have := h.2.2.2.2.1; omega))
        go_enter Tryd.func41, Tryd.ntmps41
        go_wp2_with fail
        refine (refName_any n _ hn).mono ?_
        rintro e w1 ⟨rfl, rfl⟩
        rw [HNM.out]
        go_wp2_with fail
        refine (refIs_any r _ hrule).mono ?_
        rintro e w1 ⟨rfl, rfl⟩
        rw [HRB.out]
        go_wp2_with fail
        go_ret
        exact ⟨by rw [← HG.out.out] <;> rfl, hbw _⟩
      have h3d : decide (s < 1) = false := by simp; omega
      by_cases h4 : 10 < s
      · have h4d : decide (10 < s) = true := by simp; omega
        have HG := Lib.hid (HF.out (fun h => by have := h.2.2.2.2.2.1; omega))
        go_enter Tryd.func41, Tryd.ntmps41
        go_wp2_with fail
        refine (refName_any n _ hn).mono ?_
        rintro e w1 ⟨rfl, rfl⟩
        rw [HNM.out]
        go_wp2_with fail
        refine (refIs_any r _ hrule).mono ?_
        rintro e w1 ⟨rfl, rfl⟩
        rw [HRB.out]
        go_wp2_with fail
        go_ret
        exact ⟨by rw [← HG.out.out] <;> rfl, hbw _⟩
      have h4d : decide (10 < s) = false := by simp; omega
      have HT2 := Lib.hid (fun h7 h8 => HT.out ⟨hnm, by omega, by omega, hrb, by omega, by omega, h7, h8⟩)
      have HF7 := Lib.hid (fun (h7 : ¬ ∀ y ∈ l, nameB y = true) => HF.out (fun h => h7 h.2.2.2.2.2.2.1))
      have HF8 := Lib.hid (fun (h8 : ¬ l.Nodup) => HF.out (fun h => h8 h.2.2.2.2.2.2.2.1))
      have hll : l.length ≤ 10 := by omega
      clear HT HF hnm hrb h1 h2 h3 h4
      go_enter Tryd.func41, Tryd.ntmps41
      go_wp2_with fail
      refine (refName_any n _ hn).mono ?_
      rintro e w1 ⟨rfl, rfl⟩
      rw [HNM.out]
      go_wp2_with fail
      refine (refIs_any r _ hrule).mono ?_
      rintro e w1 ⟨rfl, rfl⟩
      rw [HRB.out]
      clear HNM HRB
      go_wp2_with fail
      go_loopw [3] (fun i wr => ∃ k : Nat, k ≤ l.length ∧ i = .int .i64 k ∧ Hid (∀ y ∈ l.take k, nameB y = true) ∧ Hid ((l.take k).Nodup) ∧ ∃ q, wr = (w.alloc (.cells #[.string ⟨n.toArray⟩, .slice A l.length c, .int .i64 s, .int .u8 r] 24)).drewN q) (fun i _ => l.length - (intOf i).toNat)
      case atStart => exact ⟨0, Nat.zero_le _, rfl, by simp [Hid], by simp [Hid], 0, rfl⟩
      case round =>
        obtain ⟨k, hk, rfl, hpre, hnd, q, rfl⟩ := hrel
        by_cases hlt : k < l.length
        · obtain ⟨b, o, rfl, hbb, hc⟩ := (hr.alloc (Nat.le_refl _) (.cells #[.string ⟨n.toArray⟩, .slice A l.length c, .int .i64 s, .int .u8 r] 24)).at_ hlt
          have hcx := hc k hlt
          have HC := Lib.hid hc
          have hm := List.getElem_mem hlt
          have hs := fun h => take_mem_succ (P := fun y => nameB y = true) l k hlt hpre.out h
          have HSN := Lib.hid (fun h => nodup_snoc hlt hnd.out h)
          have HNN := Lib.hid (fun j (hj : j < k) e => not_nodup hj hlt e)
          obtain ⟨x, hx⟩ : ∃ x, x = l[k] := ⟨_, rfl⟩
          rw [← hx] at hcx hm hs HSN HNN
          unfold sv at hcx
          have HS := Lib.hid hs
          have HM := Lib.hid hm
          have hxl := HL.out x hm
          clear hc hx hs hm
          cases hnb : nameB x with
          | false =>
            have HB := Lib.hid hnb
            have HG := Lib.hid (HF7.out (fun h => by have := h x HM.out; rw [hnb] at this; cases this))
            clear hnb
            go_wp2_with fail
            refine (refName_any x _ hxl).mono ?_
            rintro e w1 ⟨rfl, rfl⟩
            rw [HB.out]
            go_wp2_with fail
            go_ret
            exact ⟨by rw [← HG.out.out] <;> rfl, (hbw _).trans (below_drewN _ _ _)⟩
          | true =>
            have HB := Lib.hid hnb
            have HS2 := Lib.hid (HS.out hnb)
            clear hnb
            go_wp2_with fail
            refine (refName_any x _ hxl).mono ?_
            rintro e w1 ⟨rfl, rfl⟩
            rw [HB.out]
            go_wp2_with fail
            go_loopw [4] (fun i wr => ∃ j : Nat, j ≤ k ∧ i = .int .i64 j ∧ Hid (∀ t, t < j → l[t]? ≠ some x) ∧ ∃ q, wr = (w.alloc (.cells #[.string ⟨n.toArray⟩, .slice (some ⟨b, o, none⟩) l.length c, .int .i64 s, .int .u8 r] 24)).drewN q) (fun i _ => k - (intOf i).toNat)
            case atStart => exact ⟨0, Nat.zero_le _, rfl, fun t ht => absurd ht (Nat.not_lt_zero t), q, rfl⟩
            case round =>
              obtain ⟨j, hj, rfl, hpj, q2, rfl⟩ := hrel
              by_cases hjk : j < k
              · have hjl : j < l.length := by omega
                have hcy := HC.out j hjl
                obtain ⟨y, hy⟩ : ∃ y, y = l[j] := ⟨_, rfl⟩
                have HY := Lib.hid (show l[j]? = some y by rw [List.getElem?_eq_getElem hjl, hy])
                rw [← hy] at hcy
                unfold sv at hcy
                clear hy
                by_cases he : y = x
                · have hbe : (y == x) = true := by rw [beq_iff_eq]; exact he
                  have HG := Lib.hid (HF8.out (HNN.out j hjk (by rw [HY.out, he])))
                  clear he
                  go_wp2_with fail
                  go_quiet (fail)
                  go_wp2_with fail
                  go_ret
                  refine ⟨by rw [← HG.out.out] <;> rfl, ?_⟩
                  first | exact (hbw _).trans (below_drewN _ _ _) | (rw [World.drewN_drewN]; exact (hbw _).trans (below_drewN _ _ _))
                · have hbe : (y == x) = false := by rw [beq_eq_false_iff_ne]; exact he
                  have HN := Lib.hid (show ∀ t, t < j + 1 → l[t]? ≠ some x from fun t ht => by
                    by_cases e : t = j
                    · subst e; rw [HY.out]; intro e; exact he (Option.some.inj e)
                    · exact hpj.out t (by omega))
                  clear he
                  go_wp2_with fail
                  go_quiet (fail)
                  go_wp2_with fail
                  go_roundw
                  case rel => exact ⟨j + 1, by omega, by go_num, HN, q2 + nq, by first | rfl | rw [World.drewN_drewN]⟩
                  case measure => simp [intOf]; omega
              · obtain rfl : j = k := by omega
                have HN2 := Lib.hid (HSN.out hpj.out)
                go_wp2_with fail
                go_roundw
                case rel => exact ⟨j + 1, by omega, by go_num, HS2, HN2, q2, rfl⟩
                case measure => simp [intOf]; omega
        · obtain rfl : k = l.length := by omega
          have HG := Lib.hid (HT2.out (by have := hpre.out; rwa [List.take_of_length_le (Nat.le_refl _)] at this) (by have := hnd.out; rwa [List.take_of_length_le (Nat.le_refl _)] at this))
          cases ho : oneB r with
          | true =>
            have HO := Lib.hid ho
            have HE := Lib.hid (show seatsB ⟨n, l, s, r⟩ = decide (s = 1) by unfold seatsB; rw [ho]; rfl)
            clear ho
            go_wp2_with fail
            refine (refOne_any r _ hrule).mono ?_
            rintro e w1 ⟨rfl, rfl⟩
            rw [HO.out]
            go_wp2_with fail
            go_ret
            exact ⟨by rw [← HG.out.out, HE.out] <;> rfl, (hbw _).trans (below_drewN _ _ _)⟩
          | false =>
            have HO := Lib.hid ho
            cases hli : listsB r with
            | true =>
              have HI := Lib.hid hli
              have HE := Lib.hid (show seatsB ⟨n, l, s, r⟩ = true by unfold seatsB; rw [ho, hli]; rfl)
              clear ho hli
              go_wp2_with fail
              refine (refOne_any r _ hrule).mono ?_
              rintro e w1 ⟨rfl, rfl⟩
              rw [HO.out]
              go_wp2_with fail
              refine (refLists_any r _ hrule).mono ?_
              rintro e w1 ⟨rfl, rfl⟩
              rw [HI.out]
              go_wp2_with fail
              go_ret
              exact ⟨by rw [← HG.out.out, HE.out] <;> rfl, (hbw _).trans (below_drewN _ _ _)⟩
            | false =>
              have HI := Lib.hid hli
              have HE := Lib.hid (show seatsB ⟨n, l, s, r⟩ = decide (s ≤ (l.length : Int)) by unfold seatsB; rw [ho, hli]; rfl)
              clear ho hli
              go_wp2_with fail
              refine (refOne_any r _ hrule).mono ?_
              rintro e w1 ⟨rfl, rfl⟩
              rw [HO.out]
              go_wp2_with fail
              refine (refLists_any r _ hrule).mono ?_
              rintro e w1 ⟨rfl, rfl⟩
              rw [HI.out]
              go_wp2_with fail
              go_ret
              exact ⟨by rw [← HG.out.out, HE.out] <;> rfl, (hbw _).trans (below_drewN _ _ _)⟩
end Go.Proofs.YtejphpcngbjgjaaDoor
namespace Go.Proofs.YtejphpcngbjgjaaDoor
open Go.RowKit
set_option linter.unusedVariables false

set_option maxRecDepth 100000 in
set_option maxHeartbeats 400000 in
theorem refCheck_any (x : Ct) (A : Option Addr) (c : Nat) (w : World) (hr : Rf sv w w.heap.size A c x.cands) (hn : x.name.length ≤ 4000000000) (hl : ∀ y ∈ x.cands, y.length ≤ 4000000000) (hrule : x.rule ≤ 255) (hsl : -9223372036854775808 ≤ x.seats ∧ x.seats ≤ 9223372036854775807) :
    Calls Tryd.prog 19 #[cv A c x] w fun e w' => e = .returned (.int .i64 (checkM x)) ∧ Below w.heap.size w w' := by
  have HM := Lib.hid (fun wx (hb : Below w.heap.size w wx) => refMay_any x A c wx ((hr.below hb).more hb.size) hn hl hrule hsl)
  have hbw := fun (o : Obj) => below_new w o
  by_cases h1 : 10 < x.cands.length
  · have h1d : decide ((10 : Int) < (x.cands.length : Int)) = true := by simp; omega
    have HC := Lib.hid (show checkM x = 4 by unfold checkM; rw [if_pos h1])
    clear h1
    unfold cv cvs
    go_enter Tryd.func19, Tryd.ntmps19
    go_wp2_with fail
    go_ret
    exact ⟨by rw [HC.out] <;> rfl, hbw _⟩
  · have h1d : decide ((10 : Int) < (x.cands.length : Int)) = false := by simp; omega
    cases hm : mayB x with
    | true =>
      have HB := Lib.hid hm
      have HC := Lib.hid (show checkM x = 0 by unfold checkM; rw [if_neg h1, if_pos hm])
      clear h1 hm
      unfold cv cvs
      go_enter Tryd.func19, Tryd.ntmps19
      go_wp2_with fail
      refine (HM.out _ (hbw _)).mono ?_
      rintro e w1 ⟨rfl, hb⟩
      rw [HB.out]
      go_wp2_with fail
      go_ret
      exact ⟨by rw [HC.out] <;> rfl, (hbw _).trans (hb.mono (hbw _).size)⟩
    | false =>
      have HB := Lib.hid hm
      have HC := Lib.hid (show checkM x = 8 by unfold checkM; rw [if_neg h1, hm]; rfl)
      clear h1 hm
      unfold cv cvs
      go_enter Tryd.func19, Tryd.ntmps19
      go_wp2_with fail
      refine (HM.out _ (hbw _)).mono ?_
      rintro e w1 ⟨rfl, hb⟩
      rw [HB.out]
      go_wp2_with fail
      go_ret
      exact ⟨by rw [HC.out] <;> rfl, (hbw _).trans (hb.mono (hbw _).size)⟩

end Go.Proofs.YtejphpcngbjgjaaDoor
namespace Go.Proofs.YtejphpcngbjgjaaDoor
open Go.RowKit
set_option linter.unusedVariables false

theorem ct_ext {x y : Ct} (h1 : x.name = y.name) (h2 : x.cands = y.cands) (h3 : x.seats = y.seats) (h4 : x.rule = y.rule) : x = y := by
  cases x; cases y; simp_all

end Go.Proofs.YtejphpcngbjgjaaDoor
namespace Go.Proofs.YtejphpcngbjgjaaDoor
open Go.RowKit
set_option linter.unusedVariables false

/-- What a contest that comes in is known to be. -/
structure CtOk (w : World) (A : Option Addr) (c : Nat) (x : Ct) : Prop where
  rd : Rf sv w w.heap.size A c x.cands
  name : x.name.length ≤ 140737488351232
  cands : ∀ y ∈ x.cands, y.length ≤ 140737488351232
  rule : x.rule ≤ 255
  seats : -9223372036854775808 ≤ x.seats ∧ x.seats ≤ 9223372036854775807
theorem CtOk.below {w w' : World} {A : Option Addr} {c : Nat} {x : Ct} (h : CtOk w A c x) (hb : Below w.heap.size w w') : CtOk w' A c x := ⟨(h.rd.below hb).more hb.size, h.name, h.cands, h.rule, h.seats⟩

/-- A list of bytes and an error: the list is the call's own. -/
def BytesErr7 (w : World) (q : List UInt8 × Int) (e : Ending) (w' : World) : Prop :=
  ∃ (A : Option Addr) (c : Nat) (r : List UInt8) (er : Int), e = .returned (.tuple #[.slice A r.length c, .int .i64 er]) ∧ (r, er) = q ∧ Ow bv w' w.heap.size 5 A c r ∧ Below w.heap.size w w'
/-- A contest and an error: its candidates' list reads. -/
def CtErr7 (w : World) (q : Ct × Int) (e : Ending) (w' : World) : Prop :=
  ∃ (A : Option Addr) (c : Nat) (x : Ct) (er : Int), e = .returned (.tuple #[cv A c x, .int .i64 er]) ∧ (x, er) = q ∧ Rf sv w' w'.heap.size A c x.cands ∧ Below w.heap.size w w'

end Go.Proofs.YtejphpcngbjgjaaDoor
namespace Go.Proofs.YtejphpcngbjgjaaDoor
open Go.RowKit
set_option linter.unusedVariables false

theorem grown_setRow' (w : World) (g : Nat) (cs : Array Value) : w.grownBy (w.setRow g cs) (some g) :=
  ⟨rfl, rfl, rfl, by simp, fun k _ hk => setRow_other w g k cs (fun e => hk (by rw [e]))⟩
theorem size_ct : (Tryd.prog.info? 24).map (·.size) = some 4 := by kernel_rfl
theorem wpList_load_ct {w : World} {ops : Array Oper} {rest : List Oper} {o : Oper} {a : Act} {Q : Exit → Act → World → Prop} (hw : Region.wanted o (yielded ops a.tmps) = true) (y : Operand) (ho : o.op = .load 24 y)
    (g : Nat) (hx : a.eval y = .pointer (some ⟨g, 0, none⟩)) {A : Option Addr} {c : Nat} {x : Ct} (hB : Blk w g 24 (cvs A c x)) (h : wpList Tryd.prog ops Q rest (a.put o.dst (cv A c x)) w) : wpList Tryd.prog ops Q (o :: rest) a w :=
  BigFrame.wpList_want hw fun K hK => wp_load_row _ y ho g hx 24 _ _ _ hB Tryd.underlying24 rfl size_ct (hK _ _ h)
theorem wpList_store_ct {w : World} {ops : Array Oper} {rest : List Oper} {o : Oper} {a : Act} {Q : Exit → Act → World → Prop} (hgd : o.guard = none) (y z : Operand) (ho : o.op = .store 24 y z)
    (g : Nat) (hx : a.eval y = .pointer (some ⟨g, 0, none⟩)) {old : Array Value} (hB : Blk w g 24 old) (hold : old.size = 4) {A : Option Addr} {c : Nat} {x : Ct} (hy : a.eval z = cv A c x)
    (h : ∀ w', Blk w' g 24 (cvs A c x) → w.grownBy w' (some g) → wpList Tryd.prog ops Q rest (a.put o.dst undef) w') : wpList Tryd.prog ops Q (o :: rest) a w :=
  wpList_store_row hgd _ y z ho g (cvs A c x) hx hy 24 old hB size_ct hold (by simp [cvs, Value.oneCell']) (h _ (setRow_heap w g _ _ _ _ hB) (grown_setRow' w g _))
theorem ct_ret {fn : Func} {p : Tmp} (h : fn.results = #[.cell p 24]) {a : Act} {w : World} {g : Nat} {A : Option Addr} {c : Nat} {x : Ct} {Q : Ending → World → Prop}
    (hp : a.tmps.getD p undef = .pointer (some ⟨g, 0, none⟩)) (hB : Blk w g 24 (cvs A c x)) (hd : a.defers = []) (hQ : Q (.returned (cv A c x)) w) : bodyPost Tryd.prog fn Q .ret a w :=
  bodyPost_ret (results_cell_row h a.tmps w g _ _ _ _ hp hB Tryd.underlying24 rfl size_ct) hd hQ
theorem zero_ct : (cvs none 0 ⟨[], [], 0, 0⟩) = #[.string ⟨#[]⟩, .slice none 0 0, .int .i64 0, .int .u8 0] := rfl
theorem sInfo : (Tryd.prog.info? 9).map (fun i => (i.zero, i.size, i.bytes)) = some (some (.string ⟨#[]⟩), 1, 16) := by kernel_rfl
theorem sInfo_parts : ∃ i, Tryd.prog.info? 9 = some i ∧ i.zero = some (.string ⟨#[]⟩) ∧ i.size = 1 ∧ i.bytes = 16 := by
  have h := sInfo
  cases hi : Tryd.prog.info? 9 with
  | none => rw [hi] at h; cases h
  | some i => rw [hi] at h; simp at h; exact ⟨i, rfl, h.1, h.2.1, h.2.2⟩

end Go.Proofs.YtejphpcngbjgjaaDoor
