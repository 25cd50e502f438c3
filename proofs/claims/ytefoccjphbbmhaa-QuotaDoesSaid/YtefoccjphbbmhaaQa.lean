/- quota's within, inRange, areFixed, multiply, plus, over. -/
import Derived.Test.YtefoccjphbbmhaaQm
import Derived.Test.YtefoccjphbbmhaaDw
import Derived.Test.YtefoccjphbbmhaaMf
import Derived.Test.YtefoccjphbbmhaaRow
import Derived.BigQuiet
namespace Go.Proofs.Ytefoccjphbbmhaa
open Go.RowKit
set_option linter.unusedVariables false

/-- Integers. -/
def zv (m : Int) : Value := .int .i64 m
theorem zv_one (m : Int) : (zv m).oneCell' = true := rfl
theorem take_mem_succ {α : Type} {P : α → Prop} (l : List α) (k : Nat) (h : k < l.length) (ha : ∀ b ∈ l.take k, P b) (hk : P l[k]) : ∀ b ∈ l.take (k + 1), P b := by
  rw [List.take_succ_eq_append_getElem h]
  intro b hb
  rcases List.mem_append.1 hb with h | h
  · exact ha b h
  · simp at h; rw [h]; exact hk
/-- A literal of integers. -/
theorem zlit (w : World) (L : List Int) (cs : Array Value) (n : Nat) (h : (L.map zv).toArray = cs) (hn : L.length = n) (hl : n ≤ 1000) :
    Rf zv (w.alloc (.cells cs 3)) (w.alloc (.cells cs 3)).heap.size (some ⟨w.heap.size, 0, none⟩) n L := by
  subst h hn
  have hb := Blk.new w 3 (L.map zv).toArray
  refine ⟨Nat.le_refl _, by unfold maxLen; omega, (fun e => by cases e), fun ad e j hj => ?_⟩
  obtain rfl := Option.some.inj e
  refine ⟨by simp, ?_⟩
  rw [add_plain, hb.cell]
  simp [hj]

def withinB (a b : Int) (l : List Int) : Bool := decide (∀ n ∈ l, a ≤ n ∧ n ≤ b)
set_option maxRecDepth 100000 in
set_option maxHeartbeats 1000000 in
theorem within_any (x y : Int) (l : List Int) (A : Option Addr) (n c : Nat) (w : World) (hr : Rf zv w w.heap.size A c l) (hn : l.length = n) (hl : n ≤ 9223372036854775807) :
    Calls Try.prog 51 #[.int .i64 x, .int .i64 y, .slice A n c] w fun e w' => e = .returned (.bool (withinB x y l)) ∧ w' = w := by
  subst hn
  have HR := Lib.hid hr
  have HY := Lib.hid (fun (h : ∀ m ∈ l, x ≤ m ∧ m ≤ y) => show withinB x y l = true from decide_eq_true h)
  have HN := Lib.hid (fun (h : ¬ ∀ m ∈ l, x ≤ m ∧ m ≤ y) => show withinB x y l = false from decide_eq_false h)
  clear hr
  go_enter Try.func51, Try.ntmps51
  go_wp2_with fail
  go_loop [11] (fun i => ∃ k : Nat, k ≤ l.length ∧ i = .int .i64 k ∧ Hid (∀ m ∈ l.take k, x ≤ m ∧ m ≤ y)) (fun i => l.length - (intOf i).toNat)
  case atStart => exact ⟨0, Nat.zero_le _, rfl, by simp [Hid]⟩
  case round =>
    obtain ⟨k, hk, rfl, hpre⟩ := hrel
    by_cases hlt : k < l.length
    · obtain ⟨b, o, rfl, hbb, hcc⟩ := HR.out.at_ hlt
      have hcx := hcc k hlt
      have hs := fun h => take_mem_succ (P := fun m => x ≤ m ∧ m ≤ y) l k hlt hpre.out h
      have hm := List.getElem_mem hlt
      obtain ⟨z, hz⟩ : ∃ z, z = l[k] := ⟨_, rfl⟩
      rw [← hz] at hcx hs hm
      unfold zv at hcx
      have HS := Lib.hid hs
      have HM := Lib.hid hm
      clear hcc hz hs hm
      by_cases h0 : z < x
      · have h0d : decide (z < x) = true := decide_eq_true h0
        have HB := Lib.hid (HN.out fun h => by have := h z HM.out; omega)
        go_wp2_with fail
        go_ret
        exact ⟨by rw [HB.out] <;> rfl, rfl⟩
      · have h0d : decide (z < x) = false := decide_eq_false h0
        by_cases h1 : y < z
        · have h1d : decide (y < z) = true := decide_eq_true h1
          have HB := Lib.hid (HN.out fun h => by have := h z HM.out; omega)
          go_wp2_with fail
          go_ret
          exact ⟨by rw [HB.out] <;> rfl, rfl⟩
        · have h1d : decide (y < z) = false := decide_eq_false h1
          have HNx := Lib.hid (HS.out (by omega))
          go_wp2_with fail
          go_round
          case rel => exact ⟨k + 1, by omega, by go_num, HNx⟩
          case measure => simp [intOf]; omega
    · obtain rfl : k = l.length := by omega
      have HB := Lib.hid (HY.out (by
        have h := hpre.out
        rwa [List.take_of_length_le (Nat.le_refl _)] at h))
      go_wp2_with fail
      go_ret
      exact ⟨by rw [HB.out] <;> rfl, rfl⟩

theorem within_one (a b n : Int) : withinB a b [n] = decide (a ≤ n ∧ n ≤ b) := by unfold withinB; simp
theorem within_two (m n : Int) : withinB 0 1000000000000000 [m, n] = (inQ m && inQ n) := by
  unfold withinB inQ; rw [Bool.eq_iff_iff]; simp
theorem within_three (m n k : Int) : withinB 0 1000000000000000 [m, n, k] = (inQ m && (inQ n && inQ k)) := by
  unfold withinB inQ; rw [Bool.eq_iff_iff]; simp
theorem within_may (v s : Int) : mayQ v s = (withinB 0 1000000 [v] && withinB 1 10 [s]) := by
  rw [within_one, within_one]; unfold mayQ; rw [Bool.eq_iff_iff]; simp [and_assoc]

set_option maxRecDepth 100000 in
set_option maxHeartbeats 1000000 in
theorem inRange_any (v s : Int) (w : World) : Calls Try.prog 28 #[.int .i64 v, .int .i64 s] w fun e w' => e = .returned (.bool (mayQ v s)) ∧ Below w.heap.size w w' := by
  have HV := Lib.hid (within_any 0 1000000 [v] _ 1 1 (w.alloc (.cells #[.int .i64 v] 3)) (zlit w [v] _ 1 rfl rfl (by omega)) rfl (by omega))
  have hS := within_any 1 10 [s] _ 1 1 ((w.alloc (.cells #[.int .i64 v] 3)).alloc (.cells #[.int .i64 s] 3)) (zlit _ [s] _ 1 rfl rfl (by omega)) rfl (by omega)
  rw [World.size_alloc] at hS
  have HS := Lib.hid hS
  clear hS
  have HM := Lib.hid (within_may v s)
  have hbw := fun wx (o : Obj) => below_new wx o
  obtain ⟨p, hp⟩ : ∃ p, withinB 0 1000000 [v] = p := ⟨_, rfl⟩
  obtain ⟨q, hq⟩ : ∃ p, withinB 1 10 [s] = p := ⟨_, rfl⟩
  rw [hp] at HV HM
  rw [hq] at HS HM
  clear hp hq
  go_enter Try.func28, Try.ntmps28
  go_wp2_with fail
  refine HV.out.mono ?_
  rintro e w1 ⟨rfl, rfl⟩
  cases p with
  | false =>
    go_wp2_with fail
    go_ret
    exact ⟨by rw [HM.out] <;> rfl, hbw _ _⟩
  | true =>
    go_wp2_with fail
    refine HS.out.mono ?_
    rintro e w1 ⟨rfl, rfl⟩
    go_wp2_with fail
    go_ret
    refine ⟨by rw [HM.out] <;> rfl, (hbw w _).trans ((hbw _ _).mono (by simp))⟩

set_option maxRecDepth 100000 in
set_option maxHeartbeats 1000000 in
theorem areFixed_any (l : List Int) (A : Option Addr) (n c : Nat) (w : World) (hr : Rf zv w w.heap.size A c l) (hn : l.length = n) (hl : n ≤ 9223372036854775807) :
    Calls Try.prog 36 #[.slice A n c] w fun e w' => e = .returned (.bool (withinB 0 1000000000000000 l)) ∧ w' = w := by
  have HV := Lib.hid (within_any 0 1000000000000000 l A n c w hr hn hl)
  clear hr
  go_enter Try.func36, Try.ntmps36
  go_wp2_with fail
  refine HV.out.mono ?_
  rintro e w1 ⟨rfl, rfl⟩
  go_wp2_with fail
  go_ret
  exact ⟨rfl, rfl⟩
theorem fixed1 (a : Int) (w : World) : Calls Try.prog 36 #[.slice (some ⟨w.heap.size, 0, none⟩) 1 1] (w.alloc (.cells #[.int .i64 a] 3)) fun e w' => e = .returned (.bool (inQ a)) ∧ w' = w.alloc (.cells #[.int .i64 a] 3) :=
  (areFixed_any [a] _ 1 1 _ (zlit w [a] _ 1 rfl rfl (by omega)) rfl (by omega)).mono fun e w' ⟨h1, h2⟩ => ⟨by rw [h1, within_one]; rfl, h2⟩
theorem fixed2 (a b : Int) (w : World) : Calls Try.prog 36 #[.slice (some ⟨w.heap.size, 0, none⟩) 2 2] (w.alloc (.cells #[.int .i64 a, .int .i64 b] 3)) fun e w' => e = .returned (.bool (inQ a && inQ b)) ∧ w' = w.alloc (.cells #[.int .i64 a, .int .i64 b] 3) :=
  (areFixed_any [a, b] _ 2 2 _ (zlit w [a, b] _ 2 rfl rfl (by omega)) rfl (by omega)).mono fun e w' ⟨h1, h2⟩ => ⟨by rw [h1, within_two], h2⟩
theorem fixed3 (a b c : Int) (w : World) : Calls Try.prog 36 #[.slice (some ⟨w.heap.size, 0, none⟩) 3 3] (w.alloc (.cells #[.int .i64 a, .int .i64 b, .int .i64 c] 3)) fun e w' => e = .returned (.bool (inQ a && (inQ b && inQ c))) ∧ w' = w.alloc (.cells #[.int .i64 a, .int .i64 b, .int .i64 c] 3) :=
  (areFixed_any [a, b, c] _ 3 3 _ (zlit w [a, b, c] _ 3 rfl rfl (by omega)) rfl (by omega)).mono fun e w' ⟨h1, h2⟩ => ⟨by rw [h1, within_three], h2⟩
end Go.Proofs.Ytefoccjphbbmhaa
