/- Lots as lists: the requests of a lot, exchanges, permutations. No program is named here. -/
import Derived.Test.YtipclieldokfnaaDoorReq
namespace Go.Proofs.YtipclieldokfnaaDoor
set_option linter.unusedVariables false

/-- Request j of the lot of n elements. -/
def reqAt (n j : Nat) : Nat × Nat := (n - 1 - j, n - j)
def lotReqs (n : Nat) : List (Nat × Nat) := (List.range (n - 1)).map (reqAt n)
theorem lotReqs_len (n : Nat) : (lotReqs n).length = n - 1 := by simp [lotReqs]
theorem lotReqs_get (n : Nat) {j : Nat} (h : j < (lotReqs n).length) : (lotReqs n)[j] = (n - 1 - j, n - j) := by simp [lotReqs, reqAt]
theorem lotReqs_ok {n : Nat} (hn : n ≤ 64) : ∀ r ∈ lotReqs n, r.1 < 4294967296 ∧ 1 ≤ r.2 ∧ r.2 ≤ 4294967296 := by
  intro r hr
  obtain ⟨j, hj, rfl⟩ := List.mem_map.1 hr
  have := List.mem_range.1 hj
  unfold reqAt
  refine ⟨?_, ?_, ?_⟩ <;> dsimp only <;> omega

/-- The elements at i and k exchanged. -/
def swp (L : List Nat) (i k : Nat) : List Nat := (L.set i (L.getD k 0)).set k (L.getD i 0)
theorem swp_len (L : List Nat) (i k : Nat) : (swp L i k).length = L.length := by simp [swp]
theorem getD_lt {L : List Nat} {a : Nat} (h : a < L.length) : L.getD a 0 = L[a] := by simp [List.getD, h]
theorem swp_getD {L : List Nat} {i k a : Nat} (hi : i < L.length) (hk : k < L.length) (ha : a < L.length) : (swp L i k).getD a 0 = L.getD (if a = k then i else if a = i then k else a) 0 := by
  rw [getD_lt (by rw [swp_len]; exact ha)]
  unfold swp
  rw [List.getElem_set]
  by_cases h1 : k = a
  · subst h1; simp
  · rw [if_neg h1, if_neg (fun e => h1 e.symm), List.getElem_set]
    by_cases h2 : i = a
    · subst h2; simp
    · rw [if_neg h2, if_neg (fun e => h2 e.symm), getD_lt ha]
/-- A permutation of 0 to n - 1. -/
structure PermL (L : List Nat) (n : Nat) : Prop where
  len : L.length = n
  lt : ∀ a, a < n → L.getD a 0 < n
  inj : ∀ a b, a < n → b < n → L.getD a 0 = L.getD b 0 → a = b
theorem permL_range (n : Nat) : PermL (List.range n) n := by
  have hg : ∀ a, a < n → (List.range n).getD a 0 = a := fun a ha => by rw [getD_lt (by simpa using ha)]; simp
  exact ⟨by simp, fun a ha => by rw [hg a ha]; exact ha, fun a b ha hb h => by rwa [hg a ha, hg b hb] at h⟩
theorem permL_swp {L : List Nat} {n i k : Nat} (h : PermL L n) (hi : i < n) (hk : k < n) : PermL (swp L i k) n := by
  have hl := h.len
  have hs : ∀ a, a < n → (if a = k then i else if a = i then k else a) < n := fun a ha => by split; exact hi; split; exact hk; exact ha
  have hg : ∀ a, a < n → (swp L i k).getD a 0 = L.getD (if a = k then i else if a = i then k else a) 0 := fun a ha => swp_getD (by omega) (by omega) (by omega)
  refine ⟨by rw [swp_len, hl], fun a ha => by rw [hg a ha]; exact h.lt _ (hs a ha), fun a b ha hb e => ?_⟩
  rw [hg a ha, hg b hb] at e
  have e2 := h.inj _ _ (hs a ha) (hs b hb) e
  split at e2 <;> split at e2 <;> (try split at e2) <;> (try split at e2) <;> omega
/-- The lot after j exchanges. -/
def lotS (n : Nat) (xs : List Nat) : Nat → List Nat
  | 0 => List.range n
  | j + 1 => swp (lotS n xs j) (n - 1 - j) (xs.getD j 0)
theorem lotS_len (n : Nat) (xs : List Nat) : ∀ j, (lotS n xs j).length = n
  | 0 => by simp [lotS]
  | j + 1 => by rw [lotS, swp_len, lotS_len n xs j]
theorem lotS_perm {n : Nat} {xs : List Nat} (hx : ∀ j, j < n - 1 → xs.getD j 0 < n) : ∀ j, j ≤ n - 1 → PermL (lotS n xs j) n
  | 0, _ => permL_range n
  | j + 1, h => permL_swp (lotS_perm hx j (by omega)) (by omega) (hx j (by omega))
/-- What Lot answers. -/
def lotM (s : List UInt8) (n : Int) : List Nat × Int :=
  if 0 ≤ n ∧ n ≤ 64 then (match numsM s (lotReqs n.toNat) with | some xs => (lotS n.toNat xs (n.toNat - 1), 0) | none => ([], 6)) else ([], 2)
theorem nums_lt {s : List UInt8} {n : Nat} {xs : List Nat} (h : numsM s (lotReqs n) = some xs) {j : Nat} (hj : j < n - 1) : xs.getD j 0 < n - j := by
  have hl := numsM_len s h
  rw [lotReqs_len] at hl
  have hj2 : j < (lotReqs n).length := by rw [lotReqs_len]; exact hj
  have hg := numsM_get s h j hj2 (by omega)
  rw [lotReqs_get n hj2] at hg
  rw [getD_lt (by omega)]
  exact drawn_lt (by show 1 ≤ n - j; omega) hg
theorem lotM_perm {s : List UInt8} {n : Nat} {xs : List Nat} (h : numsM s (lotReqs n) = some xs) : PermL (lotS n xs (n - 1)) n :=
  lotS_perm (fun j hj => by have := nums_lt h hj; omega) _ (Nat.le_refl _)
/-- The list of the first loop. -/
def upTo (n k : Nat) : List Nat := List.range k ++ List.replicate (n - k) 0
theorem upTo_len {n k : Nat} (h : k ≤ n) : (upTo n k).length = n := by simp [upTo]; omega
theorem upTo_step {n k : Nat} (h : k < n) : (upTo n k).set k k = upTo n (k + 1) := by
  unfold upTo
  rw [List.set_append_right (h := by simp), List.length_range, Nat.sub_self, show n - k = (n - (k + 1)) + 1 by omega, List.replicate_succ, List.set_cons_zero, List.range_succ, List.append_assoc]
  rfl
theorem upTo_all (n : Nat) : upTo n n = List.range n := by simp [upTo]
end Go.Proofs.YtipclieldokfnaaDoor
