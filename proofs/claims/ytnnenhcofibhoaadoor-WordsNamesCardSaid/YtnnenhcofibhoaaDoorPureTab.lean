/- Tables of words, as plain functions. -/
import Derived.Test.YtnnenhcofibhoaaDoorPure
namespace Go.Proofs.YtnnenhcofibhoaaDoor

abbrev Row := List (List UInt8)
/-- How wide the word of a row in column k asks its column to be: 0 if there is none. -/
def cellW (r : Row) (k : Nat) : Nat := ((r[k]?).map fun x => x.length + 2).getD 0
/-- The width of column k. -/
def wd (rs : List Row) (k : Nat) : Nat := (rs.map (cellW · k)).foldl max 0
theorem wd_snoc (rs : List Row) (r : Row) (k : Nat) : wd (rs ++ [r]) k = max (wd rs k) (cellW r k) := by
  unfold wd
  rw [List.map_append, List.foldl_append]
  rfl
theorem wd_nil (k : Nat) : wd [] k = 0 := rfl
theorem cellW_out {r : Row} {k : Nat} (h : r.length ≤ k) : cellW r k = 0 := by unfold cellW; rw [List.getElem?_eq_none h]; rfl
theorem cellW_in {r : Row} {k : Nat} (h : k < r.length) : cellW r k = r[k].length + 2 := by unfold cellW; rw [List.getElem?_eq_getElem h]; rfl
theorem cellW_take {r : Row} {k j : Nat} (h : k < j) : cellW (r.take j) k = cellW r k := by unfold cellW; rw [List.getElem?_take]; simp [h]
theorem foldl_max_ge (l : List Nat) (a : Nat) : a ≤ l.foldl max a ∧ ∀ x ∈ l, x ≤ l.foldl max a := by
  induction l generalizing a with
  | nil => exact ⟨Nat.le_refl _, fun _ h => by cases h⟩
  | cons b t ih =>
    obtain ⟨h1, h2⟩ := ih (max a b)
    refine ⟨Nat.le_trans (Nat.le_max_left _ _) h1, fun x hx => ?_⟩
    rcases List.mem_cons.1 hx with e | hx
    · rw [e]; exact Nat.le_trans (Nat.le_max_right _ _) h1
    · exact h2 x hx
theorem wd_ge {rs : List Row} {r : Row} (hr : r ∈ rs) (k : Nat) : cellW r k ≤ wd rs k := (foldl_max_ge _ 0).2 _ (List.mem_map.2 ⟨r, hr, rfl⟩)
theorem foldl_max_le {l : List Nat} {a b : Nat} (ha : a ≤ b) (h : ∀ x ∈ l, x ≤ b) : l.foldl max a ≤ b := by
  induction l generalizing a with
  | nil => exact ha
  | cons c t ih => exact ih (Nat.max_le.2 ⟨ha, h c (by simp)⟩) fun x hx => h x (List.mem_cons_of_mem _ hx)

/-- The widths that have been found when the rows rs are behind. -/
structure WSt (ws : List Nat) (rs : List Row) : Prop where
  le : ∀ r ∈ rs, r.length ≤ ws.length
  at_ : ∀ k (h : k < ws.length), ws[k] = wd rs k
theorem WSt.start : WSt [] [] := ⟨(fun _ h => by cases h), (fun k h => by simp at h)⟩
theorem WSt.row {ws : List Nat} {rs : List Row} (h : WSt ws rs) : WSt ws (rs ++ [[]]) :=
  ⟨fun r hr => by
    rcases List.mem_append.1 hr with hr | hr
    · exact h.le r hr
    · simp at hr; rw [hr]; simp, fun k hk => by rw [wd_snoc, cellW_out (by simp), h.at_ k hk]; simp⟩
theorem wd_take_at (rs : List Row) (r : Row) (j k : Nat) (hj : j < r.length) : wd (rs ++ [r.take (j + 1)]) k = if k = j then max (wd (rs ++ [r.take j]) j) (r[j].length + 2) else wd (rs ++ [r.take j]) k := by
  rw [wd_snoc, wd_snoc, wd_snoc]
  by_cases hk : k = j
  · subst hk
    rw [if_pos rfl, cellW_out (r := r.take k) (by rw [List.length_take]; omega), cellW_take (by omega), cellW_in hj]
    simp
  · rw [if_neg hk]
    congr 1
    by_cases hkj : k < j
    · rw [cellW_take hkj, cellW_take (by omega)]
    · rw [cellW_out (by simp; omega), cellW_out (by simp; omega)]
theorem WSt.grow {ws : List Nat} {rs : List Row} {r : Row} {j : Nat} (h : WSt ws (rs ++ [r.take j])) (hj : j < r.length) (hjw : j < ws.length) : WSt (ws.set j (max ws[j] (r[j].length + 2))) (rs ++ [r.take (j + 1)]) := by
  refine ⟨fun x hx => ?_, fun k hk => ?_⟩
  · rw [List.length_set]
    rcases List.mem_append.1 hx with hx | hx
    · exact h.le x (List.mem_append_left _ hx)
    · simp at hx; rw [hx]; simp; omega
  · rw [List.length_set] at hk
    rw [wd_take_at rs r j k hj, List.getElem_set]
    by_cases hkj : k = j
    · subst hkj
      rw [if_pos rfl, if_pos rfl, h.at_ k hjw]
    · rw [if_neg (fun e => hkj e.symm), if_neg hkj, h.at_ k hk]
theorem WSt.more {ws : List Nat} {rs : List Row} (h : WSt ws rs) : WSt (ws ++ [0]) rs := by
  refine ⟨fun r hr => by have := h.le r hr; simp; omega, fun k hk => ?_⟩
  by_cases hkw : k < ws.length
  · rw [List.getElem_append_left hkw, h.at_ k hkw]
  · have hk2 : k = ws.length := by simp at hk; omega
    subst hk2
    simp
    have : wd rs ws.length ≤ 0 := foldl_max_le (Nat.le_refl _) fun x hx => by
      obtain ⟨r, hr, rfl⟩ := List.mem_map.1 hx
      rw [cellW_out (h.le r hr)]
      exact Nat.le_refl _
    omega

/-- A row's text up to column j. -/
def rowP (W : Nat → Nat) (r : Row) : Nat → List UInt8
  | 0 => []
  | j + 1 => rowP W r j ++ ((r[j]?).getD [] ++ if j + 1 < r.length then List.replicate (W j - ((r[j]?).getD []).length) 32 else [])
theorem rowP_succ (W : Nat → Nat) (r : Row) (j : Nat) (h : j < r.length) : rowP W r (j + 1) = rowP W r j ++ (r[j] ++ if j + 1 < r.length then List.replicate (W j - r[j].length) 32 else []) := by
  rw [rowP, List.getElem?_eq_getElem h]; rfl
/-- A table's text up to row i. -/
def tabP (W : Nat → Nat) (rs : List Row) : Nat → List UInt8
  | 0 => []
  | i + 1 => tabP W rs i ++ (rowP W ((rs[i]?).getD []) ((rs[i]?).getD []).length ++ [10])
theorem tabP_succ (W : Nat → Nat) (rs : List Row) (i : Nat) (h : i < rs.length) : tabP W rs (i + 1) = tabP W rs i ++ (rowP W rs[i] rs[i].length ++ [10]) := by
  rw [tabP, List.getElem?_eq_getElem h]; rfl

def areRowsB (rs : List Row) : Bool := rs.all areWordsB
/-- P2.4: Table. -/
def tableM (rs : List Row) : List UInt8 × Int :=
  if areRowsB rs then (if 512 < rs.length ∨ 16384 < (tabP (wd rs) rs rs.length).length then ([], 4) else (tabP (wd rs) rs rs.length, 0)) else ([], 11)
theorem tableM_bad {rs : List Row} {r : Row} (hr : r ∈ rs) (h : areWordsB r = false) : tableM rs = ([], 11) := by
  unfold tableM
  rw [if_neg]
  unfold areRowsB
  rw [List.all_eq_true]
  intro ha
  rw [ha r hr] at h
  cases h
theorem areRows_of {rs : List Row} (h : ∀ r ∈ rs, areWordsB r = true) : areRowsB rs = true := by unfold areRowsB; rw [List.all_eq_true]; exact h
theorem tableM_big {rs : List Row} (h : ∀ r ∈ rs, areWordsB r = true) (hb : 512 < rs.length ∨ 16384 < (tabP (wd rs) rs rs.length).length) : tableM rs = ([], 4) := by
  unfold tableM
  rw [if_pos (areRows_of h), if_pos hb]
theorem tableM_good {rs : List Row} (h : ∀ r ∈ rs, areWordsB r = true) (hb : ¬ (512 < rs.length ∨ 16384 < (tabP (wd rs) rs rs.length).length)) : tableM rs = (tabP (wd rs) rs rs.length, 0) := by
  unfold tableM
  rw [if_pos (areRows_of h), if_neg hb]
theorem rowP_mono (W : Nat → Nat) (r : Row) (j : Nat) : ∀ n, (rowP W r j).length ≤ (rowP W r (j + n)).length
  | 0 => Nat.le_refl _
  | n + 1 => by
    have := rowP_mono W r j n
    rw [show j + (n + 1) = (j + n) + 1 from rfl, rowP, List.length_append]
    omega
theorem tabP_mono (W : Nat → Nat) (rs : List Row) (j : Nat) : ∀ n, (tabP W rs j).length ≤ (tabP W rs (j + n)).length
  | 0 => Nat.le_refl _
  | n + 1 => by
    have := tabP_mono W rs j n
    rw [show j + (n + 1) = (j + n) + 1 from rfl, tabP, List.length_append]
    omega

/-- How many bytes and words rows have. -/
def sumR (rs : List Row) : Nat := (rs.map fun r => 1 + (r.map fun x => x.length + 1).sum).sum
theorem sumR_snoc (rs : List Row) (r : Row) : sumR (rs ++ [r]) = sumR rs + (1 + (r.map fun x => x.length + 1).sum) := by simp only [sumR, List.map_append, List.sum_append, List.map_cons, List.map_nil, List.sum_cons, List.sum_nil, Nat.add_zero]
theorem sumR_get : ∀ (rs : List Row) (i : Nat) (h : i < rs.length), 1 + (rs[i].map fun x => x.length + 1).sum ≤ sumR rs
  | r :: rs, 0, _ => by simp [sumR]
  | r :: rs, i + 1, h => by
    have := sumR_get rs i (by simpa using h)
    simp [sumR] at this ⊢
    omega
theorem sumR_len : ∀ (rs : List Row), rs.length ≤ sumR rs
  | [] => Nat.le_refl _
  | r :: rs => by
    have := sumR_len rs
    simp [sumR] at this ⊢
    omega
end Go.Proofs.YtnnenhcofibhoaaDoor
