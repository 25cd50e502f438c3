/- Where the words of a table's rows begin. -/
import Derived.Test.YtnnenhcofibhoaaDoorPureTab
namespace Go.Proofs.YtnnenhcofibhoaaDoor
set_option linter.unusedVariables false

/-- Where column j begins. -/
def cols (W : Nat → Nat) : Nat → Nat
  | 0 => 0
  | j + 1 => cols W j + W j
/-- Where the words before column j of a row are behind. -/
def endP (W : Nat → Nat) (r : Row) : Nat → Nat
  | 0 => 0
  | j + 1 => cols W j + ((r[j]?).getD []).length
theorem endP_succ (W : Nat → Nat) (r : Row) (j : Nat) (h : j < r.length) : endP W r (j + 1) = cols W j + r[j].length := by
  rw [endP, List.getElem?_eq_getElem h]; rfl
def rowL (W : Nat → Nat) (r : Row) : List UInt8 := rowP W r r.length

section
variable {W : Nat → Nat} {r : Row}
theorem rowP_len (hw : ∀ k (h : k < r.length), r[k].length ≤ W k) : ∀ j, j < r.length → (rowP W r j).length = cols W j
  | 0, _ => rfl
  | j + 1, h => by
    have ih := rowP_len hw j (by omega)
    have := hw j (by omega)
    rw [rowP_succ W r j (by omega), if_pos h, List.length_append, List.length_append, List.length_replicate, ih, cols]
    omega
theorem rowP_pre (W : Nat → Nat) (r : Row) (j : Nat) : ∀ n, ∃ t, rowP W r (j + n) = rowP W r j ++ t
  | 0 => ⟨[], by simp⟩
  | n + 1 => by
    obtain ⟨t, ht⟩ := rowP_pre W r j n
    rw [show j + (n + 1) = (j + n) + 1 from rfl, rowP, ht, List.append_assoc]
    exact ⟨_, rfl⟩
theorem rowL_at (W : Nat → Nat) (r : Row) {j : Nat} (h : j < r.length) : ∃ t, rowL W r = rowP W r j ++ (r[j] ++ ((if j + 1 < r.length then List.replicate (W j - r[j].length) 32 else []) ++ t)) := by
  obtain ⟨t, ht⟩ := rowP_pre W r (j + 1) (r.length - (j + 1))
  rw [show j + 1 + (r.length - (j + 1)) = r.length by omega, rowP_succ W r j h] at ht
  exact ⟨t, by rw [rowL, ht]; simp only [List.append_assoc]⟩
theorem rowL_word (hw : ∀ k (h : k < r.length), r[k].length ≤ W k) {j : Nat} (h : j < r.length) : cols W j + r[j].length ≤ (rowL W r).length ∧ ((rowL W r).drop (cols W j)).take r[j].length = r[j] ∧ ∀ (hn : 0 < r[j].length), (rowL W r)[cols W j]? = some (r[j][0]) := by
  obtain ⟨t, ht⟩ := rowL_at W r h
  have hp := rowP_len hw j h
  refine ⟨?_, ?_, fun hn => ?_⟩
  · rw [ht, List.length_append, List.length_append, hp]
    omega
  · rw [ht, ← hp, List.drop_left, List.take_left]
  · rw [ht, List.getElem?_append_right (by omega), hp, Nat.sub_self, List.getElem?_append_left hn, List.getElem?_eq_getElem hn]
theorem rowL_gap (hw : ∀ k (h : k < r.length), r[k].length ≤ W k) {j : Nat} (h : j < r.length) : endP W r j ≤ cols W j ∧ ∀ i, endP W r j ≤ i → i < cols W j → (rowL W r)[i]? = some 32 := by
  cases j with
  | zero => exact ⟨Nat.le_refl _, fun i _ h2 => by simp [cols] at h2⟩
  | succ j =>
    have hj : j < r.length := by omega
    obtain ⟨t, ht⟩ := rowL_at W r hj
    have hp := rowP_len hw j hj
    have h1 := hw j hj
    rw [endP_succ W r j hj, cols]
    refine ⟨by omega, fun i h2 h3 => ?_⟩
    rw [ht, if_pos h, List.getElem?_append_right (by omega), hp, List.getElem?_append_right (by omega), List.getElem?_append_left (by rw [List.length_replicate]; omega), List.getElem?_replicate, if_pos (by omega)]
theorem rowL_end (hw : ∀ k (h : k < r.length), r[k].length ≤ W k) : endP W r r.length = (rowL W r).length := by
  cases hr : r.length with
  | zero => rw [rowL, hr]; rfl
  | succ m =>
    have hm : m < r.length := by omega
    rw [endP_succ W r m hm, rowL, hr, rowP_succ W r m hm, if_neg (by omega), List.append_nil, List.length_append, rowP_len hw m hm]
end

theorem rowP_no {W : Nat → Nat} {r : Row} {c : UInt8} (h : ∀ x ∈ r, c ∉ x) (hc : c ≠ 32) : ∀ j, c ∉ rowP W r j
  | 0 => by simp [rowP]
  | j + 1 => by
    have ih := rowP_no h hc (W := W) j
    rw [rowP, List.mem_append, List.mem_append]
    rintro (h1 | h1 | h1)
    · exact ih h1
    · cases hx : r[j]? with
      | none => rw [hx] at h1; simp at h1
      | some x => rw [hx] at h1; exact h x (List.mem_of_getElem? hx) h1
    · split at h1
      · exact hc (List.eq_of_mem_replicate h1)
      · cases h1
theorem tabP_flat (W : Nat → Nat) (rs : List Row) : ∀ i, i ≤ rs.length → tabP W rs i = flatL ((rs.take i).map (rowL W))
  | 0, _ => rfl
  | i + 1, h => by
    rw [tabP_succ W rs i h, tabP_flat W rs i (by omega), List.take_succ_eq_append_getElem (by omega), List.map_append, List.map_cons, List.map_nil, flatL_snoc, List.append_assoc]
    rfl
/-- A table's lines are its rows' texts. -/
theorem table_lines {rs : List Row} {t : List UInt8} (h : tableM rs = (t, 0)) : linesM t = (rs.map (rowL (wd rs)), 0) ∧ (∀ r ∈ rs, areWordsB r = true) ∧ rs.length ≤ 512 ∧ t.length ≤ 16384 ∧ t = flatL (rs.map (rowL (wd rs))) := by
  unfold tableM at h
  split at h
  · next ha =>
    split at h
    · cases h
    · next hb =>
      have ha' : ∀ r ∈ rs, areWordsB r = true := by
        unfold areRowsB at ha
        exact List.all_eq_true.1 ha
      have hf := tabP_flat (wd rs) rs rs.length (Nat.le_refl _)
      rw [List.take_of_length_le (Nat.le_refl _)] at hf
      have ht : t = flatL (rs.map (rowL (wd rs))) := by rw [← hf]; cases h; rfl
      have hl : t.length ≤ 16384 := by rw [ht, ← hf]; omega
      refine ⟨linesM_textM ?_, ha', by omega, hl, ht⟩
      rw [ht]
      refine textM_good (by rw [← ht, List.length_map]; omega) fun x hx => ?_
      obtain ⟨r, hr, rfl⟩ := List.mem_map.1 hx
      refine rowP_no (fun x hx => ?_) (by decide) _
      have h1 := ha' r hr
      unfold areWordsB at h1
      exact isWordB_no (List.all_eq_true.1 h1 x hx) (by decide)
  · cases h
theorem tableM_err (rs : List Row) : (∃ er, tableM rs = ([], er) ∧ er ≠ 0) ∨ ∃ t, tableM rs = (t, 0) := by
  unfold tableM
  split
  · split
    · exact .inl ⟨4, rfl, by decide⟩
    · exact .inr ⟨_, rfl⟩
  · exact .inl ⟨11, rfl, by decide⟩
theorem wd_words {rs : List Row} {r : Row} (hr : r ∈ rs) : ∀ k (h : k < r.length), r[k].length ≤ wd rs k := fun k h => by
  have := wd_ge hr k
  rw [cellW_in h] at this
  omega
theorem word_head {x : List UInt8} (h : isWordB x = true) : ∃ hn : 0 < x.length, x[0] ≠ 32 := by
  have h1 := (isOfB_iff 33 126 x).1 h
  have hn : 0 < x.length := List.length_pos_iff.2 h1.1
  refine ⟨hn, fun e => ?_⟩
  have := (h1.2 _ (List.getElem_mem hn)).1
  rw [e] at this
  exact absurd this (by decide)
end Go.Proofs.YtnnenhcofibhoaaDoor
