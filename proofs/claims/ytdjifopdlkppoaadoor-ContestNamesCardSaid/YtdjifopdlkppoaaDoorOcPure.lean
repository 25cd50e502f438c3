/- Lists of byte strings and their concatenation as fields: plain lists, no program. -/
import Derived.Test.YtdjifopdlkppoaaDoorOcRefField
namespace Go.Proofs.YtdjifopdlkppoaaDoor.Oc
set_option linter.unusedVariables false

theorem num_inj : ∀ (s t : List UInt8), s.length = t.length → num s = num t → s = t
  | [], [], _, _ => rfl
  | [], _ :: _, h, _ => by simp at h
  | _ :: _, [], h, _ => by simp at h
  | b :: s, c :: t, h, hn => by
    have hl : s.length = t.length := by simpa using h
    rw [num_cons, num_cons, hl] at hn
    have h1 := num_lt s
    have h2 := num_lt t
    rw [hl] at h1
    generalize 256 ^ t.length = K at *
    have hb : b.toNat = c.toNat := by
      have e1 := Nat.div_eq_of_lt h1
      have e2 := Nat.div_eq_of_lt h2
      have d1 : (b.toNat * K + num s) / K = b.toNat := by rw [Nat.mul_comm, Nat.mul_add_div (by omega), e1, Nat.add_zero]
      have d2 : (c.toNat * K + num t) / K = c.toNat := by rw [Nat.mul_comm, Nat.mul_add_div (by omega), e2, Nat.add_zero]
      rw [← d1, ← d2, hn]
    rw [hb] at hn
    have hs := num_inj s t hl (by omega)
    rw [UInt8.toNat_inj.1 hb, hs]

theorem be_num (s : List UInt8) : be s.length (num s) = s := by
  refine num_inj _ _ (be_len _ _) ?_
  rw [num_be, ← pow_256]
  exact Nat.mod_eq_of_lt (num_lt s)
theorem num_be2 {n : Nat} (h : n ≤ 65535) : num (be 2 n) = n := by
  rw [num_be]
  exact Nat.mod_eq_of_lt (by omega)

theorem fld_inj {x y r s : List UInt8} (hx : x.length ≤ 65535) (hy : y.length ≤ 65535) (h : fld x ++ r = fld y ++ s) : x = y ∧ r = s := by
  unfold fld at h
  rw [List.append_assoc, List.append_assoc] at h
  obtain ⟨h1, h2⟩ := List.append_inj h (by rw [be_len, be_len])
  have hl : x.length = y.length := by
    have := congrArg num h1
    rwa [num_be2 hx, num_be2 hy] at this
  exact List.append_inj h2 hl

/-- The concatenation of byte strings as fields. -/
def flat (L : List (List UInt8)) : List UInt8 := (L.map fld).flatten
theorem flat_nil : flat [] = [] := rfl
theorem flat_cons (x : List UInt8) (L : List (List UInt8)) : flat (x :: L) = fld x ++ flat L := by simp [flat]
theorem flat_snoc (L : List (List UInt8)) (x : List UInt8) : flat (L ++ [x]) = flat L ++ fld x := by simp [flat]
theorem flat_append (L M : List (List UInt8)) : flat (L ++ M) = flat L ++ flat M := by simp [flat]
/-- All are short enough to be fields. -/
def Fit (L : List (List UInt8)) : Prop := ∀ x ∈ L, x.length ≤ 65535
theorem flat_len_le {x : List UInt8} {L : List (List UInt8)} (h : x ∈ L) : 2 + x.length ≤ (flat L).length := by
  induction L with
  | nil => cases h
  | cons y L ih =>
    rw [flat_cons, List.length_append, fld_len]
    rcases List.mem_cons.1 h with rfl | h'
    · omega
    · have := ih h'; omega
theorem flat_count (L : List (List UInt8)) : 2 * L.length ≤ (flat L).length := by
  induction L with
  | nil => simp [flat]
  | cons y L ih => rw [flat_cons, List.length_append, fld_len, List.length_cons]; omega

theorem flat_inj : ∀ {L M : List (List UInt8)}, Fit L → Fit M → flat L = flat M → L = M
  | [], [], _, _, _ => rfl
  | [], y :: M, _, _, h => by
    rw [flat_nil, flat_cons] at h
    have := congrArg List.length h
    rw [List.length_append, fld_len] at this
    simp at this
    omega
  | x :: L, [], _, _, h => by
    rw [flat_nil, flat_cons] at h
    have := congrArg List.length h
    rw [List.length_append, fld_len] at this
    simp at this
  | x :: L, y :: M, hL, hM, h => by
    rw [flat_cons, flat_cons] at h
    obtain ⟨rfl, h2⟩ := fld_inj (hL x List.mem_cons_self) (hM y List.mem_cons_self) h
    rw [flat_inj (fun z hz => hL z (List.mem_cons_of_mem _ hz)) (fun z hz => hM z (List.mem_cons_of_mem _ hz)) h2]

/-- What TakeField finds at p: a field, or none. -/
theorem takeFieldM_spec (l : List UInt8) (p : Nat) (hp : p ≤ l.length) :
    (∃ x, x.length ≤ 65535 ∧ p + 2 + x.length ≤ l.length ∧ takeFieldM l p = (x, ((p + 2 + x.length : Nat) : Int), 0) ∧ l.drop p = fld x ++ l.drop (p + 2 + x.length)) ∨
    (takeFieldM l p = ([], 0, 10) ∧ ∀ x r, x.length ≤ 65535 → l.drop p ≠ fld x ++ r) := by
  unfold takeFieldM
  rw [if_pos ⟨by omega, by omega⟩]
  simp only [Int.toNat_natCast]
  by_cases h : (p : Int) + 2 ≤ l.length ∧ (p : Int) + 2 + num ((l.drop p).take 2) ≤ l.length
  · rw [if_pos h]
    obtain ⟨h1, h2⟩ := h
    have hnum : num ((l.drop p).take 2) < 65536 := Nat.lt_of_lt_of_le (num_lt_of _ 2 (by simp; omega)) (by decide)
    have hl2 : ((l.drop p).take 2).length = 2 := by simp; omega
    have hbe := be_num ((l.drop p).take 2)
    rw [hl2] at hbe
    generalize hm : num ((l.drop p).take 2) = m at *
    have hlx : ((l.drop (p + 2)).take m).length = m := by simp; omega
    refine .inl ⟨(l.drop (p + 2)).take m, by omega, by omega, by rw [hlx]; simp, ?_⟩
    rw [fld, hlx, hbe, List.append_assoc]
    have e1 : (l.drop (p + 2)).take m ++ l.drop (p + 2 + m) = l.drop (p + 2) := by
      rw [← List.drop_drop (i := m)]; exact List.take_append_drop _ _
    have e2 : (l.drop p).take 2 ++ l.drop (p + 2) = l.drop p := by
      rw [← List.drop_drop]; exact List.take_append_drop _ _
    rw [e1, e2]
  · rw [if_neg h]
    refine .inr ⟨rfl, fun x r hx he => h ?_⟩
    have hlen := congrArg List.length he
    rw [List.length_append, fld_len, List.length_drop] at hlen
    have ht : (l.drop p).take 2 = be 2 x.length := by
      rw [he, fld, List.append_assoc, List.take_append_of_le_length (by rw [be_len]; omega), List.take_of_length_le (by rw [be_len]; omega)]
    rw [ht, num_be2 hx]
    omega

/-- Where what has been taken is 'done' and no field follows, the whole is no concatenation of fields. -/
theorem no_flat : ∀ (done : List (List UInt8)) (rest : List UInt8), Fit done → rest ≠ [] → (∀ x r, x.length ≤ 65535 → rest ≠ fld x ++ r) → ∀ L, Fit L → flat done ++ rest ≠ flat L
  | [], rest, _, hne, hno, L, hL, h => by
    rw [flat_nil, List.nil_append] at h
    cases L with
    | nil => exact hne h
    | cons x L => rw [flat_cons] at h; exact hno x _ (hL x List.mem_cons_self) h
  | d :: done, rest, hd, hne, hno, L, hL, h => by
    rw [flat_cons, List.append_assoc] at h
    cases L with
    | nil =>
      have := congrArg List.length h
      rw [List.length_append, fld_len, flat_nil] at this
      simp at this
    | cons x L =>
      rw [flat_cons] at h
      obtain ⟨_, h2⟩ := fld_inj (hd d List.mem_cons_self) (hL x List.mem_cons_self) h
      exact no_flat done rest (fun z hz => hd z (List.mem_cons_of_mem _ hz)) hne hno L (fun z hz => hL z (List.mem_cons_of_mem _ hz)) h2

open Classical in
/-- What Split answers. -/
noncomputable def splitM (l : List UInt8) : List (List UInt8) × Int :=
  if l.length > 16384 then ([], 4) else if h : ∃ L, Fit L ∧ l = flat L then (Classical.choose h, 0) else ([], 10)
theorem splitM_big {l : List UInt8} (h : 16384 < l.length) : splitM l = ([], 4) := by unfold splitM; rw [if_pos h]
theorem splitM_flat {L : List (List UInt8)} (hf : Fit L) (h : (flat L).length ≤ 16384) : splitM (flat L) = (L, 0) := by
  unfold splitM
  have hex : ∃ M, Fit M ∧ flat L = flat M := ⟨L, hf, rfl⟩
  rw [if_neg (by omega), dif_pos hex]
  have := Classical.choose_spec hex
  exact congrArg (fun M => (M, (0 : Int))) (flat_inj hf this.1 this.2).symm
theorem splitM_no {l : List UInt8} (h : l.length ≤ 16384) (hno : ∀ L, Fit L → l ≠ flat L) : splitM l = ([], 10) := by
  unfold splitM
  rw [if_neg (by omega), dif_neg (fun ⟨L, hL, e⟩ => hno L hL e)]
theorem splitM_ok {l : List UInt8} (h : (splitM l).2 = 0) : Fit (splitM l).1 ∧ l = flat (splitM l).1 ∧ l.length ≤ 16384 := by
  by_cases h1 : l.length ≤ 16384
  · by_cases h2 : ∃ L, Fit L ∧ l = flat L
    · obtain ⟨L, hL, rfl⟩ := h2
      rw [splitM_flat hL h1]
      exact ⟨hL, rfl, h1⟩
    · rw [splitM_no h1 (fun L hL e => h2 ⟨L, hL, e⟩)] at h
      simp at h
  · rw [splitM_big (by omega)] at h
    simp at h
theorem splitM_err {l : List UInt8} (h : (splitM l).2 ≠ 0) : (splitM l).1 = [] := by
  by_cases h1 : l.length ≤ 16384
  · by_cases h2 : ∃ L, Fit L ∧ l = flat L
    · obtain ⟨L, hL, rfl⟩ := h2
      rw [splitM_flat hL h1] at h
      exact absurd rfl h
    · rw [splitM_no h1 (fun L hL e => h2 ⟨L, hL, e⟩)]
  · rw [splitM_big (by omega)]

/-- What Join answers. -/
def joinM (L : List (List UInt8)) : List UInt8 × Int := if (flat L).length ≤ 16384 then (flat L, 0) else ([], 4)
theorem fit_of_flat {L : List (List UInt8)} (h : (flat L).length ≤ 16384) : Fit L := fun x hx => by have := flat_len_le hx; omega
theorem joinM_len (L : List (List UInt8)) : (joinM L).1.length ≤ 16384 := by unfold joinM; split <;> simp_all
end Go.Proofs.YtdjifopdlkppoaaDoor.Oc
