/- Contests as lists of bytes: names, rules, validity, the encoding; and what the laws say of them. No program named. -/
import Derived.Test.YtdjifopdlkppoaaDoorOcPure
namespace Go.Proofs.YtdjifopdlkppoaaDoor
open Go.RowKit
set_option linter.unusedVariables false

/-- A contest: its name, its candidates' names, its seats, its rule. -/
structure Ct where
  name : List UInt8
  cands : List (List UInt8)
  seats : Int
  rule : Nat
deriving DecidableEq

def nameB (l : List UInt8) : Bool := decide (1 ≤ l.length) && (decide (l.length ≤ 40) && l.all fun b => decide (33 ≤ b.toNat) && decide (b.toNat ≤ 126))
theorem nameB_iff (l : List UInt8) : nameB l = true ↔ 1 ≤ l.length ∧ l.length ≤ 40 ∧ ∀ b ∈ l, 33 ≤ b.toNat ∧ b.toNat ≤ 126 := by
  simp [nameB]
theorem nameB_bad {l : List UInt8} {b : UInt8} (hb : b ∈ l) (h : b.toNat < 33 ∨ 126 < b.toNat) : nameB l = false := by
  rw [Bool.eq_false_iff]
  intro e
  have := ((nameB_iff l).1 e).2.2 b hb
  omega
theorem nameB_size {l : List UInt8} (h : l.length < 1 ∨ 40 < l.length) : nameB l = false := by
  rw [Bool.eq_false_iff]
  intro e
  have := (nameB_iff l).1 e
  omega
def ruleB (r : Nat) : Bool := decide (1 ≤ r) && decide (r ≤ 16)
def oneB (r : Nat) : Bool := decide (5 ≤ r) && decide (r ≤ 10)
def listsB (r : Nat) : Bool := decide (14 ≤ r) && decide (r ≤ 16)
def kindM (r : Nat) : Nat := if r = 1 ∨ r = 2 ∨ r = 13 ∨ r = 14 ∨ r = 15 ∨ r = 16 then 2 else if r = 3 then 3 else 1
def marksM (r : Nat) (n : Int) : Int := if r = 1 ∨ 14 ≤ r then 1 else n
def strB (s : String) : List UInt8 := s.toUTF8.data.toList
def wordsM : List (List UInt8) := [[], [112, 108, 117, 114, 97, 108, 105, 116, 121], [97, 112, 112, 114, 111, 118, 97, 108], [115, 99, 111, 114, 101], [98, 111, 114, 100, 97], [99, 111, 112, 101, 108, 97, 110, 100], [109, 105, 110, 105, 109, 97, 120], [115, 99, 104, 117, 108, 122, 101], [112, 97, 105, 114, 115], [114, 117, 110, 111, 102, 102], [99, 111, 111, 109, 98, 115], [103, 114, 101, 103, 111, 114, 121], [109, 101, 101, 107], [112, 104, 114, 97, 103, 109, 101, 110], [100, 104, 111, 110, 100, 116], [115, 97, 105, 110, 116, 101], [104, 97, 114, 101]]
theorem wordsM_len : wordsM.length = 17 := rfl

/-- The candidates' names are distinct. -/
def distinctB : List (List UInt8) → Bool
  | [] => true
  | x :: xs => !xs.contains x && distinctB xs
theorem distinctB_iff : ∀ l : List (List UInt8), distinctB l = true ↔ l.Nodup
  | [] => by simp [distinctB]
  | x :: xs => by
    have := distinctB_iff xs
    simp [distinctB, this]

def seatsB (c : Ct) : Bool := if oneB c.rule then decide (c.seats = 1) else listsB c.rule || decide (c.seats ≤ c.cands.length)
/-- A valid contest. -/
def mayB (c : Ct) : Bool :=
  nameB c.name && (decide (1 ≤ c.cands.length) && (decide (c.cands.length ≤ 10) && (ruleB c.rule && (decide (1 ≤ c.seats) && (decide (c.seats ≤ 10) && (c.cands.all nameB && (distinctB c.cands && seatsB c)))))))
def checkM (c : Ct) : Int := if 10 < c.cands.length then 4 else if mayB c then 0 else 8
theorem mayB_iff (c : Ct) : mayB c = true ↔ nameB c.name = true ∧ 1 ≤ c.cands.length ∧ c.cands.length ≤ 10 ∧ ruleB c.rule = true ∧ 1 ≤ c.seats ∧ c.seats ≤ 10 ∧ (∀ x ∈ c.cands, nameB x = true) ∧ c.cands.Nodup ∧ seatsB c = true := by
  simp [mayB, distinctB_iff]
theorem checkM_ok {c : Ct} : checkM c = 0 ↔ mayB c = true := by
  unfold checkM
  constructor
  · intro h
    split at h
    · cases h
    · split at h
      · assumption
      · cases h
  · intro h
    have := (mayB_iff c).1 h
    rw [if_neg (by omega), if_pos h]
theorem checkM_cases (c : Ct) : checkM c = 0 ∨ checkM c = 4 ∨ checkM c = 8 := by
  unfold checkM
  split
  · exact .inr (.inl rfl)
  · split
    · exact .inl rfl
    · exact .inr (.inr rfl)
def placeM (c : Ct) (n : List UInt8) : Int × Int := if checkM c ≠ 0 then (0, checkM c) else if n ∈ c.cands then ((c.cands.idxOf n : Nat), 0) else (0, 6)

/-- The fields of a contest's encoding. -/
def partsM (c : Ct) : List (List UInt8) := c.name :: [UInt8.ofNat c.seats.toNat, UInt8.ofNat c.rule] :: c.cands
def textM (c : Ct) : List UInt8 := Oc.flat (partsM c)
def bytesM (c : Ct) : List UInt8 × Int := if checkM c ≠ 0 then ([], checkM c) else (textM c, 0)
def zeroCt : Ct := ⟨[], [], 0, 0⟩
/-- The contest that a list of fields is read as. -/
def ofParts (n : List UInt8) (s r : UInt8) (l : List (List UInt8)) : Ct := ⟨n, l, (s.toNat : Int), r.toNat⟩
def partsOf (l : List (List UInt8)) : Option Ct :=
  match l with
  | n :: [s, r] :: cs => some (ofParts n s r cs)
  | _ => none
noncomputable def readM (b : List UInt8) : Ct × Int :=
  if (Oc.splitM b).2 ≠ 0 then (zeroCt, (Oc.splitM b).2)
  else match partsOf (Oc.splitM b).1 with
    | some c => if mayB c then (c, 0) else (zeroCt, 11)
    | none => (zeroCt, 11)

theorem len_le_flat : ∀ (L : List (List UInt8)) (k : Nat), (∀ x ∈ L, x.length ≤ k) → (Oc.flat L).length ≤ L.length * (k + 2)
  | [], k, _ => by simp [Oc.flat_nil]
  | x :: L, k, h => by
    have h1 := len_le_flat L k (fun y hy => h y (List.mem_cons_of_mem _ hy))
    have h2 := h x (List.mem_cons_self ..)
    rw [Oc.flat_cons, List.length_append, Oc.fld_len, List.length_cons, Nat.succ_mul]
    omega
theorem textM_short {c : Ct} (h : mayB c = true) : (textM c).length ≤ 600 := by
  obtain ⟨h1, h2, h3, h4, h5, h6, h7, h8, h9⟩ := (mayB_iff c).1 h
  have h := len_le_flat (partsM c) 40 (fun x hx => by
    rcases List.mem_cons.1 hx with e | hx
    · subst e; exact ((nameB_iff _).1 h1).2.1
    · rcases List.mem_cons.1 hx with e | hx
      · subst e; simp
      · exact ((nameB_iff _).1 (h7 x hx)).2.1)
  have : (partsM c).length ≤ 12 := by simp [partsM]; omega
  have : (partsM c).length * 42 ≤ 12 * 42 := Nat.mul_le_mul_right _ this
  unfold textM
  omega
theorem partsOf_parts {c : Ct} (h : mayB c = true) : partsOf (partsM c) = some c := by
  obtain ⟨h1, h2, h3, h4, h5, h6, h7, h8, h9⟩ := (mayB_iff c).1 h
  have hr : c.rule ≤ 16 := by simp [ruleB] at h4; omega
  have es : ((UInt8.ofNat c.seats.toNat).toNat : Int) = c.seats := by
    rw [UInt8.toNat_ofNat']
    have : c.seats.toNat % 2 ^ 8 = c.seats.toNat := Nat.mod_eq_of_lt (by omega)
    omega
  have er : (UInt8.ofNat c.rule).toNat = c.rule := by
    rw [UInt8.toNat_ofNat']
    exact Nat.mod_eq_of_lt (by omega)
  show some (ofParts c.name _ _ c.cands) = some c
  unfold ofParts
  rw [es, er]
theorem parts_partsOf {l : List (List UInt8)} {c : Ct} (h : partsOf l = some c) : partsM c = l := by
  unfold partsOf at h
  split at h
  · obtain rfl := Option.some.inj h
    simp [partsM, ofParts]
  · cases h
/-- Read undoes Bytes. -/
theorem read_bytes {c : Ct} (h : checkM c = 0) : readM (bytesM c).1 = (c, 0) := by
  have hm := checkM_ok.1 h
  have hs := textM_short hm
  have hb : bytesM c = (textM c, 0) := by unfold bytesM; rw [if_neg (by omega)]
  rw [hb]
  have he : Oc.splitM (textM c) = (partsM c, 0) := Oc.splitM_flat (Oc.fit_of_flat (by unfold textM at hs; omega)) (by unfold textM at hs; omega)
  unfold readM
  rw [he]
  simp only [ne_eq, not_true_eq_false, if_false, partsOf_parts hm, hm, if_true]
/-- Bytes undoes Read. -/
theorem bytes_read {b : List UInt8} (h : (readM b).2 = 0) : bytesM (readM b).1 = (b, 0) ∧ checkM (readM b).1 = 0 := by
  unfold readM at h ⊢
  by_cases h1 : (Oc.splitM b).2 ≠ 0
  · rw [if_pos h1] at h; exact absurd h h1
  · rw [if_neg h1] at h ⊢
    have h0 : (Oc.splitM b).2 = 0 := by omega
    obtain ⟨hf, hb, hl⟩ := Oc.splitM_ok h0
    cases hp : partsOf (Oc.splitM b).1 with
    | none => rw [hp] at h; simp at h
    | some c =>
      rw [hp] at h
      simp only at h
      by_cases hm : mayB c = true
      · simp only [hm, if_true]
        have hc := checkM_ok.2 hm
        refine ⟨?_, hc⟩
        unfold bytesM
        rw [if_neg (by omega)]
        unfold textM
        rw [parts_partsOf hp, ← hb]
      · rw [if_neg hm] at h; simp at h
theorem readM_err {b : List UInt8} (h : (readM b).2 ≠ 0) : (readM b).1 = zeroCt := by
  unfold readM at h ⊢
  split
  · rfl
  · rename_i h1
    rw [if_neg h1] at h
    cases hp : partsOf (Oc.splitM b).1 with
    | none => rfl
    | some c =>
      rw [hp] at h
      simp only at h ⊢
      split
      · rename_i hm; rw [if_pos hm] at h; exact absurd rfl h
      · rfl
theorem bytesM_err {c : Ct} (h : checkM c ≠ 0) : bytesM c = ([], checkM c) := by unfold bytesM; rw [if_pos h]
end Go.Proofs.YtdjifopdlkppoaaDoor
