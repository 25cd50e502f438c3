/- Contests as lists of bytes: names, rules, validity, the encoding; and what the laws say of them. No program named. Words of rules, and what the laws say of them; contests with one seat, with one candidate more. No program named. The reference's Name, Is, One, Lists, KindOf, Kind, Marks, Most. The reference's Is, One, Lists, KindOf, Kind, Marks, Most. The reference's words, Word, Rule. A contest as a value; the reference's Great. The reference's May, Check. The reference's Check, Place, Same. The reference's Same. What contest's calls answer, as one premise: T stands for 'the package's own tables hold what their text says'. Each law is proved from it; behind the landed code 'con : Con Tab' is proved. A contest in a block of the call's own: loaded and stored whole; the reference's Twin. '[]byte(s)' as a step; the reference's Text and Bytes. contest's own table of the rules: what its cells hold, now and behind what a call makes. contest's isRule, mostSeats, Kind, Most, Word, Rule. contest's areNames, areDistinct; slices.Index, Contains, Equal over strings. contest's isValid. contest's Check, Place; slices.Equal; Same. contest's Bytes. -/
import Derived.Test.YtikhffdbjelanaaDoorGb
import Derived.Test.YtikhffdbjelanaaDoorGa
import Derived.Test.YtikhffdbjelanaaDoorProg
import Derived.Lib.LaidU8
import Derived.Lib.SmallJoins
import Derived.Deep.RegionLaw
import Derived.Deep.QuietTactic
import Derived.BigQuiet
import Derived.WalkArith
namespace Go.Proofs.YtikhffdbjelanaaDoor
open Go.RowKit
set_option linter.unusedVariables false

/-- A contest: its name, its candidates' names, its seats, its rule. -/
structure Ct where
  name : List UInt8
  cands : List (List UInt8)
  seats : Int
  rule : Nat
deriving DecidableEq

def nameB (l : List UInt8) : Bool := decide (1 ≤ l.length) && (decide (l.length ≤ 40) && l.all fun b => decide (33 ≤ b.toNat) && decide (b.toNat ≤ 126))
theorem nameB_iff (l : List UInt8) : nameB l = true ↔ 1 ≤ l.length ∧ l.length ≤ 40 ∧ ∀ b ∈ l, 33 ≤ b.toNat ∧ b.toNat ≤ 126 := by
  simp [nameB]
theorem nameB_bad {l : List UInt8} {b : UInt8} (hb : b ∈ l) (h : b.toNat < 33 ∨ 126 < b.toNat) : nameB l = false := by
  rw [Bool.eq_false_iff]
  intro e
  have := ((nameB_iff l).1 e).2.2 b hb
  omega
theorem nameB_size {l : List UInt8} (h : l.length < 1 ∨ 40 < l.length) : nameB l = false := by
  rw [Bool.eq_false_iff]
  intro e
  have := (nameB_iff l).1 e
  omega
def ruleB (r : Nat) : Bool := decide (1 ≤ r) && decide (r ≤ 16)
def oneB (r : Nat) : Bool := decide (5 ≤ r) && decide (r ≤ 10)
def listsB (r : Nat) : Bool := decide (14 ≤ r) && decide (r ≤ 16)
def kindM (r : Nat) : Nat := if r = 1 ∨ r = 2 ∨ r = 13 ∨ r = 14 ∨ r = 15 ∨ r = 16 then 2 else if r = 3 then 3 else 1
def marksM (r : Nat) (n : Int) : Int := if r = 1 ∨ 14 ≤ r then 1 else n
def strB (s : String) : List UInt8 := s.toUTF8.data.toList
def wordsM : List (List UInt8) := [[], [112, 108, 117, 114, 97, 108, 105, 116, 121], [97, 112, 112, 114, 111, 118, 97, 108], [115, 99, 111, 114, 101], [98, 111, 114, 100, 97], [99, 111, 112, 101, 108, 97, 110, 100], [109, 105, 110, 105, 109, 97, 120], [115, 99, 104, 117, 108, 122, 101], [112, 97, 105, 114, 115], [114, 117, 110, 111, 102, 102], [99, 111, 111, 109, 98, 115], [103, 114, 101, 103, 111, 114, 121], [109, 101, 101, 107], [112, 104, 114, 97, 103, 109, 101, 110], [100, 104, 111, 110, 100, 116], [115, 97, 105, 110, 116, 101], [104, 97, 114, 101]]
theorem wordsM_len : wordsM.length = 17 := rfl

/-- The candidates' names are distinct. -/
def distinctB : List (List UInt8) → Bool
  | [] => true
  | x :: xs => !xs.contains x && distinctB xs
theorem distinctB_iff : ∀ l : List (List UInt8), distinctB l = true ↔ l.Nodup
  | [] => by simp [distinctB]
  | x :: xs => by
    have := distinctB_iff xs
    simp [distinctB, this]

def seatsB (c : Ct) : Bool := if oneB c.rule then decide (c.seats = 1) else listsB c.rule || decide (c.seats ≤ c.cands.length)
/-- A valid contest. -/
def mayB (c : Ct) : Bool :=
  nameB c.name && (decide (1 ≤ c.cands.length) && (decide (c.cands.length ≤ 10) && (ruleB c.rule && (decide (1 ≤ c.seats) && (decide (c.seats ≤ 10) && (c.cands.all nameB && (distinctB c.cands && seatsB c)))))))
def checkM (c : Ct) : Int := if 10 < c.cands.length then 4 else if mayB c then 0 else 8
theorem mayB_iff (c : Ct) : mayB c = true ↔ nameB c.name = true ∧ 1 ≤ c.cands.length ∧ c.cands.length ≤ 10 ∧ ruleB c.rule = true ∧ 1 ≤ c.seats ∧ c.seats ≤ 10 ∧ (∀ x ∈ c.cands, nameB x = true) ∧ c.cands.Nodup ∧ seatsB c = true := by
  simp [mayB, distinctB_iff]
theorem checkM_ok {c : Ct} : checkM c = 0 ↔ mayB c = true := by
  unfold checkM
  constructor
  · intro h
    split at h
    · cases h
    · split at h
      · assumption
      · cases h
  · intro h
    have := (mayB_iff c).1 h
    rw [if_neg (by omega), if_pos h]
theorem checkM_cases (c : Ct) : checkM c = 0 ∨ checkM c = 4 ∨ checkM c = 8 := by
  unfold checkM
  split
  · exact .inr (.inl rfl)
  · split
    · exact .inl rfl
    · exact .inr (.inr rfl)
def placeM (c : Ct) (n : List UInt8) : Int × Int := if checkM c ≠ 0 then (0, checkM c) else if n ∈ c.cands then ((c.cands.idxOf n : Nat), 0) else (0, 6)

/-- The fields of a contest's encoding. -/
def partsM (c : Ct) : List (List UInt8) := c.name :: [UInt8.ofNat c.seats.toNat, UInt8.ofNat c.rule] :: c.cands
def textM (c : Ct) : List UInt8 := Oc.flat (partsM c)
def bytesM (c : Ct) : List UInt8 × Int := if checkM c ≠ 0 then ([], checkM c) else (textM c, 0)
def zeroCt : Ct := ⟨[], [], 0, 0⟩
/-- The contest that a list of fields is read as. -/
def ofParts (n : List UInt8) (s r : UInt8) (l : List (List UInt8)) : Ct := ⟨n, l, (s.toNat : Int), r.toNat⟩
def partsOf (l : List (List UInt8)) : Option Ct :=
  match l with
  | n :: [s, r] :: cs => some (ofParts n s r cs)
  | _ => none
noncomputable def readM (b : List UInt8) : Ct × Int :=
  if (Oc.splitM b).2 ≠ 0 then (zeroCt, (Oc.splitM b).2)
  else match partsOf (Oc.splitM b).1 with
    | some c => if mayB c then (c, 0) else (zeroCt, 11)
    | none => (zeroCt, 11)

theorem len_le_flat : ∀ (L : List (List UInt8)) (k : Nat), (∀ x ∈ L, x.length ≤ k) → (Oc.flat L).length ≤ L.length * (k + 2)
  | [], k, _ => by simp [Oc.flat_nil]
  | x :: L, k, h => by
    have h1 := len_le_flat L k (fun y hy => h y (List.mem_cons_of_mem _ hy))
    have h2 := h x (List.mem_cons_self ..)
    rw [Oc.flat_cons, List.length_append, Oc.fld_len, List.length_cons, Nat.succ_mul]
    omega
theorem textM_short {c : Ct} (h : mayB c = true) : (textM c).length ≤ 600 := by
  obtain ⟨h1, h2, h3, h4, h5, h6, h7, h8, h9⟩ := (mayB_iff c).1 h
  have h := len_le_flat (partsM c) 40 (fun x hx => by
    rcases List.mem_cons.1 hx with e | hx
    · subst e; exact ((nameB_iff _).1 h1).2.1
    · rcases List.mem_cons.1 hx with e | hx
      · subst e; simp
      · exact ((nameB_iff _).1 (h7 x hx)).2.1)
  have : (partsM c).length ≤ 12 := by simp [partsM]; omega
  have : (partsM c).length * 42 ≤ 12 * 42 := Nat.mul_le_mul_right _ this
  unfold textM
  omega
theorem partsOf_parts {c : Ct} (h : mayB c = true) : partsOf (partsM c) = some c := by
  obtain ⟨h1, h2, h3, h4, h5, h6, h7, h8, h9⟩ := (mayB_iff c).1 h
  have hr : c.rule ≤ 16 := by simp [ruleB] at h4; omega
  have es : ((UInt8.ofNat c.seats.toNat).toNat : Int) = c.seats := by
    rw [UInt8.toNat_ofNat']
    have : c.seats.toNat % 2 ^ 8 = c.seats.toNat := Nat.mod_eq_of_lt (by omega)
    omega
  have er : (UInt8.ofNat c.rule).toNat = c.rule := by
    rw [UInt8.toNat_ofNat']
    exact Nat.mod_eq_of_lt (by omega)
  show some (ofParts c.name _ _ c.cands) = some c
  unfold ofParts
  rw [es, er]
theorem parts_partsOf {l : List (List UInt8)} {c : Ct} (h : partsOf l = some c) : partsM c = l := by
  unfold partsOf at h
  split at h
  · obtain rfl := Option.some.inj h
    simp [partsM, ofParts]
  · cases h
/-- Read undoes Bytes. -/
theorem read_bytes {c : Ct} (h : checkM c = 0) : readM (bytesM c).1 = (c, 0) := by
  have hm := checkM_ok.1 h
  have hs := textM_short hm
  have hb : bytesM c = (textM c, 0) := by unfold bytesM; rw [if_neg (by omega)]
  rw [hb]
  have he : Oc.splitM (textM c) = (partsM c, 0) := Oc.splitM_flat (Oc.fit_of_flat (by unfold textM at hs; omega)) (by unfold textM at hs; omega)
  unfold readM
  rw [he]
  simp only [ne_eq, not_true_eq_false, if_false, partsOf_parts hm, hm, if_true]
/-- Bytes undoes Read. -/
theorem bytes_read {b : List UInt8} (h : (readM b).2 = 0) : bytesM (readM b).1 = (b, 0) ∧ checkM (readM b).1 = 0 := by
  unfold readM at h ⊢
  by_cases h1 : (Oc.splitM b).2 ≠ 0
  · rw [if_pos h1] at h; exact absurd h h1
  · rw [if_neg h1] at h ⊢
    have h0 : (Oc.splitM b).2 = 0 := by omega
    obtain ⟨hf, hb, hl⟩ := Oc.splitM_ok h0
    cases hp : partsOf (Oc.splitM b).1 with
    | none => rw [hp] at h; simp at h
    | some c =>
      rw [hp] at h
      simp only at h
      by_cases hm : mayB c = true
      · simp only [hm, if_true]
        have hc := checkM_ok.2 hm
        refine ⟨?_, hc⟩
        unfold bytesM
        rw [if_neg (by omega)]
        unfold textM
        rw [parts_partsOf hp, ← hb]
      · rw [if_neg hm] at h; simp at h
theorem readM_err {b : List UInt8} (h : (readM b).2 ≠ 0) : (readM b).1 = zeroCt := by
  unfold readM at h ⊢
  split
  · rfl
  · rename_i h1
    rw [if_neg h1] at h
    cases hp : partsOf (Oc.splitM b).1 with
    | none => rfl
    | some c =>
      rw [hp] at h
      simp only at h ⊢
      split
      · rename_i hm; rw [if_pos hm] at h; exact absurd rfl h
      · rfl
theorem bytesM_err {c : Ct} (h : checkM c ≠ 0) : bytesM c = ([], checkM c) := by unfold bytesM; rw [if_pos h]
end Go.Proofs.YtikhffdbjelanaaDoor
namespace Go.Proofs.YtikhffdbjelanaaDoor
open Go.RowKit
set_option linter.unusedVariables false

def wordM (r : Nat) : List UInt8 × Int := if ruleB r then (wordsM.getD r [], 0) else ([], 2)
def ruleM (x : List UInt8) : Nat × Int := if x ∈ wordsM.drop 1 then (wordsM.idxOf x, 0) else (0, 6)
def kindE (r : Nat) : Nat × Int := if ruleB r then (kindM r, 0) else (0, 2)
def mostM (r : Nat) (n : Int) : Int × Int := if ruleB r && (decide (1 ≤ n) && decide (n ≤ 10)) then (marksM r n, 0) else (0, 2)

theorem ruleB_iff (r : Nat) : ruleB r = true ↔ 1 ≤ r ∧ r ≤ 16 := by simp [ruleB]
theorem rule_lt {P : Nat → Prop} (h : ∀ r, r < 17 → (1 ≤ r → P r)) {r : Nat} (hr : ruleB r = true) : P r := by
  have := (ruleB_iff r).1 hr
  exact h r (by omega) this.1
theorem rule_word {r : Nat} (hr : ruleB r = true) : ruleM (wordM r).1 = (r, 0) := by
  refine rule_lt (P := fun r => ruleM (wordM r).1 = (r, 0)) ?_ hr
  decide +kernel
theorem word_ne {r : Nat} (hr : ruleB r = true) : (wordM r).1 ≠ [] := by
  refine rule_lt (P := fun r => (wordM r).1 ≠ []) ?_ hr
  decide +kernel
theorem word_inj {r s : Nat} (hr : ruleB r = true) (hs : ruleB s = true) (h : (wordM r).1 = (wordM s).1) : r = s := by
  have h1 := rule_word hr
  rw [h, rule_word hs] at h1
  exact (Prod.mk.inj h1).1.symm
theorem word_rule {x : List UInt8} (h : (ruleM x).2 = 0) : wordM (ruleM x).1 = (x, 0) ∧ ruleB (ruleM x).1 = true := by
  unfold ruleM at h ⊢
  by_cases hx : x ∈ wordsM.drop 1
  · rw [if_pos hx]
    have hall : ∀ y ∈ wordsM.drop 1, wordM (wordsM.idxOf y) = (y, 0) ∧ ruleB (wordsM.idxOf y) = true := by decide +kernel
    exact hall x hx
  · rw [if_neg hx] at h
    cases h
theorem ruleM_err {x : List UInt8} (h : (ruleM x).2 ≠ 0) : ruleM x = (0, 6) := by
  unfold ruleM at h ⊢
  split
  · rename_i hx; rw [if_pos hx] at h; exact absurd rfl h
  · rfl
theorem wordM_len (r : Nat) : (wordM r).1.length ≤ 9 := by
  unfold wordM
  split
  · rename_i h
    refine rule_lt (P := fun r => (wordsM.getD r []).length ≤ 9) ?_ h
    decide +kernel
  · simp
theorem kindM_range (r : Nat) : 1 ≤ kindM r ∧ kindM r ≤ 3 := by unfold kindM; split <;> (try split) <;> omega
/-- Only a rule of marks limits them to one. -/
theorem marksM_kind {r : Nat} (hr : ruleB r = true) (n : Int) (h : marksM r n ≠ n) : kindM r = 2 := by
  have hb := (ruleB_iff r).1 hr
  unfold marksM at h
  split at h
  · rename_i h1
    unfold kindM
    rw [if_pos (by omega)]
  · exact absurd rfl h

theorem one_seat {c : Ct} (h : checkM c = 0) : checkM { c with seats := 1 } = 0 := by
  rw [checkM_ok] at h ⊢
  obtain ⟨h1, h2, h3, h4, h5, h6, h7, h8, h9⟩ := (mayB_iff c).1 h
  refine (mayB_iff _).2 ⟨h1, h2, h3, h4, by simp, by simp, h7, h8, ?_⟩
  unfold seatsB
  split
  · simp
  · simp; exact .inr (by omega)
theorem more_ok {c : Ct} (x : List UInt8) (h : checkM c = 0) : checkM { c with cands := c.cands ++ [x] } = 0 ↔ nameB x = true ∧ x ∉ c.cands ∧ c.cands.length < 10 := by
  rw [checkM_ok] at h
  obtain ⟨h1, h2, h3, h4, h5, h6, h7, h8, h9⟩ := (mayB_iff c).1 h
  rw [checkM_ok, mayB_iff]
  constructor
  · rintro ⟨g1, g2, g3, g4, g5, g6, g7, g8, g9⟩
    refine ⟨g7 x (by simp), ?_, by simp at g3; omega⟩
    have := List.nodup_append.1 g8
    intro hm
    exact this.2.2 x hm x (by simp) rfl
  · rintro ⟨g1, g2, g3⟩
    refine ⟨h1, by simp, by simp; omega, h4, h5, h6, ?_, ?_, ?_⟩
    · intro y hy
      rcases List.mem_append.1 hy with hy | hy
      · exact h7 y hy
      · obtain rfl := List.mem_singleton.1 hy; exact g1
    · refine List.nodup_append.2 ⟨h8, by simp, ?_⟩
      intro a ha b hb e
      obtain rfl := List.mem_singleton.1 hb
      subst e
      exact g2 ha
    · unfold seatsB at h9 ⊢
      split
      · rename_i h; rw [if_pos h] at h9; exact h9
      · rename_i h
        rw [if_neg h] at h9
        simp at h9 ⊢
        rcases h9 with h9 | h9
        · exact .inl h9
        · exact .inr (by omega)
theorem idx_last {x : List UInt8} : ∀ {l : List (List UInt8)}, x ∉ l → (l ++ [x]).idxOf x = l.length
  | l, h => by
    rw [List.idxOf_append, if_neg h]
    simp
/-- What ContestSeats says of Place. -/
theorem more_place {c : Ct} (x : List UInt8) (h : checkM c = 0) :
    placeM { c with cands := c.cands ++ [x] } x = if nameB x = true ∧ x ∉ c.cands ∧ c.cands.length < 10 then (((c.cands.length : Nat) : Int), 0) else (0, checkM { c with cands := c.cands ++ [x] }) := by
  unfold placeM
  by_cases hm : checkM { c with cands := c.cands ++ [x] } = 0
  · have hq := (more_ok x h).1 hm
    rw [if_neg (by omega), if_pos (by simp), if_pos hq, idx_last hq.2.1]
  · rw [if_pos hm, if_neg (fun e => hm ((more_ok x h).2 e))]
theorem place_ok {c : Ct} (x : List UInt8) (h : checkM c = 0) : placeM c x = if x ∈ c.cands then (((c.cands.idxOf x : Nat) : Int), 0) else (0, 6) := by
  unfold placeM
  rw [if_neg (by omega)]
end Go.Proofs.YtikhffdbjelanaaDoor
namespace Go.Proofs.YtikhffdbjelanaaDoor
open Go.RowKit
set_option linter.unusedVariables false
attribute [local go_sem] mk_get

theorem take_mem_succ {α : Type} {P : α → Prop} (l : List α) (k : Nat) (h : k < l.length) (ha : ∀ b ∈ l.take k, P b) (hk : P l[k]) : ∀ b ∈ l.take (k + 1), P b := by
  rw [List.take_succ_eq_append_getElem h]
  intro b hb
  rcases List.mem_append.1 hb with h | h
  · exact ha b h
  · simp at h; rw [h]; exact hk

set_option maxRecDepth 100000 in
set_option maxHeartbeats 400000 in
theorem refName_any (l : List UInt8) (w : World) (hl : l.length ≤ 4000000000) :
    Calls Tryd.prog 59 #[.string ⟨l.toArray⟩] w fun e w' => e = .returned (.bool (nameB l)) ∧ w = w' := by
  by_cases h0 : l.length < 1
  · have HB := Lib.hid (nameB_size (.inl h0))
    have h0i : (l.length : Int) < 1 := by omega
    have hd : decide ((l.length : Int) < 1) = true := by simp; omega
    clear h0
    go_enter Tryd.func59, Tryd.ntmps59
    go_wp2_with fail
    go_ret
    exact ⟨by rw [HB.out]; rfl, rfl⟩
  · have h0d : decide ((l.length : Int) < 1) = false := by simp; omega
    by_cases h4 : 40 < l.length
    · have HB := Lib.hid (nameB_size (.inr h4))
      have h4d : decide ((40 : Int) < (l.length : Int)) = true := by simp; omega
      clear h4 h0
      go_enter Tryd.func59, Tryd.ntmps59
      go_wp2_with fail
      go_ret
      exact ⟨by rw [HB.out]; rfl, rfl⟩
    · have h4d : decide ((40 : Int) < (l.length : Int)) = false := by simp; omega
      have HL := Lib.hid (show 1 ≤ l.length ∧ l.length ≤ 40 from ⟨by omega, by omega⟩)
      clear h0 h4
      go_enter Tryd.func59, Tryd.ntmps59
      go_wp2_with fail
      go_loop [3] (fun i => ∃ k : Nat, k ≤ l.length ∧ i = .int .i64 k ∧ Hid (∀ b ∈ l.take k, 33 ≤ b.toNat ∧ b.toNat ≤ 126)) (fun i => l.length - (intOf i).toNat)
      case atStart => exact ⟨0, Nat.zero_le _, rfl, by simp [Hid]⟩
      case round =>
        obtain ⟨k, hk, rfl, hpre⟩ := hrel
        by_cases hlt : k < l.length
        · by_cases h1 : l[k].toNat < 33
          · have HB := Lib.hid (nameB_bad (List.getElem_mem hlt) (.inl h1))
            have h1d : decide (((l[k].toNat : Nat) : Int) < 33) = true := by simp; omega
            go_wp2_with fail
            go_ret
            exact ⟨by rw [HB.out]; rfl, rfl⟩
          · have h1d : decide (((l[k].toNat : Nat) : Int) < 33) = false := by simp; omega
            by_cases h2 : 126 < l[k].toNat
            · have HB := Lib.hid (nameB_bad (List.getElem_mem hlt) (.inr h2))
              have h2d : decide ((126 : Int) < ((l[k].toNat : Nat) : Int)) = true := by simp; omega
              go_wp2_with fail
              go_ret
              exact ⟨by rw [HB.out]; rfl, rfl⟩
            · have h2d : decide ((126 : Int) < ((l[k].toNat : Nat) : Int)) = false := by simp; omega
              have HN := Lib.hid (take_mem_succ (P := fun b => 33 ≤ b.toNat ∧ b.toNat ≤ 126) l k hlt hpre.out ⟨by omega, by omega⟩)
              go_wp2_with fail
              go_round
              case rel => exact ⟨k + 1, by omega, by go_num, HN⟩
              case measure => simp [intOf]; omega
        · obtain rfl : k = l.length := by omega
          have HB := Lib.hid (show nameB l = true from (nameB_iff l).2 ⟨HL.out.1, HL.out.2, by have := hpre.out; rwa [List.take_of_length_le (Nat.le_refl _)] at this⟩)
          go_wp2_with fail
          go_ret
          exact ⟨by rw [HB.out]; rfl, rfl⟩
end Go.Proofs.YtikhffdbjelanaaDoor
namespace Go.Proofs.YtikhffdbjelanaaDoor
open Go.RowKit
set_option linter.unusedVariables false

end Go.Proofs.YtikhffdbjelanaaDoor
namespace Go.Proofs.YtikhffdbjelanaaDoor
open Go.RowKit
set_option linter.unusedVariables false

theorem idxOf_at : ∀ (l : List (List UInt8)) (k : Nat) (h : k < l.length) (y : List UInt8), l[k] = y → (∀ j, j < k → l[j]? ≠ some y) → l.idxOf y = k
  | a :: l, 0, _, y, e, _ => by simp at e; subst e; simp
  | a :: l, k + 1, h, y, e, hn => by
    have h0 : a ≠ y := by have := hn 0 (by omega); simpa using this
    have := idxOf_at l k (by simpa using h) y (by simpa using e) (fun j hj => by have := hn (j + 1) (by omega); simpa using this)
    rw [List.idxOf_cons, this, show (a == y) = false by rw [beq_eq_false_iff_ne]; exact h0]
    rfl

end Go.Proofs.YtikhffdbjelanaaDoor
namespace Go.Proofs.YtikhffdbjelanaaDoor
open Go.RowKit
set_option linter.unusedVariables false

/-- The cells of a contest. -/
def cvs (A : Option Addr) (c : Nat) (x : Ct) : Array Value := #[.string ⟨x.name.toArray⟩, .slice A x.cands.length c, .int .i64 x.seats, .int .u8 x.rule]
/-- A contest as a value. -/
def cv (A : Option Addr) (c : Nat) (x : Ct) : Value := .agg (cvs A c x)
def greatM (x : Ct) : Bool := decide (100 < x.cands.length) || (decide (1000 < x.name.length) || x.cands.any fun y => decide (1000 < y.length))
theorem greatM_no {x : Ct} (h : greatM x = false) : x.cands.length ≤ 100 ∧ x.name.length ≤ 1000 ∧ ∀ y ∈ x.cands, y.length ≤ 1000 := by
  simp [greatM] at h
  exact ⟨by omega, by omega, fun y hy => h.2.2 y hy⟩

end Go.Proofs.YtikhffdbjelanaaDoor
namespace Go.Proofs.YtikhffdbjelanaaDoor
open Go.RowKit
set_option linter.unusedVariables false

theorem nodup_snoc {l : List (List UInt8)} {k : Nat} (h : k < l.length) (hd : (l.take k).Nodup) (hn : ∀ j, j < k → l[j]? ≠ some l[k]) : (l.take (k + 1)).Nodup := by
  rw [List.take_succ_eq_append_getElem h]
  refine List.nodup_append.2 ⟨hd, by simp, ?_⟩
  intro a ha b hb e
  obtain rfl := List.mem_singleton.1 hb
  subst e
  obtain ⟨j, hj, e⟩ := List.getElem_of_mem ha
  have hj' : j < k := by simp at hj; omega
  refine hn j hj' ?_
  rw [List.getElem?_eq_getElem (by omega)]
  rw [List.getElem_take] at e
  rw [e]
theorem not_nodup {l : List (List UInt8)} {j k : Nat} (hj : j < k) (h : k < l.length) (e : l[j]? = some l[k]) : ¬ l.Nodup := by
  intro hd
  rw [List.getElem?_eq_getElem (by omega)] at e
  exact List.pairwise_iff_getElem.1 hd j k (by omega) h hj (Option.some.inj e)

end Go.Proofs.YtikhffdbjelanaaDoor
namespace Go.Proofs.YtikhffdbjelanaaDoor
open Go.RowKit
set_option linter.unusedVariables false

end Go.Proofs.YtikhffdbjelanaaDoor
namespace Go.Proofs.YtikhffdbjelanaaDoor
open Go.RowKit
set_option linter.unusedVariables false

theorem ct_ext {x y : Ct} (h1 : x.name = y.name) (h2 : x.cands = y.cands) (h3 : x.seats = y.seats) (h4 : x.rule = y.rule) : x = y := by
  cases x; cases y; simp_all

end Go.Proofs.YtikhffdbjelanaaDoor
namespace Go.Proofs.YtikhffdbjelanaaDoor
open Go.RowKit
set_option linter.unusedVariables false

/-- What a contest that comes in is known to be. -/
structure CtOk (w : World) (A : Option Addr) (c : Nat) (x : Ct) : Prop where
  rd : Rf sv w w.heap.size A c x.cands
  name : x.name.length ≤ 140737488351232
  cands : ∀ y ∈ x.cands, y.length ≤ 140737488351232
  rule : x.rule ≤ 255
  seats : -9223372036854775808 ≤ x.seats ∧ x.seats ≤ 9223372036854775807
theorem CtOk.below {w w' : World} {A : Option Addr} {c : Nat} {x : Ct} (h : CtOk w A c x) (hb : Below w.heap.size w w') : CtOk w' A c x := ⟨(h.rd.below hb).more hb.size, h.name, h.cands, h.rule, h.seats⟩

/-- A list of bytes and an error: the list is the call's own. -/
def BytesErr7 (w : World) (q : List UInt8 × Int) (e : Ending) (w' : World) : Prop :=
  ∃ (A : Option Addr) (c : Nat) (r : List UInt8) (er : Int), e = .returned (.tuple #[.slice A r.length c, .int .i64 er]) ∧ (r, er) = q ∧ Ow bv w' w.heap.size 5 A c r ∧ Below w.heap.size w w'
/-- A contest and an error: its candidates' list reads. -/
def CtErr7 (w : World) (q : Ct × Int) (e : Ending) (w' : World) : Prop :=
  ∃ (A : Option Addr) (c : Nat) (x : Ct) (er : Int), e = .returned (.tuple #[cv A c x, .int .i64 er]) ∧ (x, er) = q ∧ Rf sv w' w'.heap.size A c x.cands ∧ Below w.heap.size w w'

end Go.Proofs.YtikhffdbjelanaaDoor
namespace Go.Proofs.YtikhffdbjelanaaDoor
open Go.RowKit
set_option linter.unusedVariables false

theorem grown_setRow' (w : World) (g : Nat) (cs : Array Value) : w.grownBy (w.setRow g cs) (some g) :=
  ⟨rfl, rfl, rfl, by simp, fun k _ hk => setRow_other w g k cs (fun e => hk (by rw [e]))⟩
theorem size_ct : (Tryd.prog.info? 102).map (·.size) = some 4 := by kernel_rfl
theorem wpList_load_ct {w : World} {ops : Array Oper} {rest : List Oper} {o : Oper} {a : Act} {Q : Exit → Act → World → Prop} (hw : Region.wanted o (yielded ops a.tmps) = true) (y : Operand) (ho : o.op = .load 102 y)
    (g : Nat) (hx : a.eval y = .pointer (some ⟨g, 0, none⟩)) {A : Option Addr} {c : Nat} {x : Ct} (hB : Blk w g 102 (cvs A c x)) (h : wpList Tryd.prog ops Q rest (a.put o.dst (cv A c x)) w) : wpList Tryd.prog ops Q (o :: rest) a w :=
  BigFrame.wpList_want hw fun K hK => wp_load_row _ y ho g hx 102 _ _ _ hB Tryd.underlying102 rfl size_ct (hK _ _ h)
theorem wpList_store_ct {w : World} {ops : Array Oper} {rest : List Oper} {o : Oper} {a : Act} {Q : Exit → Act → World → Prop} (hgd : o.guard = none) (y z : Operand) (ho : o.op = .store 102 y z)
    (g : Nat) (hx : a.eval y = .pointer (some ⟨g, 0, none⟩)) {old : Array Value} (hB : Blk w g 102 old) (hold : old.size = 4) {A : Option Addr} {c : Nat} {x : Ct} (hy : a.eval z = cv A c x)
    (h : ∀ w', Blk w' g 102 (cvs A c x) → w.grownBy w' (some g) → wpList Tryd.prog ops Q rest (a.put o.dst undef) w') : wpList Tryd.prog ops Q (o :: rest) a w :=
  wpList_store_row hgd _ y z ho g (cvs A c x) hx hy 102 old hB size_ct hold (by simp [cvs, Value.oneCell']) (h _ (setRow_heap w g _ _ _ _ hB) (grown_setRow' w g _))
theorem ct_ret {fn : Func} {p : Tmp} (h : fn.results = #[.cell p 102]) {a : Act} {w : World} {g : Nat} {A : Option Addr} {c : Nat} {x : Ct} {Q : Ending → World → Prop}
    (hp : a.tmps.getD p undef = .pointer (some ⟨g, 0, none⟩)) (hB : Blk w g 102 (cvs A c x)) (hd : a.defers = []) (hQ : Q (.returned (cv A c x)) w) : bodyPost Tryd.prog fn Q .ret a w :=
  bodyPost_ret (results_cell_row h a.tmps w g _ _ _ _ hp hB Tryd.underlying102 rfl size_ct) hd hQ
theorem zero_ct : (cvs none 0 ⟨[], [], 0, 0⟩) = #[.string ⟨#[]⟩, .slice none 0 0, .int .i64 0, .int .u8 0] := rfl
theorem sInfo : (Tryd.prog.info? 9).map (fun i => (i.zero, i.size, i.bytes)) = some (some (.string ⟨#[]⟩), 1, 16) := by kernel_rfl
theorem sInfo_parts : ∃ i, Tryd.prog.info? 9 = some i ∧ i.zero = some (.string ⟨#[]⟩) ∧ i.size = 1 ∧ i.bytes = 16 := by
  have h := sInfo
  cases hi : Tryd.prog.info? 9 with
  | none => rw [hi] at h; cases h
  | some i => rw [hi] at h; simp at h; exact ⟨i, rfl, h.1, h.2.1, h.2.2⟩

end Go.Proofs.YtikhffdbjelanaaDoor
namespace Go.Proofs.YtikhffdbjelanaaDoor
open Go.RowKit
set_option linter.unusedVariables false

theorem Rf.toRd {w : World} {B : Nat} {A : Option Addr} {c : Nat} {l : List UInt8} (h : Rf bv w B A c l) : Oc.Rd w B A c l := ⟨h.cap, h.capm, h.nil, h.cell⟩
theorem Rd.toRf {w : World} {B : Nat} {A : Option Addr} {c : Nat} {l : List UInt8} (h : Oc.Rd w B A c l) : Rf bv w B A c l := ⟨h.cap, h.capm, h.nil, h.cell⟩
theorem Ow.ofOc {w : World} {base e : Nat} {A : Option Addr} {c : Nat} {l : List UInt8} (h : Oc.Own w base e A c l) : Ow bv w base e A c l := h

theorem wpList_to_bytes {w : World} {ops : Array Oper} {rest : List Oper} {o : Oper} {a : Act} {Q : Exit → Act → World → Prop} (hgd : o.guard = none) (x : Operand) (ho : o.op = .convert 9 37 x)
    (l : List UInt8) (hx : a.eval x = .string ⟨l.toArray⟩) (hl : l.length ≤ 4000000000)
    (h : ∀ c' w', Rf bv w' (w.heap.size + 1) (some ⟨w.heap.size, 0, none⟩) c' l → Below w.heap.size w w' → w'.heap.size = w.heap.size + 1 → wpList Tryd.prog ops Q rest (a.put o.dst (.slice (some ⟨w.heap.size, 0, none⟩) l.length c')) w') :
    wpList Tryd.prog ops Q (o :: rest) a w := by
  refine wpList_plain hgd fun K hK => ?_
  have hrun := run_bytes_of_string (P := Tryd.prog) w 9 37 5 ⟨l.toArray⟩ Tryd.underlying9 Tryd.underlying37 Tryd.underlying5
  have hsz : (⟨l.toArray⟩ : ByteArray).size = l.length := by simp [ByteArray.size]
  rw [hsz] at hrun
  have hge := grownCap_ge w l.length 0 5
  have hle := grownCap_le_maxLen w l.length 0 5 (by unfold maxLen; omega)
  generalize grownCap w l.length 0 5 = cap at hrun hge hle
  unfold Oper.wp
  simp only [execOp, ho, hx, hrun, Result.andThen, Sem.run_bind, Sem.run_pure]
  refine hK _ _ (h _ _ ⟨hge, hle, (fun e => by cases e), fun ad e j hj => ?_⟩ (((Below.refl _ w).drew).alloc (Nat.le_refl _) _) (by simp))
  obtain rfl := Option.some.inj e
  refine ⟨by simp, ?_⟩
  rw [add_plain, Nat.zero_add]
  have hc : ∀ (cs : Array Value) (fr : Nat × Nat), (w.drew.alloc (.cells cs 5 fr)).cell? ⟨w.heap.size, j, none⟩ = cs[j]? := fun cs fr => by
    have : (w.drew.alloc (.cells cs 5 fr)).heap[w.heap.size]? = some (.cells cs 5 fr) := by
      show (w.heap.push _)[w.heap.size]? = _
      simp
    exact cell_of_row _ _ _ _ _ _ this
  rw [hc]
  unfold bytesRow
  rw [Array.getElem?_append_left (by simp; exact hj)]
  simp [bv, hj]

theorem bInfo7 : (Tryd.prog.info? 5).map (fun i => (i.zero, i.size, i.bytes)) = some (some (.int .u8 0), 1, 1) := by kernel_rfl
theorem bInfo7_parts : ∃ i, Tryd.prog.info? 5 = some i ∧ i.zero = some (.int .u8 0) ∧ i.size = 1 ∧ i.bytes = 1 := by
  have h := bInfo7
  cases hi : Tryd.prog.info? 5 with
  | none => rw [hi] at h; cases h
  | some i => rw [hi] at h; simp at h; exact ⟨i, rfl, h.1, h.2.1, h.2.2⟩
theorem flat_parts_len (n : List UInt8) (p : List UInt8) (l : List (List UInt8)) (hn : n.length ≤ 40) (hp : p.length ≤ 40) (hl : ∀ y ∈ l, y.length ≤ 40) (h10 : l.length ≤ 10) : (Oc.flat (n :: p :: l)).length ≤ 600 := by
  have h := len_le_flat (n :: p :: l) 40 (fun y hy => by
    rcases List.mem_cons.1 hy with e | hy
    · subst e; exact hn
    · rcases List.mem_cons.1 hy with e | hy
      · subst e; exact hp
      · exact hl y hy)
  have : (n :: p :: l).length ≤ 12 := by simp; omega
  have : (n :: p :: l).length * 42 ≤ 12 * 42 := Nat.mul_le_mul_right _ this
  omega
theorem flat_more (n p : List UInt8) (l : List (List UInt8)) (k : Nat) (h : k < l.length) : Oc.flat (n :: p :: l.take (k + 1)) = Oc.flat (n :: p :: l.take k) ++ Oc.fld l[k] := by
  rw [List.take_succ_eq_append_getElem h, ← Oc.flat_snoc]
  rfl
theorem byte_of {n : Int} (h : 0 ≤ n ∧ n ≤ 255) : n = ((UInt8.ofNat n.toNat).toNat : Int) := by
  rw [UInt8.toNat_ofNat']
  have : n.toNat % 2 ^ 8 = n.toNat := Nat.mod_eq_of_lt (by omega)
  omega
end Go.Proofs.YtikhffdbjelanaaDoor
namespace Go.Proofs.YtikhffdbjelanaaDoor
open Go.RowKit Go.ChangeShapes Go.WideShapes Go.ChangeAt Go.Joins
set_option linter.unusedVariables false

/-- Whether a ballot of rule r has at most one mark; how many seats it fills (0: one, 1: some, 2: lists). -/
def oneMarkT (r : Nat) : Bool := decide (r = 1) || decide (14 ≤ r)
def seatsT (r : Nat) : Nat := if r = 0 then 0 else if oneB r then 0 else if listsB r then 2 else 1
def kindT (r : Nat) : Nat := if r = 0 then 0 else kindM r
/-- The table's rows, as they are laid. -/
def rowD (r : Nat) : DataW Unit := .agg [.lit (.string (wordsM.getD r [])), .lit (.int .u8 (kindT r)), .lit (.bool (oneMarkT r)), .lit (.int .i64 (seatsT r))]
def rulesD : DataW Unit := .agg ((List.range 17).map rowD)
/-- The cells of row r. -/
def rowV (r : Nat) : List Value := [sv (wordsM.getD r []), .int .u8 (kindT r), .bool (oneMarkT r), .int .i64 (seatsT r)]

/-- The table of the rules holds. -/
structure Tab (w : World) : Prop where
  lt : 0 < w.heap.size
  cell : ∀ r, r < 17 → ∀ j, j < 4 → w.cell? ⟨0, r * 4 + j, none⟩ = (rowV r)[j]?
theorem Tab.below {w w' : World} {B : Nat} (h : Tab w) (hB : w.heap.size ≤ B) (hb : Below B w w') : Tab w' :=
  ⟨Nat.lt_of_lt_of_le h.lt hb.size, fun r hr j hj => by
    rw [hb.cell (show (⟨0, r * 4 + j, none⟩ : Addr).block < B from Nat.lt_of_lt_of_le h.lt hB)]
    exact h.cell r hr j hj⟩
theorem Tab.word {w : World} (h : Tab w) {r : Nat} (hr : r < 17) : w.cell? ⟨0, r * 4, none⟩ = some (sv (wordsM.getD r [])) := h.cell r hr 0 (by omega)
theorem Tab.kind {w : World} (h : Tab w) {r : Nat} (hr : r < 17) : w.cell? ⟨0, r * 4 + 1, none⟩ = some (.int .u8 (kindT r)) := h.cell r hr 1 (by omega)
theorem Tab.mark {w : World} (h : Tab w) {r : Nat} (hr : r < 17) : w.cell? ⟨0, r * 4 + 2, none⟩ = some (.bool (oneMarkT r)) := h.cell r hr 2 (by omega)
theorem Tab.seats {w : World} (h : Tab w) {r : Nat} (hr : r < 17) : w.cell? ⟨0, r * 4 + 3, none⟩ = some (.int .i64 (seatsT r)) := h.cell r hr 3 (by omega)

theorem gR : Tryd.prog.globalNamed "suffrage/contest.rules" = some 0 := by kernel_rfl
theorem tR : (Tryd.prog.globals[0]?).map (·.type) = some 122 := by kernel_rfl
set_option maxRecDepth 100000 in
theorem tab_of_reads {W : World} (h : Lib.VarReads Tryd.prog W "suffrage/contest.rules" rulesD) : Tab W := by
  obtain ⟨g, t, cs, fuel, p, hg, ht, hv, hd⟩ := h
  obtain rfl := Option.some.inj (gR.symm.trans hg)
  obtain rfl := Option.some.inj (tR.symm.trans ht)
  have hcell := fun i => World.var?_cell gR hv i
  have hcs : cs.size = 68 := by
    cases fuel with
    | zero => simp [DataW.trod] at hd
    | succ fuel =>
      simp only [DataW.trod, Tryd.underlying122] at hd
      split at hd
      · rename_i hl
        rw [show Tryd.prog.cellsOf 122 = 68 by kernel_rfl] at hl
        simpa using hl
      · cases hd
  have hrow : ∀ r, r < 17 → ((cs.toList.drop (r * 4)).take 4) = rowV r := fun r hr => by
    obtain ⟨f2, d, q, hdd, hrd⟩ := Lib.array_elem Tryd.underlying122 hd r hr
    rw [show Tryd.prog.cellsOf 121 = 4 by kernel_rfl] at hrd
    have hd2 : d = rowD r := by
      have : ((List.range 17).map rowD)[r]? = some (rowD r) := by simp [hr]
      rw [this] at hdd
      exact (Option.some.inj hdd).symm
    subst hd2
    obtain ⟨y0, y1, y2, y3, n, hx, hl, t0, t1, t2, t3⟩ := trod_struct4 Tryd.underlying121 hrd
    simp only [Prod.mk.injEq, rowD] at hx
    obtain ⟨hx, _⟩ := hx
    injection hx with hx
    injection hx with x0 hx
    injection hx with x1 hx
    injection hx with x2 hx
    injection hx with x3 hx
    obtain ⟨s0, e0, rfl, _⟩ := DataW.trod_string Tryd.underlying9 t0
    obtain ⟨n1, e1, rfl, _⟩ := DataW.trod_int Tryd.underlying5 t1
    obtain ⟨b2, e2, rfl⟩ := DataW.trod_bool Tryd.underlying4 t2
    obtain ⟨n3, e3, rfl, _⟩ := DataW.trod_int Tryd.underlying3 t3
    injection x0 with x0
    injection x0 with x0
    injection x1 with x1
    injection x1 with _ x1
    injection x2 with x2
    injection x2 with x2
    injection x3 with x3
    injection x3 with _ x3
    subst x1 x2 x3
    have hs : sv (wordsM.getD r []) = .string s0 := by rw [x0]; unfold sv; rw [mk_eta]
    unfold rowV
    rw [hs]
    generalize (cs.toList.drop (r * 4)).take 4 = L at *
    rw [show Tryd.prog.cellsOf 121 = 4 by kernel_rfl] at hl
    obtain ⟨a, b, c, d, rfl⟩ : ∃ a b c d, L = [a, b, c, d] := by
      match L, hl with
      | [a, b, c, d], _ => exact ⟨a, b, c, d, rfl⟩
    rw [show Tryd.prog.cellsOf 9 = 1 by kernel_rfl] at e0
    rw [show Tryd.prog.cellsOf 5 = 1 by kernel_rfl] at e1
    rw [show Tryd.prog.cellsOf 4 = 1 by kernel_rfl] at e2
    rw [show Tryd.prog.cellsOf 3 = 1 by kernel_rfl] at e3
    simp at e0 e1 e2 e3
    rw [e0, e1, e2, e3]
  have hlt : 0 < W.heap.size := by
    obtain ⟨v, hv⟩ : ∃ v, W.cell? ⟨0, 0, none⟩ = some v := by
      rw [hcell]
      exact ⟨cs[0], by rw [Array.getElem?_eq_getElem (by omega)]⟩
    exact World.block_lt_of_cell? W _ hv
  refine ⟨hlt, fun r hr j hj => ?_⟩
  rw [hcell, ← hrow r hr, List.getElem?_take, if_pos hj, List.getElem?_drop]
  simp
end Go.Proofs.YtikhffdbjelanaaDoor
namespace Go.Proofs.YtikhffdbjelanaaDoor
open Go.RowKit
set_option linter.unusedVariables false

theorem isRule_any (r : Nat) (w : World) (hr : r ≤ 255) :
    Calls Tryd.prog 79 #[.int .u8 r] w fun e w' => e = .returned (.bool (ruleB r)) ∧ w = w' := by
  by_cases h1 : 1 ≤ r
  · have h1d : decide ((1 : Int) ≤ (r : Int)) = true := by simp; omega
    by_cases h2 : r ≤ 16
    · have h2d : decide ((r : Int) < 17) = true := by simp; omega
      have HB := Lib.hid ((ruleB_iff r).2 ⟨h1, h2⟩)
      clear h1 h2
      go_enter Tryd.func79, Tryd.ntmps79
      go_wp2_with fail
      go_ret
      exact ⟨by rw [HB.out] <;> rfl, rfl⟩
    · have h2d : decide ((r : Int) < 17) = false := by simp; omega
      have HB := Lib.hid (Bool.eq_false_iff.2 (fun e => h2 ((ruleB_iff r).1 e).2))
      clear h1 h2
      go_enter Tryd.func79, Tryd.ntmps79
      go_wp2_with fail
      go_ret
      exact ⟨by rw [HB.out] <;> rfl, rfl⟩
  · have h1d : decide ((1 : Int) ≤ (r : Int)) = false := by simp; omega
    have HB := Lib.hid (Bool.eq_false_iff.2 (fun e => h1 ((ruleB_iff r).1 e).1))
    clear h1
    go_enter Tryd.func79, Tryd.ntmps79
    go_wp2_with fail
    go_ret
    exact ⟨by rw [HB.out] <;> rfl, rfl⟩

/-- The most seats that a contest of a rule with n candidates fills. -/
def mostSeatsM (r : Nat) (n : Int) : Int := if oneB r then 1 else if listsB r then 10 else min n 10

set_option maxHeartbeats 400000 in
theorem mostSeats_any (r : Nat) (n : Int) (w : World) (hr : ruleB r = true) (hn : (Lit.int .i64 n).wf = true) (hT : Tab w) :
    Calls Tryd.prog 80 #[.int .u8 r, .int .i64 n] w fun e w' => e = .returned (.int .i64 (mostSeatsM r n)) ∧ w = w' := by
  have hb := (ruleB_iff r).1 hr
  have hc := hT.seats (r := r) (by omega)
  cases h1 : oneB r with
  | true =>
    have HB := Lib.hid (show mostSeatsM r n = 1 by unfold mostSeatsM; rw [h1]; rfl)
    rw [show seatsT r = 0 by unfold seatsT; rw [if_neg (by omega), h1]; rfl] at hc
    clear h1 hr
    go_enter Tryd.func80, Tryd.ntmps80
    go_wp2_with fail
    go_ret
    exact ⟨by rw [HB.out] <;> rfl, rfl⟩
  | false =>
    cases h2 : listsB r with
    | true =>
      have HB := Lib.hid (show mostSeatsM r n = 10 by unfold mostSeatsM; rw [h1, h2]; rfl)
      rw [show seatsT r = 2 by unfold seatsT; rw [if_neg (by omega), h1, h2]; rfl] at hc
      clear h1 h2 hr
      go_enter Tryd.func80, Tryd.ntmps80
      go_wp2_with fail
      go_ret
      exact ⟨by rw [HB.out] <;> rfl, rfl⟩
    | false =>
      have HB := Lib.hid (show mostSeatsM r n = min n 10 by unfold mostSeatsM; rw [h1, h2]; rfl)
      rw [show seatsT r = 1 by unfold seatsT; rw [if_neg (by omega), h1, h2]; rfl] at hc
      clear h1 h2 hr
      go_enter Tryd.func80, Tryd.ntmps80
      go_wp2_with fail
      go_ret
      exact ⟨by rw [HB.out] <;> rfl, rfl⟩

end Go.Proofs.YtikhffdbjelanaaDoor
namespace Go.Proofs.YtikhffdbjelanaaDoor
open Go.RowKit
set_option linter.unusedVariables false
attribute [local go_sem] mk_get

theorem Rf.take {α : Type} {f : α → Value} {w : World} {B c : Nat} {A : Option Addr} {xs : List α} (h : Rf f w B A c xs) (k : Nat) : Rf f w B A c (xs.take k) := by
  have hcap := h.cap
  refine ⟨by rw [List.length_take]; omega, h.capm, h.nil, fun ad e j hj => ?_⟩
  rw [List.length_take] at hj
  have := h.cell ad e j (by omega)
  rw [List.getElem_take]
  exact this

def bytesB (l : List UInt8) : Bool := l.all fun b => decide (33 ≤ b.toNat) && decide (b.toNat ≤ 126)
theorem bytesB_iff (l : List UInt8) : bytesB l = true ↔ ∀ b ∈ l, 33 ≤ b.toNat ∧ b.toNat ≤ 126 := by simp [bytesB]
theorem bytesB_bad {l : List UInt8} {b : UInt8} (hb : b ∈ l) (h : b.toNat < 33 ∨ 126 < b.toNat) : bytesB l = false := by
  rw [Bool.eq_false_iff]
  intro e
  have := (bytesB_iff l).1 e b hb
  omega
set_option maxRecDepth 100000 in
set_option maxHeartbeats 400000 in
theorem hasBytes_any (l : List UInt8) (w : World) (hl : l.length ≤ 4000000000) :
    Calls Tryd.prog 82 #[.string ⟨l.toArray⟩] w fun e w' => e = .returned (.bool (bytesB l)) ∧ w = w' := by
  go_enter Tryd.func82, Tryd.ntmps82
  go_wp2_with fail
  go_loop [6] (fun i => ∃ k : Nat, k ≤ l.length ∧ i = .int .i64 k ∧ Hid (∀ b ∈ l.take k, 33 ≤ b.toNat ∧ b.toNat ≤ 126)) (fun i => l.length - (intOf i).toNat)
  case atStart => exact ⟨0, Nat.zero_le _, rfl, by simp [Hid]⟩
  case round =>
    obtain ⟨k, hk, rfl, hpre⟩ := hrel
    by_cases hlt : k < l.length
    · by_cases h1 : l[k].toNat < 33
      · have HB := Lib.hid (bytesB_bad (List.getElem_mem hlt) (.inl h1))
        have h1d : decide (((l[k].toNat : Nat) : Int) < 33) = true := by simp; omega
        go_wp2_with fail
        go_ret
        exact ⟨by rw [HB.out]; rfl, rfl⟩
      · have h1d : decide (((l[k].toNat : Nat) : Int) < 33) = false := by simp; omega
        by_cases h2 : 126 < l[k].toNat
        · have HB := Lib.hid (bytesB_bad (List.getElem_mem hlt) (.inr h2))
          have h2d : decide ((126 : Int) < ((l[k].toNat : Nat) : Int)) = true := by simp; omega
          go_wp2_with fail
          go_ret
          exact ⟨by rw [HB.out]; rfl, rfl⟩
        · have h2d : decide ((126 : Int) < ((l[k].toNat : Nat) : Int)) = false := by simp; omega
          have HN := Lib.hid (take_mem_succ (P := fun b => 33 ≤ b.toNat ∧ b.toNat ≤ 126) l k hlt hpre.out ⟨by omega, by omega⟩)
          go_wp2_with fail
          go_round
          case rel => exact ⟨k + 1, by omega, by go_num, HN⟩
          case measure => simp [intOf]; omega
    · obtain rfl : k = l.length := by omega
      have HB := Lib.hid (show bytesB l = true from (bytesB_iff l).2 (by have := hpre.out; rwa [List.take_of_length_le (Nat.le_refl _)] at this))
      go_wp2_with fail
      go_ret
      exact ⟨by rw [HB.out]; rfl, rfl⟩

theorem nameB_of {l : List UInt8} (h1 : 1 ≤ l.length) (h2 : l.length ≤ 40) : nameB l = bytesB l := by
  unfold nameB bytesB
  rw [decide_eq_true h1, decide_eq_true h2]
  rfl
set_option maxRecDepth 100000 in
set_option maxHeartbeats 400000 in
theorem areNames_any (l : List (List UInt8)) (A : Option Addr) (c : Nat) (w : World) (hr : Rf sv w w.heap.size A c l) :
    Calls Tryd.prog 77 #[.slice A l.length c] w fun e w' => e = .returned (.bool (l.all nameB)) ∧ w = w' := by
  go_enter Tryd.func77, Tryd.ntmps77
  go_wp2_with fail
  go_loop [7] (fun i => ∃ k : Nat, k ≤ l.length ∧ i = .int .i64 k ∧ Hid (∀ y ∈ l.take k, nameB y = true)) (fun i => l.length - (intOf i).toNat)
  case atStart => exact ⟨0, Nat.zero_le _, rfl, by simp [Hid]⟩
  case round =>
    obtain ⟨k, hk, rfl, hpre⟩ := hrel
    have hcm := hr.capm
    have hcp := hr.cap
    unfold maxLen at hcm
    by_cases hlt : k < l.length
    · obtain ⟨b, o, rfl, hbb, hc⟩ := hr.at_ hlt
      have hcx := hc k hlt
      have hm := List.getElem_mem hlt
      have hs := fun h => take_mem_succ (P := fun y => nameB y = true) l k hlt hpre.out h
      obtain ⟨x, hx⟩ : ∃ x, x = l[k] := ⟨_, rfl⟩
      rw [← hx] at hcx hm hs
      unfold sv at hcx
      have HS := Lib.hid hs
      have HF := Lib.hid (show nameB x = false → l.all nameB = false from fun h => by
        rw [Bool.eq_false_iff]
        intro e
        have := List.all_eq_true.1 e x hm
        rw [h] at this
        cases this)
      clear hc hx hs hm
      by_cases h1 : x.length < 1
      · have HB := Lib.hid (HF.out (nameB_size (.inl h1)))
        have h1i : (x.length : Int) < 1 := by omega
        have h1d : decide ((x.length : Int) < 1) = true := by simp; omega
        clear h1
        go_wp2_with fail
        go_ret
        exact ⟨by rw [HB.out]; rfl, rfl⟩
      · have h1d : decide ((x.length : Int) < 1) = false := by simp; omega
        by_cases h2 : 40 < x.length
        · have HB := Lib.hid (HF.out (nameB_size (.inr h2)))
          have h2d : decide ((40 : Int) < (x.length : Int)) = true := by simp; omega
          clear h1 h2
          go_wp2_with fail
          go_ret
          exact ⟨by rw [HB.out]; rfl, rfl⟩
        · have h2d : decide ((40 : Int) < (x.length : Int)) = false := by simp; omega
          have HNB := Lib.hid (nameB_of (l := x) (by omega) (by omega))
          have hxl : x.length ≤ 4000000000 := by omega
          clear h1 h2
          cases hbx : bytesB x with
          | false =>
            have HX := Lib.hid hbx
            have HB := Lib.hid (HF.out (by rw [HNB.out]; exact hbx))
            clear hbx
            go_wp2_with fail
            refine (hasBytes_any x _ hxl).mono ?_
            rintro e w1 ⟨rfl, rfl⟩
            rw [HX.out]
            go_wp2_with fail
            go_ret
            exact ⟨by rw [HB.out]; rfl, rfl⟩
          | true =>
            have HX := Lib.hid hbx
            have HN := Lib.hid (HS.out (by rw [HNB.out]; exact hbx))
            clear hbx
            go_wp2_with fail
            refine (hasBytes_any x _ hxl).mono ?_
            rintro e w1 ⟨rfl, rfl⟩
            rw [HX.out]
            go_wp2_with fail
            go_round
            case rel => exact ⟨k + 1, by omega, by go_num, HN⟩
            case measure => simp [intOf]; omega
    · obtain rfl : k = l.length := by omega
      have HB := Lib.hid (show l.all nameB = true from List.all_eq_true.2 (by have := hpre.out; rwa [List.take_of_length_le (Nat.le_refl _)] at this))
      go_wp2_with fail
      go_ret
      exact ⟨by rw [HB.out]; rfl, rfl⟩

/-- slices.Index. -/
def indexM (l : List (List UInt8)) (y : List UInt8) : Int := if y ∈ l then ((l.idxOf y : Nat) : Int) else -1
set_option maxRecDepth 100000 in
set_option maxHeartbeats 400000 in
theorem index_any (l : List (List UInt8)) (y : List UInt8) (n : Nat) (hn : n = l.length) (A : Option Addr) (c : Nat) (w : World) (hr : Rf sv w w.heap.size A c l) :
    Calls Tryd.prog 84 #[.slice A n c, .string ⟨y.toArray⟩] w fun e w' => e = .returned (.int .i64 (indexM l y)) ∧ w = w' := by
  subst hn
  go_enter Tryd.func84, Tryd.ntmps84
  go_wp2_with fail
  go_loop [8] (fun i => ∃ k : Nat, k ≤ l.length ∧ i = .int .i64 k ∧ Hid (∀ t, t < k → l[t]? ≠ some y)) (fun i => l.length - (intOf i).toNat)
  case atStart => exact ⟨0, Nat.zero_le _, rfl, fun t ht => absurd ht (Nat.not_lt_zero t)⟩
  case round =>
    obtain ⟨k, hk, rfl, hpre⟩ := hrel
    have hcm := hr.capm
    have hcp := hr.cap
    unfold maxLen at hcm
    by_cases hlt : k < l.length
    · obtain ⟨b, o, rfl, hbb, hcc⟩ := hr.at_ hlt
      have hcx := hcc k hlt
      obtain ⟨z, hz⟩ : ∃ z, z = l[k] := ⟨_, rfl⟩
      have HZ := Lib.hid (show l[k]? = some z by rw [List.getElem?_eq_getElem hlt, hz])
      rw [← hz] at hcx
      unfold sv at hcx
      clear hcc hz
      by_cases he : y = z
      · have hbe : (y == z) = true := by rw [beq_iff_eq]; exact he
        have HB := Lib.hid (show indexM l y = ((k : Nat) : Int) by
          have h := HZ.out
          rw [← he] at h
          unfold indexM
          rw [if_pos (List.mem_of_getElem? h), idxOf_at l k hlt y (by rw [List.getElem?_eq_getElem hlt] at h; exact Option.some.inj h) hpre.out])
        clear he hpre
        go_wp2_with fail
        go_ret
        exact ⟨by rw [HB.out] <;> rfl, rfl⟩
      · have hbe : (y == z) = false := by rw [beq_eq_false_iff_ne]; exact he
        have HN := Lib.hid (show ∀ t, t < k + 1 → l[t]? ≠ some y from fun t ht => by
          by_cases e : t = k
          · subst e; rw [HZ.out]; intro e; exact he (Option.some.inj e).symm
          · exact hpre.out t (by omega))
        clear he hpre
        go_wp2_with fail
        go_round
        case rel => exact ⟨k + 1, by omega, by go_num, HN⟩
        case measure => simp [intOf]; omega
    · obtain rfl : k = l.length := by omega
      have HB := Lib.hid (show indexM l y = -1 by
        unfold indexM
        rw [if_neg]
        intro hm
        obtain ⟨j, hj, e⟩ := List.getElem_of_mem hm
        exact hpre.out j hj (by rw [← e]; exact List.getElem?_eq_getElem hj))
      clear hpre
      go_wp2_with fail
      go_ret
      exact ⟨by rw [HB.out] <;> rfl, rfl⟩

theorem contains_any (l : List (List UInt8)) (y : List UInt8) (n : Nat) (hn : n = l.length) (A : Option Addr) (c : Nat) (w : World) (hr : Rf sv w w.heap.size A c l) :
    Calls Tryd.prog 83 #[.slice A n c, .string ⟨y.toArray⟩] w fun e w' => e = .returned (.bool (decide (y ∈ l))) ∧ w = w' := by
  subst hn
  by_cases h : y ∈ l
  · have HB := Lib.hid (show decide (y ∈ l) = true from decide_eq_true h)
    obtain ⟨k, hk⟩ : ∃ k : Nat, indexM l y = k := ⟨l.idxOf y, by unfold indexM; rw [if_pos h]⟩
    have HK := Lib.hid hk
    clear h hk
    go_enter Tryd.func83, Tryd.ntmps83
    go_wp2_with fail
    refine (index_any l y _ rfl A c _ hr).mono ?_
    rintro e w1 ⟨rfl, rfl⟩
    rw [HK.out]
    go_wp2_with fail
    go_ret
    exact ⟨by rw [HB.out]; simp, rfl⟩
  · have HB := Lib.hid (show decide (y ∈ l) = false from decide_eq_false h)
    have HK := Lib.hid (show indexM l y = -1 by unfold indexM; rw [if_neg h])
    clear h
    go_enter Tryd.func83, Tryd.ntmps83
    go_wp2_with fail
    refine (index_any l y _ rfl A c _ hr).mono ?_
    rintro e w1 ⟨rfl, rfl⟩
    rw [HK.out]
    go_wp2_with fail
    go_ret
    exact ⟨by rw [HB.out]; rfl, rfl⟩

theorem distinct_false {l : List (List UInt8)} {k : Nat} (h : k < l.length) (hm : l[k] ∈ l.take k) : distinctB l = false := by
  rw [Bool.eq_false_iff]
  intro e
  obtain ⟨j, hj, he⟩ := List.getElem_of_mem hm
  have hj' : j < k := by simp at hj; omega
  refine not_nodup hj' h ?_ ((distinctB_iff l).1 e)
  rw [List.getElem?_eq_getElem (by omega), ← he, List.getElem_take]
theorem nodup_more {l : List (List UInt8)} {k : Nat} (h : k < l.length) (hd : (l.take k).Nodup) (hm : l[k] ∉ l.take k) : (l.take (k + 1)).Nodup :=
  nodup_snoc h hd fun j hj e => hm (by
    rw [List.getElem?_eq_getElem (by omega)] at e
    have := Option.some.inj e
    rw [← this]
    rw [show l[j] = (l.take k)[j]'(by simp; omega) by rw [List.getElem_take]]
    exact List.getElem_mem _)
set_option maxRecDepth 100000 in
set_option maxHeartbeats 400000 in
theorem areDistinct_any (l : List (List UInt8)) (A : Option Addr) (c : Nat) (w : World) (hr : Rf sv w w.heap.size A c l) :
    Calls Tryd.prog 78 #[.slice A l.length c] w fun e w' => e = .returned (.bool (distinctB l)) ∧ w = w' := by
  go_enter Tryd.func78, Tryd.ntmps78
  go_wp2_with fail
  go_loop [7] (fun i => ∃ k : Nat, k ≤ l.length ∧ i = .int .i64 k ∧ Hid ((l.take k).Nodup)) (fun i => l.length - (intOf i).toNat)
  case atStart => exact ⟨0, Nat.zero_le _, rfl, by simp [Hid]⟩
  case round =>
    obtain ⟨k, hk, rfl, hpre⟩ := hrel
    have hcm := hr.capm
    have hcp := hr.cap
    unfold maxLen at hcm
    by_cases hlt : k < l.length
    · obtain ⟨b, o, rfl, hbb, hcc⟩ := hr.at_ hlt
      have hcx := hcc k hlt
      have HD := Lib.hid (distinct_false hlt)
      have HM := Lib.hid (nodup_more hlt hpre.out)
      have HT := Lib.hid (fun wx (e : w = wx) => contains_any (l.take k) (l[k]) k (by rw [List.length_take]; omega) (some ⟨b, o, none⟩) c wx (e ▸ hr.take k))
      obtain ⟨z, hz⟩ : ∃ z, z = l[k] := ⟨_, rfl⟩
      rw [← hz] at hcx HD HM HT
      unfold sv at hcx
      clear hcc hz
      by_cases he : z ∈ l.take k
      · have HE := Lib.hid (decide_eq_true he)
        have HB := Lib.hid (HD.out he)
        clear he hpre
        go_wp2_with fail
        refine (HT.out _ rfl).mono ?_
        rintro e w1 ⟨rfl, rfl⟩
        rw [HE.out]
        go_wp2_with fail
        go_ret
        exact ⟨by rw [HB.out] <;> rfl, rfl⟩
      · have HE := Lib.hid (decide_eq_false he)
        have HN := Lib.hid (HM.out he)
        clear he hpre
        go_wp2_with fail
        refine (HT.out _ rfl).mono ?_
        rintro e w1 ⟨rfl, rfl⟩
        rw [HE.out]
        go_wp2_with fail
        go_round
        case rel => exact ⟨k + 1, by omega, by go_num, HN⟩
        case measure => simp [intOf]; omega
    · obtain rfl : k = l.length := by omega
      have HB := Lib.hid (show distinctB l = true from (distinctB_iff l).2 (by have := hpre.out; rwa [List.take_of_length_le (Nat.le_refl _)] at this))
      clear hpre
      go_wp2_with fail
      go_ret
      exact ⟨by rw [HB.out] <;> rfl, rfl⟩
end Go.Proofs.YtikhffdbjelanaaDoor
namespace Go.Proofs.YtikhffdbjelanaaDoor
open Go.RowKit
set_option linter.unusedVariables false

theorem valid_most {x : Ct} (h10 : x.cands.length ≤ 10) (hn : nameB x.name = true) (h1 : 1 ≤ x.cands.length) (ha : x.cands.all nameB = true) (hd : distinctB x.cands = true) (hr : ruleB x.rule = true) (hs : 1 ≤ x.seats) :
    mayB x = decide (x.seats ≤ mostSeatsM x.rule x.cands.length) := by
  unfold mayB
  rw [hn, ha, hd, hr, decide_eq_true h1, decide_eq_true h10, decide_eq_true hs]
  simp only [Bool.true_and]
  unfold seatsB mostSeatsM
  cases ho : oneB x.rule with
  | true => simp only [if_true]; rw [Bool.eq_iff_iff]; simp; omega
  | false =>
    cases hl : listsB x.rule with
    | true => simp
    | false => simp only [Bool.false_eq_true, if_false, Bool.false_or]; rw [Bool.eq_iff_iff]; simp; omega

/-- Behind the first k operations of a region that draws its order the rest only reads: one walk in the order of the text. -/
theorem wpAny_quiet_rest {P : Program} {L : List Oper} {Q : Exit → Act → World → Prop} {a : Act} {w : World} {listed : Array Bool} {fuel : Nat} (k : Nat) (hs : Region.noSelect L.toArray = true) (hf : fuel = (L.drop k).length)
    (hB : Region.lexFrom .any L.toArray (L.drop k).length k listed = true)
    (h : wpQuiet P L.toArray (fun w' => ∃ n, w' = w.drewN n) (fun a' => ∀ w', (∃ n, w' = w.drewN n) → Q .normal a' w') (L.drop k) a) : wpAny P .any L.toArray Q fuel listed a w := by
  subst hf
  refine wpAny_of_quiet (C := fun w' => ∃ n, w' = w.drewN n) (Q := fun a' => ∀ w', (∃ n, w' = w.drewN n) → Q .normal a' w') (fun _ w' hw' h => h w' hw') _ _ _ _ ⟨0, rfl⟩ ?_
  exact wpAnyQ_lex hs (L.drop k) k listed a (fun j => by simp [List.getElem?_drop]) hB h
theorem quiet_add7 {P : Program} {f : FuncId} {args : Array Value} {w : World} {n : Nat} {v : Value} (h : Calls P f args (w.drewN (1 + n)) fun e w' => e = .returned v ∧ w.drewN (1 + n) = w') : Calls P f args (w.drewN (1 + n)) fun e w'' => e = .returned v ∧ ∃ m, w'' = w.drewN (1 + m) :=
  h.mono fun _ _ ⟨he, hm⟩ => ⟨he, n, hm.symm⟩

theorem Rf.one_drew {n : List UInt8} (w : World) (e g : Nat) (hg : g = w.heap.size) : Rf sv (w.alloc (.cells #[sv n] e)) (w.alloc (.cells #[sv n] e)).heap.size (some ⟨g, 0, none⟩) 1 [n] := by
  subst hg
  exact (rf_one (f := sv) (w := w) n e).more (by simp)

set_option maxRecDepth 100000 in
set_option maxHeartbeats 4000000 in
theorem isValid_walk (n : List UInt8) (l : List (List UInt8)) (s : Int) (r : Nat) (A : Option Addr) (c : Nat) (w : World) (b1 b2 b3 b4 : Bool) (m : Int) (hrule : r ≤ 255) (hseats : -9223372036854775808 ≤ s ∧ s ≤ 9223372036854775807) (h10 : l.length ≤ 10)
    (C1 : ∀ q, Calls Tryd.prog 77 #[(.slice (some ⟨w.heap.size + 1, 0, none⟩) 1 1)] ((((w.alloc (.cells #[.string ⟨n.toArray⟩, .slice A l.length c, .int .i64 s, .int .u8 r] 102)).alloc (.cells #[.string ⟨n.toArray⟩] 9))).drewN q) fun e w' => e = .returned (.bool b1) ∧ (((w.alloc (.cells #[.string ⟨n.toArray⟩, .slice A l.length c, .int .i64 s, .int .u8 r] 102)).alloc (.cells #[.string ⟨n.toArray⟩] 9))).drewN q = w')
    (C2 : b1 = true → 0 < l.length → ∀ q, Calls Tryd.prog 77 #[.slice A l.length c] ((((w.alloc (.cells #[.string ⟨n.toArray⟩, .slice A l.length c, .int .i64 s, .int .u8 r] 102)).alloc (.cells #[.string ⟨n.toArray⟩] 9))).drewN q) fun e w' => e = .returned (.bool b2) ∧ (((w.alloc (.cells #[.string ⟨n.toArray⟩, .slice A l.length c, .int .i64 s, .int .u8 r] 102)).alloc (.cells #[.string ⟨n.toArray⟩] 9))).drewN q = w')
    (C3 : b1 = true → 0 < l.length → b2 = true → ∀ q, Calls Tryd.prog 78 #[.slice A l.length c] ((((w.alloc (.cells #[.string ⟨n.toArray⟩, .slice A l.length c, .int .i64 s, .int .u8 r] 102)).alloc (.cells #[.string ⟨n.toArray⟩] 9))).drewN q) fun e w' => e = .returned (.bool b3) ∧ (((w.alloc (.cells #[.string ⟨n.toArray⟩, .slice A l.length c, .int .i64 s, .int .u8 r] 102)).alloc (.cells #[.string ⟨n.toArray⟩] 9))).drewN q = w')
    (C4 : b1 = true → 0 < l.length → b2 = true → b3 = true → ∀ q, Calls Tryd.prog 79 #[.int .u8 r] ((((w.alloc (.cells #[.string ⟨n.toArray⟩, .slice A l.length c, .int .i64 s, .int .u8 r] 102)).alloc (.cells #[.string ⟨n.toArray⟩] 9))).drewN q) fun e w' => e = .returned (.bool b4) ∧ (((w.alloc (.cells #[.string ⟨n.toArray⟩, .slice A l.length c, .int .i64 s, .int .u8 r] 102)).alloc (.cells #[.string ⟨n.toArray⟩] 9))).drewN q = w')
    (C5 : b1 = true → 0 < l.length → b2 = true → b3 = true → b4 = true → ∀ q, Calls Tryd.prog 80 #[.int .u8 r, .int .i64 l.length] ((((w.alloc (.cells #[.string ⟨n.toArray⟩, .slice A l.length c, .int .i64 s, .int .u8 r] 102)).alloc (.cells #[.string ⟨n.toArray⟩] 9))).drewN q) fun e w' => e = .returned (.int .i64 m) ∧ (((w.alloc (.cells #[.string ⟨n.toArray⟩, .slice A l.length c, .int .i64 s, .int .u8 r] 102)).alloc (.cells #[.string ⟨n.toArray⟩] 9))).drewN q = w')
    : Calls Tryd.prog 73 #[.agg #[.string ⟨n.toArray⟩, .slice A l.length c, .int .i64 s, .int .u8 r]] w fun e w' => e = .returned (.bool (b1 && (decide (0 < l.length) && (b2 && (b3 && (b4 && (decide (1 ≤ s) && decide (s ≤ m)))))))) ∧ Below w.heap.size w w' := by
  have hbw : Below w.heap.size w (((w.alloc (.cells #[.string ⟨n.toArray⟩, .slice A l.length c, .int .i64 s, .int .u8 r] 102)).alloc (.cells #[.string ⟨n.toArray⟩] 9))) := ((below_new w _).trans ((below_new (w.alloc (.cells #[.string ⟨n.toArray⟩, .slice A l.length c, .int .i64 s, .int .u8 r] 102)) _).mono (by simp)))
  have HBW := Lib.hid (fun q => hbw.trans (below_drewN w.heap.size (((w.alloc (.cells #[.string ⟨n.toArray⟩, .slice A l.length c, .int .i64 s, .int .u8 r] 102)).alloc (.cells #[.string ⟨n.toArray⟩] 9))) q))
  clear hbw
  cases b1 with
  | false =>
    have D1 := Lib.hid C1
    clear C1 C2 C3 C4 C5
    go_enter Tryd.func73, Tryd.ntmps73
    go_wp2_with fail
    refine wp_region_any (by kernel_rfl) ?_
    change wpAny _ _ _ _ _ _ _ (World.drew _)
    refine wpAny_ready (rs := [0]) (by kernel_rfl) (by simp) (AllReady.cons rfl (fun K hK => ?_) AllReady.nil)
    go_simp
    refine hK _ _ ?_
    clear hK K
    refine wpAny_ready (rs := [1]) (by kernel_rfl) (by simp) (AllReady.cons rfl (fun K hK => ?_) AllReady.nil)
    go_simp
    refine hK _ _ ?_
    clear hK K
    refine wpAny_ready (rs := [2]) (by kernel_rfl) (by simp) (AllReady.cons rfl (fun K hK => ?_) AllReady.nil)
    go_simp
    refine hK _ _ ?_
    clear hK K
    refine wpAny_quiet_rest 3 (by kernel_rfl) (by kernel_rfl) (by kernel_rfl) ?_
    simp only [List.drop_succ_cons, List.drop_zero]
    repeat (go_big_quiet_step ((go_at_call 77; (with_reducible exact quiet_add7 (D1.out _)))))
    refine wpQuiet_nil ?_
    intro _ hw'
    obtain ⟨nq, hw''⟩ := hw'
    subst hw''
    go_wp2_with fail
    go_ret
    exact ⟨by simp, by first | exact HBW.out (1 + nq) | exact (HBW.out 1).trans (below_drewN _ _ nq)⟩
  | true =>
    have D1 := Lib.hid C1
    have C2 := C2 rfl
    have C3 := C3 rfl
    have C4 := C4 rfl
    have C5 := C5 rfl
    clear C1
    by_cases h0 : 0 < l.length
    case neg =>
      have h0d : decide ((0 : Int) < (l.length : Int)) = false := decide_eq_false (by omega)
      have h0e : decide (0 < l.length) = false := decide_eq_false h0
      have HV := Lib.hid (show decide (0 < l.length) = false from decide_eq_false h0)
      clear C2 C3 C4 C5 h0
      go_enter Tryd.func73, Tryd.ntmps73
      go_wp2_with fail
      refine wp_region_any (by kernel_rfl) ?_
      change wpAny _ _ _ _ _ _ _ (World.drew _)
      refine wpAny_ready (rs := [0]) (by kernel_rfl) (by simp) (AllReady.cons rfl (fun K hK => ?_) AllReady.nil)
      go_simp
      refine hK _ _ ?_
      clear hK K
      refine wpAny_ready (rs := [1]) (by kernel_rfl) (by simp) (AllReady.cons rfl (fun K hK => ?_) AllReady.nil)
      go_simp
      refine hK _ _ ?_
      clear hK K
      refine wpAny_ready (rs := [2]) (by kernel_rfl) (by simp) (AllReady.cons rfl (fun K hK => ?_) AllReady.nil)
      go_simp
      refine hK _ _ ?_
      clear hK K
      refine wpAny_quiet_rest 3 (by kernel_rfl) (by kernel_rfl) (by kernel_rfl) ?_
      simp only [List.drop_succ_cons, List.drop_zero]
      repeat (go_big_quiet_step ((go_at_call 77; (with_reducible exact quiet_add7 (D1.out _)))))
      refine wpQuiet_nil ?_
      intro _ hw'
      obtain ⟨nq, hw''⟩ := hw'
      subst hw''
      go_wp2_with fail
      go_ret
      exact ⟨by simp [HV.out] <;> rfl, by first | exact HBW.out (1 + nq) | exact (HBW.out 1).trans (below_drewN _ _ nq)⟩
    have h0d : decide ((0 : Int) < (l.length : Int)) = true := decide_eq_true (by omega)
    have h0e : decide (0 < l.length) = true := decide_eq_true h0
    have HV0 := Lib.hid (show decide (0 < l.length) = true from decide_eq_true h0)
    have C2 := C2 h0
    have C3 := C3 h0
    have C4 := C4 h0
    have C5 := C5 h0
    clear h0
    have D2 := Lib.hid C2
    clear C2
    cases b2 with
    | false =>
      clear C3 C4 C5
      have HV := HV0
      go_enter Tryd.func73, Tryd.ntmps73
      go_wp2_with fail
      refine wp_region_any (by kernel_rfl) ?_
      change wpAny _ _ _ _ _ _ _ (World.drew _)
      refine wpAny_ready (rs := [0]) (by kernel_rfl) (by simp) (AllReady.cons rfl (fun K hK => ?_) AllReady.nil)
      go_simp
      refine hK _ _ ?_
      clear hK K
      refine wpAny_ready (rs := [1]) (by kernel_rfl) (by simp) (AllReady.cons rfl (fun K hK => ?_) AllReady.nil)
      go_simp
      refine hK _ _ ?_
      clear hK K
      refine wpAny_ready (rs := [2]) (by kernel_rfl) (by simp) (AllReady.cons rfl (fun K hK => ?_) AllReady.nil)
      go_simp
      refine hK _ _ ?_
      clear hK K
      refine wpAny_quiet_rest 3 (by kernel_rfl) (by kernel_rfl) (by kernel_rfl) ?_
      simp only [List.drop_succ_cons, List.drop_zero]
      repeat (go_big_quiet_step (first | (go_at_call 77; (with_reducible exact quiet_add7 (D1.out _))) | (go_at_call 77; (with_reducible exact quiet_add7 (D2.out _)))))
      refine wpQuiet_nil ?_
      intro _ hw'
      obtain ⟨nq, hw''⟩ := hw'
      subst hw''
      go_wp2_with fail
      go_ret
      exact ⟨by simp [HV.out] <;> rfl, by first | exact HBW.out (1 + nq) | exact (HBW.out 1).trans (below_drewN _ _ nq)⟩
    | true =>
      have C3 := C3 rfl
      have C4 := C4 rfl
      have C5 := C5 rfl
      have D3 := Lib.hid C3
      clear C3
      cases b3 with
      | false =>
        clear C4 C5
        have HV := HV0
        go_enter Tryd.func73, Tryd.ntmps73
        go_wp2_with fail
        refine wp_region_any (by kernel_rfl) ?_
        change wpAny _ _ _ _ _ _ _ (World.drew _)
        refine wpAny_ready (rs := [0]) (by kernel_rfl) (by simp) (AllReady.cons rfl (fun K hK => ?_) AllReady.nil)
        go_simp
        refine hK _ _ ?_
        clear hK K
        refine wpAny_ready (rs := [1]) (by kernel_rfl) (by simp) (AllReady.cons rfl (fun K hK => ?_) AllReady.nil)
        go_simp
        refine hK _ _ ?_
        clear hK K
        refine wpAny_ready (rs := [2]) (by kernel_rfl) (by simp) (AllReady.cons rfl (fun K hK => ?_) AllReady.nil)
        go_simp
        refine hK _ _ ?_
        clear hK K
        refine wpAny_quiet_rest 3 (by kernel_rfl) (by kernel_rfl) (by kernel_rfl) ?_
        simp only [List.drop_succ_cons, List.drop_zero]
        repeat (go_big_quiet_step (first | (go_at_call 77; (with_reducible exact quiet_add7 (D1.out _))) | (go_at_call 77; (with_reducible exact quiet_add7 (D2.out _))) | (go_at_call 78; (with_reducible exact quiet_add7 (D3.out _)))))
        refine wpQuiet_nil ?_
        intro _ hw'
        obtain ⟨nq, hw''⟩ := hw'
        subst hw''
        go_wp2_with fail
        go_ret
        exact ⟨by simp [HV.out] <;> rfl, by first | exact HBW.out (1 + nq) | exact (HBW.out 1).trans (below_drewN _ _ nq)⟩
      | true =>
        have C4 := C4 rfl
        have C5 := C5 rfl
        have D4 := Lib.hid C4
        clear C4
        cases b4 with
        | false =>
          clear C5
          have HV := HV0
          go_enter Tryd.func73, Tryd.ntmps73
          go_wp2_with fail
          refine wp_region_any (by kernel_rfl) ?_
          change wpAny _ _ _ _ _ _ _ (World.drew _)
          refine wpAny_ready (rs := [0]) (by kernel_rfl) (by simp) (AllReady.cons rfl (fun K hK => ?_) AllReady.nil)
          go_simp
          refine hK _ _ ?_
          clear hK K
          refine wpAny_ready (rs := [1]) (by kernel_rfl) (by simp) (AllReady.cons rfl (fun K hK => ?_) AllReady.nil)
          go_simp
          refine hK _ _ ?_
          clear hK K
          refine wpAny_ready (rs := [2]) (by kernel_rfl) (by simp) (AllReady.cons rfl (fun K hK => ?_) AllReady.nil)
          go_simp
          refine hK _ _ ?_
          clear hK K
          refine wpAny_quiet_rest 3 (by kernel_rfl) (by kernel_rfl) (by kernel_rfl) ?_
          simp only [List.drop_succ_cons, List.drop_zero]
          repeat (go_big_quiet_step (first | (go_at_call 77; (with_reducible exact quiet_add7 (D1.out _))) | (go_at_call 77; (with_reducible exact quiet_add7 (D2.out _))) | (go_at_call 78; (with_reducible exact quiet_add7 (D3.out _))) | (go_at_call 79; (with_reducible exact quiet_add7 (D4.out _)))))
          refine wpQuiet_nil ?_
          intro _ hw'
          obtain ⟨nq, hw''⟩ := hw'
          subst hw''
          go_wp2_with fail
          go_ret
          exact ⟨by simp [HV.out] <;> rfl, by first | exact HBW.out (1 + nq) | exact (HBW.out 1).trans (below_drewN _ _ nq)⟩
        | true =>
          have C5 := C5 rfl
          have D5 := Lib.hid C5
          clear C5
          by_cases h1 : 1 ≤ s
          case neg =>
            have h1d : decide ((1 : Int) ≤ s) = false := decide_eq_false h1
            have HV := Lib.hid (show decide (0 < l.length) = true ∧ decide (1 ≤ s) = false from ⟨HV0.out, decide_eq_false h1⟩)
            clear h1
            go_enter Tryd.func73, Tryd.ntmps73
            go_wp2_with fail
            refine wp_region_any (by kernel_rfl) ?_
            change wpAny _ _ _ _ _ _ _ (World.drew _)
            refine wpAny_ready (rs := [0]) (by kernel_rfl) (by simp) (AllReady.cons rfl (fun K hK => ?_) AllReady.nil)
            go_simp
            refine hK _ _ ?_
            clear hK K
            refine wpAny_ready (rs := [1]) (by kernel_rfl) (by simp) (AllReady.cons rfl (fun K hK => ?_) AllReady.nil)
            go_simp
            refine hK _ _ ?_
            clear hK K
            refine wpAny_ready (rs := [2]) (by kernel_rfl) (by simp) (AllReady.cons rfl (fun K hK => ?_) AllReady.nil)
            go_simp
            refine hK _ _ ?_
            clear hK K
            refine wpAny_quiet_rest 3 (by kernel_rfl) (by kernel_rfl) (by kernel_rfl) ?_
            simp only [List.drop_succ_cons, List.drop_zero]
            repeat (go_big_quiet_step (first | (go_at_call 77; (with_reducible exact quiet_add7 (D1.out _))) | (go_at_call 77; (with_reducible exact quiet_add7 (D2.out _))) | (go_at_call 78; (with_reducible exact quiet_add7 (D3.out _))) | (go_at_call 79; (with_reducible exact quiet_add7 (D4.out _)))))
            refine wpQuiet_nil ?_
            intro _ hw'
            obtain ⟨nq, hw''⟩ := hw'
            subst hw''
            go_wp2_with fail
            go_ret
            exact ⟨by simp [HV.out] <;> rfl, by first | exact HBW.out (1 + nq) | exact (HBW.out 1).trans (below_drewN _ _ nq)⟩
          have h1d : decide ((1 : Int) ≤ s) = true := decide_eq_true h1
          have HV := Lib.hid (show decide (0 < l.length) = true ∧ decide (1 ≤ s) = true from ⟨HV0.out, decide_eq_true h1⟩)
          clear h1
          go_enter Tryd.func73, Tryd.ntmps73
          go_wp2_with fail
          refine wp_region_any (by kernel_rfl) ?_
          change wpAny _ _ _ _ _ _ _ (World.drew _)
          refine wpAny_ready (rs := [0]) (by kernel_rfl) (by simp) (AllReady.cons rfl (fun K hK => ?_) AllReady.nil)
          go_simp
          refine hK _ _ ?_
          clear hK K
          refine wpAny_ready (rs := [1]) (by kernel_rfl) (by simp) (AllReady.cons rfl (fun K hK => ?_) AllReady.nil)
          go_simp
          refine hK _ _ ?_
          clear hK K
          refine wpAny_ready (rs := [2]) (by kernel_rfl) (by simp) (AllReady.cons rfl (fun K hK => ?_) AllReady.nil)
          go_simp
          refine hK _ _ ?_
          clear hK K
          refine wpAny_quiet_rest 3 (by kernel_rfl) (by kernel_rfl) (by kernel_rfl) ?_
          simp only [List.drop_succ_cons, List.drop_zero]
          repeat (go_big_quiet_step (first | (go_at_call 77; (with_reducible exact quiet_add7 (D1.out _))) | (go_at_call 77; (with_reducible exact quiet_add7 (D2.out _))) | (go_at_call 78; (with_reducible exact quiet_add7 (D3.out _))) | (go_at_call 79; (with_reducible exact quiet_add7 (D4.out _))) | (go_at_call 80; (with_reducible exact quiet_add7 (D5.out _)))))
          refine wpQuiet_nil ?_
          intro _ hw'
          obtain ⟨nq, hw''⟩ := hw'
          subst hw''
          go_wp2_with fail
          go_ret
          exact ⟨by simp [HV.out] <;> rfl, by first | exact HBW.out (1 + nq) | exact (HBW.out 1).trans (below_drewN _ _ nq)⟩

set_option maxRecDepth 100000 in
set_option maxHeartbeats 1000000 in
theorem isValid_any (x : Ct) (A : Option Addr) (c : Nat) (w : World) (hc : CtOk w A c x) (h10 : x.cands.length ≤ 10) (hT : Tab w) :
    Calls Tryd.prog 73 #[cv A c x] w fun e w' => e = .returned (.bool (mayB x)) ∧ Below w.heap.size w w' := by
  have hb0 : Below w.heap.size w (((w.alloc (.cells (cvs A c x) 102)).alloc (.cells #[.string ⟨x.name.toArray⟩] 9))) := ((below_new w _).trans ((below_new (w.alloc (.cells (cvs A c x) 102)) _).mono (by simp)))
  have hrd := fun q => (hc.below (hb0.trans (below_drewN w.heap.size _ q))).rd
  have hT2 := fun q => hT.below (Nat.le_refl _) (hb0.trans (below_drewN w.heap.size _ q))
  have h1 := fun q => (Rf.one_drew (n := x.name) (w.alloc (.cells (cvs A c x) 102)) 9 (w.heap.size + 1) (by rw [World.size_alloc])).drewN q
  have key := isValid_walk x.name x.cands x.seats x.rule A c w (nameB x.name) (x.cands.all nameB) (distinctB x.cands) (ruleB x.rule) (mostSeatsM x.rule x.cands.length) hc.rule hc.seats h10
    (fun q => by
      have h := areNames_any [x.name] (some ⟨w.heap.size + 1, 0, none⟩) 1 _ (h1 q)
      rw [show [x.name].all nameB = nameB x.name by simp] at h
      exact h)
    (fun _ _ q => areNames_any x.cands A c _ (hrd q)) (fun _ _ _ q => areDistinct_any x.cands A c _ (hrd q)) (fun _ _ _ _ q => isRule_any x.rule _ hc.rule)
    (fun _ _ _ _ hr q => mostSeats_any x.rule x.cands.length _ hr (WalkArith.wf_i64 (by omega)) (hT2 q))
  refine key.mono ?_
  rintro e w' ⟨rfl, hb⟩
  refine ⟨?_, hb⟩
  congr 2
  cases hn : nameB x.name with
  | false => unfold mayB; rw [hn]; rfl
  | true =>
    by_cases h0 : 1 ≤ x.cands.length
    case neg => unfold mayB; rw [hn, decide_eq_false h0, decide_eq_false (show ¬ 0 < x.cands.length by omega)]; rfl
    rw [decide_eq_true (show 0 < x.cands.length by omega)]
    cases ha : x.cands.all nameB with
    | false => unfold mayB; rw [ha]; simp
    | true =>
      cases hd : distinctB x.cands with
      | false => unfold mayB; rw [hd]; simp
      | true =>
        cases hr : ruleB x.rule with
        | false => unfold mayB; rw [hr]; simp
        | true =>
          by_cases h1 : 1 ≤ x.seats
          case neg => unfold mayB; rw [decide_eq_false h1]; simp
          rw [valid_most h10 hn h0 ha hd hr h1, decide_eq_true h1]
          simp
end Go.Proofs.YtikhffdbjelanaaDoor
namespace Go.Proofs.YtikhffdbjelanaaDoor
open Go.RowKit
set_option linter.unusedVariables false

set_option maxRecDepth 100000 in
set_option maxHeartbeats 400000 in
theorem check_any (x : Ct) (A : Option Addr) (c : Nat) (w : World) (hc : CtOk w A c x) (hT : Tab w) :
    Calls Tryd.prog 64 #[cv A c x] w fun e w' => e = .returned (.int .i64 (checkM x)) ∧ Below w.heap.size w w' := by
  have HM := Lib.hid (fun (h10 : x.cands.length ≤ 10) wx (hb : Below w.heap.size w wx) => isValid_any x A c wx (hc.below hb) h10 (hT.below (Nat.le_refl _) hb))
  have hbw := fun (o : Obj) => below_new w o
  clear hc hT
  by_cases h1 : 10 < x.cands.length
  · have h1d : decide ((10 : Int) < (x.cands.length : Int)) = true := by simp; omega
    have HC := Lib.hid (show checkM x = 4 by unfold checkM; rw [if_pos h1])
    clear h1
    unfold cv cvs
    go_enter Tryd.func64, Tryd.ntmps64
    go_wp2_with fail
    go_ret
    exact ⟨by rw [HC.out] <;> rfl, hbw _⟩
  · have h1d : decide ((10 : Int) < (x.cands.length : Int)) = false := by simp; omega
    have HM := Lib.hid (HM.out (by omega))
    cases hm : mayB x with
    | true =>
      have HB := Lib.hid hm
      have HC := Lib.hid (show checkM x = 0 by unfold checkM; rw [if_neg h1, if_pos hm])
      clear h1 hm
      unfold cv cvs
      go_enter Tryd.func64, Tryd.ntmps64
      go_wp2_with fail
      refine (HM.out _ (hbw _)).mono ?_
      rintro e w1 ⟨rfl, hb⟩
      rw [HB.out]
      go_wp2_with fail
      go_ret
      exact ⟨by rw [HC.out] <;> rfl, (hbw _).trans (hb.mono (hbw _).size)⟩
    | false =>
      have HB := Lib.hid hm
      have HC := Lib.hid (show checkM x = 8 by unfold checkM; rw [if_neg h1, hm]; rfl)
      clear h1 hm
      unfold cv cvs
      go_enter Tryd.func64, Tryd.ntmps64
      go_wp2_with fail
      refine (HM.out _ (hbw _)).mono ?_
      rintro e w1 ⟨rfl, hb⟩
      rw [HB.out]
      go_wp2_with fail
      go_ret
      exact ⟨by rw [HC.out] <;> rfl, (hbw _).trans (hb.mono (hbw _).size)⟩

end Go.Proofs.YtikhffdbjelanaaDoor
namespace Go.Proofs.YtikhffdbjelanaaDoor
open Go.RowKit
set_option linter.unusedVariables false

theorem elv_one (x : Oc.El) : (Oc.El.v x).oneCell' = true := rfl
theorem slInfo : (Tryd.prog.info? 37).map (fun i => (i.zero, i.size, i.bytes)) = some (some (.slice none 0 0), 1, 24) := by kernel_rfl
theorem slInfo_parts : ∃ i, Tryd.prog.info? 37 = some i ∧ i.zero = some (.slice none 0 0) ∧ i.size = 1 ∧ i.bytes = 24 := by
  have h := slInfo
  cases hi : Tryd.prog.info? 37 with
  | none => rw [hi] at h; cases h
  | some i => rw [hi] at h; simp at h; exact ⟨i, rfl, h.1, h.2.1, h.2.2⟩

/-- An element reads, and does not lie in the block of the list. -/
def Fine (w : World) (A : Option Addr) (x : Oc.El) : Prop := Rf bv w w.heap.size x.A x.c x.l ∧ ∀ g, blk x.A = some g → g < w.heap.size ∧ blk A ≠ some g
theorem Fine.grown {w w' : World} {A A' : Option Addr} {x : Oc.El} (h : Fine w A x) (hg : w.grownBy w' (blk A)) (hb : blk A' = blk A ∨ blk A' = some w.heap.size) : Fine w' A' x := by
  refine ⟨(h.1.grown hg (Nat.le_refl _) (fun hp e => ?_)).more hg.size, fun g hx => ?_⟩
  · have hA : x.A ≠ none := fun e2 => by have := h.1.nil e2; have := h.1.cap; omega
    obtain ⟨ad, had⟩ := Option.ne_none_iff_exists'.1 hA
    exact (h.2 ad.block (by rw [had]; rfl)).2 (by rw [← e, had]; rfl)
  · obtain ⟨h1, h2⟩ := h.2 g hx
    refine ⟨Nat.lt_of_lt_of_le h1 hg.size, fun e => ?_⟩
    rcases hb with hb | hb
    · exact h2 (by rw [← hb]; exact e)
    · rw [hb] at e
      have := Option.some.inj e
      omega
theorem Fine.below {w w' : World} {A : Option Addr} {x : Oc.El} (h : Fine w A x) (hb : Below w.heap.size w w') : Fine w' A x :=
  ⟨(h.1.below hb).more hb.size, fun g hx => ⟨Nat.lt_of_lt_of_le (h.2 g hx).1 hb.size, (h.2 g hx).2⟩⟩
/-- A list of byte strings is appended to. -/
theorem fine_step {W W6 w8 : World} {A A8 : Option Addr} {c base cy : Nat} {xs ys : List Oc.El} {l : List UInt8}
    (ho : Ow Oc.El.v W base 37 A c xs) (hel : ∀ x ∈ xs, Fine W A x) (hb6 : Below W.heap.size W W6) (hs6 : W6.heap.size = W.heap.size + 1) (hy : Rf bv W6 (W.heap.size + 1) (some ⟨W.heap.size, 0, none⟩) cy l)
    (hys : ys = xs ++ [⟨some ⟨W.heap.size, 0, none⟩, cy, l⟩]) (hg : (W6.alloc (.cells #[Oc.El.v ⟨some ⟨W.heap.size, 0, none⟩, cy, l⟩] 37)).grownBy w8 (blk A)) (hb : blk A8 = blk A ∨ blk A8 = some (W6.alloc (.cells #[Oc.El.v ⟨some ⟨W.heap.size, 0, none⟩, cy, l⟩] 37)).heap.size) :
    ∀ x ∈ ys, Fine w8 A8 x := by
  intro x hx
  rw [hys] at hx
  have hnew := below_new W6 (.cells #[Oc.El.v ⟨some ⟨W.heap.size, 0, none⟩, cy, l⟩] 37)
  rcases List.mem_append.1 hx with h | h
  · exact (((hel x h).below hb6).below hnew).grown hg hb
  · obtain rfl := List.mem_singleton.1 h
    refine Fine.grown (Fine.below (w := W6) ⟨hy.more (by rw [hs6]; exact Nat.le_refl _), fun g hg' => ?_⟩ hnew) hg hb
    have e : W.heap.size = g := by simpa [blk] using hg'
    subst e
    refine ⟨by omega, fun e => ?_⟩
    have := (ho.blk_ge W.heap.size e).2
    omega
theorem rdl_of_fine {w : World} {base c : Nat} {A : Option Addr} {xs : List Oc.El} (ho : Ow Oc.El.v w base 37 A c xs) (hel : ∀ x ∈ xs, Fine w A x) : Oc.RdL w w.heap.size A c xs :=
  ⟨ho.rd.cap, ho.rd.capm, ho.rd.nil, ho.rd.cell, fun x hx => (hel x hx).1.toRd⟩
theorem byts_snoc (xs : List Oc.El) (y : Oc.El) : Oc.byts (xs ++ [y]) = Oc.byts xs ++ [y.l] := by simp [Oc.byts]

end Go.Proofs.YtikhffdbjelanaaDoor
