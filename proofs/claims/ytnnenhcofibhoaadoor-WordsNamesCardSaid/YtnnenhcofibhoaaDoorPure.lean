/- Lines and words of bytes, as plain functions. No program is named here. -/
import Derived.Lib.IndexMore
namespace Go.Proofs.YtnnenhcofibhoaaDoor

/-- The pieces between the bytes c. -/
def splitC (c : UInt8) : List UInt8 → List (List UInt8)
  | [] => [[]]
  | b :: r => if b = c then [] :: splitC c r else
      match splitC c r with
      | [] => [[b]]
      | x :: xs => (b :: x) :: xs

theorem splitC_ne (c : UInt8) (l : List UInt8) : splitC c l ≠ [] := by
  cases l with
  | nil => simp [splitC]
  | cons b r =>
    unfold splitC
    split
    · simp
    · split <;> simp
theorem splitC_one {c : UInt8} : ∀ {x : List UInt8}, c ∉ x → splitC c x = [x]
  | [], _ => rfl
  | b :: r, h => by
    have hb : ¬ b = c := fun e => h (by simp [e])
    have ih := splitC_one (c := c) (x := r) (fun hr => h (List.mem_cons_of_mem _ hr))
    unfold splitC
    rw [if_neg hb, ih]
theorem splitC_cut {c : UInt8} (r : List UInt8) : ∀ {x : List UInt8}, c ∉ x → splitC c (x ++ c :: r) = x :: splitC c r
  | [], _ => by simp [splitC]
  | b :: t, h => by
    have hb : ¬ b = c := fun e => h (by simp [e])
    have ih := splitC_cut (c := c) r (x := t) (fun hr => h (List.mem_cons_of_mem _ hr))
    rw [List.cons_append, splitC, if_neg hb, ih]
theorem splitC_no (c : UInt8) : ∀ (l x : List UInt8), x ∈ splitC c l → c ∉ x
  | [], x, h => by simp [splitC] at h; simp [h]
  | b :: r, x, h => by
    have ih := splitC_no c r
    unfold splitC at h
    by_cases hb : b = c
    · rw [if_pos hb] at h
      rcases List.mem_cons.1 h with e | h
      · simp [e]
      · exact ih x h
    · rw [if_neg hb] at h
      cases hs : splitC c r with
      | nil => exact absurd hs (splitC_ne c r)
      | cons y ys =>
        rw [hs] at h ih
        rcases List.mem_cons.1 h with e | h
        · rw [e]
          intro hc
          rcases List.mem_cons.1 hc with e2 | h2
          · exact hb e2.symm
          · exact ih y (by simp) h2
        · exact ih x (List.mem_cons_of_mem _ h)
theorem splitC_last {c : UInt8} : ∀ {l : List UInt8}, (splitC c l).getLast? = some [] ↔ l = [] ∨ l.getLast? = some c
  | [] => by simp [splitC]
  | b :: r => by
    have ih := splitC_last (c := c) (l := r)
    unfold splitC
    by_cases hb : b = c
    · rw [if_pos hb]
      cases hs : splitC c r with
      | nil => exact absurd hs (splitC_ne c r)
      | cons y ys =>
        rw [hs] at ih
        rw [List.getLast?_cons_cons, ih]
        cases r with
        | nil => simp [hb]
        | cons d t => simp [List.getLast?_cons_cons]
    · rw [if_neg hb]
      cases hs : splitC c r with
      | nil => exact absurd hs (splitC_ne c r)
      | cons y ys =>
        rw [hs] at ih
        cases ys with
        | nil =>
          cases r with
          | nil => simp [hb]
          | cons d t =>
            simp only [List.getLast?_singleton, Option.some.injEq, reduceCtorEq, false_or, List.getLast?_cons_cons] at ih ⊢
            constructor
            · intro h; cases h
            · intro h
              have := ih.2 h
              subst this
              have h2 : splitC c (d :: t) = [[]] := hs
              unfold splitC at h2
              split at h2
              · have h3 := (List.cons.inj h2).2
                exact absurd h3 (splitC_ne c t)
              · cases hs2 : splitC c t with
                | nil => exact absurd hs2 (splitC_ne c t)
                | cons p q => rw [hs2] at h2; simp at h2
        | cons z zs =>
          cases r with
          | nil => simp [splitC] at hs
          | cons d t => simpa [List.getLast?_cons_cons] using ih

/-- The text of lines. -/
def flatL : List (List UInt8) → List UInt8
  | [] => []
  | x :: xs => x ++ 10 :: flatL xs
theorem flatL_snoc (xs : List (List UInt8)) (x : List UInt8) : flatL (xs ++ [x]) = flatL xs ++ x ++ [10] := by
  induction xs with
  | nil => simp [flatL]
  | cons y ys ih => simp [flatL, ih]
theorem flatL_split : ∀ {xs : List (List UInt8)}, (∀ x ∈ xs, (10 : UInt8) ∉ x) → splitC 10 (flatL xs) = xs ++ [[]]
  | [], _ => rfl
  | x :: xs, h => by
    rw [flatL, splitC_cut _ (h x (by simp)), flatL_split fun y hy => h y (List.mem_cons_of_mem _ hy), List.cons_append]
theorem flatL_count : ∀ {xs : List (List UInt8)}, (∀ x ∈ xs, (10 : UInt8) ∉ x) → (flatL xs).count 10 = xs.length
  | [], _ => rfl
  | x :: xs, h => by
    rw [flatL, List.count_append, List.count_cons, List.count_eq_zero.2 (h x (by simp)), flatL_count fun y hy => h y (List.mem_cons_of_mem _ hy)]
    simp
theorem flatL_count_ge : ∀ (xs : List (List UInt8)), xs.length ≤ (flatL xs).count 10
  | [] => Nat.le_refl _
  | x :: xs => by
    have := flatL_count_ge xs
    rw [flatL, List.count_append, List.count_cons]
    simp
    omega
theorem flatL_count_gt : ∀ {xs : List (List UInt8)}, (∃ x ∈ xs, (10 : UInt8) ∈ x) → xs.length < (flatL xs).count 10
  | [], h => by obtain ⟨x, hx, _⟩ := h; cases hx
  | y :: ys, h => by
    obtain ⟨x, hx, h10⟩ := h
    rw [flatL, List.count_append, List.count_cons]
    rcases List.mem_cons.1 hx with e | hx
    · subst e
      have := List.count_pos_iff.2 h10
      have := flatL_count_ge ys
      simp
      omega
    · have := flatL_count_gt ⟨x, hx, h10⟩
      simp
      omega
theorem flatL_of_split {c : UInt8} (hc : c = 10) : ∀ {s : List UInt8} {ls : List (List UInt8)}, splitC c s = ls ++ [[]] → s = flatL ls
  | [], ls, h => by
    have : ls = [] := by
      simp [splitC] at h
      cases ls with
      | nil => rfl
      | cons y ys => simp at h
    rw [this, flatL]
  | b :: r, ls, h => by
    unfold splitC at h
    by_cases hb : b = c
    · rw [if_pos hb] at h
      cases ls with
      | nil => simp at h; exact absurd h (splitC_ne c r)
      | cons y ys =>
        rw [List.cons_append] at h
        obtain ⟨e1, e2⟩ := List.cons.inj h
        rw [← e1, flatL, ← flatL_of_split hc e2, hb, hc]
        rfl
    · rw [if_neg hb] at h
      cases hs : splitC c r with
      | nil => exact absurd hs (splitC_ne c r)
      | cons y ys =>
        rw [hs] at h
        cases ls with
        | nil => simp at h
        | cons z zs =>
          rw [List.cons_append] at h
          obtain ⟨e1, e2⟩ := List.cons.inj h
          have h3 : splitC c r = (y :: zs) ++ [[]] := by rw [hs, e2]; rfl
          rw [← e1, flatL, flatL_of_split hc h3, flatL]
          rfl

/-- P2.1: Lines. -/
def linesM (s : List UInt8) : List (List UInt8) × Int :=
  if 16384 < s.length ∨ 512 < s.count 10 then ([], 4) else if (splitC 10 s).getLast? = some [] then ((splitC 10 s).dropLast, 0) else ([], 11)
theorem linesM_big {s : List UInt8} (h : 16384 < s.length ∨ 512 < s.count 10) : linesM s = ([], 4) := by unfold linesM; rw [if_pos h]
theorem linesM_done {s : List UInt8} {ls : List (List UInt8)} (h : ¬ (16384 < s.length ∨ 512 < s.count 10)) (hs : splitC 10 s = ls ++ [[]]) : linesM s = (ls, 0) := by
  unfold linesM
  rw [if_neg h, hs, if_pos (by simp)]
  simp
theorem linesM_stuck {s r : List UInt8} {ls : List (List UInt8)} (h : ¬ (16384 < s.length ∨ 512 < s.count 10)) (hs : splitC 10 s = ls ++ [r]) (hr : r ≠ []) : linesM s = ([], 11) := by
  unfold linesM
  rw [if_neg h, hs, if_neg (by simpa using hr)]
theorem linesM_form {s : List UInt8} (h : ¬ (16384 < s.length ∨ 512 < s.count 10)) (h1 : s ≠ []) (h2 : s.getLast? ≠ some 10) : linesM s = ([], 11) := by
  unfold linesM
  rw [if_neg h, if_neg (by rw [splitC_last]; simp [h1, h2])]

/-- P2.1: Text. -/
def textM (xs : List (List UInt8)) : List UInt8 × Int :=
  if 512 < xs.length ∨ 16384 < (flatL xs).length then ([], 4) else if xs.any (fun x => x.contains 10) then ([], 11) else (flatL xs, 0)
theorem textM_big {xs : List (List UInt8)} (h : 512 < xs.length ∨ 16384 < (flatL xs).length) : textM xs = ([], 4) := by unfold textM; rw [if_pos h]
theorem textM_bad {xs : List (List UInt8)} (h : ¬ (512 < xs.length ∨ 16384 < (flatL xs).length)) (hb : ∃ x ∈ xs, (10 : UInt8) ∈ x) : textM xs = ([], 11) := by
  unfold textM
  rw [if_neg h, if_pos (by simpa using hb)]
theorem textM_good {xs : List (List UInt8)} (h : ¬ (512 < xs.length ∨ 16384 < (flatL xs).length)) (hb : ∀ x ∈ xs, (10 : UInt8) ∉ x) : textM xs = (flatL xs, 0) := by
  unfold textM
  rw [if_neg h, if_neg (by simpa using hb)]
theorem textM_cases (xs : List (List UInt8)) : ((512 < xs.length ∨ 16384 < (flatL xs).length) ∧ textM xs = ([], 4)) ∨ (¬ (512 < xs.length ∨ 16384 < (flatL xs).length) ∧ (∃ x ∈ xs, (10 : UInt8) ∈ x) ∧ textM xs = ([], 11)) ∨
    (¬ (512 < xs.length ∨ 16384 < (flatL xs).length) ∧ (∀ x ∈ xs, (10 : UInt8) ∉ x) ∧ textM xs = (flatL xs, 0)) := by
  by_cases h : 512 < xs.length ∨ 16384 < (flatL xs).length
  · exact .inl ⟨h, textM_big h⟩
  · by_cases hb : ∃ x ∈ xs, (10 : UInt8) ∈ x
    · exact .inr (.inl ⟨h, hb, textM_bad h hb⟩)
    · have hb' : ∀ x ∈ xs, (10 : UInt8) ∉ x := fun x hx h10 => hb ⟨x, hx, h10⟩
      exact .inr (.inr ⟨h, hb', textM_good h hb'⟩)
theorem linesM_cases (s : List UInt8) : linesM s = ([], 4) ∨ linesM s = ([], 11) ∨ ∃ ls, linesM s = (ls, 0) ∧ s = flatL ls ∧ (∀ x ∈ ls, (10 : UInt8) ∉ x) ∧ ¬ (16384 < s.length ∨ 512 < s.count 10) := by
  by_cases h : 16384 < s.length ∨ 512 < s.count 10
  · exact .inl (linesM_big h)
  · cases e : (splitC 10 s).getLast? with
    | none => exact absurd (List.getLast?_eq_none_iff.1 e) (splitC_ne 10 s)
    | some r =>
      obtain ⟨ls, hls⟩ := List.getLast?_eq_some_iff.1 e
      by_cases hr : r = []
      · subst hr
        refine .inr (.inr ⟨ls, linesM_done h hls, flatL_of_split rfl hls, fun x hx => splitC_no 10 s x (by rw [hls]; simp [hx]), h⟩)
      · exact .inr (.inl (linesM_stuck h hls hr))
/-- What was read as lines is written as it was. -/
theorem textM_linesM {s : List UInt8} {ls : List (List UInt8)} (h : linesM s = (ls, 0)) : textM ls = (s, 0) := by
  rcases linesM_cases s with e | e | ⟨ls', e, hs, hno, hb⟩
  · rw [e] at h; cases h
  · rw [e] at h; cases h
  · rw [e] at h
    cases h
    rw [hs] at hb ⊢
    rw [flatL_count hno] at hb
    exact textM_good (fun hh => hb hh.symm) hno
theorem linesM_textM {xs : List (List UInt8)} {t : List UInt8} (h : textM xs = (t, 0)) : linesM t = (xs, 0) := by
  rcases textM_cases xs with ⟨_, e⟩ | ⟨_, _, e⟩ | ⟨hb, hno, e⟩
  · rw [e] at h; cases h
  · rw [e] at h; cases h
  · rw [e] at h
    cases h
    exact linesM_done (by rw [flatL_count hno]; exact fun hh => hb hh.symm) (flatL_split hno)

/-- Not empty, and of bytes from lo to hi. -/
def isOfB (lo hi : Nat) (l : List UInt8) : Bool := !l.isEmpty && l.all fun b => decide (lo ≤ b.toNat) && decide (b.toNat ≤ hi)
def isWordB (l : List UInt8) : Bool := isOfB 33 126 l
def areWordsB (xs : List (List UInt8)) : Bool := xs.all isWordB
theorem isOfB_iff (lo hi : Nat) (l : List UInt8) : isOfB lo hi l = true ↔ l ≠ [] ∧ ∀ b ∈ l, lo ≤ b.toNat ∧ b.toNat ≤ hi := by
  unfold isOfB
  cases l <;> simp
theorem isOfB_bad {lo hi : Nat} {l : List UInt8} {b : UInt8} (hb : b ∈ l) (h : b.toNat < lo ∨ hi < b.toNat) : isOfB lo hi l = false := by
  cases e : isOfB lo hi l with
  | false => rfl
  | true => have := ((isOfB_iff lo hi l).1 e).2 b hb; omega
theorem isWordB_no {l : List UInt8} (h : isWordB l = true) {c : UInt8} (hc : c.toNat < 33) : c ∉ l := fun hm => by
  have := ((isOfB_iff 33 126 l).1 h).2 c hm
  omega
theorem isWordB_ne {l : List UInt8} (h : isWordB l = true) : l ≠ [] := ((isOfB_iff 33 126 l).1 h).1

/-- The line of words. -/
def joinW : List (List UInt8) → List UInt8
  | [] => []
  | [x] => x
  | x :: y :: r => x ++ 32 :: joinW (y :: r)
theorem joinW_snoc : ∀ (xs : List (List UInt8)) (x : List UInt8), joinW (xs ++ [x]) = if xs = [] then x else joinW xs ++ 32 :: x
  | [], x => rfl
  | [y], x => by simp [joinW]
  | y :: z :: r, x => by
    have ih := joinW_snoc (z :: r) x
    rw [if_neg (by simp)] at ih
    rw [if_neg (by simp)]
    have e : (y :: z :: r) ++ [x] = y :: z :: (r ++ [x]) := rfl
    rw [e, joinW, joinW]
    have e2 : z :: (r ++ [x]) = (z :: r) ++ [x] := rfl
    rw [e2, ih, List.append_assoc, List.cons_append]
theorem joinW_split : ∀ {xs : List (List UInt8)}, xs ≠ [] → (∀ x ∈ xs, (32 : UInt8) ∉ x) → splitC 32 (joinW xs) = xs
  | [], h, _ => absurd rfl h
  | [x], _, h => splitC_one (h x (by simp))
  | x :: y :: r, _, h => by
    rw [joinW, splitC_cut _ (h x (by simp)), joinW_split (by simp) fun z hz => h z (List.mem_cons_of_mem _ hz)]
theorem joinW_splitC : ∀ (s : List UInt8), joinW (splitC 32 s) = s
  | [] => rfl
  | b :: r => by
    have ih := joinW_splitC r
    unfold splitC
    by_cases hb : b = 32
    · rw [if_pos hb]
      cases hs : splitC 32 r with
      | nil => exact absurd hs (splitC_ne 32 r)
      | cons y ys =>
        rw [hs] at ih
        rw [joinW, ih, hb, List.nil_append]
    · rw [if_neg hb]
      cases hs : splitC 32 r with
      | nil => exact absurd hs (splitC_ne 32 r)
      | cons y ys =>
        rw [hs] at ih
        cases ys with
        | nil => simp only [joinW] at ih ⊢; rw [ih]
        | cons z zs => simp only [joinW] at ih ⊢; rw [List.cons_append, ih]

/-- P2.2: Words. -/
def wordsM (s : List UInt8) : List (List UInt8) × Int :=
  if 16384 < s.length then ([], 4) else if s = [] then ([], 0) else if areWordsB (splitC 32 s) then (splitC 32 s, 0) else ([], 11)
theorem wordsM_big {s : List UInt8} (h : 16384 < s.length) : wordsM s = ([], 4) := by unfold wordsM; rw [if_pos h]
theorem wordsM_nil : wordsM [] = ([], 0) := rfl
theorem wordsM_done {s : List UInt8} (h : ¬ 16384 < s.length) (hn : s ≠ []) {xs : List (List UInt8)} (hs : splitC 32 s = xs) (hw : ∀ x ∈ xs, isWordB x = true) : wordsM s = (xs, 0) := by
  subst hs
  unfold wordsM
  rw [if_neg h, if_neg hn, if_pos (by unfold areWordsB; rw [List.all_eq_true]; exact hw)]
theorem wordsM_bad {s : List UInt8} (h : ¬ 16384 < s.length) (hn : s ≠ []) {x : List UInt8} (hx : x ∈ splitC 32 s) (hw : isWordB x = false) : wordsM s = ([], 11) := by
  unfold wordsM
  rw [if_neg h, if_neg hn, if_neg]
  unfold areWordsB
  rw [List.all_eq_true]
  intro ha
  rw [ha x hx] at hw
  cases hw
/-- P2.2: Line. -/
def lineM (xs : List (List UInt8)) : List UInt8 × Int :=
  if areWordsB xs then (if 16384 < (joinW xs).length then ([], 4) else (joinW xs, 0)) else ([], 11)
theorem lineM_bad {xs : List (List UInt8)} {x : List UInt8} (hx : x ∈ xs) (hw : isWordB x = false) : lineM xs = ([], 11) := by
  unfold lineM
  rw [if_neg]
  unfold areWordsB
  rw [List.all_eq_true]
  intro ha
  rw [ha x hx] at hw
  cases hw
theorem lineM_big {xs : List (List UInt8)} (hw : ∀ x ∈ xs, isWordB x = true) (h : 16384 < (joinW xs).length) : lineM xs = ([], 4) := by
  unfold lineM
  rw [if_pos (by unfold areWordsB; rw [List.all_eq_true]; exact hw), if_pos h]
theorem lineM_good {xs : List (List UInt8)} (hw : ∀ x ∈ xs, isWordB x = true) (h : ¬ 16384 < (joinW xs).length) : lineM xs = (joinW xs, 0) := by
  unfold lineM
  rw [if_pos (by unfold areWordsB; rw [List.all_eq_true]; exact hw), if_neg h]
theorem wordsM_cases (s : List UInt8) : wordsM s = ([], 4) ∨ wordsM s = ([], 11) ∨ ∃ xs, wordsM s = (xs, 0) ∧ s = joinW xs ∧ (∀ x ∈ xs, isWordB x = true) ∧ ¬ 16384 < s.length := by
  by_cases h : 16384 < s.length
  · exact .inl (wordsM_big h)
  · by_cases hn : s = []
    · subst hn
      exact .inr (.inr ⟨[], rfl, rfl, (fun _ h => by cases h), h⟩)
    · by_cases hw : areWordsB (splitC 32 s) = true
      · have hw' : ∀ x ∈ splitC 32 s, isWordB x = true := by unfold areWordsB at hw; rw [List.all_eq_true] at hw; exact hw
        exact .inr (.inr ⟨_, wordsM_done h hn rfl hw', (joinW_splitC s).symm, hw', h⟩)
      · refine .inr (.inl ?_)
        unfold wordsM
        rw [if_neg h, if_neg hn, if_neg hw]
theorem lineM_cases (xs : List (List UInt8)) : lineM xs = ([], 4) ∨ lineM xs = ([], 11) ∨ (lineM xs = (joinW xs, 0) ∧ (∀ x ∈ xs, isWordB x = true) ∧ ¬ 16384 < (joinW xs).length) := by
  by_cases hw : areWordsB xs = true
  · have hw' : ∀ x ∈ xs, isWordB x = true := by unfold areWordsB at hw; rw [List.all_eq_true] at hw; exact hw
    by_cases h : 16384 < (joinW xs).length
    · exact .inl (lineM_big hw' h)
    · exact .inr (.inr ⟨lineM_good hw' h, hw', h⟩)
  · refine .inr (.inl ?_)
    unfold lineM
    rw [if_neg hw]
theorem lineM_wordsM {s : List UInt8} {xs : List (List UInt8)} (h : wordsM s = (xs, 0)) : lineM xs = (s, 0) := by
  rcases wordsM_cases s with e | e | ⟨ys, e, hs, hw, hb⟩
  · rw [e] at h; cases h
  · rw [e] at h; cases h
  · rw [e] at h
    cases h
    rw [hs] at hb ⊢
    exact lineM_good hw hb
theorem joinW_ne {xs : List (List UInt8)} (h : xs ≠ []) (hw : ∀ x ∈ xs, isWordB x = true) : joinW xs ≠ [] := by
  intro e
  have h1 := joinW_split h fun x hx => isWordB_no (hw x hx) (c := 32) (by decide)
  rw [e] at h1
  have : [] ∈ xs := by rw [← h1]; simp [splitC]
  exact isWordB_ne (hw _ this) rfl
theorem wordsM_lineM {xs : List (List UInt8)} {t : List UInt8} (h : lineM xs = (t, 0)) : wordsM t = (xs, 0) := by
  rcases lineM_cases xs with e | e | ⟨e, hw, hb⟩
  · rw [e] at h; cases h
  · rw [e] at h; cases h
  · rw [e] at h
    cases h
    cases xs with
    | nil => rfl
    | cons y ys => exact wordsM_done hb (joinW_ne (by simp) hw) (joinW_split (by simp) fun x hx => isWordB_no (hw x hx) (c := 32) (by decide)) hw
theorem wordsM_word {x : List UInt8} (h : isWordB x = true) (hl : ¬ 16384 < x.length) : wordsM x = ([x], 0) :=
  wordsM_done hl (isWordB_ne h) (splitC_one (isWordB_no h (c := 32) (by decide))) (fun y hy => by simp at hy; rw [hy]; exact h)

/-- A cut at one byte. -/
theorem indexByte_none {l : List UInt8} {c : UInt8} : Lib.indexByte l c = -1 ↔ c ∉ l := by
  induction l with
  | nil => simp [Lib.indexByte]
  | cons b r ih =>
    have hg := Lib.indexByte_ge r c
    unfold Lib.indexByte
    by_cases hb : b = c
    · subst hb; simp
    · have hb' : (b == c) = false := by simpa using hb
      have hb2 : ¬ c = b := fun e => hb e.symm
      rw [hb']
      by_cases hi : Lib.indexByte r c = -1
      · have := ih.1 hi
        simp [hi, hb2, this]
      · have : c ∈ r := by
          by_cases hm : c ∈ r
          · exact hm
          · exact absurd (ih.2 hm) hi
        simp [hi, this]
        omega
theorem indexByte_some : ∀ {l : List UInt8} {c : UInt8}, c ∈ l → ∃ x r, l = x ++ c :: r ∧ c ∉ x ∧ Lib.indexByte l c = x.length
  | [], c, h => by cases h
  | b :: t, c, h => by
    by_cases hb : b = c
    · subst hb
      exact ⟨[], t, rfl, by simp, by simp [Lib.indexByte]⟩
    · have hm : c ∈ t := by
        rcases List.mem_cons.1 h with e | h
        · exact absurd e.symm hb
        · exact h
      obtain ⟨x, r, e, hn, hi⟩ := indexByte_some hm
      have hb' : (b == c) = false := by simpa using hb
      have hb2 : ¬ c = b := fun e => hb e.symm
      refine ⟨b :: x, r, by rw [e]; rfl, by simp [hb2, hn], ?_⟩
      unfold Lib.indexByte
      rw [hb', hi]
      have : ((x.length : Int) == -1) = false := by rw [beq_eq_false_iff_ne]; omega
      rw [this]
      simp
theorem splitC_len (c : UInt8) : ∀ (l : List UInt8), (splitC c l).length ≤ l.length + 1
  | [] => by simp [splitC]
  | b :: r => by
    have ih := splitC_len c r
    unfold splitC
    split
    · simp; omega
    · split
      · simp
      · rename_i h; rw [h] at ih; simp at ih ⊢; omega
theorem linesM_len (s : List UInt8) : (linesM s).1.length ≤ s.length + 1 := by
  have h := splitC_len 10 s
  unfold linesM
  split
  · simp
  · split
    · simp; omega
    · simp
theorem wordsM_len (s : List UInt8) : (wordsM s).1.length ≤ s.length + 1 := by
  have h := splitC_len 32 s
  unfold wordsM
  split
  · simp
  · split
    · simp
    · split
      · exact h
      · simp
end Go.Proofs.YtnnenhcofibhoaaDoor
