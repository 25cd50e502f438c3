/- Integers in text, as plain functions. -/
import Derived.Test.YtnnenhcofibhoaaDoorPure
import Derived.Lib.ItoaNum
namespace Go.Proofs.YtnnenhcofibhoaaDoor

/-- The value of digits. -/
def valD (l : List UInt8) : Nat := l.foldl (fun n b => 10 * n + (b.toNat - 48)) 0
theorem valD_snoc (l : List UInt8) (b : UInt8) : valD (l ++ [b]) = 10 * valD l + (b.toNat - 48) := by
  unfold valD
  rw [List.foldl_append]
  rfl
theorem valD_mono (l m : List UInt8) : valD l ≤ valD (l ++ m) := by
  have h : ∀ (m : List UInt8) (l : List UInt8), valD l ≤ valD (l ++ m) := by
    intro m
    induction m with
    | nil => intro l; rw [List.append_nil]; exact Nat.le_refl _
    | cons b r ih =>
      intro l
      have h1 := ih (l ++ [b])
      rw [List.append_assoc, valD_snoc] at h1
      have e : l ++ ([b] ++ r) = l ++ b :: r := rfl
      rw [e] at h1
      omega
  exact h m l
theorem valD_take (l : List UInt8) (k : Nat) (h : k < l.length) : valD (l.take (k + 1)) = 10 * valD (l.take k) + (l[k].toNat - 48) := by
  rw [List.take_succ_eq_append_getElem h, valD_snoc]
theorem valD_take_le (l : List UInt8) (k : Nat) : valD (l.take k) ≤ valD l := by
  have := valD_mono (l.take k) (l.drop k)
  rwa [List.take_append_drop] at this
theorem valD_over (l : List UInt8) (k : Nat) (h : k < l.length) (hb : 461168601842738790 < valD (l.take k)) : 4611686018427387904 < valD l := by
  have h1 := valD_take l k h
  have h2 := valD_take_le l (k + 1)
  omega

/-- The decimal form of a natural number. -/
def isNatB (l : List UInt8) : Bool := l == [48] || (isOfB 48 57 l && l.head? != some 48)
theorem isNatB_zero : isNatB [48] = true := rfl
theorem isNatB_not {l : List UInt8} (h1 : l ≠ [48]) (h2 : isOfB 48 57 l = false ∨ l.head? = some 48) : isNatB l = false := by
  unfold isNatB
  have e : (l == [48]) = false := by simpa using h1
  rw [e]
  rcases h2 with h | h
  · rw [h]; rfl
  · rw [h]; simp
theorem isNatB_yes {l : List UInt8} (h1 : isOfB 48 57 l = true) (h2 : l.head? ≠ some 48) : isNatB l = true := by
  unfold isNatB
  have e : (l.head? != some 48) = true := by simpa using h2
  rw [h1, e]
  simp
theorem isNatB_digits {l : List UInt8} (h : isNatB l = true) : isOfB 48 57 l = true := by
  unfold isNatB at h
  simp only [Bool.or_eq_true, Bool.and_eq_true] at h
  rcases h with h | h
  · have : l = [48] := by simpa using h
    rw [this]; decide
  · exact h.1

/-- The sign and the digits. -/
def negB (l : List UInt8) : Bool := l.head? == some 45
def digD (l : List UInt8) : List UInt8 := if negB l then l.tail else l
theorem negB_cons (r : List UInt8) : negB (45 :: r) = true := rfl
theorem digD_cons (r : List UInt8) : digD (45 :: r) = r := rfl
theorem negB_no {l : List UInt8} (h : ¬ ∃ r, l = 45 :: r) : negB l = false := by
  unfold negB
  cases l with
  | nil => rfl
  | cons b r =>
    have hb : b ≠ 45 := fun e => h ⟨r, by rw [e]⟩
    simpa using hb
theorem digD_no {l : List UInt8} (h : ¬ ∃ r, l = 45 :: r) : digD l = l := by unfold digD; rw [negB_no h]; rfl

/-- P2.3: Number. -/
def numberM (l : List UInt8) : Int × Int :=
  if isNatB (digD l) = false ∨ (negB l = true ∧ digD l = [48]) then (0, 11)
  else if 4611686018427387904 < valD (digD l) then (0, 30) else (if negB l then -(valD (digD l) : Int) else valD (digD l), 0)
theorem numberM_form {l : List UInt8} (h : isNatB (digD l) = false ∨ (negB l = true ∧ digD l = [48])) : numberM l = (0, 11) := by unfold numberM; rw [if_pos h]
theorem numberM_great {l : List UInt8} (h1 : isNatB (digD l) = true) (h2 : ¬ (negB l = true ∧ digD l = [48])) (h : 4611686018427387904 < valD (digD l)) : numberM l = (0, 30) := by
  unfold numberM
  rw [if_neg (by rw [h1]; simpa using h2), if_pos h]
theorem numberM_good {l : List UInt8} (h1 : isNatB (digD l) = true) (h2 : ¬ (negB l = true ∧ digD l = [48])) (h : ¬ 4611686018427387904 < valD (digD l)) : numberM l = (if negB l then -(valD (digD l) : Int) else valD (digD l), 0) := by
  unfold numberM
  rw [if_neg (by rw [h1]; simpa using h2), if_neg h]

theorem decDigits_small {u : Nat} (h : u < 10) : Lib.decDigits u = [UInt8.ofNat (48 + u)] := by rw [Lib.decDigits, dif_pos h]
theorem decDigits_big {u : Nat} (h : ¬ u < 10) : Lib.decDigits u = Lib.decDigits (u / 10) ++ [UInt8.ofNat (48 + u % 10)] := by rw [Lib.decDigits, dif_neg h]
theorem dig_toNat {u : Nat} (h : u < 10) : (UInt8.ofNat (48 + u)).toNat = 48 + u := by rw [UInt8.toNat_ofNat']; omega
theorem decDigits_ne (u : Nat) : Lib.decDigits u ≠ [] := by
  by_cases h : u < 10
  · rw [decDigits_small h]; simp
  · rw [decDigits_big h]; simp
theorem valD_dec (u : Nat) : valD (Lib.decDigits u) = u := by
  induction u using Nat.strongRecOn with
  | _ u ih =>
    by_cases h : u < 10
    · rw [decDigits_small h]
      show 10 * 0 + ((UInt8.ofNat (48 + u)).toNat - 48) = u
      rw [dig_toNat h]
      omega
    · rw [decDigits_big h, valD_snoc, ih (u / 10) (by omega), dig_toNat (by omega)]
      omega
theorem isOf_dec (u : Nat) : ∀ b ∈ Lib.decDigits u, 48 ≤ b.toNat ∧ b.toNat ≤ 57 := by
  induction u using Nat.strongRecOn with
  | _ u ih =>
    by_cases h : u < 10
    · rw [decDigits_small h]
      intro b hb
      simp only [List.mem_singleton] at hb
      rw [hb, dig_toNat h]
      omega
    · rw [decDigits_big h]
      intro b hb
      rcases List.mem_append.1 hb with hb | hb
      · exact ih (u / 10) (by omega) b hb
      · simp only [List.mem_singleton] at hb
        rw [hb, dig_toNat (show u % 10 < 10 by omega)]
        omega
theorem head_app {l : List UInt8} (m : List UInt8) (h : l ≠ []) : (l ++ m).head? = l.head? := by
  cases l with
  | nil => exact absurd rfl h
  | cons a t => rfl
theorem head_dec (u : Nat) (hu : u ≠ 0) : (Lib.decDigits u).head? ≠ some 48 := by
  induction u using Nat.strongRecOn with
  | _ u ih =>
    by_cases h : u < 10
    · rw [decDigits_small h]
      intro e
      have e2 := congrArg UInt8.toNat (Option.some.inj e)
      rw [dig_toNat h] at e2
      have : (48 : UInt8).toNat = 48 := rfl
      omega
    · rw [decDigits_big h, head_app _ (decDigits_ne _)]
      exact ih (u / 10) (by omega) (by omega)
theorem isNatB_dec (u : Nat) : isNatB (Lib.decDigits u) = true := by
  by_cases hu : u = 0
  · subst hu
    rw [decDigits_small (by decide)]
    decide
  · exact isNatB_yes ((isOfB_iff 48 57 _).2 ⟨decDigits_ne u, isOf_dec u⟩) (head_dec u hu)
/-- The digits of a value are the digits. -/
theorem dec_valD : ∀ (n : Nat) (l : List UInt8), l.length = n → isNatB l = true → Lib.decDigits (valD l) = l := by
  intro n
  induction n with
  | zero =>
    intro l hl h
    have := List.eq_nil_of_length_eq_zero hl
    subst this
    exact absurd h (by decide)
  | succ n ih =>
    intro l hl h
    have hd := ((isOfB_iff 48 57 l).1 (isNatB_digits h)).2
    have hne : l ≠ [] := by intro e; rw [e] at hl; simp at hl
    obtain ⟨m, b, rfl⟩ : ∃ m b, l = m ++ [b] := ⟨l.dropLast, l.getLast hne, (List.dropLast_concat_getLast hne).symm⟩
    have hb := hd b (by simp)
    have eb : UInt8.ofNat (48 + (b.toNat - 48)) = b := by
      apply UInt8.toNat_inj.1
      rw [UInt8.toNat_ofNat']
      omega
    rw [valD_snoc]
    by_cases hm : m = []
    · subst hm
      have e0 : valD [] = 0 := rfl
      rw [e0, Nat.mul_zero, Nat.zero_add, decDigits_small (by omega), eb]
      rfl
    · have h48 : (m ++ [b]) ≠ [48] := by
        intro e
        cases m with
        | nil => exact hm rfl
        | cons x xs => simp at e
      have hnat : isNatB m = true := by
        unfold isNatB at h
        have e1 : ((m ++ [b]) == [48]) = false := by simpa using h48
        rw [e1] at h
        simp only [Bool.false_or, Bool.and_eq_true] at h
        rw [head_app _ hm] at h
        refine isNatB_yes ((isOfB_iff 48 57 m).2 ⟨hm, fun x hx => hd x (List.mem_append_left _ hx)⟩) (by simpa using h.2)
      have ihm := ih m (by simp at hl; omega) hnat
      have hpos : 1 ≤ valD m := by
        rcases Nat.eq_zero_or_pos (valD m) with e | e
        · exfalso
          rw [e, decDigits_small (by decide)] at ihm
          have hh : m.head? = some 48 := by rw [← ihm]; rfl
          unfold isNatB at h
          have e1 : ((m ++ [b]) == [48]) = false := by simpa using h48
          rw [e1] at h
          simp only [Bool.false_or, Bool.and_eq_true] at h
          rw [head_app _ hm, hh] at h
          simp at h
        · exact e
      rw [decDigits_big (by omega)]
      have e2 : (10 * valD m + (b.toNat - 48)) / 10 = valD m := by omega
      have e3 : (10 * valD m + (b.toNat - 48)) % 10 = b.toNat - 48 := by omega
      rw [e2, e3, ihm, eb]

theorem numberM_cases (l : List UInt8) : numberM l = (0, 11) ∨ numberM l = (0, 30) ∨ (isNatB (digD l) = true ∧ ¬ (negB l = true ∧ digD l = [48]) ∧ ¬ 4611686018427387904 < valD (digD l) ∧ numberM l = (if negB l then -(valD (digD l) : Int) else valD (digD l), 0)) := by
  by_cases h : isNatB (digD l) = false ∨ (negB l = true ∧ digD l = [48])
  · exact .inl (numberM_form h)
  · have h1 : isNatB (digD l) = true := by
      cases e : isNatB (digD l) with
      | true => rfl
      | false => exact absurd (.inl e) h
    have h2 : ¬ (negB l = true ∧ digD l = [48]) := fun hh => h (.inr hh)
    by_cases h3 : 4611686018427387904 < valD (digD l)
    · exact .inr (.inl (numberM_great h1 h2 h3))
    · exact .inr (.inr ⟨h1, h2, h3, numberM_good h1 h2 h3⟩)
theorem neg_form {l : List UInt8} (h : negB l = true) : l = 45 :: digD l := by
  unfold negB at h
  cases l with
  | nil => simp at h
  | cons b r =>
    have hb : b = 45 := by simpa using h
    subst hb
    rfl
/-- What was read as a number is shown as it was. -/
theorem show_number {l : List UInt8} {v : Int} (h : numberM l = (v, 0)) : Lib.itoa v = l := by
  rcases numberM_cases l with e | e | ⟨h1, h2, _, e⟩
  · rw [e] at h; cases h
  · rw [e] at h; cases h
  · rw [e] at h
    have hv := (Prod.mk.inj h).1
    have hdv := dec_valD _ (digD l) rfl h1
    cases hn : negB l with
    | false =>
      rw [hn] at hv
      simp only [Bool.false_eq_true, if_false] at hv
      unfold Lib.itoa
      rw [if_neg (by omega), ← hv]
      have : digD l = l := by unfold digD; rw [hn]; rfl
      rw [Int.toNat_natCast, hdv, this]
    | true =>
      rw [hn] at hv
      simp only [if_true] at hv
      have hpos : 0 < valD (digD l) := by
        rcases Nat.eq_zero_or_pos (valD (digD l)) with e0 | e0
        · exfalso
          rw [e0, decDigits_small (by decide)] at hdv
          exact h2 ⟨hn, hdv.symm⟩
        · exact e0
      unfold Lib.itoa
      rw [if_pos (by omega), ← hv]
      have : (-(valD (digD l) : Int)).natAbs = valD (digD l) := by omega
      rw [this, hdv]
      exact (neg_form hn).symm
theorem number_show (n : Int) : numberM (Lib.itoa n) = if n < -4611686018427387904 ∨ 4611686018427387904 < n then (0, 30) else (n, 0) := by
  by_cases hn : n < 0
  · have e : Lib.itoa n = 45 :: Lib.decDigits n.natAbs := by unfold Lib.itoa; rw [if_pos hn]
    rw [e]
    have h1 : isNatB (digD (45 :: Lib.decDigits n.natAbs)) = true := by rw [digD_cons]; exact isNatB_dec _
    have h2 : ¬ (negB (45 :: Lib.decDigits n.natAbs) = true ∧ digD (45 :: Lib.decDigits n.natAbs) = [48]) := by
      rintro ⟨_, h⟩
      rw [digD_cons] at h
      have h3 := head_dec n.natAbs (by omega)
      rw [h] at h3
      exact h3 rfl
    by_cases hb : 4611686018427387904 < n.natAbs
    · rw [numberM_great h1 h2 (by rw [digD_cons, valD_dec]; exact hb), if_pos (by omega)]
    · rw [numberM_good h1 h2 (by rw [digD_cons, valD_dec]; exact hb), negB_cons, digD_cons, valD_dec, if_pos rfl, if_neg (by omega)]
      congr 1
      omega
  · have e : Lib.itoa n = Lib.decDigits n.toNat := by unfold Lib.itoa; rw [if_neg hn]
    have hno : ¬ ∃ r, Lib.decDigits n.toNat = 45 :: r := by
      rintro ⟨r, hr⟩
      have := isOf_dec n.toNat 45 (by rw [hr]; simp)
      have h45 : (45 : UInt8).toNat = 45 := rfl
      omega
    rw [e]
    have h1 : isNatB (digD (Lib.decDigits n.toNat)) = true := by rw [digD_no hno]; exact isNatB_dec _
    have h2 : ¬ (negB (Lib.decDigits n.toNat) = true ∧ digD (Lib.decDigits n.toNat) = [48]) := by
      rw [negB_no hno]
      rintro ⟨h, _⟩
      cases h
    by_cases hb : 4611686018427387904 < n.toNat
    · rw [numberM_great h1 h2 (by rw [digD_no hno, valD_dec]; exact hb), if_pos (by omega)]
    · rw [numberM_good h1 h2 (by rw [digD_no hno, valD_dec]; exact hb), negB_no hno, digD_no hno, valD_dec, if_neg (by decide), if_neg (by omega)]
      congr 1
      omega
end Go.Proofs.YtnnenhcofibhoaaDoor
