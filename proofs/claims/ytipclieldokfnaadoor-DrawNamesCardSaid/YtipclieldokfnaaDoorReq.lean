/- What fair is asked for: lists of draw numbers and bounds in memory; the numbers drawn. -/
import Derived.Test.YtipclieldokfnaaDoorTries
import Derived.Test.YtipclieldokfnaaDoorNode
namespace Go.Proofs.YtipclieldokfnaaDoor
open Go.RowKit
set_option linter.unusedVariables false

def qv (n : Nat) : Value := .int .u64 n
theorem qv_one (n : Nat) : (qv n).oneCell' = true := rfl
def iv (n : Nat) : Value := .int .i64 n
theorem iv_one (n : Nat) : (iv n).oneCell' = true := rfl

/-- The number drawn. -/
def drawnM (s : List UInt8) (i n : Nat) : Option Nat := ((List.range 16).find? fun k => decide (tryM s i k ≤ lastM n)).map fun k => tryM s i k % n
theorem drawn_some {s : List UInt8} {i n m : Nat} (hm : m < 16) (hb : ∀ k, k < m → lastM n < tryM s i k) (h : tryM s i m ≤ lastM n) : drawnM s i n = some (tryM s i m % n) := by
  unfold drawnM
  have : (List.range 16).find? (fun k => decide (tryM s i k ≤ lastM n)) = some m := by
    rw [List.find?_range_eq_some]
    refine ⟨by simpa using h, by simpa using hm, fun j hj => by have := hb j hj; simp; omega⟩
  rw [this]; rfl
theorem drawn_none {s : List UInt8} {i n : Nat} (hb : ∀ k, k < 16 → lastM n < tryM s i k) : drawnM s i n = none := by
  unfold drawnM
  have : (List.range 16).find? (fun k => decide (tryM s i k ≤ lastM n)) = none := by
    rw [List.find?_eq_none]
    intro k hk
    have := hb k (by simpa using hk)
    simp; omega
  rw [this]; rfl
theorem drawn_lt {s : List UInt8} {i n v : Nat} (hn : 1 ≤ n) (h : drawnM s i n = some v) : v < n := by
  unfold drawnM at h
  cases he : (List.range 16).find? (fun k => decide (tryM s i k ≤ lastM n)) with
  | none => rw [he] at h; cases h
  | some k => rw [he] at h; simp at h; rw [← h]; exact Nat.mod_lt _ hn
/-- The numbers drawn, if each can be. -/
def numsM (s : List UInt8) : List (Nat × Nat) → Option (List Nat)
  | [] => some []
  | r :: rs => match drawnM s r.1 r.2, numsM s rs with | some x, some l => some (x :: l) | _, _ => none
theorem numsM_snoc (s : List UInt8) (r : Nat × Nat) : ∀ (rs : List (Nat × Nat)), numsM s (rs ++ [r]) = match numsM s rs, drawnM s r.1 r.2 with | some l, some x => some (l ++ [x]) | _, _ => none
  | [] => by
    simp only [List.nil_append, numsM]
    cases drawnM s r.1 r.2 <;> rfl
  | a :: rs => by
    rw [List.cons_append, numsM, numsM_snoc s r rs, numsM]
    cases drawnM s a.1 a.2 <;> cases numsM s rs <;> cases drawnM s r.1 r.2 <;> rfl
theorem numsM_len (s : List UInt8) : ∀ {rs : List (Nat × Nat)} {l : List Nat}, numsM s rs = some l → l.length = rs.length
  | [], l, h => by cases h; rfl
  | r :: rs, l, h => by
    rw [numsM] at h
    cases h1 : drawnM s r.1 r.2 with
    | none => rw [h1] at h; cases h
    | some x =>
      cases h2 : numsM s rs with
      | none => rw [h1, h2] at h; cases h
      | some m => rw [h1, h2] at h; cases h; simp [numsM_len s h2]
theorem numsM_get (s : List UInt8) : ∀ {rs : List (Nat × Nat)} {l : List Nat}, numsM s rs = some l → ∀ j (h : j < rs.length) (h' : j < l.length), drawnM s rs[j].1 rs[j].2 = some l[j]
  | [], l, h => fun j h => by simp at h
  | r :: rs, l, h => fun j hj hl => by
    rw [numsM] at h
    cases h1 : drawnM s r.1 r.2 with
    | none => rw [h1] at h; cases h
    | some x =>
      cases h2 : numsM s rs with
      | none => rw [h1, h2] at h; cases h
      | some m =>
        rw [h1, h2] at h; cases h
        cases j with
        | zero => simpa using h1
        | succ j => simpa using numsM_get s h2 j (by simpa using hj) (by simpa using hl)
theorem numsM_none (s : List UInt8) {rs : List (Nat × Nat)} {j : Nat} (hj : j < rs.length) (h : drawnM s rs[j].1 rs[j].2 = none) : numsM s rs = none := by
  induction rs generalizing j with
  | nil => simp at hj
  | cons r rs ih =>
    rw [numsM]
    cases j with
    | zero => simp at h; rw [h]
    | succ j =>
      simp at h
      rw [ih (by simpa using hj) h]
      cases drawnM s r.1 r.2 <;> rfl
def numsA (s : List UInt8) (rs : List (Nat × Nat)) : List Nat × Int := match numsM s rs with | some l => (l, 0) | none => ([], 6)

/-- The cells of a request. -/
def rq (r : Nat × Nat) : List Value := [.int .u32 r.1, .int .u64 r.2]
def rqs (rs : List (Nat × Nat)) : List Value := rs.flatMap rq
theorem rqs_len (rs : List (Nat × Nat)) : (rqs rs).length = rs.length * 2 := by
  induction rs with
  | nil => rfl
  | cons r rs ih => unfold rqs at ih ⊢; rw [List.flatMap_cons, List.length_append, ih, List.length_cons]; show 2 + _ = _; omega
theorem rqs_append (rs qs : List (Nat × Nat)) : rqs (rs ++ qs) = rqs rs ++ rqs qs := by unfold rqs; rw [List.flatMap_append]
theorem rqs_get : ∀ (rs : List (Nat × Nat)) (j : Nat) (h : j < rs.length), (rqs rs)[j * 2]? = some (.int .u32 (rs[j].1 : Nat)) ∧ (rqs rs)[j * 2 + 1]? = some (.int .u64 (rs[j].2 : Nat))
  | [], j, h => by simp at h
  | r :: rs, 0, h => ⟨rfl, rfl⟩
  | r :: rs, j + 1, h => by
    have := rqs_get rs j (by simpa using h)
    have e : rqs (r :: rs) = .int .u32 r.1 :: .int .u64 r.2 :: rqs rs := by unfold rqs; rw [List.flatMap_cons]; rfl
    rw [e, show (j + 1) * 2 = j * 2 + 1 + 1 by omega, show j * 2 + 1 + 1 + 1 = (j * 2 + 1) + 1 + 1 by omega]
    simpa using this
theorem rqs_one (rs : List (Nat × Nat)) : ∀ u ∈ rqs rs, u.oneCell' = true := by
  intro u hu
  obtain ⟨r, _, hr⟩ := List.mem_flatMap.1 hu
  unfold rq at hr
  simp at hr
  rcases hr with rfl | rfl <;> rfl

/-- A slice of requests reads so, below block B. -/
structure Rq (w : World) (B : Nat) (A : Option Addr) (c : Nat) (rs : List (Nat × Nat)) : Prop where
  cap : rs.length ≤ c
  capm : c ≤ maxLen
  nil : A = none → c = 0
  cell : ∀ ad, A = some ad → ∀ j (h : j < rs.length), ad.block < B ∧ w.cell? (ad.add (j * 2)) = some (.int .u32 (rs[j].1 : Nat)) ∧ w.cell? (ad.add (j * 2 + 1)) = some (.int .u64 (rs[j].2 : Nat))
section
variable {w w' : World} {B B' c : Nat} {A : Option Addr} {rs : List (Nat × Nat)}
theorem Rq.keep (h : Rq w B A c rs) (hk : ∀ p : Addr, p.block < B → w'.cell? p = w.cell? p) : Rq w' B A c rs :=
  ⟨h.cap, h.capm, h.nil, fun ad e j hj => ⟨(h.cell ad e j hj).1, (hk _ (by rw [add_block]; exact (h.cell ad e j hj).1)).trans (h.cell ad e j hj).2.1, (hk _ (by rw [add_block]; exact (h.cell ad e j hj).1)).trans (h.cell ad e j hj).2.2⟩⟩
theorem Rq.below (h : Rq w B A c rs) (hb : Below B w w') : Rq w' B A c rs := h.keep fun _ hp => hb.cell hp
theorem Rq.more (h : Rq w B A c rs) (hB : B ≤ B') : Rq w B' A c rs := ⟨h.cap, h.capm, h.nil, fun ad e j hj => ⟨Nat.lt_of_lt_of_le (h.cell ad e j hj).1 hB, (h.cell ad e j hj).2⟩⟩
theorem Rq.at_ (h : Rq w B A c rs) {k : Nat} (hk : k < rs.length) : ∃ b o, A = some ⟨b, o, none⟩ ∧ b < B ∧ ∀ j (hj : j < rs.length), w.cell? ⟨b, o + j * 2, none⟩ = some (.int .u32 (rs[j].1 : Nat)) ∧ w.cell? ⟨b, o + j * 2 + 1, none⟩ = some (.int .u64 (rs[j].2 : Nat)) := by
  have hA : A ≠ none := fun e => by have := h.nil e; have := h.cap; omega
  obtain ⟨ad, rfl⟩ := Option.ne_none_iff_exists'.1 hA
  have hc := h.cell ad rfl
  have hb := (hc 0 (by omega)).1
  obtain ⟨b, o, s⟩ := ad
  have h0 := (hc 0 (by omega)).2.1
  have hs : s = none := by
    have := World.cell?_spot h0
    simpa [Addr.add] using this
  subst hs
  refine ⟨b, o, rfl, hb, fun j hj => ?_⟩
  have := (hc j hj).2
  rw [add_plain, add_plain] at this
  exact this
end
/-- A slice of requests of the call's own. -/
def OwQ (w : World) (base : Nat) (A : Option Addr) (c : Nat) (rs : List (Nat × Nat)) : Prop := w.ownsRow base 68 2 (.slice A rs.length c) rs.length (rqs rs)
theorem OwQ.rd {w : World} {base c : Nat} {A : Option Addr} {rs : List (Nat × Nat)} (h : OwQ w base A c rs) : Rq w w.heap.size A c rs := by
  rcases h.2 with ⟨hv, hn⟩ | ⟨g, cap, cur, hv, hb, hg, hnc, hcm, hsz, hx⟩
  · simp only [Value.slice.injEq] at hv
    obtain ⟨rfl, _, rfl⟩ := hv
    exact ⟨by omega, by unfold maxLen; omega, (fun _ => rfl), (fun ad e => by cases e)⟩
  · simp only [Value.slice.injEq] at hv
    obtain ⟨rfl, _, rfl⟩ := hv
    refine ⟨hnc, hcm, (fun e => by cases e), fun ad e j hj => ?_⟩
    obtain rfl := Option.some.inj e
    have hlt : g < w.heap.size := (Array.getElem?_eq_some_iff.1 hg).1
    have hc : ∀ i v, (rqs rs)[i]? = some v → w.cell? ⟨g, i, none⟩ = some v := fun i v hi => by
      have hil : i < (rqs rs).length := (List.getElem?_eq_some_iff.1 hi).1
      rw [rqs_len] at hil
      rw [cell_of_row w g i _ _ _ hg, ← hi, ← hx, List.getElem?_take_of_lt hil]
      simp
    obtain ⟨h1, h2⟩ := rqs_get rs j hj
    refine ⟨hlt, ?_, ?_⟩
    · rw [add_plain, Nat.zero_add]; exact hc _ _ h1
    · rw [add_plain, Nat.zero_add]; exact hc _ _ h2
end Go.Proofs.YtipclieldokfnaaDoor
