/- Ballots and rows of integers as values; a ballot in a block of the call's own. The reference's Ints, Same, Ahead, Less. Slices of structs: elements of n cells. Names no program. append to a full slice of structs, which is left as it was; make of structs. A whole element of a slice of structs is stored. -/
import Derived.Test.YtejphpcngbjgjaaDoorGb
import Derived.Test.YtejphpcngbjgjaaDoorProg
import Derived.Deep.QuietTactic
import Derived.BigQuiet
import Derived.Laws.OwnMore
import Derived.Laws.Append
import Derived.Deep.MidRow
namespace Go.Proofs.YtejphpcngbjgjaaDoor
open Go.RowKit
set_option linter.unusedVariables false

theorem take_mem_succB {α : Type} {P : α → Prop} (l : List α) (k : Nat) (h : k < l.length) (ha : ∀ b ∈ l.take k, P b) (hk : P l[k]) : ∀ b ∈ l.take (k + 1), P b := by
  rw [List.take_succ_eq_append_getElem h]
  intro b hb
  rcases List.mem_append.1 hb with h | h
  · exact ha b h
  · simp at h; rw [h]; exact hk
/-- Integers. -/
def zv (m : Int) : Value := .int .i64 m
theorem zv_one (m : Int) : (zv m).oneCell' = true := rfl
/-- Truth values. -/
def tv (b : Bool) : Value := .bool b
theorem tv_one (b : Bool) : (tv b).oneCell' = true := rfl
/-- The cells of a ballot. -/
def blvs (A : Option Addr) (c : Nat) (x : Bl) : Array Value := #[.int .u8 x.kind, .slice A x.marks.length c]
/-- A ballot as a value. -/
def blv (A : Option Addr) (c : Nat) (x : Bl) : Value := .agg (blvs A c x)
theorem grown_setRowB (w : World) (g : Nat) (cs : Array Value) : w.grownBy (w.setRow g cs) (some g) :=
  ⟨rfl, rfl, rfl, by simp, fun k _ hk => setRow_other w g k cs (fun e => hk (by rw [e]))⟩
theorem size_bl : (Tryd.prog.info? 42).map (·.size) = some 2 := by kernel_rfl
theorem wpList_load_bl {w : World} {ops : Array Oper} {rest : List Oper} {o : Oper} {a : Act} {Q : Exit → Act → World → Prop} (hw : Region.wanted o (yielded ops a.tmps) = true) (y : Operand) (ho : o.op = .load 42 y)
    (g : Nat) (hx : a.eval y = .pointer (some ⟨g, 0, none⟩)) {A : Option Addr} {c : Nat} {x : Bl} (hB : Blk w g 42 (blvs A c x)) (h : wpList Tryd.prog ops Q rest (a.put o.dst (blv A c x)) w) : wpList Tryd.prog ops Q (o :: rest) a w :=
  BigFrame.wpList_want hw fun K hK => wp_load_row _ y ho g hx 42 _ _ _ hB Tryd.underlying42 rfl size_bl (hK _ _ h)
theorem wpList_store_bl {w : World} {ops : Array Oper} {rest : List Oper} {o : Oper} {a : Act} {Q : Exit → Act → World → Prop} (hgd : o.guard = none) (y z : Operand) (ho : o.op = .store 42 y z)
    (g : Nat) (hx : a.eval y = .pointer (some ⟨g, 0, none⟩)) {old : Array Value} (hB : Blk w g 42 old) (hold : old.size = 2) {A : Option Addr} {c : Nat} {x : Bl} (hy : a.eval z = blv A c x)
    (h : ∀ w', Blk w' g 42 (blvs A c x) → w.grownBy w' (some g) → wpList Tryd.prog ops Q rest (a.put o.dst undef) w') : wpList Tryd.prog ops Q (o :: rest) a w :=
  wpList_store_row hgd _ y z ho g (blvs A c x) hx hy 42 old hB size_bl hold (by simp [blvs, Value.oneCell']) (h _ (setRow_heap w g _ _ _ _ hB) (grown_setRowB w g _))
theorem bl_ret {fn : Func} {p : Tmp} (h : fn.results = #[.cell p 42]) {a : Act} {w : World} {g : Nat} {A : Option Addr} {c : Nat} {x : Bl} {Q : Ending → World → Prop}
    (hp : a.tmps.getD p undef = .pointer (some ⟨g, 0, none⟩)) (hB : Blk w g 42 (blvs A c x)) (hd : a.defers = []) (hQ : Q (.returned (blv A c x)) w) : bodyPost Tryd.prog fn Q .ret a w :=
  bodyPost_ret (results_cell_row h a.tmps w g _ _ _ _ hp hB Tryd.underlying42 rfl size_bl) hd hQ

/-! ### place, Great, Ints, Ahead -/
def placeB (l : List Int) (n : Int) : Int := if n ∈ l then (l.idxOf n : Int) else -1
theorem idxOf_atB {α : Type} [BEq α] [LawfulBEq α] (l : List α) (k : Nat) (h : k < l.length) (y : α) (he : l[k] = y) (hpre : ∀ t, t < k → l[t]? ≠ some y) : l.idxOf y = k := by
  have hm : y ∈ l := by rw [← he]; exact List.getElem_mem h
  have h1 : l.idxOf y < l.length := List.idxOf_lt_length_of_mem hm
  have h2 : l[l.idxOf y] = y := List.getElem_idxOf h1
  rcases Nat.lt_trichotomy (l.idxOf y) k with hlt | heq | hgt
  · exact absurd (by rw [List.getElem?_eq_getElem h1, h2]) (hpre _ hlt)
  · exact heq
  · have := List.not_of_lt_findIdx (p := (· == y)) (xs := l) (i := k) hgt
    simp [he] at this

def greatB (x : Bl) : Bool := decide (60 < x.marks.length)
end Go.Proofs.YtejphpcngbjgjaaDoor
namespace Go.Proofs.YtejphpcngbjgjaaDoor
open Go.RowKit
set_option linter.unusedVariables false

theorem ahead_take : ∀ {k : Nat} {l m : List Int}, l.take k = m.take k → k ≤ l.length → k ≤ m.length → aheadB l m = aheadB (l.drop k) (m.drop k)
  | 0, _, _, _, _, _ => rfl
  | _ + 1, [], _, _, h, _ => absurd h (by simp)
  | _ + 1, _ :: _, [], _, _, h => absurd h (by simp)
  | k + 1, a :: l, b :: m, h, h1, h2 => by
    simp only [List.take_succ_cons, List.cons.injEq] at h
    obtain ⟨rfl, h⟩ := h
    simp only [List.drop_succ_cons]
    rw [← ahead_take h (by simpa using h1) (by simpa using h2)]
    simp [aheadB]
theorem ahead_at {k : Nat} {l m : List Int} {u v : Int} (h : l.take k = m.take k) (hl : k < l.length) (hm : k < m.length) (hu : l[k] = u) (hv : m[k] = v) (hne : u ≠ v) : aheadB l m = decide (u < v) := by
  rw [ahead_take h (by omega) (by omega), List.drop_eq_getElem_cons hl, List.drop_eq_getElem_cons hm, hu, hv]
  simp [aheadB, hne]
theorem ahead_end {k : Nat} {l m : List Int} (h : l.take k = m.take k) (hl : k ≤ l.length) (hm : k ≤ m.length) (he : k = l.length ∨ k = m.length) : aheadB l m = decide (l.length < m.length) := by
  rw [ahead_take h hl hm]
  by_cases e : k = m.length
  · rw [show m.drop k = [] from List.drop_eq_nil_of_le (by omega)]
    rw [decide_eq_false (by omega)]
    cases l.drop k <;> rfl
  · rw [show l.drop k = [] from List.drop_eq_nil_of_le (by omega), List.drop_eq_getElem_cons (show k < m.length by omega)]
    rw [decide_eq_true (by omega)]
    rfl

set_option maxRecDepth 100000 in
set_option maxHeartbeats 1000000 in
theorem refInts_any (l l2 : List Int) (A A2 : Option Addr) (c c2 : Nat) (w : World) (hr : Rf zv w w.heap.size A c l) (hr2 : Rf zv w w.heap.size A2 c2 l2) (hl : l.length ≤ 4000000000) :
    Calls Tryd.prog 35 #[.slice A l.length c, .slice A2 l2.length c2] w fun e w' => e = .returned (.bool (decide (l = l2))) ∧ Below w.heap.size w w' := by
  have HN := Lib.hid (fun (h : l ≠ l2) => show decide (l = l2) = false by simpa using h)
  by_cases h4 : l.length = l2.length
  case neg =>
    have h4d : ((l.length : Int) != (l2.length : Int)) = true := by rw [bne_iff_ne]; first | exact h4 | omega
    have HB := Lib.hid (HN.out (fun e => h4 (by rw [e])))
    have h4p : ¬ (l.length : Int) = (l2.length : Int) := by omega
    clear h4 HN
    go_enter Tryd.func35, Tryd.ntmps35
    go_wp2_with fail
    go_ret
    exact ⟨by rw [HB.out] <;> rfl, Below.refl _ _⟩
  have h4d : ((l.length : Int) != (l2.length : Int)) = false := by rw [bne_eq_false_iff_eq]; first | exact h4 | omega
  have HE := Lib.hid (fun (h : l = l2) => show decide (l = l2) = true from decide_eq_true h)
  have HL := Lib.hid h4
  have HR := Lib.hid hr
  have HR2 := Lib.hid hr2
  clear h4 hr hr2
  go_enter Tryd.func35, Tryd.ntmps35
  go_wp2_with fail
  go_loopw [5] (fun i wr => ∃ k : Nat, k ≤ l.length ∧ i = .int .i64 k ∧ Hid (l.take k = l2.take k) ∧ ∃ q, wr = w.drewN q) (fun i _ => l.length - (intOf i).toNat)
  case atStart => exact ⟨0, Nat.zero_le _, rfl, by simp [Hid], 0, rfl⟩
  case round =>
    obtain ⟨k, hk, rfl, hpre, q, rfl⟩ := hrel
    by_cases hlt : k < l.length
    · have hlt2 : k < l2.length := by rw [← HL.out]; exact hlt
      obtain ⟨b, o, rfl, hb, hc⟩ := HR.out.at_ hlt
      obtain ⟨b2, o2, rfl, hb2, hc2⟩ := HR2.out.at_ hlt2
      have hcx := hc k hlt
      have hcy := hc2 k hlt2
      have tx := List.take_succ_eq_append_getElem hlt
      have ty := List.take_succ_eq_append_getElem hlt2
      obtain ⟨u, hxk⟩ : ∃ u, u = l[k] := ⟨_, rfl⟩
      obtain ⟨v, hyk⟩ : ∃ v, v = l2[k] := ⟨_, rfl⟩
      rw [← hxk] at hcx tx
      rw [← hyk] at hcy ty
      unfold zv at hcx hcy
      have TX := Lib.hid tx
      have TY := Lib.hid ty
      clear hc hc2 hxk hyk tx ty
      by_cases he : u = v
      · subst he
        go_wp2_with fail
        go_quiet (fail)
        go_wp2_with fail
        go_roundw
        case rel => exact ⟨k + 1, by omega, by go_num, by show _ = _; rw [TX.out, TY.out, hpre.out], q + nq, by first | rfl | rw [World.drewN_drewN]⟩
        case measure => simp [intOf]; omega
      · have hbe : (u == v) = false := by rw [beq_eq_false_iff_ne]; exact he
        have hbn : (u != v) = true := by rw [bne_iff_ne]; exact he
        have HD := Lib.hid (HN.out (fun e => by
          have h1 := TX.out
          rw [e, TY.out] at h1
          have := (List.append_inj' h1 rfl).2
          simp at this
          exact he this.symm))
        go_wp2_with fail
        go_quiet (fail)
        go_wp2_with fail
        go_ret
        refine ⟨by rw [HD.out] <;> rfl, ?_⟩
        first | exact (below_drewN _ _ _) | (rw [World.drewN_drewN]; exact (below_drewN _ _ _))
    · have HD := Lib.hid (HE.out (by
        have h1 := hpre.out
        have hl := HL.out
        rwa [List.take_of_length_le (by omega), List.take_of_length_le (by omega)] at h1))
      go_wp2_with fail
      go_ret
      exact ⟨by rw [HD.out] <;> rfl, (below_drewN _ _ _)⟩

theorem bl_ext {x y : Bl} (h1 : x.kind = y.kind) (h2 : x.marks = y.marks) : x = y := by
  cases x; cases y; simp_all

set_option maxRecDepth 100000 in
set_option maxHeartbeats 1000000 in
theorem refSameB_any (x y : Bl) (A A2 : Option Addr) (c c2 : Nat) (w : World) (hr : Rf zv w w.heap.size A c x.marks) (hr2 : Rf zv w w.heap.size A2 c2 y.marks) (hl : x.marks.length ≤ 4000000000) :
    Calls Tryd.prog 15 #[blv A c x, blv A2 c2 y] w fun e w' => e = .returned (.bool (decide (x = y))) ∧ Below w.heap.size w w' := by
  have hbw := fun (o o2 : Obj) => (below_new w o).trans ((below_new (w.alloc o) o2).mono (by simp))
  have HI := Lib.hid (fun wx (hb : Below w.heap.size w wx) => refInts_any x.marks y.marks A A2 c c2 wx ((hr.below hb).more hb.size) ((hr2.below hb).more hb.size) hl)
  have HN := Lib.hid (fun (h : x ≠ y) => show decide (x = y) = false by simpa using h)
  obtain ⟨k, l⟩ := x
  obtain ⟨k2, l2⟩ := y
  unfold blv blvs
  simp only at hr hr2 hl HI ⊢
  by_cases h3 : k = k2
  case neg =>
    have h3d : ((k : Int) == (k2 : Int)) = false := by rw [beq_eq_false_iff_ne]; omega
    have HB := Lib.hid (HN.out (fun e => h3 (Bl.mk.inj e).1))
    have h3p : ¬ (k : Int) = (k2 : Int) := by omega
    clear h3 HN
    go_enter Tryd.func15, Tryd.ntmps15
    go_wp2_with fail
    go_ret
    exact ⟨by rw [HB.out] <;> rfl, hbw _ _⟩
  subst h3
  have HE := Lib.hid (show decide ((⟨k, l⟩ : Bl) = ⟨k, l2⟩) = decide (l = l2) by rw [decide_eq_decide]; simp)
  clear HN
  go_enter Tryd.func15, Tryd.ntmps15
  go_wp2_with fail
  refine (HI.out _ (hbw _ _)).mono ?_
  rintro e w1 ⟨rfl, hb⟩
  go_wp2_with fail
  go_ret
  exact ⟨by rw [HE.out] <;> rfl, (hbw _ _).trans (hb.mono (hbw _ _).size)⟩

end Go.Proofs.YtejphpcngbjgjaaDoor
namespace Go.Proofs.YtejphpcngbjgjaaDoor
open Go.RowKit
set_option linter.unusedVariables false

/-- The slice reads as the elements xs, of n cells each, below block B. -/
structure Rk {α : Type} (n : Nat) (f : α → List Value) (w : World) (B : Nat) (A : Option Addr) (c : Nat) (xs : List α) : Prop where
  cap : xs.length ≤ c
  capm : c ≤ maxLen
  nil : A = none → c = 0
  cell : ∀ ad, A = some ad → ∀ j (h : j < xs.length), ad.block < B ∧ ∀ i u, (f xs[j])[i]? = some u → w.cell? (ad.add (j * n + i)) = some u
section
variable {α : Type} {n : Nat} {f : α → List Value} {w w' : World} {B B' c : Nat} {A : Option Addr} {xs : List α}
theorem Rk.empty (w : World) (B : Nat) : Rk n f w B none 0 [] := ⟨Nat.le_refl _, by simp [maxLen], fun _ => rfl, fun _ h => by cases h⟩
theorem Rk.keep (h : Rk n f w B A c xs) (hk : ∀ p : Addr, p.block < B → w'.cell? p = w.cell? p) : Rk n f w' B A c xs :=
  ⟨h.cap, h.capm, h.nil, fun ad e j hj => ⟨(h.cell ad e j hj).1, fun i u hu => (hk _ (by rw [add_block]; exact (h.cell ad e j hj).1)).trans ((h.cell ad e j hj).2 i u hu)⟩⟩
theorem Rk.more (h : Rk n f w B A c xs) (hB : B ≤ B') : Rk n f w B' A c xs :=
  ⟨h.cap, h.capm, h.nil, fun ad e j hj => ⟨Nat.lt_of_lt_of_le (h.cell ad e j hj).1 hB, (h.cell ad e j hj).2⟩⟩
theorem Rk.below (h : Rk n f w B A c xs) (hb : Below B w w') : Rk n f w' B A c xs := h.keep fun _ hp => hb.cell hp
theorem Rk.alloc (h : Rk n f w B A c xs) (hB : B ≤ w.heap.size) (o : Obj) : Rk n f (w.alloc o) B A c xs := h.keep fun p hp => World.cell?_alloc_lt w o p (by omega)
theorem Rk.drew (h : Rk n f w B A c xs) : Rk n f w.drew B A c xs := h.keep fun _ _ => rfl
theorem Rk.drewN (h : Rk n f w B A c xs) (k : Nat) : Rk n f (w.drewN k) B A c xs := h.keep fun _ _ => rfl
theorem Rk.grown {row : Option Nat} (h : Rk n f w B A c xs) (hg : w.grownBy w' row) (hB : B ≤ w.heap.size) (hne : 0 < xs.length → blk A ≠ row) : Rk n f w' B A c xs := by
  refine ⟨h.cap, h.capm, h.nil, fun ad e j hj => ?_⟩
  subst e
  obtain ⟨h1, h2⟩ := h.cell ad rfl j hj
  refine ⟨h1, fun i u hu => ?_⟩
  have hb : (ad.add (j * n + i)).block = ad.block := add_block _ _
  rw [World.cell?_of_block (hg.block (ad.add (j * n + i)).block (by omega) (by
    intro e2
    exact hne (by omega) (by rw [← e2, hb]; rfl)))]
  exact h2 i u hu
/-- Where the elements have at least a cell: the block, and the cells. -/
theorem Rk.at_ (h : Rk n f w B A c xs) (hf : ∀ x, 0 < (f x).length) {k : Nat} (hk : k < xs.length) : ∃ b o, A = some ⟨b, o, none⟩ ∧ b < B ∧ ∀ j (hj : j < xs.length) i u, (f xs[j])[i]? = some u → w.cell? ⟨b, o + (j * n + i), none⟩ = some u := by
  have hA : A ≠ none := fun e => by have := h.nil e; have := h.cap; omega
  obtain ⟨ad, rfl⟩ := Option.ne_none_iff_exists'.1 hA
  have hc := h.cell ad rfl
  have hb := (hc 0 (by omega)).1
  obtain ⟨b, o, s⟩ := ad
  have h0 := (hc 0 (by omega)).2 0 ((f (xs[0]'(by omega)))[0]'(hf _)) (List.getElem?_eq_getElem (hf _))
  have hs : s = none := by
    have := World.cell?_spot h0
    simpa [Addr.add] using this
  subst hs
  refine ⟨b, o, rfl, hb, fun j hj i u hu => ?_⟩
  have := (hc j hj).2 i u hu
  rwa [add_plain] at this
end

/-- All cells of the elements. -/
def flatK {α : Type} (f : α → List Value) (xs : List α) : List Value := xs.flatMap f
section
variable {α : Type} {n : Nat} {f : α → List Value} (hf : ∀ x, (f x).length = n)
theorem flatK_append (xs ys : List α) : flatK f (xs ++ ys) = flatK f xs ++ flatK f ys := List.flatMap_append
theorem flatK_cons (x : α) (xs : List α) : flatK f (x :: xs) = f x ++ flatK f xs := List.flatMap_cons
include hf in
theorem flatK_len (xs : List α) : (flatK f xs).length = xs.length * n := by
  induction xs with
  | nil => simp [flatK]
  | cons x xs ih => rw [flatK_cons, List.length_append, ih, hf, List.length_cons, Nat.succ_mul, Nat.add_comm]
include hf in
theorem flatK_get : ∀ (xs : List α) (j : Nat) (h : j < xs.length) (i : Nat), i < n → (flatK f xs)[j * n + i]? = (f xs[j])[i]?
  | [], j, h, i, hi => by simp at h
  | x :: xs, 0, h, i, hi => by
    rw [flatK_cons, Nat.zero_mul, Nat.zero_add, List.getElem?_append_left (by rw [hf]; exact hi)]; rfl
  | x :: xs, j + 1, h, i, hi => by
    have e : (j + 1) * n + i = n + (j * n + i) := by rw [Nat.succ_mul]; omega
    have h' : j < xs.length := by simpa using h
    rw [flatK_cons, e, List.getElem?_append_right (by rw [hf]; omega), hf, Nat.add_sub_cancel_left, flatK_get xs j h' i hi]
    rfl
theorem flatK_one (h1 : ∀ x, ∀ u ∈ f x, u.oneCell' = true) (xs : List α) : ∀ u ∈ flatK f xs, u.oneCell' = true := by
  intro u hu
  obtain ⟨x, _, hx⟩ := List.mem_flatMap.1 hu
  exact h1 x u hx
end

/-- A slice of structs of the call's own. e: the number of the element's type. -/
def OwK {α : Type} (n : Nat) (f : α → List Value) (w : World) (base e : Nat) (A : Option Addr) (c : Nat) (xs : List α) : Prop := w.ownsRow base e n (.slice A xs.length c) xs.length (flatK f xs)
section
variable {α : Type} {n : Nat} {f : α → List Value} {w w' : World} {base e c : Nat} {A : Option Addr} {xs : List α}
theorem OwK.nil (w : World) (base e : Nat) : OwK n f w base e none 0 [] := World.ownsRow_nil w base e n
theorem OwK.form (h : OwK n f w base e A c xs) : (A = none ∧ c = 0 ∧ xs = []) ∨ ∃ g, A = some ⟨g, 0, none⟩ ∧ base ≤ g ∧ g < w.heap.size ∧ xs.length ≤ c ∧ c ≤ maxLen := by
  rcases h.2 with ⟨hv, hn⟩ | ⟨g, cap, cur, hv, hb, hg, hnc, hcm, _⟩
  · simp only [Value.slice.injEq] at hv
    exact .inl ⟨hv.1, hv.2.2, List.eq_nil_of_length_eq_zero hn⟩
  · simp only [Value.slice.injEq] at hv
    obtain ⟨rfl, _, rfl⟩ := hv
    exact .inr ⟨g, rfl, hb, (Array.getElem?_eq_some_iff.1 hg).1, hnc, hcm⟩
theorem OwK.rd (h : OwK n f w base e A c xs) (hf : ∀ x, (f x).length = n) : Rk n f w w.heap.size A c xs := by
  rcases h.2 with ⟨hv, hn⟩ | ⟨g, cap, cur, hv, hb, hg, hnc, hcm, hsz, hx⟩
  · simp only [Value.slice.injEq] at hv
    obtain ⟨rfl, _, rfl⟩ := hv
    exact ⟨by omega, by unfold maxLen; omega, (fun _ => rfl), (fun ad e => by cases e)⟩
  · simp only [Value.slice.injEq] at hv
    obtain ⟨rfl, _, rfl⟩ := hv
    refine ⟨hnc, hcm, (fun e => by cases e), fun ad e j hj => ?_⟩
    obtain rfl := Option.some.inj e
    have hlt : g < w.heap.size := (Array.getElem?_eq_some_iff.1 hg).1
    refine ⟨hlt, fun i u hu => ?_⟩
    have hi : i < n := by
      have := (List.getElem?_eq_some_iff.1 hu).1
      rwa [hf] at this
    have h1 := flatK_get hf xs j hj i hi
    rw [hu] at h1
    have hil := (List.getElem?_eq_some_iff.1 h1).1
    rw [flatK_len hf] at hil
    rw [add_plain, Nat.zero_add, cell_of_row w g _ _ _ _ hg, ← h1, ← hx, List.getElem?_take_of_lt hil]
    simp
theorem OwK.blk_ge (h : OwK n f w base e A c xs) : ∀ k, blk A = some k → base ≤ k ∧ k < w.heap.size := by
  intro k hk
  exact World.ownsRow.lt h k (by rw [own_block]; exact hk)
theorem OwK.kept (h : OwK n f w base e A c xs) {row : Option Nat} (hg : w.grownBy w' row) (hne : blk A = none ∨ blk A ≠ row) : OwK n f w' base e A c xs :=
  World.ownsRow.kept h hg (by rw [own_block]; exact hne)
theorem OwK.alloc (h : OwK n f w base e A c xs) (o : Obj) : OwK n f (w.alloc o) base e A c xs := World.ownsRow.alloc h o
theorem OwK.drew (h : OwK n f w base e A c xs) : OwK n f w.drew base e A c xs := h
theorem OwK.drewN (h : OwK n f w base e A c xs) (k : Nat) : OwK n f (w.drewN k) base e A c xs := h
theorem OwK.lower (h : OwK n f w base e A c xs) {b : Nat} (hb : b ≤ base) : OwK n f w b e A c xs := by
  refine ⟨h.1, ?_⟩
  rcases h.2 with hn | ⟨g, cap, cur, hv, hbg, r⟩
  · exact .inl hn
  · exact .inr ⟨g, cap, cur, hv, Nat.le_trans hb hbg, r⟩
theorem OwK.below (h : OwK n f w base e A c xs) {B : Nat} (hB : w.heap.size ≤ B) (hb : Below B w w') : OwK n f w' base e A c xs :=
  h.kept (row := none) ⟨hb.os, hb.tape, hb.output, hb.size, fun k hk _ => hb.block k (Nat.lt_of_lt_of_le hk hB)⟩ (by cases blk A <;> simp)
end

section
variable {P : Program} (w : World)
/-- 'append(s, x...)' over structs: s is owned, x is read. -/
theorem run_append_k {α : Type} {n : Nat} {f : α → List Value} (hn : ∀ x, (f x).length = n) (h1 : ∀ x, ∀ u ∈ f x, u.oneCell' = true) (base e bt : Nat) (t ty : TypeId) (i : TypeInfo) (z : Value) (ht : P.underlying t = some (.slice e)) (hi : P.info? e = some i) (hz : i.zero = some z) (hsize : i.size = n) (hn0 : 0 < n) (hby : i.bytes = bt) (hbt : bt ≤ 400) (hzs : z.cells.size = n)
    {A A2 : Option Addr} {c c2 B : Nat} {l m : List α} (hown : OwK n f w base e A c l) (hr : Rk n f w B A2 c2 m) (hle : l.length + m.length ≤ 4000000000) (hbase : base ≤ w.heap.size) :
    ∃ A' c' w', (Builtin.append_ #[t, t] ty #[.slice A l.length c, .slice A2 m.length c2]).run P w = .ok (.slice A' (l ++ m).length c') w' ∧ OwK n f w' base e A' c' (l ++ m) ∧ w.grownBy w' (blk A) ∧
      (blk A' = blk A ∨ blk A' = some w.heap.size) := by
  cases A2 with
  | some ad =>
    obtain ⟨v', w', hrun, h2, h3, _, h5⟩ := run_append_own_at (P := P) w base t ty e i z n bt ht hi hz hsize hby hzs hn0 _ _ _ hown ad m.length c2 (flatK f m) (flatK_len hn m)
      (fun j u hu => by
        have hj := (List.getElem?_eq_some_iff.1 hu).1
        rw [flatK_len hn] at hj
        have hd : j / n < m.length := Nat.div_lt_of_lt_mul (by rwa [Nat.mul_comm] at hj)
        have hm := Nat.mod_lt j hn0
        have e1 : j / n * n + j % n = j := by rw [Nat.mul_comm]; exact Nat.div_add_mod j n
        have h2 := flatK_get hn m (j / n) hd (j % n) hm
        rw [e1, hu] at h2
        have := (hr.cell ad rfl (j / n) hd).2 (j % n) u h2.symm
        rwa [e1] at this)
      (flatK_one h1 m) (by simp only [maxLen]; omega) (by have := Nat.mul_le_mul hle hbt; omega) hbase
    rw [← flatK_append, ← List.length_append] at h2
    have hform : ∃ A' c', v' = .slice A' (l ++ m).length c' := by
      rcases h2.2 with ⟨rfl, hn⟩ | ⟨g, cap, cur, rfl, _⟩
      · exact ⟨none, 0, by rw [hn]⟩
      · exact ⟨_, _, rfl⟩
    obtain ⟨A', c', rfl⟩ := hform
    refine ⟨A', c', w', hrun, h2, by rw [own_block] at h3; exact h3, ?_⟩
    rw [own_block, own_block] at h5
    exact h5
  | none =>
    have hc2 := hr.nil rfl
    have hm : m = [] := List.eq_nil_of_length_eq_zero (by have := hr.cap; omega)
    subst hm
    subst hc2
    refine ⟨A, c, w, ?_, by simpa using hown, World.grownBy.refl w _, .inl rfl⟩
    have := run_append_owned_none (P := P) w base t ty e i n ht hi _ _ _ hown
    simpa using this

/-- The same, for the walk. -/
theorem wpList_append_k {α : Type} {n : Nat} {f : α → List Value} (hn : ∀ x, (f x).length = n) (h1 : ∀ x, ∀ u ∈ f x, u.oneCell' = true) {ops : Array Oper} {rest : List Oper} {o : Oper} {a : Act} {Q : Exit → Act → World → Prop} (hgd : o.guard = none) (s x : Operand) (t : TypeId)
    (ho : o.op = .call { callee := .builtin .append, args := #[s, x], argTypes := #[t, t] })
    (base e bt : Nat) (i : TypeInfo) (z : Value) (ht : P.underlying t = some (.slice e)) (hi : P.info? e = some i) (hz : i.zero = some z) (hsize : i.size = n) (hn0 : 0 < n) (hby : i.bytes = bt) (hbt : bt ≤ 400) (hzs : z.cells.size = n)
    {A A2 : Option Addr} {c c2 B : Nat} (l m : List α) (hs : a.eval s = .slice A l.length c) (hx : a.eval x = .slice A2 m.length c2) (hown : OwK n f w base e A c l) (hr : Rk n f w B A2 c2 m)
    (hle : l.length + m.length ≤ 4000000000) (hbase : base ≤ w.heap.size)
    (h : ∀ A' c' w' r, Hid (r = l ++ m) → OwK n f w' base e A' c' r → w.grownBy w' (blk A) → (blk A' = blk A ∨ blk A' = some w.heap.size) → wpList P ops Q rest (a.put o.dst (.slice A' r.length c')) w') :
    wpList P ops Q (o :: rest) a w := by
  refine wpList_plain hgd fun K hK => ?_
  obtain ⟨A', c', w', hrun, h2, h3, h4⟩ := run_append_k (P := P) w hn h1 base e bt t o.type i z ht hi hz hsize hn0 hby hbt hzs hown hr hle hbase
  unfold Oper.wp execOp
  simp only [ho, resolve, invoke, builtin, Sem.run_bind, Sem.run_pure, Result.andThen_ok, List.map_toArray, List.map_cons, List.map_nil, hs, hx, hrun]
  exact hK _ _ (h A' c' w' _ rfl h2 h3 h4)

/-- A one-element literal. -/
theorem rk_one {α : Type} {n : Nat} {f : α → List Value} (hn : ∀ x, (f x).length = n) (x : α) (cs : Array Value) (hcs : cs = (f x).toArray) (e : Nat) : Rk n f (w.alloc (.cells cs e)) (w.heap.size + 1) (some ⟨w.heap.size, 0, none⟩) 1 [x] := by
  subst hcs
  refine ⟨by simp, by simp [maxLen], (fun e => by cases e), fun ad he j hj => ?_⟩
  obtain rfl := Option.some.inj he
  refine ⟨by simp, fun i u hu => ?_⟩
  have hj0 : j = 0 := by simp at hj; omega
  subst hj0
  have hbk : Blk (w.alloc (.cells (f x).toArray e)) w.heap.size e (f x).toArray := Blk.new w _ _
  rw [add_plain, hbk.cell]
  simpa using hu
/-- An empty literal. -/
theorem owk_zero {α : Type} {n : Nat} {f : α → List Value} (e base : Nat) (hb : base ≤ w.heap.size) : OwK n f (w.alloc (.cells #[] e)) base e (some ⟨w.heap.size, 0, none⟩) 0 [] := by
  have := World.ownsRow_lit (base := base) (e := e) (size := n) w #[] 0 hb (by simp [maxLen]) (by simp)
  exact this
end

section
variable {α : Type} {n : Nat} {f : α → List Value} (hf : ∀ x, (f x).length = n)
include hf in
theorem flatK_set : ∀ (xs : List α) (j : Nat) (h : j < xs.length) (i : Nat) (y : α) (u : Value), i < n → f y = (f xs[j]).set i u → flatK f (xs.set j y) = (flatK f xs).set (j * n + i) u
  | [], j, h, i, y, u, hi, e => by simp at h
  | x :: xs, 0, h, i, y, u, hi, e => by
    rw [List.set_cons_zero, flatK_cons, flatK_cons, Nat.zero_mul, Nat.zero_add, List.set_append_left _ _ (by rw [hf]; exact hi), e]; rfl
  | x :: xs, j + 1, h, i, y, u, hi, e => by
    have e1 : (j + 1) * n + i = n + (j * n + i) := by rw [Nat.succ_mul]; omega
    rw [List.set_cons_succ, flatK_cons, flatK_cons, e1, List.set_append_right _ _ (by rw [hf]; omega), hf, Nat.add_sub_cancel_left, flatK_set xs j (by simpa using h) i y u hi e]
variable {w : World} {base e c g : Nat} {xs : List α}
include hf in
/-- A cell of an element is stored. -/
theorem OwK.stored (h : OwK n f w base e (some ⟨g, 0, none⟩) c xs) (j : Nat) (hj : j < xs.length) (i : Nat) (hi : i < n) (y : α) (u : Value) (hy : f y = (f xs[j]).set i u) :
    OwK n f (w.setCell ⟨g, j * n + i, none⟩ u) base e (some ⟨g, 0, none⟩) c (xs.set j y) ∧ w.grownBy (w.setCell ⟨g, j * n + i, none⟩ u) (some g) := by
  obtain ⟨h1, h2⟩ := World.ownsRow.stored h (j * n + i) u
  refine ⟨?_, h2⟩
  unfold OwK
  rw [List.length_set, flatK_set hf xs j hj i y u hi hy]
  exact h1
theorem OwK.frozen (h : OwK n f w base e (some ⟨g, 0, none⟩) c xs) (i : Nat) : w.frozen? ⟨g, i, none⟩ = false := World.ownsRow.frozenAt h i
include hf in
theorem OwK.cell (h : OwK n f w base e (some ⟨g, 0, none⟩) c xs) (j : Nat) (hj : j < xs.length) (i : Nat) (hi : i < n) : w.cell? ⟨g, j * n + i, none⟩ = (f xs[j])[i]? := by
  have hl : j * n + i < xs.length * n := by
    have h1 : (j + 1) * n ≤ xs.length * n := Nat.mul_le_mul_right _ hj
    rw [Nat.succ_mul] at h1
    omega
  rw [World.ownsRow.cellAt h (j * n + i) hl, flatK_get hf xs j hj i hi]
end
/-- Behind an append of what has just been laid. -/
theorem below_app {B : Nat} {w0 wr w4 : World} {o : Obj} {A : Option Addr} (hb : Below B w0 wr) (hB : B ≤ wr.heap.size) (hg : (wr.alloc o).grownBy w4 (blk A)) (ha : ∀ k, blk A = some k → B ≤ k) : Below B w0 w4 :=
  (hb.trans ((below_new wr o).mono hB)).trans (below_of_grown hg (by rw [World.size_alloc]; omega) ha)
end Go.Proofs.YtejphpcngbjgjaaDoor
namespace Go.Proofs.YtejphpcngbjgjaaDoor
open Go.RowKit
set_option linter.unusedVariables false

section
variable {P : Program} (w : World)
/-- 'append(s, x...)' to a slice whose capacity is its length: new memory. -/
theorem wpList_append_full {α : Type} {n : Nat} {f : α → List Value} (hn : ∀ x, (f x).length = n) {ops : Array Oper} {rest : List Oper} {o : Oper} {a : Act} {Q : Exit → Act → World → Prop} (hgd : o.guard = none) (s x : Operand) (t : TypeId)
    (ho : o.op = .call { callee := .builtin .append, args := #[s, x], argTypes := #[t, t] })
    (e bt : Nat) (i : TypeInfo) (z : Value) (ht : P.underlying t = some (.slice e)) (hi : P.info? e = some i) (hz : i.zero = some z) (hsize : i.size = n) (hn0 : 0 < n) (hby : i.bytes = bt) (hbt : bt ≤ 400) (hzs : z.cells.size = n)
    {b b2 : Addr} {c2 B B2 : Nat} (l m : List α) (hs : a.eval s = .slice (some b) l.length l.length) (hx : a.eval x = .slice (some b2) m.length c2) (hrl : Rk n f w B (some b) l.length l) (hr : Rk n f w B2 (some b2) c2 m)
    (hle : l.length + m.length ≤ 4000000000) (hm : 0 < m.length)
    (h : ∀ c' w' r, Hid (r = l ++ m) → OwK n f w' w.heap.size e (some ⟨w.heap.size, 0, none⟩) c' r → Below w.heap.size w w' → wpList P ops Q rest (a.put o.dst (.slice (some ⟨w.heap.size, 0, none⟩) r.length c')) w') :
    wpList P ops Q (o :: rest) a w := by
  have cells : ∀ {B : Nat} {b : Addr} {c : Nat} {l : List α}, Rk n f w B (some b) c l → ∀ j u, (flatK f l)[j]? = some u → w.cell? (b.add j) = some u := by
    intro B b c l hr j u hu
    have hj := (List.getElem?_eq_some_iff.1 hu).1
    rw [flatK_len hn] at hj
    have hd : j / n < l.length := Nat.div_lt_of_lt_mul (by rwa [Nat.mul_comm] at hj)
    have hm := Nat.mod_lt j hn0
    have e1 : j / n * n + j % n = j := by rw [Nat.mul_comm]; exact Nat.div_add_mod j n
    have h2 := flatK_get hn l (j / n) hd (j % n) hm
    rw [e1, hu] at h2
    have := (hr.cell b rfl (j / n) hd).2 (j % n) u h2.symm
    rwa [e1] at this
  have hfit : Builtin.nextslicecap (l.length + m.length) l.length * i.bytes ≤ 281474976710656 := by
    refine growslice_fits (by omega) ?_
    rw [hby]
    have := Nat.mul_le_mul hle hbt
    omega
  have hrun := run_append_grow (P := P) w t o.type e i z ht hi hz b l.length l.length (flatK f l) (by rw [flatK_len hn, hsize]) (cells hrl) b2 m.length c2 (flatK f m) (by rw [flatK_len hn, hsize]) (cells hr) (by omega) (by omega) hfit
  have hge := grownCap_ge w (l.length + m.length) l.length e
  have hcm := grownCap_le_maxLen w (l.length + m.length) l.length e (by simp only [maxLen]; omega)
  generalize grownCap w (l.length + m.length) l.length e = cap at hrun hge hcm
  refine wpList_plain hgd fun K hK => ?_
  unfold Oper.wp execOp
  simp only [ho, resolve, invoke, builtin, Sem.run_bind, Sem.run_pure, Result.andThen_ok, List.map_toArray, List.map_cons, List.map_nil, hs, hx, hrun]
  have hlen : (flatK f l ++ flatK f m).length = (l ++ m).length * n := by rw [← flatK_append, flatK_len hn]
  have key := h cap _ (l ++ m) rfl (show OwK n f (w.drew.alloc (.cells ((flatK f l).toArray ++ (flatK f m).toArray ++ Builtin.zeroCells z.cells (cap - (l.length + m.length))) e)) w.heap.size e (some ⟨w.heap.size, 0, none⟩) cap (l ++ m) from by
    refine ⟨by rw [flatK_len hn], .inr ⟨w.heap.size, cap, _, rfl, Nat.le_refl _, heap_alloc_new w.drew _, by rw [List.length_append]; exact hge, hcm, ?_, ?_⟩⟩
    · simp only [Array.size_append, List.size_toArray, size_zeroCells, hzs, flatK_len hn, ← Nat.add_mul]
      congr 1
      omega
    · simp only [Array.toList_append, List.append_assoc, flatK_append]
      rw [← List.append_assoc, ← hlen]
      exact List.take_left) ((Below.refl _ w).drew.alloc (Nat.le_refl _) _)
  rw [List.length_append] at key
  exact hK _ _ key

/-- What make lays. -/
theorem made_flat {α : Type} {n : Nat} {f : α → List Value} (hn : ∀ x, (f x).length = n) (z : Array Value) (x : α) (hx : f x = z.toList) (k : Nat) : (madeCells z (k * n)).toList = flatK f (List.replicate k x) := by
  have hzn : z.size = n := by rw [← hn x, hx]; simp
  refine List.ext_getElem? fun j => ?_
  by_cases hj : j < k * n
  · have hn0 : 0 < n := Nat.pos_of_ne_zero (fun e => by rw [e] at hj; omega)
    have hd : j / n < k := Nat.div_lt_of_lt_mul (by rwa [Nat.mul_comm] at hj)
    have hm := Nat.mod_lt j hn0
    have e1 : j / n * n + j % n = j := by rw [Nat.mul_comm]; exact Nat.div_add_mod j n
    have h2 := flatK_get hn (List.replicate k x) (j / n) (by simpa using hd) (j % n) hm
    rw [e1] at h2
    rw [h2, List.getElem_replicate, hx]
    have hms : j % z.size < z.size := by rw [hzn]; exact hm
    unfold madeCells
    simp only [Array.toList_map, Array.toList_range, List.getElem?_map, List.getElem?_range hj, Option.map_some]
    rw [getElem!_pos z _ hms, Array.getElem?_toList, ← hzn, Array.getElem?_eq_getElem hms]
  · have h1 : (madeCells z (k * n)).toList.length = k * n := by simp [size_madeCells]
    rw [List.getElem?_eq_none (by omega), List.getElem?_eq_none (by rw [flatK_len hn, List.length_replicate]; omega)]

/-- make of structs. -/
theorem wpList_make_k {α : Type} {n : Nat} {f : α → List Value} (hn : ∀ x, (f x).length = n) {ops : Array Oper} {rest : List Oper} {o : Oper} {a : Act} {Q : Exit → Act → World → Prop} (hgd : o.guard = none) (lo co : Operand) (t : TypeId)
    (ho : o.op = .makeSlice t lo co)
    (e bt : Nat) (i : TypeInfo) (z : Value) (ht : P.underlying t = some (.slice e)) (hi : P.info? e = some i) (hz : i.zero = some z) (hsize : i.size = n) (hby : i.bytes = bt) (hbt : bt ≤ 400)
    (k : Nat) (hl : a.eval lo = .int .i64 k) (hc : a.eval co = .int .i64 k) (hk : k ≤ 1000000) (x : α) (hx : (madeCells z.cells (k * n)).toList = flatK f (List.replicate k x))
    (h : ∀ w', OwK n f w' w.heap.size e (some ⟨w.heap.size, 0, none⟩) k (List.replicate k x) → Below w.heap.size w w' → wpList P ops Q rest (a.put o.dst (.slice (some ⟨w.heap.size, 0, none⟩) k k)) w') :
    wpList P ops Q (o :: rest) a w := by
  refine wpList_plain hgd fun K hK => ?_
  obtain ⟨w', hrun, hown, hg⟩ := run_make_full (P := P) w w.heap.size t e i z n ht hi hz hsize .i64 .i64 k (by rw [hby]; have := Nat.mul_le_mul hbt hk; omega) (by simp only [maxLen]; omega) (Nat.le_refl _)
  unfold Oper.wp
  simp only [execOp, ho, hl, hc, hrun, Result.andThen, Sem.run_bind, Sem.run_pure]
  refine hK _ _ (h w' ?_ (below_of_grown hg (Nat.le_refl _) (fun k e => by cases e)))
  unfold OwK
  rw [List.length_replicate, ← hx]
  exact hown
end
end Go.Proofs.YtejphpcngbjgjaaDoor
namespace Go.Proofs.YtejphpcngbjgjaaDoor
open Go.RowKit
set_option linter.unusedVariables false

/-- Cells written into a list from a place on. -/
def putL : List Value → Nat → List Value → List Value
  | xs, _, [] => xs
  | xs, o, v :: vs => putL (xs.set o v) (o + 1) vs
theorem putL_len : ∀ (vs xs : List Value) (o : Nat), (putL xs o vs).length = xs.length
  | [], xs, o => rfl
  | v :: vs, xs, o => by unfold putL; rw [putL_len vs, List.length_set]
theorem putL_out : ∀ (vs xs : List Value) (o i : Nat), i < o ∨ o + vs.length ≤ i → (putL xs o vs)[i]? = xs[i]?
  | [], xs, o, i, h => rfl
  | v :: vs, xs, o, i, h => by
    simp only [List.length_cons] at h
    unfold putL
    rw [putL_out vs _ _ i (by omega), List.getElem?_set_ne (by omega)]
theorem putL_in : ∀ (vs xs : List Value) (o j : Nat), o + vs.length ≤ xs.length → j < vs.length → (putL xs o vs)[o + j]? = vs[j]?
  | [], xs, o, j, h, hj => by simp at hj
  | v :: vs, xs, o, 0, h, hj => by
    simp only [List.length_cons] at h
    unfold putL
    rw [putL_out vs _ _ _ (by omega), Nat.add_zero, List.getElem?_set_self (by omega)]; rfl
  | v :: vs, xs, o, j + 1, h, hj => by
    simp only [List.length_cons] at h hj
    unfold putL
    have := putL_in vs (xs.set o v) (o + 1) j (by rw [List.length_set]; omega) (by omega)
    rw [show o + (j + 1) = o + 1 + j by omega, this]; rfl
theorem owns_setCells {base e size n cap g : Nat} : ∀ (vs : List Value) (o : Nat) (w : World) (xs : List Value), w.ownsRow base e size (.slice (some ⟨g, 0, none⟩) n cap) n xs → o + vs.length ≤ xs.length →
    (w.setCells g o vs).ownsRow base e size (.slice (some ⟨g, 0, none⟩) n cap) n (putL xs o vs) ∧ w.grownBy (w.setCells g o vs) (some g)
  | [], o, w, xs, h, hl => ⟨h, World.grownBy.refl w _⟩
  | v :: vs, o, w, xs, h, hl => by
    simp only [List.length_cons] at hl
    obtain ⟨h1, h2⟩ := World.ownsRow.stored h o v
    obtain ⟨h3, h4⟩ := owns_setCells vs (o + 1) _ _ h1 (by rw [List.length_set]; omega)
    refine ⟨h3, ?_⟩
    exact ⟨h4.os.trans h2.os, h4.tape.trans h2.tape, h4.output.trans h2.output, Nat.le_trans h2.size h4.size, fun k hk hne => (h4.block k (Nat.lt_of_lt_of_le hk h2.size) hne).trans (h2.block k hk hne)⟩
section
variable {α : Type} {n : Nat} {f : α → List Value} (hf : ∀ x, (f x).length = n)
include hf in
theorem flatK_put (xs : List α) (j : Nat) (h : j < xs.length) (y : α) : putL (flatK f xs) (j * n) (f y) = flatK f (xs.set j y) := by
  have hl : j * n + n ≤ xs.length * n := by
    have h1 : (j + 1) * n ≤ xs.length * n := Nat.mul_le_mul_right _ h
    rwa [Nat.succ_mul] at h1
  refine List.ext_getElem? fun i => ?_
  by_cases hi : i < xs.length * n
  · have hn0 : 0 < n := Nat.pos_of_ne_zero (fun e => by rw [e] at hi; omega)
    have hd : i / n < xs.length := Nat.div_lt_of_lt_mul (by rwa [Nat.mul_comm] at hi)
    have hm := Nat.mod_lt i hn0
    have e1 : i / n * n + i % n = i := by rw [Nat.mul_comm]; exact Nat.div_add_mod i n
    have h2 := flatK_get hf (xs.set j y) (i / n) (by simpa using hd) (i % n) hm
    have h3 := flatK_get hf xs (i / n) hd (i % n) hm
    rw [e1] at h2 h3
    rw [h2]
    by_cases hij : i / n = j
    · have h4 := putL_in (f y) (flatK f xs) (j * n) (i % n) (by rw [hf, flatK_len hf]; exact hl) (by rw [hf]; exact hm)
      rw [← hij, e1] at h4
      rw [← hij, h4]
      simp
    · rw [putL_out, h3, List.getElem_set_ne (fun e => hij e.symm)]
      rw [hf]
      rcases Nat.lt_or_gt_of_ne hij with hlt | hgt
      · left
        have h1 : (i / n + 1) * n ≤ j * n := Nat.mul_le_mul_right _ hlt
        rw [Nat.succ_mul] at h1
        omega
      · right
        have h1 : (j + 1) * n ≤ i / n * n := Nat.mul_le_mul_right _ hgt
        rw [Nat.succ_mul] at h1
        omega
  · rw [List.getElem?_eq_none (by rw [putL_len, flatK_len hf]; omega), List.getElem?_eq_none (by rw [flatK_len hf, List.length_set]; omega)]
variable {w : World} {base e c g : Nat} {xs : List α}
include hf in
/-- An element is stored whole. -/
theorem OwK.put (h : OwK n f w base e (some ⟨g, 0, none⟩) c xs) (j : Nat) (hj : j < xs.length) (y : α) :
    OwK n f (w.setCells g (j * n) (f y)) base e (some ⟨g, 0, none⟩) c (xs.set j y) ∧ w.grownBy (w.setCells g (j * n) (f y)) (some g) := by
  have hl : j * n + n ≤ xs.length * n := by
    have h1 : (j + 1) * n ≤ xs.length * n := Nat.mul_le_mul_right _ hj
    rwa [Nat.succ_mul] at h1
  obtain ⟨h1, h2⟩ := owns_setCells (f y) (j * n) w _ h (by rw [hf, flatK_len hf]; exact hl)
  refine ⟨?_, h2⟩
  unfold OwK
  rw [List.length_set, ← flatK_put hf xs j hj y]
  exact h1
include hf in
theorem OwK.there (h : OwK n f w base e (some ⟨g, 0, none⟩) c xs) (j : Nat) (hj : j < xs.length) : w.there g (j * n) n := by
  intro i hi
  refine ⟨?_, h.frozen _⟩
  rw [h.cell hf j hj i hi, List.getElem?_eq_getElem (by rw [hf]; exact hi)]
  rfl
end
/-- The same, for the walk. -/
theorem wpList_store_k {P : Program} {α : Type} {n : Nat} {f : α → List Value} (hf : ∀ x, (f x).length = n) (h1 : ∀ x, ∀ u ∈ f x, u.oneCell' = true) {w : World} {ops : Array Oper} {rest : List Oper} {o : Oper} {a : Act} {Q : Exit → Act → World → Prop} (hgd : o.guard = none) (ty : TypeId) (y z : Operand) (ho : o.op = .store ty y z)
    (hi : (P.info? ty).map (·.size) = some n) (g j off : Nat) (hoff : off = j * n) (hx : a.eval y = .pointer (some ⟨g, off, none⟩)) {base e c : Nat} {xs : List α} (h : OwK n f w base e (some ⟨g, 0, none⟩) c xs) (hj : j < xs.length) (x : α) (hy : a.eval z = .agg (f x).toArray)
    (hK : ∀ w' r, Hid (r = xs.set j x) → OwK n f w' base e (some ⟨g, 0, none⟩) c r → w.grownBy w' (some g) → wpList P ops Q rest (a.put o.dst undef) w') : wpList P ops Q (o :: rest) a w := by
  subst hoff
  have hsz : (f x).toArray.size = n := by rw [List.size_toArray, hf]
  obtain ⟨h2, h3⟩ := h.put hf j hj x
  refine wpList_store_mid hgd ty y z ho g (j * n) (f x).toArray hx hy (by rw [hsz]; exact h.there hf j hj) (by rw [hsz]; exact hi) (all_oneCell_toArray (h1 x)) (hK _ _ rfl ?_ h3)
  exact h2
/-- A literal. -/
theorem rk_lit {α : Type} {n : Nat} {f : α → List Value} (hn : ∀ x, (f x).length = n) (w : World) (xs : List α) (cs : Array Value) (hcs : cs = (flatK f xs).toArray) (hl : xs.length ≤ 1000000) (e : Nat) : Rk n f (w.alloc (.cells cs e)) (w.heap.size + 1) (some ⟨w.heap.size, 0, none⟩) xs.length xs := by
  subst hcs
  refine ⟨Nat.le_refl _, by unfold maxLen; omega, (fun e => by cases e), fun ad he j hj => ?_⟩
  obtain rfl := Option.some.inj he
  refine ⟨by simp, fun i u hu => ?_⟩
  have hi : i < n := by
    have := (List.getElem?_eq_some_iff.1 hu).1
    rwa [hn] at this
  have hbk : Blk (w.alloc (.cells (flatK f xs).toArray e)) w.heap.size e (flatK f xs).toArray := Blk.new w _ _
  rw [add_plain, hbk.cell, Nat.zero_add, List.getElem?_toArray, flatK_get hn xs j hj i hi]
  exact hu
/-- A literal of one-cell elements. -/
theorem rf_lit {α : Type} {f : α → Value} (w : World) (xs : List α) (cs : Array Value) (hcs : cs = (xs.map f).toArray) (hl : xs.length ≤ 1000000) (e : Nat) : Rf f (w.alloc (.cells cs e)) (w.heap.size + 1) (some ⟨w.heap.size, 0, none⟩) xs.length xs := by
  subst hcs
  refine ⟨Nat.le_refl _, by unfold maxLen; omega, (fun e => by cases e), fun ad he j hj => ?_⟩
  obtain rfl := Option.some.inj he
  refine ⟨by simp, ?_⟩
  have hbk : Blk (w.alloc (.cells (xs.map f).toArray e)) w.heap.size e (xs.map f).toArray := Blk.new w _ _
  rw [add_plain, hbk.cell, Nat.zero_add, List.getElem?_toArray, List.getElem?_map, List.getElem?_eq_getElem hj]
  rfl
end Go.Proofs.YtejphpcngbjgjaaDoor
