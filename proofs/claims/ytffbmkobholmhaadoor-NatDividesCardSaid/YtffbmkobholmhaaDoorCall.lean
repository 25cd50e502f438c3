/- Each call, as the walks of the statements ask it: the answer under a name, the world behind it as Below. -/
import Derived.Test.YtffbmkobholmhaaDoorRefS
namespace Go.Proofs.YtffbmkobholmhaaDoor
open Go.RowKit
set_option linter.unusedVariables false

/-- The slice reads as l in the world w. -/
def Sl (w : World) (A : Option Addr) (c : Nat) (l : List UInt32) : Prop := Rf uv w w.heap.size A c l
theorem Sl.to {w w' : World} {A : Option Addr} {c : Nat} {l : List UInt32} (h : Sl w A c l) (hb : Below w.heap.size w w') : Sl w' A c l := (Rf.below h hb).more hb.size
theorem Sl.drewN {w : World} {A : Option Addr} {c : Nat} {l : List UInt32} (h : Sl w A c l) (n : Nat) : Sl (w.drewN n) A c l := Rf.drewN h n
theorem Sl.nil (w : World) : Sl w none 0 [] := Rf.empty _ _
/-- A literal. -/
theorem Sl.lit (w : World) (L : List UInt32) (cs : Array Value) (h : (L.map uv).toArray = cs) (hl : L.length ≤ 1000) : Sl (w.alloc (.cells cs 45)) (some ⟨w.heap.size, 0, none⟩) L.length L := by
  subst h
  have hu : Ub (w.alloc (.cells (L.map uv).toArray 45)) w.heap.size 45 L := Blk.new w _ _
  exact hu.rf_all (Nat.le_refl _) (by unfold maxLen; omega)
theorem Sl.litg (w : World) (g : Nat) (L : List UInt32) (cs : Array Value) (hg : g = w.heap.size) (h : (L.map uv).toArray = cs) (n : Nat) (hn : L.length = n) (hl : n ≤ 1000) : Sl (w.alloc (.cells cs 45)) (some ⟨g, 0, none⟩) n L := by
  subst hg hn
  exact Sl.lit w L cs h hl
def ResP (w w' : World) (l : List UInt32) (er : Int) (e : Ending) : Prop := ∃ A c, e = .returned (.tuple #[.slice A l.length c, .int .i64 er]) ∧ Sl w' A c l ∧ Below w.heap.size w w'
def Res2P (w w' : World) (q r : List UInt32) (er : Int) (e : Ending) : Prop := ∃ A1 A2 c1 c2, e = .returned (.tuple #[.slice A1 q.length c1, .slice A2 r.length c2, .int .i64 er]) ∧ Sl w' A1 c1 q ∧ Sl w' A2 c2 r ∧ Below w.heap.size w w'
theorem resP_of {w w' : World} {q : List UInt32 × Int} {l : List UInt32} {er : Int} {e : Ending} (hq : q = (l, er)) (h : NumErr w w' q e) : ResP w w' l er e := by subst hq; exact h

section
variable (A1 A2 : Option Addr) (c1 c2 n1 n2 : Nat) (a b : List UInt32) (w : World)
theorem add_c (l : List UInt32) (er : Int) (hr1 : Hid (Sl w A1 c1 a)) (hr2 : Hid (Sl w A2 c2 b)) (h1 : Hid (a.length = n1)) (h2 : Hid (b.length = n2)) (hq : Hid (addM a b = (l, er))) :
    Calls Tryd.prog 22 #[.slice A1 n1 c1, .slice A2 n2 c2] w fun e w' => ResP w w' l er e := by
  obtain rfl := h1.out
  obtain rfl := h2.out
  exact (add2_any A1 A2 c1 c2 a b w hr1.out hr2.out).mono fun e w' h => resP_of hq.out h
theorem sub_c (l : List UInt32) (er : Int) (hr1 : Hid (Sl w A1 c1 a)) (hr2 : Hid (Sl w A2 c2 b)) (h1 : Hid (a.length = n1)) (h2 : Hid (b.length = n2)) (hq : Hid (subM a b = (l, er))) :
    Calls Tryd.prog 24 #[.slice A1 n1 c1, .slice A2 n2 c2] w fun e w' => ResP w w' l er e := by
  obtain rfl := h1.out
  obtain rfl := h2.out
  exact (sub2_any A1 A2 c1 c2 a b w hr1.out hr2.out).mono fun e w' h => resP_of hq.out h
theorem mul_c (l : List UInt32) (er : Int) (hr1 : Hid (Sl w A1 c1 a)) (hr2 : Hid (Sl w A2 c2 b)) (h1 : Hid (a.length = n1)) (h2 : Hid (b.length = n2)) (hq : Hid (mulM a b = (l, er))) :
    Calls Tryd.prog 26 #[.slice A1 n1 c1, .slice A2 n2 c2] w fun e w' => ResP w w' l er e := by
  obtain rfl := h1.out
  obtain rfl := h2.out
  exact (mul2_any A1 A2 c1 c2 a b w hr1.out hr2.out).mono fun e w' h => resP_of hq.out h
theorem gcd_c (l : List UInt32) (er : Int) (hr1 : Hid (Sl w A1 c1 a)) (hr2 : Hid (Sl w A2 c2 b)) (h1 : Hid (a.length = n1)) (h2 : Hid (b.length = n2)) (hq : Hid (gcdM a b = (l, er))) :
    Calls Tryd.prog 35 #[.slice A1 n1 c1, .slice A2 n2 c2] w fun e w' => ResP w w' l er e := by
  obtain rfl := h1.out
  obtain rfl := h2.out
  exact (gcd2_any A1 A2 c1 c2 a b w hr1.out hr2.out).mono fun e w' h => resP_of hq.out h
theorem div_c (q r : List UInt32) (er : Int) (hr1 : Hid (Sl w A1 c1 a)) (hr2 : Hid (Sl w A2 c2 b)) (h1 : Hid (a.length = n1)) (h2 : Hid (b.length = n2)) (hq : Hid (divM a b = ((q, r), er))) :
    Calls Tryd.prog 28 #[.slice A1 n1 c1, .slice A2 n2 c2] w fun e w' => Res2P w w' q r er e := by
  obtain rfl := h1.out
  obtain rfl := h2.out
  refine (div2_any A1 A2 c1 c2 a b w hr1.out hr2.out).mono fun e w' h => ?_
  rw [hq.out] at h
  exact h
theorem cmp_c (v er : Int) (hr1 : Hid (Sl w A1 c1 a)) (hr2 : Hid (Sl w A2 c2 b)) (h1 : Hid (a.length = n1)) (h2 : Hid (b.length = n2)) (hq : Hid (cmpM a b = (v, er))) :
    Calls Tryd.prog 14 #[.slice A1 n1 c1, .slice A2 n2 c2] w fun e w' => e = .returned (.tuple #[.int .i64 v, .int .i64 er]) ∧ Below w.heap.size w w' := by
  obtain rfl := h1.out
  obtain rfl := h2.out
  refine (cmp_any A1 A2 c1 c2 _ _ a b w hr1.out hr2.out).mono ?_
  rintro e w' ⟨he, q, rfl⟩
  rw [hq.out] at he
  exact ⟨he, below_drewN _ _ _⟩
theorem same_c (v : Bool) (hr1 : Hid (Sl w A1 c1 a)) (hr2 : Hid (Sl w A2 c2 b)) (h1 : Hid (a.length = n1)) (h2 : Hid (b.length = n2)) (hq : Hid (sameB a b = v)) :
    Calls Tryd.prog 18 #[.slice A1 n1 c1, .slice A2 n2 c2] w fun e w' => e = .returned (.bool v) ∧ Below w.heap.size w w' := by
  obtain rfl := h1.out
  obtain rfl := h2.out
  refine (same_any A1 A2 c1 c2 _ _ a b w hr1.out hr2.out).mono ?_
  rintro e w' ⟨he, q, rfl⟩
  rw [hq.out] at he
  exact ⟨he, below_drewN _ _ _⟩
theorem rsame_c (v : Bool) (hr1 : Hid (Sl w A1 c1 a)) (hr2 : Hid (Sl w A2 c2 b)) (h1 : Hid (a.length = n1)) (h2 : Hid (b.length = n2)) (hq : Hid (sameB a b = v)) :
    Calls Tryd.prog 19 #[.slice A1 n1 c1, .slice A2 n2 c2] w fun e w' => e = .returned (.bool v) ∧ Below w.heap.size w w' := by
  obtain rfl := h1.out
  obtain rfl := h2.out
  refine (rsame_any A1 A2 c1 c2 _ _ a b w hr1.out hr2.out).mono ?_
  rintro e w' ⟨he, q, rfl⟩
  rw [hq.out] at he
  exact ⟨he, below_drewN _ _ _⟩
theorem check_c (v : Int) (hr1 : Hid (Sl w A1 c1 a)) (h1 : Hid (a.length = n1)) (hq : Hid (chk a = v)) :
    Calls Tryd.prog 16 #[.slice A1 n1 c1] w fun e w' => e = .returned (.int .i64 v) ∧ w = w' := by
  obtain rfl := h1.out
  have h := check_any A1 c1 _ a w hr1.out
  rw [hq.out] at h
  exact h
theorem word_c (v : Nat) (er : Int) (hr1 : Hid (Sl w A1 c1 a)) (h1 : Hid (a.length = n1)) (hq : Hid (wordM a = (v, er))) :
    Calls Tryd.prog 12 #[.slice A1 n1 c1] w fun e w' => e = .returned (.tuple #[.int .u64 v, .int .i64 er]) ∧ w = w' := by
  obtain rfl := h1.out
  have h := word2_any A1 c1 _ a w hr1.out
  rw [hq.out] at h
  exact h
theorem text_c (t : List UInt8) (er : Int) (hr1 : Hid (Sl w A1 c1 a)) (h1 : Hid (a.length = n1)) (hq : Hid (textM a = (t, er))) :
    Calls Tryd.prog 30 #[.slice A1 n1 c1] w fun e w' => e = .returned (.tuple #[.string ⟨t.toArray⟩, .int .i64 er]) ∧ Below w.heap.size w w' := by
  obtain rfl := h1.out
  have h := text_any A1 c1 a w hr1.out
  rw [hq.out] at h
  exact h
end
theorem read_c (s : List UInt8) (w : World) (l : List UInt32) (er : Int) (hl : s.length ≤ 100000) (hq : Hid (readM s = (l, er))) :
    Calls Tryd.prog 32 #[.string ⟨s.toArray⟩] w fun e w' => ResP w w' l er e :=
  (read_any s w hl).mono fun e w' h => resP_of hq.out h
theorem of_c (n : Nat) (w : World) (l : List UInt32) (hn : n < 18446744073709551616) (hq : Hid (limbs n = l)) :
    Calls Tryd.prog 20 #[.int .u64 n] w fun e w' => ∃ A c, e = .returned (.slice A l.length c) ∧ Sl w' A c l ∧ Below w.heap.size w w' := by
  obtain rfl := hq.out
  exact of_any n w hn

/-- right at a list of arguments that the call has just laid. -/
theorem els_lit (w : World) (els : List El) (cs : Array Value) (h : (els.map El.v).toArray = cs) (hl : els.length ≤ 1000) : Rf El.v (w.alloc (.cells cs 22)) (w.alloc (.cells cs 22)).heap.size (some ⟨w.heap.size, 0, none⟩) els.length els := by
  subst h
  have hb := Blk.new w 22 (els.map El.v).toArray
  refine ⟨Nat.le_refl _, by unfold maxLen; omega, (fun e => by cases e), fun ad e j hj => ?_⟩
  obtain rfl := Option.some.inj e
  refine ⟨by simp, ?_⟩
  rw [add_plain, hb.cell]
  simp [hj]
theorem right_c (most : Nat) (mi : Int) (hmi : mi = (most : Int)) (els : List El) (cs : Array Value) (n : Nat) (v : Bool) (w : World) (hcs : Hid ((els.map El.v).toArray = cs)) (hx : Hid (∀ x ∈ els, Sl w x.A x.c x.l)) (hn : Hid (els.length = n)) (hm : most ≤ 1000) (hl : n ≤ 1000) (hv : Hid (rightB most (els.map (·.l)) = v)) :
    Calls Tryd.prog 37 #[.int .i64 mi, .slice (some ⟨w.heap.size, 0, none⟩) n n] (w.alloc (.cells cs 22)) fun e w' => e = .returned (.bool v) ∧ w.alloc (.cells cs 22) = w' := by
  subst hmi
  obtain rfl := hn.out
  obtain rfl := hv.out
  exact right_any most els.length els.length _ _ els _ (els_lit w els cs hcs.out (by omega)) (fun x hxm => ⟨_, (hx.out x hxm).to (below_new _ _)⟩) rfl hm (by omega)

theorem chk_lit {l : List UInt32} {n : Nat} (h : l.length = n + 1) (hn : n < 96) (hx : l[n]? ≠ some 0) : chk l = 0 := by
  refine chk_ok (by omega) (limbs_val_last h (fun e => hx ?_))
  rw [List.getElem?_eq_getElem (by omega), e]
theorem limbs_lit {l : List UInt32} {n v : Nat} (h : l.length = n + 1) (hx : l[n]? ≠ some 0) (hv : val l = v) : limbs v = l := by
  subst hv
  refine limbs_val_last h (fun e => hx ?_)
  rw [List.getElem?_eq_getElem (by omega), e]
end Go.Proofs.YtffbmkobholmhaaDoor
