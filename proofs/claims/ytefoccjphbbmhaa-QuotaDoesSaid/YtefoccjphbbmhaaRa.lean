/- ratio's isOne, isZero, sizeOf, lowest. -/
import Derived.Test.YtefoccjphbbmhaaQv
import Derived.Test.YtefoccjphbbmhaaDv
namespace Go.Proofs.Ytefoccjphbbmhaa
open Go.RowKit
set_option linter.unusedVariables false

/-- What a call keeps in memory: all below its start, and blocks of its own. -/
def Kp (w : World) (bs : List (Nat × TypeId × Array Value)) (wx : World) : Prop := Below w.heap.size w wx ∧ ∀ b ∈ bs, Blk wx b.1 b.2.1 b.2.2
theorem Kp.refl (w : World) : Kp w [] w := ⟨Below.refl _ _, fun _ h => by cases h⟩
theorem Kp.next {w wx wy : World} {bs : List (Nat × TypeId × Array Value)} (h : Kp w bs wx) (hb : Below wx.heap.size wx wy) : Kp w bs wy :=
  ⟨h.1.trans (hb.mono h.1.size), fun b hm => (h.2 b hm).below hb (h.2 b hm).lt⟩
theorem Kp.alloc {w wx : World} {bs : List (Nat × TypeId × Array Value)} (h : Kp w bs wx) (cs : Array Value) (t : TypeId) (g : Nat) (hg : g = wx.heap.size) : Kp w ((g, t, cs) :: bs) (wx.alloc (.cells cs t)) := by
  subst hg
  have h2 := h.next (below_new wx (.cells cs t))
  refine ⟨h2.1, fun b hm => ?_⟩
  rcases List.mem_cons.1 hm with e | e
  · subst e; exact Blk.new wx t cs
  · exact h2.2 b e
theorem Kp.blk {w wx : World} {bs : List (Nat × TypeId × Array Value)} (h : Kp w bs wx) {g : Nat} {t : TypeId} {cs : Array Value} (hm : (g, t, cs) ∈ bs) : Blk wx g t cs := h.2 (g, t, cs) hm
theorem Kp.cell {w wx : World} {bs : List (Nat × TypeId × Array Value)} (h : Kp w bs wx) {g : Nat} {t : TypeId} {cs : Array Value} (hm : (g, t, cs) ∈ bs) (i : Nat) {v : Value} (hv : cs[i]? = some v) : wx.cell? ⟨g, i, none⟩ = some v := by
  rw [(h.blk hm).cell, hv]
section
variable {w wx : World} {bs : List (Nat × TypeId × Array Value)} {b0 b1 b2 : Nat × TypeId × Array Value} {g : Nat} {t : TypeId} {cs : Array Value}
theorem Kp.blk0 (h : Kp w ((g, t, cs) :: bs) wx) : Blk wx g t cs := h.blk List.mem_cons_self
theorem Kp.blk1 (h : Kp w (b0 :: (g, t, cs) :: bs) wx) : Blk wx g t cs := h.blk (List.mem_cons_of_mem _ List.mem_cons_self)
theorem Kp.blk2 (h : Kp w (b0 :: b1 :: (g, t, cs) :: bs) wx) : Blk wx g t cs := h.blk (List.mem_cons_of_mem _ (List.mem_cons_of_mem _ List.mem_cons_self))
theorem Kp.blk3 (h : Kp w (b0 :: b1 :: b2 :: (g, t, cs) :: bs) wx) : Blk wx g t cs := h.blk (List.mem_cons_of_mem _ (List.mem_cons_of_mem _ (List.mem_cons_of_mem _ List.mem_cons_self)))
end
theorem Blk.at_ {w : World} {g : Nat} {t : TypeId} {cs : Array Value} (h : Blk w g t cs) (i : Nat) {v : Value} (hv : cs[i]? = some v) : w.cell? ⟨g, i, none⟩ = some v := by rw [h.cell, hv]
/-- A block of the call's own was written: the others, and what lay below, stay. -/
theorem Kp.put {w wx wy : World} {bs : List (Nat × TypeId × Array Value)} {g : Nat} (h : Kp w bs wx) (hg : wx.grownBy wy (some g)) (hl : w.heap.size ≤ g) (hb : ∀ b ∈ bs, b.1 ≠ g) : Kp w bs wy :=
  ⟨below_own h.1 hg hl, fun b hm => (h.2 b hm).grown hg (fun e => hb b hm (Option.some.inj e))⟩
theorem Kp.tail {w wx : World} {bs : List (Nat × TypeId × Array Value)} {b0 : Nat × TypeId × Array Value} (h : Kp w (b0 :: bs) wx) : Kp w bs wx := ⟨h.1, fun b hm => h.2 b (List.mem_cons_of_mem _ hm)⟩
theorem Kp.cons {w wx : World} {bs : List (Nat × TypeId × Array Value)} {g : Nat} {t : TypeId} {cs : Array Value} (h : Kp w bs wx) (hb : Blk wx g t cs) : Kp w ((g, t, cs) :: bs) wx :=
  ⟨h.1, fun b hm => by rcases List.mem_cons.1 hm with e | e; · { subst e; exact hb }; · exact h.2 b e⟩
theorem Kp.sl {w wx : World} {bs : List (Nat × TypeId × Array Value)} (h : Kp w bs wx) {A : Option Addr} {c : Nat} {l : List UInt32} (hs : Sl w A c l) : Sl wx A c l := hs.to h.1
theorem Kp.drewN {w wx : World} {bs : List (Nat × TypeId × Array Value)} (h : Kp w bs wx) (n : Nat) : Kp w bs (wx.drewN n) := h.next (below_drewN _ _ _)

/-- A block that holds no limb: limbs lie elsewhere. -/
def noU (cs : Array Value) : Prop := ∀ (i : Nat) (x : UInt32), cs[i]? ≠ some (uv x)
theorem noU_rq (b : Bool) (A B : Option Addr) (n c m d : Nat) : noU #[.bool b, .slice A n c, .slice B m d] := by
  intro i x h
  match i with
  | 0 => simp [uv] at h
  | 1 => simp [uv] at h
  | 2 => simp [uv] at h
  | k + 3 => simp at h
theorem Sl.off {w w' : World} {A : Option Addr} {c : Nat} {l : List UInt32} (h : Sl w A c l) {g : Nat} {t : TypeId} {cs : Array Value} (hB : Blk w g t cs) (hcs : noU cs) (hg : w.grownBy w' (some g)) : Sl w' A c l := by
  refine (Rf.grown h hg (Nat.le_refl _) (fun hl e => ?_)).more hg.size
  obtain ⟨b, o, rfl, hb, hc⟩ := Rf.at_ h (k := 0) hl
  have hc0 := hc 0 hl
  have : b = g := by simpa [blk] using e
  subst this
  rw [hB.cell] at hc0
  exact hcs _ _ hc0
theorem RqS.off {w w' : World} {A B : Option Addr} {c d : Nat} {x : Rq} (h : RqS w A c B d x) {g : Nat} {t : TypeId} {cs : Array Value} (hB : Blk w g t cs) (hcs : noU cs) (hg : w.grownBy w' (some g)) : RqS w' A c B d x := ⟨h.1.off hB hcs hg, h.2.off hB hcs hg⟩
theorem list_one {α : Type} (l : List α) (h : l.length = 1) : l = [l[0]'(by omega)] := by
  match l, h with
  | [y], _ => rfl
set_option maxRecDepth 100000 in
set_option maxHeartbeats 1000000 in
theorem isOne_any (l : List UInt32) (A : Option Addr) (c n : Nat) (w : World) (hr : Sl w A c l) (hn : l.length = n) :
    Calls Try.prog 64 #[.slice A n c] w fun e w' => e = .returned (.bool (decide (l = [1]))) ∧ w' = w := by
  by_cases h1 : n = 1
  · subst h1
    obtain ⟨b, o, rfl, hb, hc⟩ := Rf.at_ hr (k := 0) (by omega)
    have hc0 := hc 0 (by omega)
    obtain ⟨x, hx⟩ : ∃ x, x = l[0]'(by omega) := ⟨_, rfl⟩
    have hl : l = [x] := by
      rw [hx]
      exact list_one l hn
    rw [← hx] at hc0
    unfold uv at hc0
    have hd : decide (l = [1]) = ((x.toNat : Int) == 1) := by
      rw [hl, Bool.eq_iff_iff, decide_eq_true_eq, beq_iff_eq]
      constructor
      · intro e; simp at e; subst e; rfl
      · intro e
        have : x = 1 := u32_eq (by have : x.toNat = 1 := by omega
                                   rw [this]; rfl)
        rw [this]
    have HD := Lib.hid hd
    clear hd hl hx hc hn
    rw [Nat.add_zero] at hc0
    go_enter Try.func64, Try.ntmps64
    go_wp2_with fail
    go_ret
    exact ⟨by rw [HD.out] <;> rfl, rfl⟩
  · have K : ((n : Int) == 1) = false := by rw [beq_eq_false_iff_ne]; omega
    have HD := Lib.hid (show decide (l = [1]) = false by
      rw [decide_eq_false_iff_not]; intro e; rw [e] at hn; exact h1 hn.symm)
    go_enter Try.func64, Try.ntmps64
    go_wp2_with fail
    go_ret
    exact ⟨by rw [HD.out] <;> rfl, rfl⟩
set_option maxRecDepth 100000 in
set_option maxHeartbeats 1000000 in
theorem isZero_any (ng : Bool) (A B : Option Addr) (n c m d : Nat) (w : World) :
    Calls Try.prog 65 #[.agg #[.bool ng, .slice A n c, .slice B m d]] w fun e w' => e = .returned (.bool ((n : Int) == 0)) ∧ Below w.heap.size w w' := by
  have hbw := fun (o : Obj) => below_new w o
  go_enter Try.func65, Try.ntmps65
  go_wp2_with fail
  go_ret
  exact ⟨rfl, hbw _⟩
set_option maxRecDepth 100000 in
set_option maxHeartbeats 1000000 in
theorem sizeOf_any (n : Int) (m : Nat) (h1 : -9223372036854775808 ≤ n) (h2 : n ≤ 9223372036854775807) (hm : n.natAbs = m) (w : World) :
    Calls Try.prog 53 #[.int .i64 n] w fun e w' => ∃ A c, e = .returned (.slice A (limbs m).length c) ∧ Sl w' A c (limbs m) ∧ Below w.heap.size w w' := by
  have HO := Lib.hid (of_c m w (limbs m) (by omega) rfl)
  have hmi : (m : Int) = n ∨ (m : Int) = -n := by omega
  by_cases h0 : n < 0
  · have K : decide (n < 0) = true := decide_eq_true h0
    have W1 : IntKind.u64.wrap n = n + 18446744073709551616 := by rw [IntKind.wrap_u64]; omega
    have W2 : IntKind.u64.wrap (-(n + 18446744073709551616)) = (m : Int) := by rw [IntKind.wrap_u64]; omega
    clear hm
    go_enter Try.func53, Try.ntmps53
    go_wp2_with fail
    refine HO.out.mono ?_
    rintro e w1 ⟨A, c, rfl, hs, hb⟩
    go_wp2_with fail
    go_ret
    exact ⟨A, c, rfl, hs, hb⟩
  · have K : decide (n < 0) = false := decide_eq_false h0
    have W1 : IntKind.u64.wrap n = (m : Int) := by rw [IntKind.wrap_u64]; omega
    clear hm
    go_enter Try.func53, Try.ntmps53
    go_wp2_with fail
    refine HO.out.mono ?_
    rintro e w1 ⟨A, c, rfl, hs, hb⟩
    go_wp2_with fail
    go_ret
    exact ⟨A, c, rfl, hs, hb⟩
end Go.Proofs.Ytefoccjphbbmhaa
