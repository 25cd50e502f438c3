/- draw's Sample. -/
import Derived.Test.YtipclieldokfnaaDoorLots
namespace Go.Proofs.YtipclieldokfnaaDoor
open Go.RowKit
set_option linter.unusedVariables false

/-- Block g holds just these requests. -/
def Hq (w : World) (g : Nat) (L : List (Nat × Nat)) : Prop := Blk w g 68 (rqs L).toArray
theorem Hq.lt {w : World} {g : Nat} {L : List (Nat × Nat)} (h : Hq w g L) : g < w.heap.size := Blk.lt h
theorem rqs_set : ∀ (L : List (Nat × Nat)) (j : Nat) (r : Nat × Nat), j < L.length → ((rqs L).set (j * 2) (.int .u32 r.1)).set (j * 2 + 1) (.int .u64 r.2) = rqs (L.set j r)
  | [], j, r, h => by simp at h
  | a :: L, 0, r, h => by
    have e : ∀ (x : Nat × Nat), rqs (x :: L) = .int .u32 x.1 :: .int .u64 x.2 :: rqs L := fun x => by unfold rqs; rw [List.flatMap_cons]; rfl
    rw [List.set_cons_zero, e, e]
    simp
  | a :: L, j + 1, r, h => by
    have e : ∀ (x : Nat × Nat) (M : List (Nat × Nat)), rqs (x :: M) = .int .u32 x.1 :: .int .u64 x.2 :: rqs M := fun x M => by unfold rqs; rw [List.flatMap_cons]; rfl
    have ih := rqs_set L j r (by simpa using h)
    rw [List.set_cons_succ, e, e, ← ih, show (j + 1) * 2 = j * 2 + 1 + 1 by omega, show j * 2 + 1 + 1 + 1 = (j * 2 + 1) + 1 + 1 by omega]
    rfl
theorem Hq.set_ {w : World} {g j : Nat} {L : List (Nat × Nat)} (h : Hq w g L) (r : Nat × Nat) (hj : j < L.length) (u v : Value) (hu : u = .int .u32 r.1) (hv : v = .int .u64 r.2) :
    Hq ((w.setCell ⟨g, j * 2, none⟩ u).setCell ⟨g, j * 2 + 1, none⟩ v) g (L.set j r) := by
  subst hu hv
  have h1 := Blk.set_ (Blk.set_ h (j * 2) (.int .u32 r.1)) (j * 2 + 1) (.int .u64 r.2)
  unfold Hq
  have e : (rqs (L.set j r)).toArray = ((rqs L).toArray.setIfInBounds (j * 2) (.int .u32 r.1)).setIfInBounds (j * 2 + 1) (.int .u64 r.2) := by
    rw [← rqs_set L j r hj]; simp
  rw [e]
  exact h1
theorem Hq.cells {w : World} {g j : Nat} {L : List (Nat × Nat)} (h : Hq w g L) (hj : j < L.length) : w.cell? ⟨g, j * 2, none⟩ = some (.int .u32 (L[j].1 : Nat)) ∧ w.cell? ⟨g, j * 2 + 1, none⟩ = some (.int .u64 (L[j].2 : Nat)) := by
  obtain ⟨h1, h2⟩ := rqs_get L j hj
  exact ⟨by rw [Blk.cell h]; simpa using h1, by rw [Blk.cell h]; simpa using h2⟩
theorem Hq.rq {w : World} {g : Nat} {L : List (Nat × Nat)} (h : Hq w g L) (hm : L.length ≤ 1000000) : Rq w w.heap.size (some ⟨g, 0, none⟩) L.length L := by
  refine ⟨Nat.le_refl _, by unfold maxLen; omega, (fun e => by cases e), fun ad e j hj => ?_⟩
  obtain rfl := Option.some.inj e
  obtain ⟨h1, h2⟩ := h.cells hj
  exact ⟨h.lt, by rw [add_plain, Nat.zero_add]; exact h1, by rw [add_plain, Nat.zero_add]; exact h2⟩
theorem hq_made (w : World) (n : Nat) : Hq (w.alloc (.cells (madeCells #[.int .u32 0, .int .u64 0] (n * 2)) 68)) w.heap.size (List.replicate n (0, 0)) := by
  have e : (rqs (List.replicate n (0, 0))).toArray = madeCells #[.int .u32 0, .int .u64 0] (n * 2) := by
    apply Array.ext
    · simp [rqs_len, madeCells]
    · intro i h1 h2
      simp [rqs_len] at h1
      have hj : i / 2 < (List.replicate n ((0, 0) : Nat × Nat)).length := by simp; omega
      obtain ⟨g1, g2⟩ := rqs_get (List.replicate n (0, 0)) (i / 2) hj
      by_cases hp : i % 2 = 0
      · have e1 : i / 2 * 2 = i := by omega
        rw [e1] at g1
        have g3 := (List.getElem?_eq_some_iff.1 g1).2
        simp only [List.getElem_toArray, g3]
        simp [madeCells, hp]
      · have e1 : i / 2 * 2 + 1 = i := by omega
        have e2 : i % 2 = 1 := by omega
        rw [e1] at g2
        have g3 := (List.getElem?_eq_some_iff.1 g2).2
        simp only [List.getElem_toArray, g3]
        simp [madeCells, e2]
  unfold Hq
  rw [e]
  exact Blk.new w _ _
theorem wpList_make_rq (w : World) {ops : Array Oper} {rest : List Oper} {o : Oper} {a : Act} {Q : Exit → Act → World → Prop}
    (hg : o.guard = none) (l c : Operand) (hop : o.op = Op.makeSlice 69 l c) (n : Nat) (hl : a.eval l = .int .i64 n) (hc : a.eval c = .int .i64 n) (hn : n ≤ 1000000)
    (hK : ∀ w', Hq w' w.heap.size (List.replicate n (0, 0)) → Below w.heap.size w w' → w.heap.size < w'.heap.size → wpList Tryd.prog ops Q rest (a.put o.dst (.slice (some ⟨w.heap.size, 0, none⟩) n n)) w') :
    wpList Tryd.prog ops Q (o :: rest) a w := by
  obtain ⟨i, hi, hz0, hz1, hz2⟩ := info_parts rInfo
  refine wpList_plain hg fun K hK' => ?_
  have hrun := run_make (P := Tryd.prog) w 69 68 i _ Tryd.underlying69 hi hz0 .i64 .i64 (n : Int) (n : Int) (by omega) (by omega) (by rw [hz2]; omega) (by omega)
  simp only [Int.toNat_natCast] at hrun
  rw [hz1] at hrun
  unfold Oper.wp
  simp [execOp, hop, hl, hc, hrun, Result.andThen]
  exact hK' _ _ (hK _ (hq_made w n) (below_new _ _) (by simp))

/-- What Sample asks for. -/
def samReqs (from_ many below : Nat) : List (Nat × Nat) := (List.range many).map fun j => (from_ + j, below)
theorem samReqs_len (f m b : Nat) : (samReqs f m b).length = m := by simp [samReqs]
theorem samReqs_ok {f m b : Nat} (h1 : f + m ≤ 4294967296) (h2 : 1 ≤ b) (h3 : b ≤ 4294967296) : ∀ r ∈ samReqs f m b, r.1 < 4294967296 ∧ 1 ≤ r.2 ∧ r.2 ≤ 4294967296 := by
  intro r hr
  obtain ⟨j, hj, rfl⟩ := List.mem_map.1 hr
  have := List.mem_range.1 hj
  refine ⟨?_, ?_, ?_⟩ <;> dsimp only <;> omega
def samTo (f m b k : Nat) : List (Nat × Nat) := samReqs f k b ++ List.replicate (m - k) (0, 0)
theorem samTo_len {f m b k : Nat} (h : k ≤ m) : (samTo f m b k).length = m := by simp [samTo, samReqs]; omega
theorem samTo_step {f m b k : Nat} (h : k < m) : (samTo f m b k).set k (f + k, b) = samTo f m b (k + 1) := by
  unfold samTo
  rw [List.set_append_right (h := by rw [samReqs_len]; exact Nat.le_refl _), samReqs_len, Nat.sub_self, show m - k = (m - (k + 1)) + 1 by omega, List.replicate_succ, List.set_cons_zero]
  unfold samReqs
  rw [List.range_succ, List.map_append, List.append_assoc]
  rfl
theorem samTo_all (f m b : Nat) : samTo f m b m = samReqs f m b := by simp [samTo]
/-- What Sample answers. -/
def sampleM (s : List UInt8) (f : Nat) (m : Int) (b : Nat) : List Nat × Int :=
  if 0 ≤ m ∧ (f : Int) + m ≤ 4294967296 ∧ 1 ≤ b ∧ b ≤ 4294967296 then (if 4096 < m then ([], 4) else numsA s (samReqs f m.toNat b)) else ([], 2)

set_option maxRecDepth 100000 in
set_option maxHeartbeats 2000000 in
theorem sample_ok (s : List UInt8) (f m b : Nat) (w : World) (hs : s.length = 32) (hfm : f + m ≤ 4294967296) (hm : m ≤ 4096) (hb1 : 1 ≤ b) (hb2 : b ≤ 4294967296) (hT : Tab w) :
    Calls Tryd.prog 14 #[ab s, .int .u32 f, .int .i64 m, .int .u64 b] w (NumsErr w (numsA s (samReqs f m b))) := by
  have HS := Lib.hid hs
  have hmf : ∀ (fn : Fn) (first cap : Array Value) (w : World), (Instr.makeFunc fn first cap).run Tryd.prog w = .ok (.func fn first cap) w := fun _ _ _ _ => rfl
  have hbw := fun (o : Obj) => below_new w o
  have HD := Lib.hid (show ∀ (A : Option Addr) (c : Nat) (rs : List (Nat × Nat)) (wx : World), rs = samReqs f m b → Below w.heap.size w wx → Rq wx wx.heap.size A c rs → Calls Tryd.prog 33 #[ab s, .slice A rs.length c] wx (NumsErr wx (numsA s (samReqs f m b))) from
    fun A c rs wx hrs hb hr => by
      subst hrs
      exact draw_any s _ A c _ wx hs hr (Nat.le_refl _) (samReqs_ok hfm hb1 hb2) (by rw [samReqs_len]; omega) (hT.below hb))
  unfold ab at HD ⊢
  obtain ⟨cs, hcs⟩ : ∃ cs, (s.map bv).toArray = cs := ⟨_, rfl⟩
  have HCS := Lib.hid hcs
  have HBX := Lib.hid (Hb.new bv w 22 s cs hcs)
  rw [hcs] at HD ⊢
  clear hcs hT hs
  have n1 : ¬ (m : Int) < 0 := by omega
  have d1 : decide ((m : Int) < 0) = false := by simp
  have d2 : decide ((4294967296 : Int) < (f : Int) + (m : Int)) = false := by simp; omega
  have d3 : decide ((4096 : Int) < (m : Int)) = false := by simp; omega
  go_enter Tryd.func14, Tryd.ntmps14
  go_wp2_with (first
    | (go_at_call 32; refine (isBound_yes b _ hb1 hb2).mono ?_; rintro e w1 ⟨rfl, rfl⟩)
    | (at_make; refine wpList_make_rq _ rfl _ _ rfl m rfl rfl (by omega) ?_; intro w3 hu3 hb3 hs3))
  have HB3 := Lib.hid hb3
  have HU3 := Lib.hid hu3
  have hsw : w.heap.size < w3.heap.size := by simp at hs3; omega
  simp only [World.size_alloc] at hs3
  clear hb3 hu3 d1 d2 d3 n1
  go_loopw [34] (fun i wr => ∃ k : Nat, k ≤ m ∧ i = .int .i64 k ∧ Hid (Hq wr (w.heap.size + 1) (samTo f m b k)) ∧ Hid (Below (w.heap.size + 1) (w.alloc (.cells cs 22)) wr)) (fun i _ => m - (intOf i).toNat)
  case atStart =>
    have h1 := HU3.out
    have h2 := HB3.out
    rw [World.size_alloc] at h1 h2
    exact ⟨0, by omega, rfl, by show Hq _ _ _; simpa [samTo, samReqs] using h1, h2⟩
  case round =>
    clear HB3 HU3
    obtain ⟨k, hk, rfl, hH, hbk⟩ := hrel
    by_cases hkn : k = m
    · have hL := hH.out
      rw [hkn, samTo_all] at hL
      have hrq := hL.rq (by rw [samReqs_len]; omega)
      have hb0 : Below w.heap.size w wr := (hbw _).trans (hbk.out.mono (by omega))
      have hBX := HBX.out.below hbk.out (by omega)
      have hD := HD.out _ _ _ wr rfl hb0 hrq
      rw [samReqs_len] at hD
      have HD2 := Lib.hid hD
      have HB0 := Lib.hid hb0
      subst hkn
      clear hL hrq hb0 hD
      go_wp2_with ((with_reducible refine wpList_load_hb rfl _ (.tmp 4) rfl _ rfl hBX Tryd.underlying22 (by rw [HS.out]; exact size32) ?_); rw [HCS.out])
      refine HD2.out.mono ?_
      rintro e w4 ⟨A', c', r, er, rfl, h3, h4, h5⟩
      have H3 := Lib.hid h3
      clear h3
      go_wp2_with fail
      go_ret2
      exact NumsErr.up ⟨A', c', r, er, rfl, H3.out, h4, h5⟩ HB0.out
    · have hlt : k < m := by omega
      have hlen := samTo_len (f := f) (b := b) (show k ≤ m by omega)
      obtain ⟨y1, c1⟩ : ∃ y : Nat, wr.cell? ⟨w.heap.size + 1, k * 2, none⟩ = some (.int .u32 y) := ⟨_, (hH.out.cells (show k < (samTo f m b k).length by omega)).1⟩
      obtain ⟨y2, c2⟩ : ∃ y : Nat, wr.cell? ⟨w.heap.size + 1, k * 2 + 1, none⟩ = some (.int .u64 y) := ⟨_, (hH.out.cells (show k < (samTo f m b k).length by omega)).2⟩
      have f1 := Blk.frozen hH.out (k * 2)
      have f2 := Blk.frozen hH.out (k * 2 + 1)
      have hfk : (f : Int) + (k : Int) < 4294967296 := by omega
      have hglt := hH.out.lt
      have HLN := Lib.hid (show k < (samTo f m b k).length by omega)
      clear hlen
      go_wp2_with fail
      go_roundw
      case rel =>
        refine ⟨k + 1, by omega, by go_num, ?_, ?_⟩
        · have h := hH.out.set_ (f + k, b) HLN.out (.int .u32 ((f : Int) + (k : Int))) (.int .u64 b) (by simp) rfl
          rw [samTo_step hlt] at h
          exact h
        · exact (hbk.out.setCell (p := ⟨w.heap.size + 1, k * 2, none⟩) (Nat.le_refl _) _).setCell (p := ⟨w.heap.size + 1, k * 2 + 1, none⟩) (Nat.le_refl _) _
      case measure => simp [intOf]; omega

set_option maxRecDepth 100000 in
set_option maxHeartbeats 2000000 in
theorem sample_any (s : List UInt8) (f : Nat) (m : Int) (b : Nat) (w : World) (hs : s.length = 32) (hf : f < 4294967296) (hm : (Lit.int .i64 m).wf = true) (hb : b < 18446744073709551616) (hT : Tab w) :
    Calls Tryd.prog 14 #[ab s, .int .u32 f, .int .i64 m, .int .u64 b] w (NumsErr w (sampleM s f m b)) := by
  have hmb := bounds_i64 hm
  have HMB := Lib.hid hmb
  by_cases h0 : 0 ≤ m ∧ (f : Int) + m ≤ 4294967296 ∧ 1 ≤ b ∧ b ≤ 4294967296
  · obtain ⟨g1, g2, g3, g4⟩ := h0
    obtain ⟨k, rfl⟩ := Int.eq_ofNat_of_zero_le g1
    by_cases h4 : 4096 < (k : Int)
    · have hM : sampleM s f k b = ([], 4) := by unfold sampleM; rw [if_pos ⟨g1, g2, g3, g4⟩, if_pos h4]
      rw [hM]
      unfold ab
      obtain ⟨cs, hcs⟩ : ∃ cs, (s.map bv).toArray = cs := ⟨_, rfl⟩
      rw [hcs]
      clear hM hcs hs hT hm hmb HMB hb
      have n1 : (k : Int) ≤ 4294967296 := by omega
      have d1 : decide ((k : Int) < 0) = false := by simp
      have d2 : decide ((4294967296 : Int) < (f : Int) + (k : Int)) = false := by simp; omega
      go_enter Tryd.func14, Tryd.ntmps14
      go_wp2_with (go_at_call 32; refine (isBound_yes b _ g3 g4).mono ?_; rintro e w1 ⟨rfl, rfl⟩)
      go_ret2
      exact ⟨none, 0, [], 4, rfl, rfl, Ow.nil _ _ _, below_new _ _⟩
    · have hM : sampleM s f k b = numsA s (samReqs f k b) := by unfold sampleM; rw [if_pos ⟨g1, g2, g3, g4⟩, if_neg h4]; rfl
      rw [hM]
      exact sample_ok s f k b w hs (by omega) (by omega) g3 g4 hT
  · have hM : sampleM s f m b = ([], 2) := by unfold sampleM; rw [if_neg h0]
    rw [hM]
    unfold ab
    obtain ⟨cs, hcs⟩ : ∃ cs, (s.map bv).toArray = cs := ⟨_, rfl⟩
    rw [hcs]
    by_cases h1 : m < 0
    · clear hM hcs hs hT hm hmb HMB hb h0
      go_enter Tryd.func14, Tryd.ntmps14
      go_wp2_with fail
      go_ret2
      exact ⟨none, 0, [], 2, rfl, rfl, Ow.nil _ _ _, below_new _ _⟩
    · obtain ⟨k, rfl⟩ := Int.eq_ofNat_of_zero_le (show 0 ≤ m by omega)
      have d1 : decide ((k : Int) < 0) = false := by simp
      by_cases h2 : 4294967296 < (f : Int) + (k : Int)
      · have hk9 : (k : Int) ≤ 9223372036854775807 := by omega
        clear hM hcs hs hT hm hmb HMB hb h0 h1
        go_enter Tryd.func14, Tryd.ntmps14
        go_wp2_with fail
        go_ret2
        exact ⟨none, 0, [], 2, rfl, rfl, Ow.nil _ _ _, below_new _ _⟩
      · have hk9 : (k : Int) ≤ 4294967296 := by omega
        have d2 : decide ((4294967296 : Int) < (f : Int) + (k : Int)) = false := by simp; omega
        have HNB := Lib.hid (show ¬ (1 ≤ b ∧ b ≤ 4294967296) from fun hh => h0 ⟨by omega, by omega, hh.1, hh.2⟩)
        clear hM hcs hs hT hm hmb HMB hb h0 h1 h2
        go_enter Tryd.func14, Tryd.ntmps14
        go_wp2_with (go_at_call 32; refine (isBound_no b _ HNB.out).mono ?_; rintro e w1 ⟨rfl, rfl⟩)
        go_ret2
        exact ⟨none, 0, [], 2, rfl, rfl, Ow.nil _ _ _, below_new _ _⟩
end Go.Proofs.YtipclieldokfnaaDoor
