/- draw's method value draw; Number. -/
import Derived.Test.YtipclieldokfnaaDoorNums
namespace Go.Proofs.YtipclieldokfnaaDoor
open Go.RowKit
set_option linter.unusedVariables false

theorem sizeSrc : (Tryd.prog.info? 66).map (·.size) = some 32 := by kernel_rfl
/-- What a call answers that returns numbers and an error. -/
def NumsErr (w : World) (q : List Nat × Int) (e : Ending) (w' : World) : Prop :=
  ∃ A' c' r er, e = .returned (.tuple #[.slice A' r.length c', .int .i64 er]) ∧ (r, er) = q ∧ Ow qv w' w.heap.size 23 A' c' r ∧ Below w.heap.size w w'
theorem NumsErr.up {w w1 w' : World} {q : List Nat × Int} {e : Ending} (h : NumsErr w1 q e w') (hb : Below w.heap.size w w1) : NumsErr w q e w' := by
  obtain ⟨A', c', r, er, h1, h2, h3, h4⟩ := h
  exact ⟨A', c', r, er, h1, h2, h3.lower hb.size, hb.trans (h4.mono hb.size)⟩

set_option maxRecDepth 100000 in
set_option maxHeartbeats 1000000 in
theorem draw_any (s : List UInt8) (rs : List (Nat × Nat)) (A : Option Addr) (c B : Nat) (w : World) (hs : s.length = 32) (hr : Rq w B A c rs) (hB : B ≤ w.heap.size) (hrs : ∀ r ∈ rs, r.1 < 4294967296 ∧ 1 ≤ r.2 ∧ r.2 ≤ 4294967296) (hl : rs.length ≤ 100000) (hT : Tab w) :
    Calls Tryd.prog 33 #[ab s, .slice A rs.length c] w (NumsErr w (numsA s rs)) := by
  have HS := Lib.hid hs
  have hmf : ∀ (fn : Fn) (first cap : Array Value) (w : World), (Instr.makeFunc fn first cap).run Tryd.prog w = .ok (.func fn first cap) w := fun _ _ _ _ => rfl
  have hbw := fun (o : Obj) => below_new w o
  unfold ab
  obtain ⟨cs, hcs⟩ : ∃ cs, (s.map bv).toArray = cs := ⟨_, rfl⟩
  have HCS := Lib.hid hcs
  have HBX := Lib.hid (Hb.new bv w 66 s cs hcs)
  have HN := Lib.hid (numbers_any s rs A c B (w.alloc (.cells cs 66)) hs (hr.below ((hbw _).mono hB)) (by rw [World.size_alloc]; omega) hrs hl (hT.below (hbw _)))
  have htf : tryF s = .func (.func 46) #[.agg cs] #[] := by rw [← hcs]; rfl
  rw [htf] at HN
  rw [hcs]
  clear hcs hr hrs hT hs htf
  go_enter Tryd.func33, Tryd.ntmps33
  go_wp2_with ((with_reducible refine wpList_load_hb rfl _ (.tmp 2) rfl _ rfl HBX.out Tryd.underlying66 (by rw [HS.out]; exact sizeSrc) ?_); rw [HCS.out])
  refine HN.out.mono ?_
  rintro e w1 ⟨A', c', r, er, rfl, h2, h3, h4⟩
  have H2 := Lib.hid h2
  clear h2
  go_wp2_with fail
  go_ret2
  exact NumsErr.up ⟨A', c', r, er, rfl, H2.out, h3, h4⟩ (hbw _)

theorem isBound_yes (n : Nat) (w : World) (h1 : 1 ≤ n) (h2 : n ≤ 4294967296) : Calls Tryd.prog 32 #[.int .u64 n] w fun e w' => e = .returned (.bool true) ∧ w = w' := by
  have i1 : (1 : Int) ≤ (n : Int) := by omega
  have i2 : (n : Int) ≤ 4294967296 := by omega
  go_enter Tryd.func32, Tryd.ntmps32
  go_wp2_with fail
  go_ret
  exact ⟨rfl, rfl⟩
theorem isBound_no (n : Nat) (w : World) (h : ¬ (1 ≤ n ∧ n ≤ 4294967296)) : Calls Tryd.prog 32 #[.int .u64 n] w fun e w' => e = .returned (.bool false) ∧ w = w' := by
  by_cases h1 : 1 ≤ n
  · have i1 : (1 : Int) ≤ (n : Int) := by omega
    have i2 : (4294967296 : Int) < (n : Int) := by omega
    have i3 : decide ((n : Int) ≤ 4294967296) = false := by simp; omega
    clear h
    go_enter Tryd.func32, Tryd.ntmps32
    go_wp2_with fail
    go_ret
    exact ⟨rfl, rfl⟩
  · obtain rfl : n = 0 := by omega
    clear h h1
    go_enter Tryd.func32, Tryd.ntmps32
    go_wp2_with fail
    go_ret
    exact ⟨rfl, rfl⟩

/-- What Number answers. -/
def numberM (s : List UInt8) (i n : Nat) : Nat × Int := if 1 ≤ n ∧ n ≤ 4294967296 then (match drawnM s i n with | some x => (x, 0) | none => (0, 6)) else (0, 2)
theorem numberM_lt (s : List UInt8) (i n : Nat) : (numberM s i n).1 < 4294967296 := by
  unfold numberM
  by_cases h : 1 ≤ n ∧ n ≤ 4294967296
  · rw [if_pos h]
    cases hd : drawnM s i n with
    | none => simp
    | some x => have := drawn_lt h.1 hd; simp; omega
  · rw [if_neg h]; simp

set_option maxRecDepth 100000 in
set_option maxHeartbeats 1000000 in
theorem number_any (s : List UInt8) (i n : Nat) (w : World) (hs : s.length = 32) (hi : i < 4294967296) (hn : n < 18446744073709551616) (hT : Tab w) :
    Calls Tryd.prog 12 #[ab s, .int .u32 i, .int .u64 n] w fun e w' => e = .returned (.tuple #[.int .u64 ((numberM s i n).1 : Nat), .int .i64 (numberM s i n).2]) ∧ Below w.heap.size w w' := by
  have HS := Lib.hid hs
  have HT := Lib.hid hT
  have hmf : ∀ (fn : Fn) (first cap : Array Value) (w : World), (Instr.makeFunc fn first cap).run Tryd.prog w = .ok (.func fn first cap) w := fun _ _ _ _ => rfl
  have hbw := fun (o : Obj) => below_new w o
  by_cases hb : 1 ≤ n ∧ n ≤ 4294967296
  · have hM : numberM s i n = match drawnM s i n with | some x => (x, 0) | none => (0, 6) := by unfold numberM; rw [if_pos hb]
    obtain ⟨h1, h2⟩ := hb
    unfold ab
    obtain ⟨cs, hcs⟩ : ∃ cs, (s.map bv).toArray = cs := ⟨_, rfl⟩
    have HCS := Lib.hid hcs
    have HBX := Lib.hid (Hb.new bv w 22 s cs hcs)
    obtain ⟨W1, hW1⟩ : ∃ W1, W1 = (w.alloc (.cells cs 22)).alloc (.cells #[.int .u32 (i : Int), .int .u64 (n : Int)] 68) := ⟨_, rfl⟩
    have hb2 : Below w.heap.size w W1 := by rw [hW1]; exact (hbw _).alloc (by simp) _
    have hrq : Rq W1 W1.heap.size (some ⟨w.heap.size + 1, 0, none⟩) 1 [(i, n)] := by
      refine ⟨by simp, by unfold maxLen; omega, (fun e => by cases e), fun ad e j hj => ?_⟩
      obtain rfl := Option.some.inj e
      obtain rfl : j = 0 := by simp at hj; omega
      have hbk : Blk W1 (w.heap.size + 1) 68 #[.int .u32 (i : Int), .int .u64 (n : Int)] := by
        have := Blk.new (w.alloc (.cells cs 22)) 68 #[.int .u32 (i : Int), .int .u64 (n : Int)]
        rw [World.size_alloc] at this
        rw [hW1]; exact this
      refine ⟨hbk.lt, ?_, ?_⟩
      · rw [add_plain]; exact hbk.cell 0
      · rw [add_plain]; exact hbk.cell 1
    have hD := draw_any s [(i, n)] _ 1 _ W1 hs hrq (Nat.le_refl _) (by intro r hr; simp at hr; subst hr; exact ⟨hi, h1, h2⟩) (by simp) (hT.below hb2)
    unfold ab at hD
    rw [hcs, show ([(i, n)] : List (Nat × Nat)).length = 1 from rfl, hW1] at hD
    have HD := Lib.hid hD
    have HA := Lib.hid (show numsA s [(i, n)] = match drawnM s i n with | some x => ([x], 0) | none => ([], 6) by
      unfold numsA
      simp only [numsM]
      cases drawnM s i n <;> rfl)
    rw [hW1] at hb2
    have HB2 := Lib.hid hb2
    rw [hcs]
    clear hcs hD hrq hb2 hW1 hs hT hbw
    go_enter Tryd.func12, Tryd.ntmps12
    go_wp2_with fail
    refine (isBound_yes n _ h1 h2).mono ?_
    rintro e w1 ⟨rfl, rfl⟩
    go_wp2_with ((with_reducible refine wpList_load_hb rfl _ (.tmp 3) rfl _ rfl HBX.out Tryd.underlying22 (by rw [HS.out]; exact size32) ?_); rw [HCS.out])
    refine HD.out.mono ?_
    rintro e w2 ⟨A', c', r, er, rfl, h3, h4, h5⟩
    rw [HA.out] at h3
    have hbw2 := HB2.out.trans (h5.mono HB2.out.size)
    cases hdr : drawnM s i n with
    | none =>
      rw [hdr] at h3 hM
      obtain ⟨rfl, rfl⟩ := Prod.mk.inj h3
      have HM := Lib.hid hM
      clear h3 hM h4 h5 hdr
      go_wp2_with fail
      go_ret2
      exact ⟨by rw [HM.out]; rfl, hbw2⟩
    | some x =>
      rw [hdr] at h3 hM
      obtain ⟨rfl, rfl⟩ := Prod.mk.inj h3
      have HM := Lib.hid hM
      obtain ⟨b, o, rfl, hbb, hc⟩ := h4.rd.at_ (k := 0) (by simp)
      have c0 := hc 0 (by simp)
      simp only [List.getElem_cons_zero, qv, Nat.add_zero] at c0
      clear h3 hM h4 h5 hdr hc
      go_wp2_with fail
      go_ret2
      exact ⟨by rw [HM.out]; rfl, hbw2⟩
  · have hM : numberM s i n = (0, 2) := by unfold numberM; rw [if_neg hb]
    rw [hM]
    unfold ab
    obtain ⟨cs, hcs⟩ : ∃ cs, (s.map bv).toArray = cs := ⟨_, rfl⟩
    rw [hcs]
    have HNB := Lib.hid hb
    clear hM hcs hb hs hT hn
    go_enter Tryd.func12, Tryd.ntmps12
    go_wp2_with fail
    refine (isBound_no n _ HNB.out).mono ?_
    rintro e w1 ⟨rfl, rfl⟩
    go_wp2_with fail
    go_ret2
    exact ⟨rfl, hbw _⟩
end Go.Proofs.YtipclieldokfnaaDoor
