/- digest's schedule. -/
import Derived.Test.YtipclieldokfnaaDoorByte
namespace Go.Proofs.YtipclieldokfnaaDoor
open Go.RowKit
set_option linter.unusedVariables false
theorem w_shr3 (x : UInt32) : (x.toNat : Int) / 8 = ((shr x 3).toNat : Int) := w_shr x 3
theorem w_shr10 (x : UInt32) : (x.toNat : Int) / 1024 = ((shr x 10).toNat : Int) := w_shr x 10
attribute [local go_sem] w_add w_xor w_and w_or w_not w_shr3 w_shr10

theorem takeWord_c (A : Option Addr) (c B n : Nat) (l : List UInt8) (x : UInt32) (w : World) (hr : Rf bv w B A c l) (hn : Hid (l.length = n)) (hl : 4 ≤ n) (hm : n ≤ 1000000) (hx : Hid (wordAt l 0 = x)) :
    Calls Tryd.prog 76 #[.slice A n c] w fun e w' => e = .returned (.int .u32 (x.toNat : Int)) ∧ w = w' := by
  have h1 := hn.out
  have h2 := hx.out
  subst h1 h2
  exact takeWord_any A c B l w hr hl hm
/-- The words so far, and zeros behind them. -/
def sofar (l : List UInt8) (t : Nat) : List UInt32 := sched l t ++ List.replicate (64 - t) 0
theorem sofar_len (l : List UInt8) {t : Nat} (h : t ≤ 64) : (sofar l t).length = 64 := by
  unfold sofar
  rw [List.length_append, sched_len, List.length_replicate]; omega
theorem sofar_step (l : List UInt8) {t : Nat} (h : t < 64) (x : UInt32) (hx : x = if t < 16 then wordAt l (4 * t) else nextW (sched l t) t) : (sofar l t).set t x = sofar l (t + 1) := by
  subst hx
  unfold sofar
  rw [List.set_append_right (h := by rw [sched_len]; omega), sched_len, Nat.sub_self, sched, List.append_assoc]
  congr 1
  rw [show 64 - t = (64 - (t + 1)) + 1 by omega, List.replicate_succ, List.set_cons_zero]
  rfl
theorem sofar_all (l : List UInt8) : sofar l 64 = sched l 64 := by unfold sofar; simp
theorem sofar_zero (l : List UInt8) : sofar l 0 = List.replicate 64 0 := rfl
theorem sofar_cell {w : World} {g T : Nat} {l : List UInt8} {t i : Nat} (h : Hb uv w g T (sofar l t)) (ht : t ≤ 64) (hi : i < t) : w.cell? ⟨g, i, none⟩ = some (.int .u32 (((sched l t).getD i 0).toNat : Int)) := by
  rw [h.cell (by rw [sofar_len _ ht]; omega)]
  unfold uv
  congr 3
  have e : (sofar l t)[i]? = (sched l t)[i]? := by
    unfold sofar
    rw [List.getElem?_append_left (by rw [sched_len]; exact hi)]
  rw [List.getD, ← e, List.getElem?_eq_getElem (by rw [sofar_len _ ht]; omega)]
  rfl
theorem zeros64 : ((List.replicate 64 (0 : UInt32)).map uv).toArray = #[.int .u32 0, .int .u32 0, .int .u32 0, .int .u32 0, .int .u32 0, .int .u32 0, .int .u32 0, .int .u32 0,
  .int .u32 0, .int .u32 0, .int .u32 0, .int .u32 0, .int .u32 0, .int .u32 0, .int .u32 0, .int .u32 0, .int .u32 0, .int .u32 0, .int .u32 0, .int .u32 0, .int .u32 0, .int .u32 0, .int .u32 0, .int .u32 0,
  .int .u32 0, .int .u32 0, .int .u32 0, .int .u32 0, .int .u32 0, .int .u32 0, .int .u32 0, .int .u32 0, .int .u32 0, .int .u32 0, .int .u32 0, .int .u32 0, .int .u32 0, .int .u32 0, .int .u32 0, .int .u32 0,
  .int .u32 0, .int .u32 0, .int .u32 0, .int .u32 0, .int .u32 0, .int .u32 0, .int .u32 0, .int .u32 0, .int .u32 0, .int .u32 0, .int .u32 0, .int .u32 0, .int .u32 0, .int .u32 0, .int .u32 0, .int .u32 0,
  .int .u32 0, .int .u32 0, .int .u32 0, .int .u32 0, .int .u32 0, .int .u32 0, .int .u32 0, .int .u32 0] := rfl

set_option maxHeartbeats 1000000 in
theorem schedule_any (A : Option Addr) (c B : Nat) (l : List UInt8) (w : World) (hr : Rf bv w B A c l) (hB : B ≤ w.heap.size) (hl : l.length = 64) :
    Calls Tryd.prog 73 #[.slice A 64 c] w fun e w' => e = .returned (aw (sched l 64)) ∧ Below w.heap.size w w' := by
  obtain ⟨b, o, rfl, hb, hc⟩ := hr.at_ (k := 0) (by omega)
  have hcap := hr.cap
  have hcm := hr.capm
  unfold maxLen at hcm
  have HL := Lib.hid hl
  have hc64 : 64 ≤ c := by omega
  clear hc hl hcap
  go_enter Tryd.func73, Tryd.ntmps73
  go_wp2_with fail
  go_loopw [10] (fun i wr => ∃ t : Nat, t ≤ 16 ∧ i = .int .i64 t ∧ Hid (Hb uv wr (w.heap.size + 1) 106 (sofar l t)) ∧ Hid (Hb uv wr w.heap.size 106 (List.replicate 64 0)) ∧ Hid (Below w.heap.size w wr)) (fun i _ => 16 - (intOf i).toNat)
  case atStart =>
    exact ⟨0, by omega, rfl, Hb.new1 uv w _ _ _ _ zeros64, (Hb.new uv w _ _ _ zeros64).alloc _, ((Below.refl _ w).alloc (Nat.le_refl _) _).alloc (by simp) _⟩
  case round =>
    obtain ⟨t, ht, rfl, h1, h0, hb⟩ := hrel
    by_cases h16 : t = 16
    · have e16 : (t : Int) = 16 := by omega
      rw [h16] at h1
      rw [e16]
      clear e16 h16 ht t
      go_wp2_with fail
      go_loopw [5] (fun i wr => ∃ t : Nat, 16 ≤ t ∧ t ≤ 64 ∧ i = .int .i64 t ∧ Hid (Hb uv wr (w.heap.size + 1) 106 (sofar l t)) ∧ Hid (Hb uv wr w.heap.size 106 (List.replicate 64 0)) ∧ Hid (Below w.heap.size w wr)) (fun i _ => 64 - (intOf i).toNat)
      case atStart => exact ⟨16, by omega, by omega, rfl, h1, h0, hb⟩
      case round =>
        clear h1 h0 hb
        obtain ⟨t, ht16, ht, rfl, h1, h0, hb⟩ := hrel
        by_cases h64 : t = 64
        · subst h64
          have HS := Lib.hid (sofar_all l)
          rw [HS.out] at h1
          go_wp2_with (first
            | ((with_reducible refine wpList_load_hb rfl _ (.tmp 3) rfl _ rfl h1.out Tryd.underlying106 (by rw [sched_len]; exact size64) ?_))
            | ((with_reducible refine wpList_store_hb uv_one rfl _ (.tmp 2) (.tmp 64) rfl _ (sched l 64) rfl rfl h0.out size64 (List.length_replicate ..) (sched_len _ _) ?_); intro w3 h3 hg3))
          refine bodyPost_cell (f := uv) (g := w.heap.size) (t := 106) (L := sched l 64) rfl rfl h3 Tryd.underlying106 (by rw [sched_len]; exact size64) rfl ⟨rfl, ?_⟩
          exact hb.out.grown hg3 hb.out.size (fun k e => by cases e; exact Nat.le_refl _)
        · have c15 := sofar_cell (i := t - 15) h1.out ht (by omega)
          have c2 := sofar_cell (i := t - 2) h1.out ht (by omega)
          have c16 := sofar_cell (i := t - 16) h1.out ht (by omega)
          have c7 := sofar_cell (i := t - 7) h1.out ht (by omega)
          have ct := h1.out.cell (i := t) (by rw [sofar_len _ ht]; omega)
          have fr := h1.out.frozen t
          have hsg : IntKind.u32.signed = false := rfl
          go_wp2_with fail
          go_quiet (fail)
          go_wp2_with ((go_at_call 77; refine (rotr_c _ _ _ (by decide)).mono ?_; rintro e w' ⟨rfl, rfl⟩))
          go_region
          go_wp2_with fail
          go_roundw
          case rel =>
            refine ⟨t + 1, by omega, by omega, by go_num, ?_, ?_, ?_⟩
            · have h := (h1.out.drewN (nq + 1)).set_ t (nextW (sched l t) t) _ rfl
              rw [sofar_step l (by omega) _ (by rw [if_neg (by omega)])] at h
              exact h
            · exact (h0.out.drewN (nq + 1)).away (by simp) _
            · exact (hb.out.trans (below_drewN _ _ _)).setCell (Nat.le_succ _) _
          case measure => simp [intOf]; omega
    · have hp := Lib.hid ((hr.below (hb.out.mono hB)).piece (4 * t) (64 - 4 * t) (by rw [HL.out]; omega))
      have hn : Hid ((seg l (4 * t) (64 - 4 * t)).length = 64 - 4 * t) := seg_len (by rw [HL.out]; omega)
      have hx : Hid (wordAt (seg l (4 * t) (64 - 4 * t)) 0 = wordAt l (4 * t)) := wordAt_seg _ _ _ _ (by omega)
      have hct := h1.out.cell (i := t) (by rw [sofar_len _ (by omega)]; omega)
      have hfr := h1.out.frozen t
      go_wp2_with fail
      refine (takeWord_c _ (c - 4 * t) B (64 - 4 * t) _ (wordAt l (4 * t)) wr hp.out hn (by omega) (by omega) hx).mono ?_
      rintro e w' ⟨rfl, rfl⟩
      go_wp2_with fail
      go_roundw
      case rel =>
        refine ⟨t + 1, by omega, by go_num, ?_, ?_, ?_⟩
        · have h := h1.out.set_ t (wordAt l (4 * t)) _ rfl
          rw [sofar_step l (by omega) _ (by rw [if_pos (by omega)])] at h
          exact h
        · exact h0.out.away (by simp) _
        · exact hb.out.setCell (Nat.le_succ _) _
      case measure => simp [intOf]; omega
end Go.Proofs.YtipclieldokfnaaDoor
