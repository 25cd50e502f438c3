/- The reference's Sample, Lot. -/
import Derived.Test.YtipclieldokfnaaDoorRefD
namespace Go.Proofs.YtipclieldokfnaaDoor
open Go.RowKit
set_option linter.unusedVariables false

/-- All samples but the last one. -/
theorem samReqs_take (f m b k : Nat) (h : k ≤ m) : (samReqs f m b).take k = samReqs f k b := by
  unfold samReqs
  rw [← List.map_take, List.take_range, Nat.min_eq_left h]
theorem samReqs_succ (f b k : Nat) : samReqs f (k + 1) b = samReqs f k b ++ [(f + k, b)] := by
  unfold samReqs
  rw [List.range_succ, List.map_append]; rfl
theorem numsM_fail {s : List UInt8} {f m b k : Nat} (h : k < m) (hd : drawnM s (f + k) b = none) : numsM s (samReqs f m b) = none := by
  refine numsM_none s (j := k) (by rw [samReqs_len]; exact h) ?_
  have e : (samReqs f m b)[k]'(by rw [samReqs_len]; exact h) = (f + k, b) := by simp [samReqs]
  rw [e]; exact hd
theorem drawnA_some {s : List UInt8} {i n x : Nat} (h : drawnM s i n = some x) : drawnA s i n = (x, true) := by unfold drawnA; rw [h]
theorem drawnA_none {s : List UInt8} {i n : Nat} (h : drawnM s i n = none) : drawnA s i n = (0, false) := by unfold drawnA; rw [h]

set_option maxRecDepth 100000 in
set_option maxHeartbeats 2000000 in
theorem refSample_ok (s : List UInt8) (f m b : Nat) (w : World) (hs : s.length = 32) (hfm : f + m ≤ 4294967296) (hm : m ≤ 4096) (hb1 : 1 ≤ b) (hb2 : b ≤ 4294967296) :
    Calls Tryd.prog 18 #[ab s, .int .u32 f, .int .i64 m, .int .u64 b] w (NumsErr w (numsA s (samReqs f m b))) := by
  have HS := Lib.hid hs
  have hbw := fun (o : Obj) => below_new w o
  have HD := Lib.hid (show ∀ (k : Nat) (wx : World), k < m → Calls Tryd.prog 37 #[ab s, .int .u32 ((f : Int) + (k : Int)), .int .u64 b] wx fun e w' => e = .returned (.tuple #[.int .u64 ((drawnA s (f + k) b).1 : Nat), .bool (drawnA s (f + k) b).2]) ∧ Below wx.heap.size wx w' from
    fun k wx hk => by
      have := refDrawn_any s (f + k) b wx hs (by omega) hb1 hb2
      rw [show ((f + k : Nat) : Int) = (f : Int) + (k : Int) by omega] at this
      exact this)
  unfold ab at HD ⊢
  obtain ⟨cs, hcs⟩ : ∃ cs, (s.map bv).toArray = cs := ⟨_, rfl⟩
  have HCS := Lib.hid hcs
  have HBX := Lib.hid (Hb.new bv w 22 s cs hcs)
  rw [hcs] at HD ⊢
  obtain ⟨i0, hi0, hz0, hz1, hz2⟩ := info_parts qInfo
  have HI0 := Lib.hid hi0
  have HZ0 := Lib.hid hz0
  have HZ1 := Lib.hid hz1
  have HZ2 := Lib.hid hz2
  have d1 : decide ((m : Int) < 0) = false := by simp
  have d2 : decide ((4294967296 : Int) - (f : Int) < (m : Int)) = false := by simp; omega
  have d3 : decide ((b : Int) < 1) = false := by simp; omega
  have d4 : decide ((4294967296 : Int) < (b : Int)) = false := by simp; omega
  have d5 : decide ((4096 : Int) < (m : Int)) = false := by simp; omega
  have hf9 : (f : Int) ≤ 4294967296 := by omega
  clear hcs hs hi0 hz0 hz1 hz2
  go_enter Tryd.func18, Tryd.ntmps18
  go_wp2_with fail
  clear d1 d2 d3 d4 d5
  have H0 := Lib.hid (show Below (w.heap.size + 1) (w.alloc (.cells cs 22)) (w.alloc (.cells cs 22)) from Below.refl _ _)
  go_loopw [10, 11] (fun v i wr => ∃ (k : Nat) (A1 : Option Addr) (c1 : Nat) (l : List Nat), k ≤ m ∧ i = .int .i64 k ∧ v = .slice A1 l.length c1 ∧ l.length ≤ 4096 ∧ Hid (numsM s (samReqs f k b) = some l) ∧ Hid (Ow qv wr (w.heap.size + 1) 23 A1 c1 l) ∧ Hid (Below (w.heap.size + 1) (w.alloc (.cells cs 22)) wr))
    (fun _ i _ => m - (intOf i).toNat)
  case atStart => exact ⟨0, none, 0, [], by omega, rfl, rfl, by simp, rfl, Ow.nil _ _ _, H0.out⟩
  case round =>
    clear H0
    obtain ⟨k, A1, c1, l, hk, rfl, rfl, hl, hnum, how, hbk⟩ := hrel
    have hb0 := Lib.hid ((hbw (.cells cs 22)).trans (hbk.out.mono (by omega)))
    by_cases hkm : k = m
    · have HA := Lib.hid (show (l, (0 : Int)) = numsA s (samReqs f m b) by unfold numsA; rw [← hkm, hnum.out])
      subst hkm
      go_wp2_with fail
      go_ret2
      exact ⟨A1, c1, l, 0, rfl, HA.out, how.out.lower (by omega), hb0.out⟩
    · have hlt : k < m := by omega
      have hBX := HBX.out.below hbk.out (by omega)
      have hfk : (f : Int) + (k : Int) < 4294967296 := by omega
      have hsz : w.heap.size + 1 ≤ wr.heap.size := by have := hbk.out.size; simpa using this
      cases hdr : drawnM s (f + k) b with
      | none =>
        have HA := Lib.hid (drawnA_none hdr)
        have HN := Lib.hid (show (([] : List Nat), (6 : Int)) = numsA s (samReqs f m b) by unfold numsA; rw [numsM_fail hlt hdr])
        clear hdr
        go_wp2_with ((with_reducible refine wpList_load_hb rfl _ (.tmp 4) rfl _ rfl hBX Tryd.underlying22 (by rw [HS.out]; exact size32) ?_); rw [HCS.out])
        refine (HD.out k wr hlt).mono ?_
        rintro e w2 ⟨rfl, hb2⟩
        rw [HA.out]
        have HB2 := Lib.hid (hb0.out.trans (hb2.mono hb0.out.size))
        clear hb2 hBX
        go_wp2_with fail
        go_ret2
        exact ⟨none, 0, [], 6, rfl, HN.out, Ow.nil _ _ _, HB2.out⟩
      | some x =>
        have HA := Lib.hid (drawnA_some hdr)
        have HN := Lib.hid (show numsM s (samReqs f (k + 1) b) = some (l ++ [x]) by rw [samReqs_succ, numsM_snoc, hnum.out, hdr])
        have hll : l.length = k := by rw [numsM_len s hnum.out, samReqs_len]
        have hl2 : l.length < 4096 := by omega
        clear hdr hll
        go_wp2_with ((with_reducible refine wpList_load_hb rfl _ (.tmp 4) rfl _ rfl hBX Tryd.underlying22 (by rw [HS.out]; exact size32) ?_); rw [HCS.out])
        refine (HD.out k wr hlt).mono ?_
        rintro e w2 ⟨rfl, hb2⟩
        rw [HA.out]
        have HB2 := Lib.hid (hbk.out.trans (hb2.mono hsz))
        have HO2 := Lib.hid (how.out.below (Nat.le_refl _) hb2)
        have hsz2 : w.heap.size + 1 ≤ w2.heap.size := Nat.le_trans hsz hb2.size
        clear hb2 hBX
        go_wp2_with (at_builtin; refine wpList_append_f _ qv_one rfl _ _ 31 rfl (w.heap.size + 1) 23 8 i0 _ Tryd.underlying31 HI0.out HZ0.out HZ1.out HZ2.out (by omega) rfl l [x] rfl rfl (HO2.out.alloc _) (rf_one _ x _) (by simp; omega) (by simp; omega) ?_; intro A3 c3 w3 l3 hl3 hown3 hg3 hb3)
        have hbn : Below (w.heap.size + 1) (w.alloc (.cells cs 22)) w3 := (HB2.out.alloc hsz2 _).grown hg3 (by simp; omega) (fun g hg => (HO2.out.blk_ge g hg).1)
        go_roundw
        case rel =>
          refine ⟨k + 1, A3, c3, l3, by omega, by go_num, rfl, by rw [hl3.out]; simp; omega, ?_, hown3, hbn⟩
          show _ = _
          rw [HN.out, hl3.out]
        case measure => simp [intOf]; omega

set_option maxRecDepth 100000 in
set_option maxHeartbeats 2000000 in
theorem refSample_any (s : List UInt8) (f : Nat) (m : Int) (b : Nat) (w : World) (hs : s.length = 32) (hf : f < 4294967296) (hm : (Lit.int .i64 m).wf = true) (hb : b < 18446744073709551616) :
    Calls Tryd.prog 18 #[ab s, .int .u32 f, .int .i64 m, .int .u64 b] w (NumsErr w (sampleM s f m b)) := by
  have hmb := bounds_i64 hm
  by_cases h0 : 0 ≤ m ∧ (f : Int) + m ≤ 4294967296 ∧ 1 ≤ b ∧ b ≤ 4294967296
  · obtain ⟨g1, g2, g3, g4⟩ := h0
    obtain ⟨k, rfl⟩ := Int.eq_ofNat_of_zero_le g1
    by_cases h4 : 4096 < (k : Int)
    · have hM : sampleM s f k b = ([], 4) := by unfold sampleM; rw [if_pos ⟨g1, g2, g3, g4⟩, if_pos h4]
      rw [hM]
      unfold ab
      obtain ⟨cs, hcs⟩ : ∃ cs, (s.map bv).toArray = cs := ⟨_, rfl⟩
      rw [hcs]
      have d1 : decide ((k : Int) < 0) = false := by simp
      have d2 : decide ((4294967296 : Int) - (f : Int) < (k : Int)) = false := by simp; omega
      have d3 : decide ((b : Int) < 1) = false := by simp; omega
      have d4 : decide ((4294967296 : Int) < (b : Int)) = false := by simp; omega
      have hf9 : (f : Int) ≤ 4294967296 := by omega
      clear hM hcs hs hm hmb hb
      go_enter Tryd.func18, Tryd.ntmps18
      go_wp2_with fail
      go_ret2
      exact ⟨none, 0, [], 4, rfl, rfl, Ow.nil _ _ _, below_new _ _⟩
    · have hM : sampleM s f k b = numsA s (samReqs f k b) := by unfold sampleM; rw [if_pos ⟨g1, g2, g3, g4⟩, if_neg h4]; rfl
      rw [hM]
      exact refSample_ok s f k b w hs (by omega) (by omega) g3 g4
  · have hM : sampleM s f m b = ([], 2) := by unfold sampleM; rw [if_neg h0]
    rw [hM]
    unfold ab
    obtain ⟨cs, hcs⟩ : ∃ cs, (s.map bv).toArray = cs := ⟨_, rfl⟩
    rw [hcs]
    have hf9 : (f : Int) ≤ 4294967296 := by omega
    by_cases h1 : m < 0
    · clear hM hcs hs hm hmb hb h0
      go_enter Tryd.func18, Tryd.ntmps18
      go_wp2_with fail
      go_ret2
      exact ⟨none, 0, [], 2, rfl, rfl, Ow.nil _ _ _, below_new _ _⟩
    · have d1 : decide (m < 0) = false := by simp; omega
      by_cases h2 : 4294967296 - (f : Int) < m
      · clear hM hcs hs hm hmb hb h0 h1
        go_enter Tryd.func18, Tryd.ntmps18
        go_wp2_with fail
        go_ret2
        exact ⟨none, 0, [], 2, rfl, rfl, Ow.nil _ _ _, below_new _ _⟩
      · have d2 : decide ((4294967296 : Int) - (f : Int) < m) = false := by simp; omega
        by_cases h3 : b < 1
        · obtain rfl : b = 0 := by omega
          clear hM hcs hs hm hmb hb h0 h1 h2 h3
          go_enter Tryd.func18, Tryd.ntmps18
          go_wp2_with fail
          go_ret2
          exact ⟨none, 0, [], 2, rfl, rfl, Ow.nil _ _ _, below_new _ _⟩
        · have d3 : decide ((b : Int) < 1) = false := by simp; omega
          have h4 : (4294967296 : Int) < (b : Int) := by omega
          clear hM hcs hs hm hmb hb h0 h1 h2 h3
          go_enter Tryd.func18, Tryd.ntmps18
          go_wp2_with fail
          go_ret2
          exact ⟨none, 0, [], 2, rfl, rfl, Ow.nil _ _ _, below_new _ _⟩
end Go.Proofs.YtipclieldokfnaaDoor
