/- DrawFronts. -/
import Derived.Test.YtipclieldokfnaaDoorAlive
namespace Go.Proofs.YtipclieldokfnaaDoor
open Go.RowKit
set_option linter.unusedVariables false

theorem numsM_take (s : List UInt8) : ∀ {rs : List (Nat × Nat)} {l : List Nat} (k : Nat), numsM s rs = some l → numsM s (rs.take k) = some (l.take k)
  | [], l, k, h => by cases h; simp [numsM]
  | r :: rs, l, 0, h => by simp [numsM]
  | r :: rs, l, k + 1, h => by
    rw [numsM] at h
    cases h1 : drawnM s r.1 r.2 with
    | none => rw [h1] at h; cases h
    | some x =>
      cases h2 : numsM s rs with
      | none => rw [h1, h2] at h; cases h
      | some m =>
        rw [h1, h2] at h
        cases h
        rw [List.take_succ_cons, List.take_succ_cons, numsM, h1, numsM_take s k h2]
theorem sample_bad {s : List UInt8} {f : Nat} {m : Int} {b : Nat} {l : List Nat} {e : Int} (h : sampleM s f m b = (l, e)) (he : e ≠ 0) : l = [] := by
  unfold sampleM at h
  split at h
  · split at h
    · exact (Prod.mk.inj h).1.symm
    · unfold numsA at h
      cases hn : numsM s (samReqs f m.toNat b) with
      | none => rw [hn] at h; exact (Prod.mk.inj h).1.symm
      | some x => rw [hn] at h; exact absurd (Prod.mk.inj h).2.symm he
  · exact (Prod.mk.inj h).1.symm
theorem sample_good {s : List UInt8} {f k b : Nat} {l : List Nat} (hk : k ≤ 4096) (h : sampleM s f (k : Int) b = (l, 0)) : f + k ≤ 4294967296 ∧ 1 ≤ b ∧ b ≤ 4294967296 ∧ numsM s (samReqs f k b) = some l := by
  unfold sampleM at h
  split at h
  · rename_i hc
    rw [if_neg (by omega), Int.toNat_natCast] at h
    unfold numsA at h
    cases hn : numsM s (samReqs f k b) with
    | none => rw [hn] at h; have := (Prod.mk.inj h).2; omega
    | some x => rw [hn] at h; exact ⟨by omega, hc.2.2.1, hc.2.2.2, by rw [(Prod.mk.inj h).1]⟩
  · have := (Prod.mk.inj h).2; omega
theorem sample_front {s : List UInt8} {f k j b : Nat} {l : List Nat} (hk : k ≤ 4096) (hj : j ≤ k) (h : sampleM s f (k : Int) b = (l, 0)) : sampleM s f (j : Int) b = (l.take j, 0) := by
  obtain ⟨h1, h2, h3, h4⟩ := sample_good hk h
  have h5 := numsM_take s j h4
  have e : (samReqs f k b).take j = samReqs f j b := by
    unfold samReqs
    rw [← List.map_take, List.take_range, Nat.min_eq_left hj]
  rw [e] at h5
  unfold sampleM
  rw [if_pos ⟨by omega, by omega, h2, h3⟩, if_neg (by omega), Int.toNat_natCast]
  unfold numsA
  rw [h5]
theorem sample_number {s : List UInt8} {f k b i : Nat} {l : List Nat} (hk : k ≤ 4096) (h : sampleM s f (k : Int) b = (l, 0)) (hi : i < l.length) : numberM s (f + i) b = (l[i], 0) ∧ l[i] < b := by
  obtain ⟨h1, h2, h3, h4⟩ := sample_good hk h
  have hl := numsM_len s h4
  rw [samReqs_len] at hl
  have hg := numsM_get s h4 i (by rw [samReqs_len]; omega) hi
  have e : (samReqs f k b)[i]'(by rw [samReqs_len]; omega) = (f + i, b) := by simp [samReqs]
  rw [e] at hg
  refine ⟨?_, drawn_lt h2 hg⟩
  unfold numberM
  rw [if_pos ⟨h2, h3⟩, hg]
theorem Rf.front {α : Type} {f : α → Value} {w : World} {B c : Nat} {A : Option Addr} {xs : List α} (h : Rf f w B A c xs) (k : Nat) : Rf f w B A c (xs.take k) :=
  ⟨by have := h.cap; rw [List.length_take]; omega, h.capm, h.nil, fun ad e j hj => by
    rw [List.length_take] at hj
    have := h.cell ad e j (by omega)
    rw [List.getElem_take]
    exact this⟩

set_option maxRecDepth 100000 in
set_option maxHeartbeats 2000000 in
theorem fronts_ok (s : List UInt8) (f k j b : Nat) (w : World) (hs : s.length = 32) (hf : f < 4294967296) (hk : k ≤ 100) (hj : j ≤ k) (hb : b < 18446744073709551616) (hT : Tab w) :
    Calls Tryd.prog 9 #[ab s, .int .u32 f, .int .i64 k, .int .i64 j, .int .u64 b] w fun e w' => e = .returned (.bool true) ∧ Below w.heap.size w w' := by
  have HS := Lib.hid hs
  have HT := Lib.hid hT
  have hbw := fun (o : Obj) => below_new w o
  have hwf : ∀ n : Nat, n ≤ 100 → (Lit.int .i64 (n : Int)).wf = true := fun n hn => by
    have e1 : IntKind.i64.min = -9223372036854775808 := rfl
    have e2 : IntKind.i64.max = 9223372036854775807 := rfl
    simp only [Lit.wf, e1, e2, Bool.and_eq_true, decide_eq_true_eq]
    omega
  have d1 : decide ((100 : Int) < (k : Int)) = false := by simp; omega
  have d2 : decide ((j : Int) < 0) = false := by simp
  have d3 : decide (k < j) = false := by simp; omega
  obtain ⟨l, er, hq⟩ : ∃ l er, sampleM s f (k : Int) b = (l, er) := ⟨_, _, rfl⟩
  obtain ⟨q2, hq2⟩ : ∃ q2, q2 = sampleM s f (j : Int) b := ⟨_, rfl⟩
  have HA := Lib.hid (show ∀ wx : World, Tab wx → Calls Tryd.prog 14 #[ab s, .int .u32 f, .int .i64 k, .int .u64 b] wx (NumsErr wx (l, er)) from fun wx h => by
    rw [← hq]
    exact sample_any s f k b wx hs hf (hwf k hk) hb h)
  have HB := Lib.hid (show ∀ wx : World, Tab wx → Calls Tryd.prog 14 #[ab s, .int .u32 f, .int .i64 j, .int .u64 b] wx (NumsErr wx q2) from fun wx h => by
    rw [hq2]
    exact sample_any s f j b wx hs hf (hwf j (by omega)) hb h)
  have HQ := Lib.hid hq
  have HQ2 := Lib.hid hq2
  have HN := Lib.hid (show ∀ (i x : Nat) (wx : World), f + i < 4294967296 → numberM s (f + i) b = (x, 0) → Tab wx → Calls Tryd.prog 12 #[ab s, .int .u32 ((f : Int) + (i : Int)), .int .u64 b] wx fun e w' => e = .returned (.tuple #[.int .u64 x, .int .i64 0]) ∧ Below wx.heap.size wx w' from fun i x wx hi hx h => by
    have := number_any s (f + i) b wx hs hi hb h
    rw [hx, show ((f + i : Nat) : Int) = (f : Int) + (i : Int) by omega] at this
    exact this)
  unfold ab at HA HB HN ⊢
  obtain ⟨cs, hcs⟩ : ∃ cs, (s.map bv).toArray = cs := ⟨_, rfl⟩
  have HCS := Lib.hid hcs
  have HBX := Lib.hid (Hb.new bv w 22 s cs hcs)
  rw [hcs] at HA HB HN ⊢
  clear hcs hs hT hwf hq hq2 hb
  go_enter Tryd.func9, Tryd.ntmps9
  go_wp2_with fail
  refine (alive_any _ (HT.out.below (hbw _))).mono ?_
  rintro e w1 ⟨rfl, hb1⟩
  have HB1 := Lib.hid ((hbw (.cells cs 22)).trans (hb1.mono (by simp)))
  have hbx := HBX.out.below hb1 (by simp)
  clear hb1
  go_wp2_with ((with_reducible refine wpList_load_hb rfl _ (.tmp 5) rfl _ rfl hbx Tryd.underlying22 (by rw [HS.out]; exact size32) ?_); rw [HCS.out])
  refine (HA.out _ (HT.out.below HB1.out)).mono ?_
  rintro e w2 ⟨A1, c1, r1, e1, rfl, hq1, ho1, hb2⟩
  obtain ⟨rfl, rfl⟩ := Prod.mk.inj hq1
  have HB2 := Lib.hid (HB1.out.trans (hb2.mono HB1.out.size))
  have hbx2 := hbx.below hb2 hbx.lt
  have HR1 := Lib.hid ho1.rd
  clear hb2 ho1 hbx hq1
  go_wp2_with ((with_reducible refine wpList_load_hb rfl _ (.tmp 5) rfl _ rfl hbx2 Tryd.underlying22 (by rw [HS.out]; exact size32) ?_); rw [HCS.out])
  refine (HB.out w2 (HT.out.below HB2.out)).mono ?_
  rintro e w3 ⟨A2, c2, r2, e2, rfl, hqb, ho2, hb3⟩
  have HB3 := Lib.hid (HB2.out.trans (hb3.mono HB2.out.size))
  have HBX3 := Lib.hid (hbx2.below hb3 hbx2.lt)
  have HR2 := Lib.hid ho2.rd
  have HR13 := Lib.hid ((HR1.out.below hb3).more hb3.size)
  have HQB := Lib.hid hqb
  clear hb3 ho2 hbx2 hqb
  by_cases her : e1 = 0
  · subst her
    obtain ⟨g1, g2, g3, g4⟩ := sample_good (by omega) HQ.out
    have hl := numsM_len s g4
    rw [samReqs_len] at hl
    have hfr := sample_front (by omega) hj HQ.out
    have hqb := HQB.out
    rw [HQ2.out, hfr] at hqb
    obtain ⟨hr2, rfl⟩ := Prod.mk.inj hqb
    have hl2 : r2.length = j := by rw [hr2, List.length_take]; omega
    have t1 : ((r1.length : Int) != (k : Int)) = false := by rw [bne_eq_false_iff_eq, hl]
    have t2 : ((r2.length : Int) != (j : Int)) = false := by rw [bne_eq_false_iff_eq, hl2]
    have HR2E := Lib.hid hr2
    have HLE := Lib.hid hl
    have HL2E := Lib.hid hl2
    have HSM := Lib.hid (sameNumbers_any A1 A2 c1 c2 _ _ (r1.take j) r2 w3 (HR13.out.front j) HR2.out (by rw [List.length_take]; omega) (by omega))
    have HDE := Lib.hid (show decide (r1.take j = r2) = true by simp [hr2])
    have HJE := Lib.hid (show (r1.take j).length = j by rw [List.length_take]; omega)
    have hjc : (j : Int) ≤ (c1 : Int) := by have := HR13.out.cap; omega
    have hjc2 : j ≤ c1 := by omega
    have hcm := HR13.out.capm
    unfold maxLen at hcm
    clear hqb hr2 hl hl2 hfr g4
    go_wp2_with fail
    have hsm := HSM.out
    rw [HJE.out, HDE.out] at hsm
    refine hsm.mono ?_
    clear hsm
    rintro e w4 ⟨rfl, n4, rfl⟩
    have H4 := Lib.hid (below_drewN w3.heap.size w3 n4)
    have hkl : r1.length ≤ 100 := by rw [HLE.out]; exact hk
    go_wp2_with fail
    clear t1 t2 d1 d2 d3 hjc hjc2 hcm
    go_loopw [16] (fun i wr => ∃ x : Nat, x ≤ r1.length ∧ i = .int .i64 x ∧ Hid (Below w3.heap.size w3 wr)) (fun i _ => r1.length - (intOf i).toNat)
    case atStart => exact ⟨0, by omega, rfl, H4.out⟩
    case round =>
      clear H4
      obtain ⟨x, hx, rfl, hbx⟩ := hrel
      have HB4 := Lib.hid (HB3.out.trans (hbx.out.mono HB3.out.size))
      by_cases hlt : x < r1.length
      · obtain ⟨hnum, hyb⟩ := sample_number (by omega) HQ.out hlt
        obtain ⟨y, hy⟩ : ∃ y, y = r1[x]'hlt := ⟨_, rfl⟩
        rw [← hy] at hnum hyb
        have hbxx := HBX3.out.below hbx.out HBX3.out.lt
        obtain ⟨bb, o, rfl, hbb, hc⟩ := (HR13.out.below hbx.out).at_ hlt
        have hcy := hc x hlt
        rw [← hy] at hcy
        unfold qv at hcy
        have hfx : (f : Int) + (x : Int) < 4294967296 := by have := HLE.out; omega
        have hyd : decide ((b : Int) ≤ (y : Int)) = false := by simp; omega
        have HNM := Lib.hid hnum
        have HYC := Lib.hid hcy
        have hbb2 := hbx.out.size
        clear hc hy hnum hcy
        go_wp2_with ((with_reducible refine wpList_load_hb rfl _ (.tmp 5) rfl _ rfl hbxx Tryd.underlying22 (by rw [HS.out]; exact size32) ?_); rw [HCS.out])
        refine (HN.out x y wr (by omega) HNM.out (HT.out.below HB4.out)).mono ?_
        rintro e w5 ⟨rfl, hb5⟩
        have hcy5 := (hb5.cell (p := ⟨bb, o + x, none⟩) (by show bb < _; omega)).trans HYC.out
        have HB5 := Lib.hid (hbx.out.trans (hb5.mono hbb2))
        clear hb5 hbxx hfx
        go_wp2_with fail
        go_roundw
        case rel => exact ⟨x + 1, by omega, by go_num, HB5.out⟩
        case measure => simp [intOf]; omega
      · have hxd : decide (x < r1.length) = false := by simp; omega
        go_wp2_with fail
        go_ret
        exact ⟨rfl, HB4.out⟩
  · have hne : (e1 != 0) = true := by rw [bne_iff_ne]; exact her
    have hr1 : r1 = [] := sample_bad HQ.out her
    subst hr1
    clear her
    go_wp2_with fail
    go_ret
    exact ⟨rfl, HB3.out⟩

set_option maxRecDepth 100000 in
set_option maxHeartbeats 2000000 in
theorem drawFronts_any (s : List UInt8) (f m j b : Int) (w : World) (hs : s.length = 32) (hf : (Lit.int .u32 f).wf = true) (hm : (Lit.int .i64 m).wf = true) (hj : (Lit.int .i64 j).wf = true) (hb : (Lit.int .u64 b).wf = true) (hT : Tab w) :
    Calls Tryd.prog 9 #[ab s, .int .u32 f, .int .i64 m, .int .i64 j, .int .u64 b] w fun e w' => e = .returned (.bool true) ∧ Below w.heap.size w w' := by
  have hfb := bounds_u32 hf
  have hbb := bounds_u64 hb
  obtain ⟨f, rfl⟩ := Int.eq_ofNat_of_zero_le (show 0 ≤ f by omega)
  obtain ⟨b, rfl⟩ := Int.eq_ofNat_of_zero_le (show 0 ≤ b by omega)
  by_cases hin : m ≤ 100 ∧ 0 ≤ j ∧ j ≤ m
  · obtain ⟨i1, i2, i3⟩ := hin
    obtain ⟨m, rfl⟩ := Int.eq_ofNat_of_zero_le (show 0 ≤ m by omega)
    obtain ⟨j, rfl⟩ := Int.eq_ofNat_of_zero_le i2
    exact fronts_ok s f m j b w hs (by omega) (by omega) (by omega) (by omega) hT
  · have HT := Lib.hid hT
    have hbw := fun (o : Obj) => below_new w o
    unfold ab
    obtain ⟨cs, hcs⟩ : ∃ cs, (s.map bv).toArray = cs := ⟨_, rfl⟩
    rw [hcs]
    clear hcs hs hT hm hf hj hb hfb hbb
    by_cases h1 : 100 < m
    · clear hin
      go_enter Tryd.func9, Tryd.ntmps9
      go_wp2_with fail
      refine (alive_any _ (HT.out.below (hbw _))).mono ?_
      rintro e w1 ⟨rfl, hb1⟩
      have HB1 := Lib.hid ((hbw (.cells cs 22)).trans (hb1.mono (by simp)))
      clear hb1
      go_wp2_with fail
      go_ret
      exact ⟨rfl, HB1.out⟩
    · have d1 : decide (100 < m) = false := by simp; omega
      by_cases h2 : j < 0
      · clear hin h1
        go_enter Tryd.func9, Tryd.ntmps9
        go_wp2_with fail
        refine (alive_any _ (HT.out.below (hbw _))).mono ?_
        rintro e w1 ⟨rfl, hb1⟩
        have HB1 := Lib.hid ((hbw (.cells cs 22)).trans (hb1.mono (by simp)))
        clear hb1
        go_wp2_with fail
        go_ret
        exact ⟨rfl, HB1.out⟩
      · have d2 : decide (j < 0) = false := by simp; omega
        have h3 : m < j := by omega
        clear hin h1 h2
        go_enter Tryd.func9, Tryd.ntmps9
        go_wp2_with fail
        refine (alive_any _ (HT.out.below (hbw _))).mono ?_
        rintro e w1 ⟨rfl, hb1⟩
        have HB1 := Lib.hid ((hbw (.cells cs 22)).trans (hb1.mono (by simp)))
        clear hb1
        go_wp2_with fail
        go_ret
        exact ⟨rfl, HB1.out⟩
end Go.Proofs.YtipclieldokfnaaDoor
