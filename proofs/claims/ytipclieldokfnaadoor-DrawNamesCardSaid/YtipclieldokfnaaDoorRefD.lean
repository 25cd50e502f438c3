/- The reference's Try, Drawn, Number. -/
import Derived.Test.YtipclieldokfnaaDoorAlive
import Derived.Test.YtipclieldokfnaaDoorRefO
import Derived.Test.YtipclieldokfnaaDoorOcRef
namespace Go.Proofs.YtipclieldokfnaaDoor
open Go.RowKit
set_option linter.unusedVariables false

theorem slice_front {P : Program} {ty e : TypeId} {n : Nat} (hu : P.underlying ty = some (.array n e)) (he : (P.info? e).map (·.size) = some 1) (k : Nat) (hk : k ≤ n) (h0 : 0 < n) (b : Nat) (w : World) :
    (Instr.sliceAt ty (.pointer (some ⟨b, 0, none⟩)) none (some (.int .i64 k)) none).run P w = .ok (.slice (some ⟨b, 0, none⟩) k n) w := by
  have hz : ∀ w, (sizeOf e).run P w = .ok 1 w := fun w => by
    cases hq : P.info? e with
    | none => simp [hq] at he
    | some i => simp [hq] at he; simp [sizeOf, typeInfo, hq, he]
  have e1 : (⟨b, 0, none⟩ : Addr).add 0 = ⟨b, 0, none⟩ := by rw [add_plain]
  simp [Instr.sliceAt, Instr.sureAddr, run_underlying hu, Instr.sliceBounds, run_sliceBound, hz, e1, hk, Sem.run_bind, Result.andThen]

theorem digits4_any (n : Nat) (w : World) (hn : n < 4294967296) :
    Calls Tryd.prog 67 #[.int .u64 n, .int .i64 4] w fun e w' => ∃ A' c' r, e = .returned (.slice A' r.length c') ∧ r = beN 4 n ∧ Ow bv w' w.heap.size 5 A' c' r ∧ Below w.heap.size w w' :=
  Oc.digits_any n 4 w (by omega) (by omega)

set_option maxRecDepth 100000 in
set_option maxHeartbeats 1000000 in
theorem refTry_any (s : List UInt8) (i k : Nat) (w : World) (hs : s.length = 32) (hi : i < 4294967296) (hk : k < 4294967296) :
    Calls Tryd.prog 50 #[ab s, .int .u32 i, .int .i64 k] w fun e w' => e = .returned (.int .u64 (tryM s i k : Nat)) ∧ Below w.heap.size w w' := by
  have HS := Lib.hid hs
  clear hs
  obtain ⟨i0, hi0, hz0, hz1, hz2⟩ := info_parts bInfo
  have HI0 := Lib.hid hi0
  have HZ0 := Lib.hid hz0
  have HZ1 := Lib.hid hz1
  have HZ2 := Lib.hid hz2
  unfold ab
  obtain ⟨cs, hcs⟩ : ∃ cs, (s.map bv).toArray = cs := ⟨_, rfl⟩
  have hbx := Hb.new bv w 22 s cs hcs
  rw [hcs]
  have HRS := Lib.hid (hbx.rf_all (c := 32) (by rw [HS.out]; exact Nat.le_refl _) (by unfold maxLen; omega))
  have hsl : ∀ (b : Nat) (wx : World), (Instr.sliceAt 22 (.pointer (some ⟨b, 0, none⟩)) none none none).run Tryd.prog wx = .ok (.slice (some ⟨b, 0, none⟩) 32 32) wx := fun b wx => slice_all (P := Tryd.prog) Tryd.underlying22 bSize (by omega) b wx
  have hsl2 : ∀ (b : Nat) (wx : World), (Instr.sliceAt 22 (.pointer (some ⟨b, 0, none⟩)) none (some (.int .i64 8)) none).run Tryd.prog wx = .ok (.slice (some ⟨b, 0, none⟩) 8 32) wx := fun b wx => slice_front (P := Tryd.prog) Tryd.underlying22 bSize 8 (by omega) (by omega) b wx
  clear hcs hbx hi0 hz0 hz1 hz2
  go_enter Tryd.func50, Tryd.ntmps50
  go_wp2_with (at_builtin; refine wpList_append_f _ bv_one rfl _ _ 36 rfl (w.heap.size + 1) 5 1 i0 _ Tryd.underlying36 HI0.out HZ0.out HZ1.out HZ2.out (by omega) rfl [] s rfl (by rw [HS.out]; rfl) (Ow.nil _ _ _) HRS.out (by rw [HS.out]; simp) (by simp) ?_; intro A1 c1 w1 r1 hr1 hown1 hg1 hb1)
  have hbw1 : Below w.heap.size w w1 := (below_new w _).grown hg1 (by simp) (fun k e => by cases e)
  have hs1 := hg1.size
  simp only [World.size_alloc] at hs1
  have HR1 := Lib.hid (show r1 = s from hr1.out)
  have hl1 : r1.length = 32 := by rw [HR1.out, HS.out]
  have hl1' : r1.length ≤ 32 := by omega
  have HO1 := Lib.hid hown1
  have HW1 := Lib.hid hbw1
  clear hr1 hown1 hg1 hb1 hbw1 hl1
  refine (digits4_any i _ hi).mono ?_
  rintro e w2 ⟨A2, c2, r2, rfl, hr2, ho2, hb2⟩
  have HR2 := Lib.hid hr2
  have hl2 : r2.length ≤ 4 := by rw [hr2, beN_len]; omega
  have HO12 := Lib.hid (HO1.out.below (Nat.le_refl _) hb2)
  have HW2 := Lib.hid (HW1.out.trans (hb2.mono HW1.out.size))
  have HO2 := Lib.hid ho2.rd
  have hsz2 : w.heap.size + 1 ≤ w2.heap.size := by have h1 := hb2.size; omega
  clear hr2 ho2 hb2
  go_wp2_with (at_builtin; refine wpList_append_f _ bv_one rfl _ _ 36 rfl (w.heap.size + 1) 5 1 i0 _ Tryd.underlying36 HI0.out HZ0.out HZ1.out HZ2.out (by omega) rfl r1 r2 rfl rfl HO12.out HO2.out (by omega) hsz2 ?_; intro A3 c3 w3 r3 hr3 hown3 hg3 hb3)
  have hbw3 : Below w.heap.size w w3 := HW2.out.grown hg3 HW2.out.size (fun k e => by have := (HO12.out.blk_ge k e).1; omega)
  have HR3 := Lib.hid (show r3 = r1 ++ r2 from hr3.out)
  have hl3 : r3.length ≤ 36 := by rw [hr3.out, List.length_append]; omega
  have HO3 := Lib.hid hown3
  have HW3 := Lib.hid hbw3
  have hs3 := hg3.size
  clear hr3 hown3 hg3 hb3 hbw3
  refine (digits4_any k _ hk).mono ?_
  rintro e w4 ⟨A4, c4, r4, rfl, hr4, ho4, hb4⟩
  have HR4 := Lib.hid hr4
  have hl4 : r4.length ≤ 4 := by rw [hr4, beN_len]; omega
  have HO34 := Lib.hid (HO3.out.below (Nat.le_refl _) hb4)
  have HW4 := Lib.hid (HW3.out.trans (hb4.mono HW3.out.size))
  have HO4 := Lib.hid ho4.rd
  have hsz4 : w.heap.size + 1 ≤ w4.heap.size := by have h1 := hb4.size; omega
  clear hr4 ho4 hb4
  go_wp2_with (at_builtin; refine wpList_append_f _ bv_one rfl _ _ 36 rfl (w.heap.size + 1) 5 1 i0 _ Tryd.underlying36 HI0.out HZ0.out HZ1.out HZ2.out (by omega) rfl r3 r4 rfl rfl HO34.out HO4.out (by omega) hsz4 ?_; intro A5 c5 w5 r5 hr5 hown5 hg5 hb5)
  have hbw5 : Below w.heap.size w w5 := HW4.out.grown hg5 HW4.out.size (fun k e => by have := (HO34.out.blk_ge k e).1; omega)
  have hl5 : r5.length ≤ 40 := by rw [hr5.out, List.length_append]; omega
  have HTRY := Lib.hid (show num ((dig r5).take 8) = tryM s i k by rw [hr5.out, HR4.out, HR3.out, HR2.out, HR1.out]; rfl)
  have HO5 := Lib.hid hown5.rd
  have HW5 := Lib.hid hbw5
  clear hr5 hown5 hg5 hb5 hbw5
  refine (of_any A5 c5 _ r5 _ HO5.out (Nat.le_refl _) (by omega)).mono ?_
  rintro e w6 ⟨rfl, hb6⟩
  have HW6 := Lib.hid (HW5.out.trans (hb6.mono HW5.out.size))
  obtain ⟨d, hd⟩ : ∃ d, d = dig r5 := ⟨_, rfl⟩
  rw [← hd] at HTRY ⊢
  have HDL := Lib.hid (show d.length = 32 by rw [hd]; exact dig_len _)
  clear hd hb6
  unfold ab
  go_wp2_with ((with_reducible refine wpList_store_hb bv_one rfl _ (.tmp 8) (.tmp 22) rfl _ d rfl rfl (Hb.new bv w6 _ (List.replicate 32 0) _ z32) size32 (List.length_replicate ..) HDL.out ?_); intro w7 h7 hg7)
  have hbw7 : Below w.heap.size w w7 := (HW6.out.alloc HW6.out.size _).grown hg7 (HW6.out.alloc HW6.out.size _).size (fun k e => by cases e; exact HW6.out.size)
  have hnum := Oc.number_any _ 32 (d.take 8) _ w7 (h7.rf_take (n := 8) (c := 32) (by rw [HDL.out]; omega) (by omega) (by unfold maxLen; omega)).ocRd (by rw [List.length_take]; omega)
  rw [show (d.take 8).length = 8 by rw [List.length_take, HDL.out]; rfl] at hnum
  refine hnum.mono ?_
  clear hnum
  rintro e w8 ⟨rfl, rfl⟩
  rw [show Oc.num (d.take 8) = tryM s i k from HTRY.out]
  go_wp2_with fail
  go_ret
  exact ⟨rfl, hbw7⟩

/-- What Drawn answers. -/
def drawnA (s : List UInt8) (i n : Nat) : Nat × Bool := match drawnM s i n with | some x => (x, true) | none => (0, false)
theorem rest_eq (n : Nat) (h1 : 1 ≤ n) (h2 : n ≤ 4294967296) : lastM n = 18446744073709551615 - (18446744073709551615 % n + 1) % n := by
  rw [lastM_rest n h1 h2]
  congr 1
  rw [Nat.mod_add_mod]

set_option maxRecDepth 100000 in
set_option maxHeartbeats 1000000 in
theorem refDrawn_any (s : List UInt8) (iD n : Nat) (w : World) (hs : s.length = 32) (hi : iD < 4294967296) (h1 : 1 ≤ n) (h2 : n ≤ 4294967296) :
    Calls Tryd.prog 37 #[ab s, .int .u32 iD, .int .u64 n] w fun e w' => e = .returned (.tuple #[.int .u64 ((drawnA s iD n).1 : Nat), .bool (drawnA s iD n).2]) ∧ Below w.heap.size w w' := by
  have HS := Lib.hid hs
  have hbw := fun (o : Obj) => below_new w o
  have HTY := Lib.hid (show ∀ (k : Nat) (wx : World), k < 16 → Calls Tryd.prog 50 #[ab s, .int .u32 iD, .int .i64 k] wx fun e w' => e = .returned (.int .u64 (tryM s iD k : Nat)) ∧ Below wx.heap.size wx w' from fun k wx hk => refTry_any s iD k wx hs hi (by omega))
  unfold ab at HTY ⊢
  obtain ⟨cs, hcs⟩ : ∃ cs, (s.map bv).toArray = cs := ⟨_, rfl⟩
  have HCS := Lib.hid hcs
  have HBX := Lib.hid (Hb.new bv w 22 s cs hcs)
  rw [hcs] at HTY ⊢
  obtain ⟨r1, hr1⟩ : ∃ r, r = 18446744073709551615 % n := ⟨_, rfl⟩
  obtain ⟨r2, hr2⟩ : ∃ r, r = (r1 + 1) % n := ⟨_, rfl⟩
  have hb1 : r1 < n := by rw [hr1]; exact Nat.mod_lt _ h1
  have hb2 : r2 < n := by rw [hr2]; exact Nat.mod_lt _ h1
  have hQ : lastM n = 18446744073709551615 - r2 := by rw [rest_eq n h1 h2, hr2, hr1]
  have e1 : (18446744073709551615 : Int) % (n : Int) = (r1 : Int) := by rw [hr1]; simp
  have e2 : ((r1 : Int) + 1) % (n : Int) = (r2 : Int) := by rw [hr2]; simp
  obtain ⟨q, hq⟩ : ∃ q, q = lastM n := ⟨_, rfl⟩
  have e3 : IntKind.u64.wrap (18446744073709551615 - (r2 : Int)) = (q : Int) := by rw [IntKind.wrap_u64, hq, hQ]; omega
  have e4 : IntKind.u64.wrap ((r1 : Int) + 1) = (r1 : Int) + 1 := by rw [IntKind.wrap_u64]; omega
  have h0 : ((n : Int) == 0) = false := by simp; omega
  have HQ := Lib.hid hq
  have HN1 := Lib.hid h1
  clear hcs hs hr1 hr2 hQ hq hb1 hb2
  go_enter Tryd.func37, Tryd.ntmps37
  go_wp2_with fail
  simp only [e1, e2]
  clear e1 e2 e4
  have H0 := Lib.hid (show Below (w.heap.size + 1) (w.alloc (.cells cs 22)) (w.alloc (.cells cs 22)) from Below.refl _ _)
  go_loopw [9] (fun i wr => ∃ k : Nat, k ≤ 16 ∧ i = .int .i64 k ∧ Hid (∀ j, j < k → q < tryM s iD j) ∧ Hid (Below (w.heap.size + 1) (w.alloc (.cells cs 22)) wr)) (fun i _ => 16 - (intOf i).toNat)
  case atStart => exact ⟨0, by omega, rfl, (fun j h => by omega), H0.out⟩
  case round =>
    clear H0
    obtain ⟨k, hk, rfl, hno, hbk⟩ := hrel
    have hb0 := Lib.hid ((hbw (.cells cs 22)).trans (hbk.out.mono (by omega)))
    by_cases h16 : k = 16
    · have hD := drawn_none (s := s) (i := iD) (n := n) (fun j hj => by rw [← HQ.out]; exact hno.out j (by omega))
      have HA := Lib.hid (show drawnA s iD n = (0, false) by unfold drawnA; rw [hD])
      subst h16
      clear hD
      go_wp2_with fail
      go_ret2
      rw [HA.out]
      exact ⟨rfl, hb0.out⟩
    · have hk16 : k < 16 := by omega
      have hBX := HBX.out.below hbk.out (by omega)
      have hTL := Lib.hid (tryM_lt s iD k)
      go_wp2_with ((with_reducible refine wpList_load_hb rfl _ (.tmp 3) rfl _ rfl hBX Tryd.underlying22 (by rw [HS.out]; exact size32) ?_); rw [HCS.out])
      refine (HTY.out k wr hk16).mono ?_
      rintro e w2 ⟨rfl, hb2⟩
      obtain ⟨v, hv⟩ : ∃ v, v = tryM s iD k := ⟨_, rfl⟩
      rw [← hv] at hTL ⊢
      have HV := Lib.hid hv
      have HB2 := Lib.hid (hbk.out.trans (hb2.mono (Nat.le_trans (by simp) hbk.out.size)))
      have HB02 := Lib.hid (hb0.out.trans (hb2.mono hb0.out.size))
      clear hb2 hv hBX
      by_cases hok : v ≤ q
      · have hD := drawn_some (s := s) (i := iD) (n := n) hk16 (fun j hj => by rw [← HQ.out]; exact hno.out j hj) (by rw [← HV.out, ← HQ.out]; exact hok)
        have HA := Lib.hid (show drawnA s iD n = (v % n, true) by unfold drawnA; rw [hD, HV.out])
        clear hD
        go_wp2_with fail
        go_ret2
        rw [HA.out]
        exact ⟨by simp, HB02.out⟩
      · have hok2 : q < v := by omega
        go_wp2_with fail
        go_roundw
        case rel =>
          refine ⟨k + 1, by omega, by go_num, fun j hj => ?_, HB2.out⟩
          by_cases hjk : j = k
          · rw [hjk, ← HV.out]; exact hok2
          · exact hno.out j (by omega)
        case measure => simp [intOf]; omega

set_option maxRecDepth 100000 in
set_option maxHeartbeats 1000000 in
theorem refNumber_any (s : List UInt8) (i n : Nat) (w : World) (hs : s.length = 32) (hi : i < 4294967296) (hn : n < 18446744073709551616) :
    Calls Tryd.prog 17 #[ab s, .int .u32 i, .int .u64 n] w fun e w' => e = .returned (.tuple #[.int .u64 ((numberM s i n).1 : Nat), .int .i64 (numberM s i n).2]) ∧ Below w.heap.size w w' := by
  have HS := Lib.hid hs
  have hbw := fun (o : Obj) => below_new w o
  have HD := Lib.hid (show ∀ (wx : World), 1 ≤ n → n ≤ 4294967296 → Calls Tryd.prog 37 #[ab s, .int .u32 i, .int .u64 n] wx fun e w' => e = .returned (.tuple #[.int .u64 ((drawnA s i n).1 : Nat), .bool (drawnA s i n).2]) ∧ Below wx.heap.size wx w' from fun wx h1 h2 => refDrawn_any s i n wx hs hi h1 h2)
  unfold ab at HD ⊢
  obtain ⟨cs, hcs⟩ : ∃ cs, (s.map bv).toArray = cs := ⟨_, rfl⟩
  have HCS := Lib.hid hcs
  have HBX := Lib.hid (Hb.new bv w 22 s cs hcs)
  rw [hcs] at HD ⊢
  clear hcs hs
  by_cases h1 : n < 1
  · have hM : numberM s i n = (0, 2) := by unfold numberM; rw [if_neg (by omega)]
    obtain rfl : n = 0 := by omega
    rw [hM]
    clear hM h1
    go_enter Tryd.func17, Tryd.ntmps17
    go_wp2_with fail
    go_ret2
    exact ⟨rfl, hbw _⟩
  · have d1 : decide ((n : Int) < 1) = false := by simp; omega
    by_cases h2 : 4294967296 < n
    · have hM : numberM s i n = (0, 2) := by unfold numberM; rw [if_neg (by omega)]
      have i2 : (4294967296 : Int) < (n : Int) := by omega
      rw [hM]
      clear hM h1
      go_enter Tryd.func17, Tryd.ntmps17
      go_wp2_with fail
      go_ret2
      exact ⟨rfl, hbw _⟩
    · have hM : numberM s i n = match drawnM s i n with | some x => (x, 0) | none => (0, 6) := by unfold numberM; rw [if_pos ⟨by omega, by omega⟩]; rfl
      have d2 : decide ((4294967296 : Int) < (n : Int)) = false := by simp; omega
      have k1 : 1 ≤ n := by omega
      have k2 : n ≤ 4294967296 := by omega
      clear h1 h2 hn
      cases hdr : drawnM s i n with
      | none =>
        have HM := Lib.hid (show numberM s i n = (0, 6) by rw [hM, hdr])
        have HA := Lib.hid (show drawnA s i n = (0, false) by unfold drawnA; rw [hdr])
        clear hM hdr
        go_enter Tryd.func17, Tryd.ntmps17
        go_wp2_with ((with_reducible refine wpList_load_hb rfl _ (.tmp 3) rfl _ rfl HBX.out Tryd.underlying22 (by rw [HS.out]; exact size32) ?_); rw [HCS.out])
        refine (HD.out _ k1 k2).mono ?_
        rintro e w2 ⟨rfl, hb2⟩
        rw [HA.out]
        have HB := Lib.hid ((hbw (.cells cs 22)).trans (hb2.mono (by simp)))
        clear hb2
        go_wp2_with fail
        go_ret2
        rw [HM.out]
        exact ⟨rfl, HB.out⟩
      | some x =>
        have HM := Lib.hid (show numberM s i n = (x, 0) by rw [hM, hdr])
        have HA := Lib.hid (show drawnA s i n = (x, true) by unfold drawnA; rw [hdr])
        clear hM hdr
        go_enter Tryd.func17, Tryd.ntmps17
        go_wp2_with ((with_reducible refine wpList_load_hb rfl _ (.tmp 3) rfl _ rfl HBX.out Tryd.underlying22 (by rw [HS.out]; exact size32) ?_); rw [HCS.out])
        refine (HD.out _ k1 k2).mono ?_
        rintro e w2 ⟨rfl, hb2⟩
        rw [HA.out]
        have HB := Lib.hid ((hbw (.cells cs 22)).trans (hb2.mono (by simp)))
        clear hb2
        go_wp2_with fail
        go_ret2
        rw [HM.out]
        exact ⟨rfl, HB.out⟩
end Go.Proofs.YtipclieldokfnaaDoor
