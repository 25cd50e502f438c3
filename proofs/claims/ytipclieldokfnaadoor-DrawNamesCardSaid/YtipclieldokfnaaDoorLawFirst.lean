/- DrawFirst. -/
import Derived.Test.YtipclieldokfnaaDoorAlive
namespace Go.Proofs.YtipclieldokfnaaDoor
open Go.RowKit
set_option linter.unusedVariables false

theorem number_pow (s : List UInt8) (i p : Nat) (hp : p ≤ 32) : numberM s i (2 ^ p) = (tryM s i 0 % 2 ^ p, 0) := by
  have h1 : 1 ≤ 2 ^ p := Nat.one_le_two_pow
  have h2 : 2 ^ p ≤ 4294967296 := Nat.le_trans (Nat.pow_le_pow_right (by omega) hp) (by decide)
  have hl : lastM (2 ^ p) = 18446744073709551615 := by
    rw [lastM_rest _ h1 h2]
    have : 18446744073709551616 % 2 ^ p = 0 := by
      rw [show 18446744073709551616 = 2 ^ (64 - p) * 2 ^ p by rw [← Nat.pow_add, show 64 - p + p = 64 by omega]]
      exact Nat.mul_mod_left _ _
    rw [this]
  have hd := drawn_some (s := s) (i := i) (n := 2 ^ p) (m := 0) (by omega) (fun k hk => by omega) (by have := tryM_lt s i 0; omega)
  unfold numberM
  rw [if_pos ⟨h1, h2⟩, hd]
theorem number_first {s : List UInt8} {i n x : Nat} (h : numberM s i n = (x, 0)) (hx : tryM s i 0 < 18446744069414584319) : 1 ≤ n ∧ x = tryM s i 0 % n := by
  unfold numberM at h
  by_cases hb : 1 ≤ n ∧ n ≤ 4294967296
  · rw [if_pos hb] at h
    have hr : (18446744073709551616 - n) % n < n := Nat.mod_lt _ hb.1
    have hd := drawn_some (s := s) (i := i) (n := n) (m := 0) (by omega) (fun k hk => by omega) (by unfold lastM; omega)
    rw [hd] at h
    exact ⟨hb.1, (Prod.mk.inj h).1.symm⟩
  · rw [if_neg hb] at h
    have := (Prod.mk.inj h).2
    omega

set_option maxRecDepth 100000 in
set_option maxHeartbeats 1000000 in
theorem drawFirst_any (s : List UInt8) (i pw n : Int) (w : World) (hs : s.length = 32) (hi : (Lit.int .u32 i).wf = true) (hp : (Lit.int .u8 pw).wf = true) (hn : (Lit.int .u64 n).wf = true) (hT : Tab w) :
    Calls Tryd.prog 10 #[ab s, .int .u32 i, .int .u8 pw, .int .u64 n] w fun e w' => e = .returned (.bool true) ∧ Below w.heap.size w w' := by
  have hib := bounds_u32 hi
  have hnb := bounds_u64 hn
  have hpb := bounds_u8 hp
  obtain ⟨i, rfl⟩ := Int.eq_ofNat_of_zero_le (show 0 ≤ i by omega)
  obtain ⟨n, rfl⟩ := Int.eq_ofNat_of_zero_le (show 0 ≤ n by omega)
  obtain ⟨pw, rfl⟩ := Int.eq_ofNat_of_zero_le (show 0 ≤ pw by omega)
  obtain ⟨p, hpe⟩ : ∃ p, p = pw % 33 := ⟨_, rfl⟩
  have hp32 : p ≤ 32 := by omega
  have e1 : (pw : Int) % 33 = (p : Int) := by rw [hpe]; simp
  obtain ⟨B, hB⟩ : ∃ B, B = 2 ^ p := ⟨_, rfl⟩
  have hB1 : 1 ≤ B := by rw [hB]; exact Nat.one_le_two_pow
  have hB2 : B ≤ 4294967296 := by rw [hB]; exact Nat.le_trans (Nat.pow_le_pow_right (by omega) hp32) (by decide)
  have e2 : (2 : Int) ^ p = (B : Int) := by rw [hB]; simp
  have HS := Lib.hid hs
  have HT := Lib.hid hT
  have hbw := fun (o : Obj) => below_new w o
  obtain ⟨v, hv⟩ : ∃ v, v = tryM s i 0 := ⟨_, rfl⟩
  obtain ⟨y, hy⟩ : ∃ y, y = v % B := ⟨_, rfl⟩
  obtain ⟨x, er, hx⟩ : ∃ x er, numberM s i n = (x, er) := ⟨_, _, rfl⟩
  have hpow := number_pow s i p hp32
  rw [← hB, ← hv, ← hy] at hpow
  have HF := Lib.hid (show ∀ wx : World, Tab wx → Calls Tryd.prog 26 #[ab s, .int .u32 i] wx fun e w' => e = .returned (.int .u64 v) ∧ Below wx.heap.size wx w' from fun wx h => by
    have := firstTry_any s i wx hs (by omega) h
    rw [← hv] at this
    exact this)
  have HA := Lib.hid (show ∀ wx : World, Tab wx → Calls Tryd.prog 12 #[ab s, .int .u32 i, .int .u64 n] wx fun e w' => e = .returned (.tuple #[.int .u64 x, .int .i64 er]) ∧ Below wx.heap.size wx w' from fun wx h => by
    have := number_any s i n wx hs (by omega) (by omega) h
    rw [hx] at this
    exact this)
  have HP := Lib.hid (show ∀ wx : World, Tab wx → Calls Tryd.prog 12 #[ab s, .int .u32 i, .int .u64 B] wx fun e w' => e = .returned (.tuple #[.int .u64 y, .int .i64 0]) ∧ Below wx.heap.size wx w' from fun wx h => by
    have := number_any s i B wx hs (by omega) (by omega) h
    rw [hpow] at this
    exact this)
  have HV := Lib.hid hv
  have HX := Lib.hid hx
  have hvl : v < 18446744073709551616 := by rw [hv]; exact tryM_lt _ _ _
  unfold ab at HF HA HP ⊢
  obtain ⟨cs, hcs⟩ : ∃ cs, (s.map bv).toArray = cs := ⟨_, rfl⟩
  have HCS := Lib.hid hcs
  have HBX := Lib.hid (Hb.new bv w 22 s cs hcs)
  rw [hcs] at HF HA HP ⊢
  have e3 : (v : Int) % (B : Int) = (y : Int) := by rw [hy]; simp
  have hB0 : ((B : Int) == 0) = false := by simp; omega
  have e5 : IntKind.u64.wrap (B : Int) = (B : Int) := by rw [IntKind.wrap_u64]; omega
  have HVL := Lib.hid hvl
  clear hcs hs hT hn hi hp hib hnb hpb hx hv hy hB hpe hpow hvl
  go_enter Tryd.func10, Tryd.ntmps10
  go_wp2_with fail
  refine (alive_any _ (HT.out.below (hbw _))).mono ?_
  rintro e w1 ⟨rfl, hb1⟩
  have HB1 := Lib.hid ((hbw (.cells cs 22)).trans (hb1.mono (by simp)))
  have hbx := HBX.out.below hb1 (by simp)
  clear hb1
  go_wp2_with ((with_reducible refine wpList_load_hb rfl _ (.tmp 4) rfl _ rfl hbx Tryd.underlying22 (by rw [HS.out]; exact size32) ?_); rw [HCS.out])
  refine (HF.out w1 (HT.out.below HB1.out)).mono ?_
  rintro e w2 ⟨rfl, hb2⟩
  have HB2 := Lib.hid (HB1.out.trans (hb2.mono HB1.out.size))
  have hbx2 := hbx.below hb2 hbx.lt
  clear hb2 hbx
  go_wp2_with ((with_reducible refine wpList_load_hb rfl _ (.tmp 4) rfl _ rfl hbx2 Tryd.underlying22 (by rw [HS.out]; exact size32) ?_); rw [HCS.out])
  refine (HP.out w2 (HT.out.below HB2.out)).mono ?_
  rintro e w3 ⟨rfl, hb3⟩
  have HB3 := Lib.hid (HB2.out.trans (hb3.mono HB2.out.size))
  have hbx3 := hbx2.below hb3 hbx2.lt
  clear hb3 hbx2
  go_wp2_with ((with_reducible refine wpList_load_hb rfl _ (.tmp 4) rfl _ rfl hbx3 Tryd.underlying22 (by rw [HS.out]; exact size32) ?_); rw [HCS.out])
  refine (HA.out w3 (HT.out.below HB3.out)).mono ?_
  rintro e w4 ⟨rfl, hb4⟩
  have HB4 := Lib.hid (HB3.out.trans (hb4.mono HB3.out.size))
  clear hb4 hbx3
  by_cases her : er = 0
  · subst her
    by_cases hge : 18446744069414584319 ≤ v
    · have hge2 : (18446744069414584319 : Int) ≤ (v : Int) := by omega
      go_wp2_with fail
      go_ret
      exact ⟨rfl, HB4.out⟩
    · have hlt2 : decide ((18446744069414584319 : Int) ≤ (v : Int)) = false := by simp; omega
      obtain ⟨hn1, hxe⟩ := number_first HX.out (by rw [← HV.out]; omega)
      rw [← HV.out] at hxe
      have e6 : (v : Int) % (n : Int) = (x : Int) := by rw [hxe]; simp
      have hn0 : ((n : Int) == 0) = false := by simp; omega
      clear hge hxe
      go_wp2_with fail
      go_ret
      exact ⟨rfl, HB4.out⟩
  · have hne : (er != 0) = true := by rw [bne_iff_ne]; exact her
    clear her
    go_wp2_with fail
    go_ret
    exact ⟨rfl, HB4.out⟩
end Go.Proofs.YtipclieldokfnaaDoor
