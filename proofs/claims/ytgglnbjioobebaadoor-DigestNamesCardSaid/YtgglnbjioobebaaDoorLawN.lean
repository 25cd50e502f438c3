/- DigestNames. -/
import Derived.Test.YtgglnbjioobebaaDoorEq
import Derived.Test.YtgglnbjioobebaaDoorLawL
namespace Go.Proofs.YtgglnbjioobebaaDoor
open Go.RowKit
set_option linter.unusedVariables false

def Kp (w0 : World) (g1 g3 : Nat) (d : List UInt8) (w' : World) : Prop := Hb bv w' g1 22 d ∧ Hb bv w' g3 22 d ∧ Below w0.heap.size w0 w'
theorem Kp.below {w0 w1 w2 : World} {g1 g3 : Nat} {d : List UInt8} (h : Kp w0 g1 g3 d w1) (hb : Below w1.heap.size w1 w2) : Kp w0 g1 g3 d w2 := ⟨h.1.below hb h.1.lt, h.2.1.below hb h.2.1.lt, h.2.2.trans (hb.mono h.2.2.size)⟩
theorem Kp.store {w0 w1 w2 : World} {g1 g3 : Nat} {d : List UInt8} {o : Obj} (h : Kp w0 g1 g3 d w1) (hg : (w1.alloc o).grownBy w2 (some w1.heap.size)) : Kp w0 g1 g3 d w2 :=
  ⟨(h.1.alloc o).grown hg (by have := h.1.lt; simp; omega), (h.2.1.alloc o).grown hg (by have := h.2.1.lt; simp; omega), (h.2.2.alloc h.2.2.size _).grown hg (h.2.2.alloc h.2.2.size _).size (fun k e => by cases e; exact h.2.2.size)⟩
theorem zeros_rf {w : World} {g n : Nat} (h : Hb bv w g 5 (List.replicate n 0)) (hn : n ≤ 100000) : Rf bv w w.heap.size (some ⟨g, 0, none⟩) n (List.replicate n 0) := h.rf_all (by rw [List.length_replicate]; exact Nat.le_refl _) (by unfold maxLen; omega)
theorem pad_zeros (n m : Nat) (g : Nat) (w : World) (h : Hb bv w g 5 (List.replicate n 0)) (hn : n ≤ 8192) (hm : (n + 72) / 64 * 64 = m) :
    Calls Tryd.prog 13 #[.slice (some ⟨g, 0, none⟩) n n] w fun e w' => ∃ A' c', e = .returned (.tuple #[.slice A' m c', .int .i64 0]) ∧ Below w.heap.size w w' := by
  have hp := padX_any (some ⟨g, 0, none⟩) n w.heap.size (List.replicate n 0) w (zeros_rf h (by omega)) (Nat.le_refl _) (by rw [List.length_replicate]; omega)
  rw [List.length_replicate, show padM (List.replicate n 0) = (padB (List.replicate n 0), 0) by unfold padM; rw [if_neg (by rw [List.length_replicate]; omega)]] at hp
  refine hp.mono ?_
  rintro e w' ⟨A', c', rfl, _, hb⟩
  exact ⟨A', c', by rw [padB_len, List.length_replicate, hm], hb⟩
theorem sum_zeros (n : Nat) (g : Nat) (w : World) (h : Hb bv w g 5 (List.replicate n 0)) (hn : 8192 < n) (hn2 : n ≤ 100000) (hT : Tab w) :
    Calls Tryd.prog 12 #[.slice (some ⟨g, 0, none⟩) n n] w fun e w' => e = .returned (.tuple #[ab zero32, .int .i64 4]) ∧ Below w.heap.size w w' := by
  have hp := sum_any (some ⟨g, 0, none⟩) n w.heap.size (List.replicate n 0) w (zeros_rf h (by omega)) (Nat.le_refl _) (by rw [List.length_replicate]; omega) hT
  rwa [List.length_replicate, show sumM (List.replicate n 0) = (zero32, 4) by unfold sumM; rw [if_pos (by rw [List.length_replicate]; omega)]] at hp
theorem leaf_zeros (n : Nat) (g : Nat) (w : World) (h : Hb bv w g 5 (List.replicate n 0)) (hn2 : n ≤ 100000) (hT : Tab w) :
    Calls Tryd.prog 15 #[.slice (some ⟨g, 0, none⟩) n n] w fun e w' => (∃ s, s.length = 32 ∧ e = .returned (.tuple #[ab s, .int .i64 (if 8191 < n then 4 else 0)])) ∧ Below w.heap.size w w' := by
  have hp := leafX_any (some ⟨g, 0, none⟩) n w.heap.size (List.replicate n 0) w (zeros_rf h (by omega)) (Nat.le_refl _) (by rw [List.length_replicate]; omega) hT
  rw [List.length_replicate] at hp
  refine hp.mono ?_
  rintro e w' ⟨rfl, hb⟩
  exact ⟨⟨(leafM (List.replicate n 0)).1, leafM_len _, by rw [show (leafM (List.replicate n 0)).2 = (if 8191 < n then 4 else 0) by unfold leafM; rw [List.length_replicate]; split <;> rfl]⟩, hb⟩
theorem comp_zeros (n : Nat) (g : Nat) (w : World) (h : Hb bv w g 5 (List.replicate n 0)) (hn : n ≠ 64) (hn2 : n ≤ 100000) (hT : Tab w) :
    Calls Tryd.prog 14 #[.agg #[.int .u32 0, .int .u32 0, .int .u32 0, .int .u32 0, .int .u32 0, .int .u32 0, .int .u32 0, .int .u32 0], .slice (some ⟨g, 0, none⟩) n n] w fun e w' => e = .returned (.tuple #[aw zero8, .int .i64 2]) ∧ Below w.heap.size w w' := by
  have hp := compX_any zero8 (some ⟨g, 0, none⟩) n w.heap.size (List.replicate n 0) w rfl (zeros_rf h (by omega)) (Nat.le_refl _) (by rw [List.length_replicate]; omega) hT
  rw [List.length_replicate, show compM zero8 (List.replicate n 0) = (zero8, 2) by unfold compM; rw [if_neg (by rw [List.length_replicate]; omega)]] at hp
  exact hp

set_option maxHeartbeats 2000000 in
theorem digestNames_any (w : World) (hT : Tab w) :
    Calls Tryd.prog 3 #[] w fun e w' => e = .returned (.bool true) ∧ Below w.heap.size w w' := by
  have HT := Lib.hid hT
  have HM1 := Lib.hid (show sumM [97, 98, 99] = (dig [97, 98, 99], 0) from rfl)
  have HM0 := Lib.hid (show padM [] = (padB [], 0) from rfl)
  have HPL0 := Lib.hid (show (padB []).length = 64 from padB_len [])
  obtain ⟨d1, hd1⟩ : ∃ d1, d1 = dig [97, 98, 99] := ⟨_, rfl⟩
  have HW := Lib.hid (show (d1.map bv).toArray = #[.int .u8 186, .int .u8 120, .int .u8 22, .int .u8 191, .int .u8 143, .int .u8 1, .int .u8 207, .int .u8 234, .int .u8 65, .int .u8 65, .int .u8 64, .int .u8 222, .int .u8 93, .int .u8 174, .int .u8 34, .int .u8 35, .int .u8 176, .int .u8 3, .int .u8 97, .int .u8 163, .int .u8 150, .int .u8 23, .int .u8 122, .int .u8 156, .int .u8 180, .int .u8 16, .int .u8 255, .int .u8 97, .int .u8 242, .int .u8 0, .int .u8 21, .int .u8 173] by rw [hd1, dig_abc]; rfl)
  have HDL := Lib.hid (show d1.length = 32 by rw [hd1]; exact dig_len _)
  rw [← hd1] at HM1
  obtain ⟨p0, hp0⟩ : ∃ p0, p0 = padB [] := ⟨_, rfl⟩
  rw [← hp0] at HM0 HPL0
  clear hd1 hp0 hT
  obtain ⟨c1, hc1⟩ : ∃ c1, (d1.map bv).toArray = c1 := ⟨_, rfl⟩
  have HC1 := Lib.hid hc1
  clear hc1
  have hcv := Lib.run_convert_bytes_const (P := Tryd.prog) w 26 5 #[.int .u8 97, .int .u8 98, .int .u8 99] 3 3 Tryd.underlying26 Tryd.underlying5
  go_enter Tryd.func3, Tryd.ntmps3
  go_wp2_with fail
  refine (sum_any _ 3 _ [97, 98, 99] _ (rf_const w [97, 98, 99] _ 5 (3, 4) rfl (by simp)) (by simp) (by simp) (HT.out.below (below_new w _))).mono ?_
  rintro e w1 ⟨rfl, hb1⟩
  rw [HM1.out]
  unfold ab
  rw [HC1.out]
  have hbw1 := (below_new w (.cells #[.int .u8 97, .int .u8 98, .int .u8 99] 5 (3, 4))).trans (hb1.mono (by simp))
  clear hb1 hcv
  go_wp2_with (first
    | ((with_reducible refine wpList_store_cs bv_one rfl _ (.tmp 1) (.tmp 23) rfl _ d1 _ HC1.out rfl rfl (Hb.new bv w1 _ (List.replicate 32 0) _ z32) size32 (List.length_replicate ..) HDL.out ?_); intro w2 h2 hg2; have hbw2 : Below w.heap.size w w2 := (hbw1.alloc hbw1.size _).grown hg2 (hbw1.alloc hbw1.size _).size (fun k e => by cases e; exact hbw1.size))
    | ((with_reducible refine wpList_store_cs bv_one rfl _ (.tmp 3) (.tmp 25) rfl _ d1 _ HW.out rfl rfl (Hb.new bv w2 _ (List.replicate 32 0) _ z32) size32 (List.length_replicate ..) HDL.out ?_); intro w3 h3 hg3; have hbw3 : Below w.heap.size w w3 := (hbw2.alloc hbw2.size _).grown hg3 (hbw2.alloc hbw2.size _).size (fun k e => by cases e; exact hbw2.size); have h23 := (h2.alloc _).grown hg3 (by have := h2.lt; simp; omega)))
  have k3 : Kp w w1.heap.size w2.heap.size d1 w3 := ⟨h23, h3, hbw3⟩
  clear h2 h3 h23 hbw1 hbw2 hbw3 hg2 hg3
  refine (padX_any none 0 0 [] w3 (Rf.empty _ _) (Nat.zero_le _) (by simp)).mono ?_
  rintro e w4 ⟨A4, c4, rfl, _, hb4⟩
  rw [HM0.out]
  have k4 := k3.below hb4
  have hp0 : ((p0.length : Int) == 64) = true := by rw [HPL0.out]; rfl
  go_wp2_with (at_make; refine wpList_make_k .i64 _ rfl _ _ rfl _ 55 rfl rfl rfl (by omega) ?_; intro w5 hz5 hb5 hs5)
  have k5 := k4.below hb5
  refine (pad_zeros 55 64 _ w5 hz5 (by omega) (by omega)).mono ?_
  rintro e w6 ⟨A6, c6, rfl, hb6⟩
  have k6 := k5.below hb6
  clear hb4 hb5 hz5 hb6 k3 k4 k5
  go_wp2_with (at_make; refine wpList_make_k .i64 _ rfl _ _ rfl _ 56 rfl rfl rfl (by omega) ?_; intro w7 hz7 hb7 hs7)
  have k7 := k6.below hb7
  refine (pad_zeros 56 128 _ w7 hz7 (by omega) (by omega)).mono ?_
  rintro e w8 ⟨A8, c8, rfl, hb8⟩
  have k8 := k7.below hb8
  clear hb7 hz7 hb8 k6 k7
  go_wp2_with (at_make; refine wpList_make_k .i64 _ rfl _ _ rfl _ 63 rfl rfl rfl (by omega) ?_; intro w9 hz9 hb9 hs9)
  have k9 := k8.below hb9
  refine (comp_zeros 63 _ w9 hz9 (by omega) (by omega) (HT.out.below k9.2.2)).mono ?_
  rintro e w10 ⟨rfl, hb10⟩
  have k10 := k9.below hb10
  unfold aw
  obtain ⟨z8c, hz8c⟩ : ∃ c, (zero8.map uv).toArray = c := ⟨_, rfl⟩
  have HZ8 := Lib.hid hz8c
  rw [hz8c]
  clear hb9 hz9 hb10 k8 k9 hz8c
  go_wp2_with (first
    | ((with_reducible refine wpList_store_cs uv_one rfl _ (.tmp 10) (.tmp 44) rfl _ zero8 _ HZ8.out rfl rfl (Hb.new uv w10 _ (List.replicate 8 0) _ z8) size8 (List.length_replicate ..) rfl ?_); intro w11 h11 hg11; have k11 := k10.store hg11)
    | (at_make; refine wpList_make_k .i64 _ rfl _ _ rfl _ 8193 rfl rfl rfl (by omega) ?_; intro w12 hz12 hb12 hs12; have k12 := k11.below hb12))
  refine (sum_zeros 8193 _ w12 hz12 (by omega) (by omega) (HT.out.below k12.2.2)).mono ?_
  rintro e w13 ⟨rfl, hb13⟩
  have k13 := k12.below hb13
  unfold ab
  obtain ⟨z32c, hz32c⟩ : ∃ c, (zero32.map bv).toArray = c := ⟨_, rfl⟩
  have HZ32 := Lib.hid hz32c
  have HZ32L := Lib.hid (show zero32.length = 32 from List.length_replicate)
  rw [hz32c]
  clear h11 hg11 hb12 hz12 hb13 k10 k11 k12 hz32c
  go_wp2_with (first
    | ((with_reducible refine wpList_store_cs bv_one rfl _ (.tmp 12) (.tmp 49) rfl _ zero32 _ HZ32.out rfl rfl (Hb.new bv w13 _ (List.replicate 32 0) _ z32) size32 (List.length_replicate ..) HZ32L.out ?_); intro w14 h14 hg14; have k14 := k13.store hg14)
    | (at_make; refine wpList_make_k .i64 _ rfl _ _ rfl _ 8192 rfl rfl rfl (by omega) ?_; intro w15 hz15 hb15 hs15; have k15 := k14.below hb15))
  refine (leaf_zeros 8192 _ w15 hz15 (by omega) (HT.out.below k15.2.2)).mono ?_
  rintro e w16 ⟨⟨s16, hs16l, rfl⟩, hb16⟩
  have k16 := k15.below hb16
  unfold ab
  obtain ⟨cs16, hcs16⟩ : ∃ c, (s16.map bv).toArray = c := ⟨_, rfl⟩
  have HCS16 := Lib.hid hcs16
  have HSL16 := Lib.hid hs16l
  rw [hcs16]
  clear h14 hg14 hb15 hz15 hb16 k13 k14 k15 hcs16 hs16l
  go_wp2_with (first
    | ((with_reducible refine wpList_store_cs bv_one rfl _ (.tmp 14) (.tmp 54) rfl _ s16 _ HCS16.out rfl rfl (Hb.new bv w16 _ (List.replicate 32 0) _ z32) size32 (List.length_replicate ..) HSL16.out ?_); intro w17 h17 hg17; have k17 := k16.store hg17)
    | (at_make; refine wpList_make_k .i64 _ rfl _ _ rfl _ 8191 rfl rfl rfl (by omega) ?_; intro w18 hz18 hb18 hs18; have k18 := k17.below hb18))
  refine (leaf_zeros 8191 _ w18 hz18 (by omega) (HT.out.below k18.2.2)).mono ?_
  rintro e w19 ⟨⟨s19, hs19l, rfl⟩, hb19⟩
  have k19 := k18.below hb19
  unfold ab
  obtain ⟨cs19, hcs19⟩ : ∃ c, (s19.map bv).toArray = c := ⟨_, rfl⟩
  have HCS19 := Lib.hid hcs19
  have HSL19 := Lib.hid hs19l
  rw [hcs19]
  clear h17 hg17 hb18 hz18 hb19 k16 k17 k18 hcs19 hs19l
  have hE := eqi_ab d1 HDL.out c1 HC1.out
  have hGD := gd_ab
  go_wp2_with (first
    | ((with_reducible refine wpList_store_cs bv_one rfl _ (.tmp 16) (.tmp 59) rfl _ s19 _ HCS19.out rfl rfl (Hb.new bv w19 _ (List.replicate 32 0) _ z32) size32 (List.length_replicate ..) HSL19.out ?_); intro w20 h20 hg20; have k20 := k19.store hg20; have hk1 := k20.1; have hk3 := k20.2.1; have HT20 := Lib.hid (HT.out.below k20.2.2))
    | ((with_reducible refine wpList_load_g (by kernel_rfl) _ (.tmp 1) rfl _ rfl hk1 Tryd.underlying22 (by rw [HDL.out]; exact size32) ?_); rw [HC1.out])
    | ((with_reducible refine wpList_load_g (by kernel_rfl) _ (.tmp 3) rfl _ rfl hk3 Tryd.underlying22 (by rw [HDL.out]; exact size32) ?_); rw [HC1.out])
    | (go_at_call 16; (with_reducible refine (alive_any w20 HT20.out).mono ?_); rintro e w21 ⟨rfl, hb21⟩; have k21 := k20.below hb21))
  go_ret
  exact ⟨rfl, k21.2.2⟩
end Go.Proofs.YtgglnbjioobebaaDoor
