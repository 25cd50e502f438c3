/- DrawTells. -/
import Derived.Test.YtipclieldokfnaaDoorRefD
namespace Go.Proofs.YtipclieldokfnaaDoor
open Go.RowKit
set_option linter.unusedVariables false

set_option maxRecDepth 100000 in
set_option maxHeartbeats 1000000 in
theorem drawTells_any (s : List UInt8) (i n : Int) (w : World) (hs : s.length = 32) (hi : (Lit.int .u32 i).wf = true) (hn : (Lit.int .u64 n).wf = true) (hT : Tab w) :
    Calls Tryd.prog 4 #[ab s, .int .u32 i, .int .u64 n] w fun e w' => e = .returned (.bool true) ∧ Below w.heap.size w w' := by
  have hib := bounds_u32 hi
  have hnb := bounds_u64 hn
  obtain ⟨i, rfl⟩ := Int.eq_ofNat_of_zero_le (show 0 ≤ i by omega)
  obtain ⟨n, rfl⟩ := Int.eq_ofNat_of_zero_le (show 0 ≤ n by omega)
  have HS := Lib.hid hs
  have HT := Lib.hid hT
  have hbw := fun (o : Obj) => below_new w o
  obtain ⟨x, er, hx⟩ : ∃ x er, numberM s i n = (x, er) := ⟨_, _, rfl⟩
  have HA := Lib.hid (show ∀ wx : World, Tab wx → Calls Tryd.prog 12 #[ab s, .int .u32 i, .int .u64 n] wx fun e w' => e = .returned (.tuple #[.int .u64 x, .int .i64 er]) ∧ Below wx.heap.size wx w' from fun wx h => by
    have := number_any s i n wx hs (by omega) (by omega) h
    rw [hx] at this
    exact this)
  have HB := Lib.hid (show ∀ wx : World, Calls Tryd.prog 17 #[ab s, .int .u32 i, .int .u64 n] wx fun e w' => e = .returned (.tuple #[.int .u64 x, .int .i64 er]) ∧ Below wx.heap.size wx w' from fun wx => by
    have := refNumber_any s i n wx hs (by omega) (by omega)
    rw [hx] at this
    exact this)
  unfold ab at HA HB ⊢
  obtain ⟨cs, hcs⟩ : ∃ cs, (s.map bv).toArray = cs := ⟨_, rfl⟩
  have HCS := Lib.hid hcs
  have HBX := Lib.hid (Hb.new bv w 22 s cs hcs)
  rw [hcs] at HA HB ⊢
  clear hcs hs hT hn hi hib hnb hx
  go_enter Tryd.func4, Tryd.ntmps4
  go_wp2_with ((with_reducible refine wpList_load_hb rfl _ (.tmp 3) rfl _ rfl HBX.out Tryd.underlying22 (by rw [HS.out]; exact size32) ?_); rw [HCS.out])
  refine (HA.out _ (HT.out.below (hbw _))).mono ?_
  rintro e w1 ⟨rfl, hb1⟩
  have HB1 := Lib.hid ((hbw (.cells cs 22)).trans (hb1.mono (by simp)))
  have hbx := HBX.out.below hb1 (by simp)
  clear hb1
  go_wp2_with ((with_reducible refine wpList_load_hb rfl _ (.tmp 3) rfl _ rfl hbx Tryd.underlying22 (by rw [HS.out]; exact size32) ?_); rw [HCS.out])
  refine (HB.out w1).mono ?_
  rintro e w2 ⟨rfl, hb2⟩
  have HB2 := Lib.hid (HB1.out.trans (hb2.mono HB1.out.size))
  clear hb2 hbx
  go_wp2_with fail
  go_ret
  exact ⟨rfl, HB2.out⟩
end Go.Proofs.YtipclieldokfnaaDoor
