/- told, alive, folded. -/
import Derived.Test.YtgglnbjioobebaaDoorApi
import Derived.Test.YtgglnbjioobebaaDoorRefP
import Derived.Deep.RegionLaw
import Derived.Lib.SlBytesConst
namespace Go.Proofs.YtgglnbjioobebaaDoor
open Go.RowKit
set_option linter.unusedVariables false

theorem dig_nil : ∃ r, dig [] = 0xe3 :: 0xb0 :: 0xc4 :: 0x42 :: r := ⟨(dig []).drop 4, by decide +kernel⟩
theorem dig_abc : dig [97, 98, 99] = [0xba, 0x78, 0x16, 0xbf, 0x8f, 0x01, 0xcf, 0xea, 0x41, 0x41, 0x40, 0xde, 0x5d, 0xae, 0x22, 0x23, 0xb0, 0x03, 0x61, 0xa3, 0x96, 0x17, 0x7a, 0x9c, 0xb4, 0x10, 0xff, 0x61, 0xf2, 0x00, 0x15, 0xad] := by decide +kernel
theorem dig_zero : ∃ r, dig [0] = 0x6e :: 0x34 :: 0x0b :: 0x9c :: r := ⟨(dig [0]).drop 4, by decide +kernel⟩

/-- told at a digest that begins with these four bytes, no error. -/
theorem told_any (L : List UInt8) (a b c d : UInt8) (n : Int) (w : World) (hL : L.length = 32) (h : ∃ r, L = a :: b :: c :: d :: r) (hn : Hid (((num [a, b, c, d] : Nat) : Int) = n)) :
    Calls Tryd.prog 30 #[ab L, .int .i64 0, .int .u32 n] w fun e w' => e = .returned (.bool true) ∧ Below w.heap.size w w' := by
  obtain ⟨r, rfl⟩ := h
  unfold ab
  obtain ⟨cs, hcs⟩ : ∃ cs, ((a :: b :: c :: d :: r).map bv).toArray = cs := ⟨_, rfl⟩
  have hb := Hb.new bv w 22 (a :: b :: c :: d :: r) cs hcs
  have c0 := hb.cell (i := 0) (by simp)
  have c1 := hb.cell (i := 1) (by simp)
  have c2 := hb.cell (i := 2) (by simp)
  have c3 := hb.cell (i := 3) (by simp)
  simp only [List.getElem_cons_zero, List.getElem_cons_succ, bv] at c0 c1 c2 c3
  have b0 := u8_lt a
  have b1 := u8_lt b
  have b2 := u8_lt c
  have b3 := u8_lt d
  have HE := Lib.hid ((word_or a b c d).trans hn.out)
  rw [hcs]
  clear hcs hb hL
  go_enter Tryd.func30, Tryd.ntmps30
  go_wp2_with fail
  go_ret
  refine ⟨congrArg (fun b => Ending.returned (.bool b)) ?_, below_new w _⟩
  rw [HE.out]
  simp

/-- A load of a whole array behind a guard that holds. -/
theorem wpList_load_g {P : Program} {α : Type} {f : α → Value} {w : World} {ops : Array Oper} {rest : List Oper} {o : Oper} {a : Act} {Q : Exit → Act → World → Prop} (hw : Region.wanted o (yielded ops a.tmps) = true) (ty : TypeId) (x : Operand) (ho : o.op = .load ty x)
    (g : Nat) (hx : a.eval x = .pointer (some ⟨g, 0, none⟩)) {t n e : Nat} {L : List α} (hH : Hb f w g t L) (hu : P.underlying ty = some (.array n e)) (hi : (P.info? ty).map (·.size) = some L.length)
    (h : wpList P ops Q rest (a.put o.dst (.agg (L.map f).toArray)) w) : wpList P ops Q (o :: rest) a w :=
  BigFrame.wpList_want hw fun K hK => wp_load_row ty x ho g hx t _ _ _ hH.heap hu rfl (by simpa using hi) (hK _ _ h)
/-- A constant string's bytes. -/
theorem rf_const (w : World) (L : List UInt8) (cs : Array Value) (e : TypeId) (fr : Nat × Nat) (h : (L.map bv).toArray = cs) (hl : L.length ≤ 1000) : Rf bv (w.alloc (.cells cs e fr)) (w.heap.size + 1) (some ⟨w.heap.size, 0, none⟩) L.length L := by
  subst h
  refine ⟨Nat.le_refl _, by unfold maxLen; omega, (fun e => by cases e), fun ad he j hj => ?_⟩
  obtain rfl := Option.some.inj he
  rw [add_plain, Nat.zero_add]
  refine ⟨by simp, ?_⟩
  rw [cell_of_row _ _ j _ _ fr (heap_alloc_new w _)]
  simp [hj]
set_option maxHeartbeats 1000000 in
theorem alive_any (w : World) (hT : Tab w) :
    Calls Tryd.prog 16 #[] w fun e w' => e = .returned (.bool true) ∧ Below w.heap.size w w' := by
  have HT := Lib.hid hT
  have HM0 := Lib.hid (show sumM [] = (dig [], 0) from rfl)
  have HM1 := Lib.hid (show sumM [97, 98, 99] = (dig [97, 98, 99], 0) from rfl)
  have HM2 := Lib.hid (show leafM [] = (dig [0], 0) from rfl)
  obtain ⟨d0, hd0⟩ : ∃ d0, d0 = dig [] := ⟨_, rfl⟩
  obtain ⟨d1, hd1⟩ : ∃ d1, d1 = dig [97, 98, 99] := ⟨_, rfl⟩
  obtain ⟨d2, hd2⟩ : ∃ d2, d2 = dig [0] := ⟨_, rfl⟩
  have hl0 : d0.length = 32 := by rw [hd0]; exact dig_len _
  have hl1 : d1.length = 32 := by rw [hd1]; exact dig_len _
  have hl2 : d2.length = 32 := by rw [hd2]; exact dig_len _
  have T0 := Lib.hid (show ∀ wx : World, Calls Tryd.prog 30 #[.agg (d0.map bv).toArray, .int .i64 0, .int .u32 3820012610] wx fun e w' => e = .returned (.bool true) ∧ Below wx.heap.size wx w' from fun wx => told_any d0 0xe3 0xb0 0xc4 0x42 3820012610 wx hl0 (by rw [hd0]; exact dig_nil) (by show _ = _; decide))
  have T1 := Lib.hid (show ∀ wx : World, Calls Tryd.prog 30 #[.agg (d1.map bv).toArray, .int .i64 0, .int .u32 3128432319] wx fun e w' => e = .returned (.bool true) ∧ Below wx.heap.size wx w' from fun wx => told_any d1 0xba 0x78 0x16 0xbf 3128432319 wx hl1 (by rw [hd1, dig_abc]; exact ⟨_, rfl⟩) (by show _ = _; decide))
  have T2 := Lib.hid (show ∀ wx : World, Calls Tryd.prog 30 #[.agg (d2.map bv).toArray, .int .i64 0, .int .u32 1848904604] wx fun e w' => e = .returned (.bool true) ∧ Below wx.heap.size wx w' from fun wx => told_any d2 0x6e 0x34 0x0b 0x9c 1848904604 wx hl2 (by rw [hd2]; exact dig_zero) (by show _ = _; decide))
  rw [← hd0] at HM0
  rw [← hd1] at HM1
  rw [← hd2] at HM2
  have HL0 := Lib.hid hl0
  have HL1 := Lib.hid hl1
  have HL2 := Lib.hid hl2
  clear hd0 hd1 hd2 hl0 hl1 hl2 hT
  go_enter Tryd.func16, Tryd.ntmps16
  go_wp2_with fail
  refine (sum_any none 0 0 [] w (Rf.empty _ _) (Nat.zero_le _) (by simp) HT.out).mono ?_
  rintro e w1 ⟨rfl, hb1⟩
  rw [HM0.out]
  unfold ab
  go_wp2_with ((with_reducible refine wpList_store_hb bv_one rfl _ (.tmp 1) (.tmp 9) rfl _ d0 rfl rfl (Hb.new bv w1 _ (List.replicate 32 0) _ z32) size32 (List.length_replicate ..) HL0.out ?_); intro w2 h2 hg2; have hbw2 : Below w.heap.size w w2 := (hb1.alloc hb1.size _).grown hg2 (hb1.alloc hb1.size _).size (fun k e => by cases e; exact hb1.size); have hcv := Lib.run_convert_bytes_const (P := Tryd.prog) w2 26 5 #[.int .u8 97, .int .u8 98, .int .u8 99] 3 3 Tryd.underlying26 Tryd.underlying5)
  have hb3 : Below w2.heap.size w2 (w2.alloc (.cells #[.int .u8 97, .int .u8 98, .int .u8 99] 5 (3, 4))) := below_new w2 _
  have hbw3 := hbw2.trans (hb3.mono hbw2.size)
  clear hcv
  refine (sum_any _ 3 _ [97, 98, 99] _ (rf_const w2 [97, 98, 99] _ 5 (3, 4) rfl (by simp)) (by simp) (by simp) (HT.out.below hbw3)).mono ?_
  rintro e w4 ⟨rfl, hb4⟩
  have h4 := (h2.alloc _).below hb4 (by have := h2.lt; simp; omega)
  have hbw4 := hbw3.trans (hb4.mono hbw3.size)
  have h4s := h2.lt
  have h4z := hb4.size
  simp only [World.size_alloc] at h4z
  clear hb1 hg2 hbw2 hb3 hbw3 hb4 h2
  rw [HM1.out]
  unfold ab
  go_wp2_with ((with_reducible refine wpList_store_hb bv_one rfl _ (.tmp 3) (.tmp 15) rfl _ d1 rfl rfl (Hb.new bv w4 _ (List.replicate 32 0) _ z32) size32 (List.length_replicate ..) HL1.out ?_); intro w5 h5 hg5; have hbw5 : Below w.heap.size w w5 := (hbw4.alloc hbw4.size _).grown hg5 (hbw4.alloc hbw4.size _).size (fun k e => by cases e; exact hbw4.size); have h45 := (h4.alloc _).grown hg5 (by simp; omega))
  have hs5 := hg5.size
  simp only [World.size_alloc] at hs5
  clear h4 hbw4 hg5
  refine (leafX_any none 0 0 [] w5 (Rf.empty _ _) (Nat.zero_le _) (by simp) (HT.out.below hbw5)).mono ?_
  rintro e w6 ⟨rfl, hb6⟩
  have h46 := h45.below hb6 h45.lt
  have h56 := h5.below hb6 h5.lt
  have hbw6 := hbw5.trans (hb6.mono hbw5.size)
  have hs6 := hb6.size
  clear hb6 h45 h5 hbw5
  rw [HM2.out]
  unfold ab
  go_wp2_with (first
    | ((with_reducible refine wpList_store_hb bv_one rfl _ (.tmp 5) (.tmp 19) rfl _ d2 rfl rfl (Hb.new bv w6 _ (List.replicate 32 0) _ z32) size32 (List.length_replicate ..) HL2.out ?_); intro w7 h7 hg7; have hbw7 : Below w.heap.size w w7 := (hbw6.alloc hbw6.size _).grown hg7 (hbw6.alloc hbw6.size _).size (fun k e => by cases e; exact hbw6.size); have h47 := (h46.alloc _).grown hg7 (by simp; omega); have h57 := (h56.alloc _).grown hg7 (by simp; omega))
    | ((with_reducible refine wpList_load_hb rfl _ (.tmp 1) rfl _ rfl h47 Tryd.underlying22 (by rw [HL0.out]; exact size32) ?_))
    | (go_at_call 30; (with_reducible refine (T0.out _).mono ?_); rintro e w8 ⟨rfl, hb8⟩; have hbw8 := hbw7.trans (hb8.mono hbw7.size); have h58 := h57.below hb8 h57.lt; have h78 := h7.below hb8 h7.lt)
    | ((with_reducible refine wpList_load_g (by kernel_rfl) _ (.tmp 3) rfl _ rfl h58 Tryd.underlying22 (by rw [HL1.out]; exact size32) ?_))
    | (go_at_call 30; (with_reducible refine (T1.out _).mono ?_); rintro e w9 ⟨rfl, hb9⟩; have hbw9 := hbw8.trans (hb9.mono hbw8.size); have h79 := h78.below hb9 h78.lt)
    | ((with_reducible refine wpList_load_g (by kernel_rfl) _ (.tmp 5) rfl _ rfl h79 Tryd.underlying22 (by rw [HL2.out]; exact size32) ?_))
    | (go_at_call 30; (with_reducible refine (T2.out _).mono ?_); rintro e w10 ⟨rfl, hb10⟩; have hbw10 := hbw9.trans (hb10.mono hbw9.size)))
  go_ret
  exact ⟨rfl, hbw10⟩
end Go.Proofs.YtgglnbjioobebaaDoor
