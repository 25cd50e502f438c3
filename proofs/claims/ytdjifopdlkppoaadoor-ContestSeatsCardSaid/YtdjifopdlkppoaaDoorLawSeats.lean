/- ContestSeats. Written by tools/seats7.py. -/
import Derived.Test.YtdjifopdlkppoaaDoorAliveC
import Derived.Test.YtdjifopdlkppoaaDoorCell
namespace Go.Proofs.YtdjifopdlkppoaaDoor
open Go.RowKit
set_option linter.unusedVariables false
attribute [local go_sem] mk_get

theorem CtOk.place {w w' : World} {A : Option Addr} {c : Nat} {x y : Ct} (h : CtOk w A c x) (A' : Option Addr) (c' : Nat) (hr : Rf sv w' w'.heap.size A' c' y.cands) (h1 : y.name = x.name) (h2 : ∀ z ∈ y.cands, z.length ≤ 140737488351232) (h3 : y.rule = x.rule) (h4 : -9223372036854775808 ≤ y.seats ∧ y.seats ≤ 9223372036854775807) : CtOk w' A' c' y :=
  ⟨hr, by rw [h1]; exact h.name, h2, by rw [h3]; exact h.rule, h4⟩
/-- What the law's two places and its Check answer of a valid contest, and what it asks of them. -/
theorem seats_cases {x : Ct} (y : List UInt8) (h : checkM x = 0) :
    (placeM { x with cands := x.cands ++ [y] } y = ((x.cands.length : Int), 0) ∧ placeM x y = (0, 6) ∧ nameB y = true ∧ x.cands.length < 10) ∨
    (∃ e, (e = 4 ∨ e = 8) ∧ placeM { x with cands := x.cands ++ [y] } y = (0, e) ∧ ((placeM x y).2 = 0 ∨ (placeM x y = (0, 6) ∧ (nameB y = false ∨ ¬ x.cands.length < 10)))) := by
  have hp := more_place y h
  have hq := place_ok y h
  by_cases hc : nameB y = true ∧ y ∉ x.cands ∧ x.cands.length < 10
  · rw [if_pos hc] at hp
    rw [if_neg hc.2.1] at hq
    exact .inl ⟨hp, hq, hc.1, hc.2.2⟩
  · rw [if_neg hc] at hp
    refine .inr ⟨_, ?_, hp, ?_⟩
    · rcases checkM_cases { x with cands := x.cands ++ [y] } with e | e
      · exact absurd ((more_ok y h).1 e) hc
      · exact e
    · by_cases hm : y ∈ x.cands
      · rw [if_pos hm] at hq; rw [hq]; exact .inl rfl
      · rw [if_neg hm] at hq
        refine .inr ⟨hq, ?_⟩
        cases hn : nameB y with
        | false => exact .inl rfl
        | true => exact .inr (fun hl => hc ⟨hn, hm, hl⟩)
theorem nameB_take (y : List UInt8) : nameB y = (decide (1 ≤ y.length) && decide (y.length ≤ 40) && (y.take y.length).all fun b => decide (33 ≤ b.toNat) && decide (b.toNat ≤ 126)) := by
  rw [List.take_of_length_le (Nat.le_refl _), Bool.and_assoc]; rfl

def gk (y : List UInt8) (k : Nat) : Bool := decide (1 ≤ y.length) && decide (y.length ≤ 40) && (y.take k).all fun b => decide (33 ≤ b.toNat) && decide (b.toNat ≤ 126)
theorem gk_succ {y : List UInt8} {k : Nat} (h : k < y.length) : gk y (k + 1) = (gk y k && (decide (33 ≤ y[k].toNat) && decide (y[k].toNat ≤ 126))) := by
  unfold gk
  rw [List.take_succ_eq_append_getElem h, List.all_append]
  simp [Bool.and_assoc]
theorem gk_last (y : List UInt8) : gk y y.length = nameB y := (nameB_take y).symm
theorem gk_zero (y : List UInt8) : gk y 0 = (decide (1 ≤ y.length) && decide (y.length ≤ 40)) := by unfold gk; simp

set_option maxRecDepth 100000 in
set_option maxHeartbeats 4000000 in
theorem contestSeats_any {T : World → Prop} (K : Con T) (x : Ct) (A : Option Addr) (c : Nat) (y : List UInt8) (w : World) (hc : CtOk w A c x) (hy : y.length ≤ 140737488351232) (hT : T w) :
    Calls Tryd.prog 9 #[cv A c x, .string ⟨y.toArray⟩] w fun e w' => e = .returned (.bool true) ∧ Below w.heap.size w w' := by
  have HK := Lib.hid K
  have HT := Lib.hid hT
  have HA := Lib.hid (fun wx h => aliveC_any K wx h)
  have HC := Lib.hid hc
  have HYL := Lib.hid hy
  have HG := Lib.hid (fun wx (hb : Below w.heap.size w wx) => great_any x A c wx ((hc.below hb).rd))
  have HB0 := Lib.hid (show Blk (w.alloc (.cells (cvs A c x) 26)) w.heap.size 26 (cvs A c x) from Blk.new w _ _)
  have B0 := Lib.hid (below_new w (.cells (cvs A c x) 26))
  clear K hT hc
  unfold cv
  cases hg : greatM x with
  | true =>
    have HGB := Lib.hid hg
    clear hg hy
    unfold cvs at B0 ⊢
    go_enter Tryd.func9, Tryd.ntmps9
    go_wp2_with fail
    refine (HA.out _ (HK.out.keep HT.out B0.out)).mono ?_
    rintro e w1 ⟨rfl, hb⟩
    have B1 := Lib.hid (B0.out.trans (hb.mono B0.out.size))
    have HB1 := Lib.hid (HB0.out.below hb HB0.out.lt)
    clear hb
    go_wp2_with (with_reducible refine wpList_load_ct (by kernel_rfl) (.tmp 2) rfl w.heap.size rfl (A := A) (c := c) (x := x) HB1.out ?_)
    refine (HG.out _ B1.out).mono ?_
    rintro e w2 ⟨rfl, hb⟩
    rw [HGB.out]
    have B2 := Lib.hid (B1.out.trans (hb.mono B1.out.size))
    have HB2 := Lib.hid (HB1.out.below hb HB1.out.lt)
    clear hb
    go_wp2_with fail
    go_ret
    exact ⟨rfl, B2.out⟩
  | false =>
    have HGB := Lib.hid hg
    have HCL := Lib.hid (greatM_no hg)
    clear hg
    by_cases hbig : 1000 < y.length
    · have hbd : decide ((1000 : Int) < (y.length : Int)) = true := by simp; omega
      clear hbig hy
      unfold cvs at B0 ⊢
      go_enter Tryd.func9, Tryd.ntmps9
      go_wp2_with fail
      refine (HA.out _ (HK.out.keep HT.out B0.out)).mono ?_
      rintro e w1 ⟨rfl, hb⟩
      have B1 := Lib.hid (B0.out.trans (hb.mono B0.out.size))
      have HB1 := Lib.hid (HB0.out.below hb HB0.out.lt)
      clear hb
      go_wp2_with (with_reducible refine wpList_load_ct (by kernel_rfl) (.tmp 2) rfl w.heap.size rfl (A := A) (c := c) (x := x) HB1.out ?_)
      refine (HG.out _ B1.out).mono ?_
      rintro e w2 ⟨rfl, hb⟩
      rw [HGB.out]
      have B2 := Lib.hid (B1.out.trans (hb.mono B1.out.size))
      have HB2 := Lib.hid (HB1.out.below hb HB1.out.lt)
      clear hb
      go_wp2_with fail
      go_ret
      exact ⟨rfl, B2.out⟩
    · have hbd : decide ((1000 : Int) < (y.length : Int)) = false := by simp; omega
      have hyl : y.length ≤ 1000 := by omega
      clear hbig hy
      have hcs := checkM_cases x
      rcases hcs with h0 | h0 | h0
      case inr.inl =>
        have HCK := Lib.hid h0
        clear h0
        unfold cvs at B0 ⊢
        go_enter Tryd.func9, Tryd.ntmps9
        go_wp2_with fail
        refine (HA.out _ (HK.out.keep HT.out B0.out)).mono ?_
        rintro e w1 ⟨rfl, hb⟩
        have B1 := Lib.hid (B0.out.trans (hb.mono B0.out.size))
        have HB1 := Lib.hid (HB0.out.below hb HB0.out.lt)
        clear hb
        go_wp2_with (with_reducible refine wpList_load_ct (by kernel_rfl) (.tmp 2) rfl w.heap.size rfl (A := A) (c := c) (x := x) HB1.out ?_)
        refine (HG.out _ B1.out).mono ?_
        rintro e w2 ⟨rfl, hb⟩
        rw [HGB.out]
        have B2 := Lib.hid (B1.out.trans (hb.mono B1.out.size))
        have HB2 := Lib.hid (HB1.out.below hb HB1.out.lt)
        clear hb
        go_wp2_with (with_reducible refine wpList_load_ct (by kernel_rfl) (.tmp 2) rfl w.heap.size rfl (A := A) (c := c) (x := x) HB2.out ?_)
        refine (HK.out.check x A c _ (HC.out.below B2.out) (HK.out.keep HT.out B2.out)).mono ?_
        rintro e w3 ⟨rfl, hb⟩
        rw [HCK.out]
        have B3 := Lib.hid (B2.out.trans (hb.mono B2.out.size))
        have HB3 := Lib.hid (HB2.out.below hb HB2.out.lt)
        clear hb
        go_wp2_with fail
        go_ret
        exact ⟨rfl, B3.out⟩
      case inr.inr =>
        have HCK := Lib.hid h0
        clear h0
        unfold cvs at B0 ⊢
        go_enter Tryd.func9, Tryd.ntmps9
        go_wp2_with fail
        refine (HA.out _ (HK.out.keep HT.out B0.out)).mono ?_
        rintro e w1 ⟨rfl, hb⟩
        have B1 := Lib.hid (B0.out.trans (hb.mono B0.out.size))
        have HB1 := Lib.hid (HB0.out.below hb HB0.out.lt)
        clear hb
        go_wp2_with (with_reducible refine wpList_load_ct (by kernel_rfl) (.tmp 2) rfl w.heap.size rfl (A := A) (c := c) (x := x) HB1.out ?_)
        refine (HG.out _ B1.out).mono ?_
        rintro e w2 ⟨rfl, hb⟩
        rw [HGB.out]
        have B2 := Lib.hid (B1.out.trans (hb.mono B1.out.size))
        have HB2 := Lib.hid (HB1.out.below hb HB1.out.lt)
        clear hb
        go_wp2_with (with_reducible refine wpList_load_ct (by kernel_rfl) (.tmp 2) rfl w.heap.size rfl (A := A) (c := c) (x := x) HB2.out ?_)
        refine (HK.out.check x A c _ (HC.out.below B2.out) (HK.out.keep HT.out B2.out)).mono ?_
        rintro e w3 ⟨rfl, hb⟩
        rw [HCK.out]
        have B3 := Lib.hid (B2.out.trans (hb.mono B2.out.size))
        have HB3 := Lib.hid (HB2.out.below hb HB2.out.lt)
        clear hb
        go_wp2_with fail
        go_ret
        exact ⟨rfl, B3.out⟩
      have HCK := Lib.hid h0
      have HSC := Lib.hid (seats_cases y h0)
      have H1S := Lib.hid (one_seat h0)
      clear h0
      unfold cvs at B0 ⊢
      go_enter Tryd.func9, Tryd.ntmps9
      go_wp2_with fail
      refine (HA.out _ (HK.out.keep HT.out B0.out)).mono ?_
      rintro e w1 ⟨rfl, hb⟩
      have B1 := Lib.hid (B0.out.trans (hb.mono B0.out.size))
      have HB1 := Lib.hid (HB0.out.below hb HB0.out.lt)
      clear hb
      go_wp2_with (with_reducible refine wpList_load_ct (by kernel_rfl) (.tmp 2) rfl w.heap.size rfl (A := A) (c := c) (x := x) HB1.out ?_)
      refine (HG.out _ B1.out).mono ?_
      rintro e w2 ⟨rfl, hb⟩
      rw [HGB.out]
      have B2 := Lib.hid (B1.out.trans (hb.mono B1.out.size))
      have HB2 := Lib.hid (HB1.out.below hb HB1.out.lt)
      clear hb
      go_wp2_with (with_reducible refine wpList_load_ct (by kernel_rfl) (.tmp 2) rfl w.heap.size rfl (A := A) (c := c) (x := x) HB2.out ?_)
      refine (HK.out.check x A c _ (HC.out.below B2.out) (HK.out.keep HT.out B2.out)).mono ?_
      rintro e w3 ⟨rfl, hb⟩
      rw [HCK.out]
      have B3 := Lib.hid (B2.out.trans (hb.mono B2.out.size))
      have HB3 := Lib.hid (HB2.out.below hb HB2.out.lt)
      clear hb
      have HLC := Lib.hid (Nat.le_trans HCL.out.1 (by decide : 100 ≤ 1000000))
      go_wp2_with (with_reducible refine wpList_load_ct (by kernel_rfl) (.tmp 2) rfl w.heap.size rfl (A := A) (c := c) (x := x) HB3.out ?_)
      refine (HK.out.twin x A c _ (HC.out.below B3.out) HLC.out (HK.out.keep HT.out B3.out)).mono ?_
      rintro e w4 ⟨A4, c4, rfl, ho4, hb⟩
      have B4 := Lib.hid (B3.out.trans (hb.mono B3.out.size))
      have HB4 := Lib.hid (HB3.out.below hb HB3.out.lt)
      have HR4 := Lib.hid ho4.rd
      have HZ4 := Lib.hid (Blk.new w4 26 #[.string ⟨#[]⟩, .slice none 0 0, .int .i64 0, .int .u8 0])
      clear hb ho4
      go_wp2_with (first
        | ((with_reducible refine wpList_store_ct rfl (.tmp 6) (.tmp 33) rfl w4.heap.size rfl HZ4.out rfl (A := A4) (c := c4) (x := x) rfl ?_); intro w5 hb5 hg5; have HD6 := Lib.hid (show Blk (w5.setCell ⟨w4.heap.size, 2, none⟩ (.int .i64 1)) w4.heap.size 26 (cvs A4 c4 { x with seats := 1 }) from hb5.set_ 2 _); have D6 := Lib.hid ((((Below.refl _ w4).alloc (Nat.le_refl _) _).grown hg5 (by rw [World.size_alloc]; omega) (fun k e => by cases e; exact Nat.le_refl _)).grown (grown_set w5 ⟨w4.heap.size, 2, none⟩ (.int .i64 1)) (Nat.le_trans (by rw [World.size_alloc]; omega) hg5.size) (fun k e => by cases e; exact Nat.le_refl _)); have HS6 := Lib.hid (show w4.heap.size + 1 ≤ (w5.setCell ⟨w4.heap.size, 2, none⟩ (.int .i64 1)).heap.size from Nat.le_trans (by have := hg5.size; rwa [World.size_alloc] at this) (grown_set w5 ⟨w4.heap.size, 2, none⟩ (.int .i64 1)).size); have B6 := Lib.hid (B4.out.trans (D6.out.mono B4.out.size)); have HB6 := Lib.hid (HB4.out.below D6.out HB4.out.lt); have HR6 := Lib.hid (HR4.out.below D6.out); have hc5 : w5.cell? ⟨w4.heap.size, 2, none⟩ = some (.int .i64 x.seats) := hb5.cell 2; have hf5 : w5.frozen? ⟨w4.heap.size, 2, none⟩ = false := hb5.frozen 2; clear hb5 hg5)
        | (with_reducible refine wpList_load_ct (by kernel_rfl) (.tmp 2) rfl w.heap.size rfl (A := A) (c := c) (x := x) HB6.out ?_))
      clear hc5 hf5
      obtain ⟨wd, hwd⟩ : ∃ wd, wd = w5.setCell ⟨w4.heap.size, 2, none⟩ (.int .i64 1) := ⟨_, rfl⟩
      rw [← hwd] at HD6 D6 HS6 B6 HB6 HR6 ⊢
      clear hwd
      refine (HK.out.twin x A c _ (HC.out.below B6.out) HLC.out (HK.out.keep HT.out B6.out)).mono ?_
      rintro e w7 ⟨A7, c7, rfl, ho7, hb⟩
      have F7 := Lib.hid hb
      have HO7 := Lib.hid ho7
      have HZ7 := Lib.hid (Blk.new w7 26 #[.string ⟨#[]⟩, .slice none 0 0, .int .i64 0, .int .u8 0])
      have HN7 := Lib.hid (show ∀ k, blk A7 = some k → wd.heap.size ≤ k ∧ k < w7.heap.size from ho7.blk_ge)
      clear hb ho7
      obtain ⟨bi, hbi, hz0, hz1, hz2⟩ := sInfo_parts
      have HBI := Lib.hid hbi
      have HZ0 := Lib.hid hz0
      have HZ1 := Lib.hid hz1
      have HZ2 := Lib.hid hz2
      clear hbi hz0 hz1 hz2
      go_wp2_with (first
        | ((with_reducible refine wpList_store_ct rfl (.tmp 7) (.tmp 36) rfl w7.heap.size rfl HZ7.out rfl (A := A7) (c := c7) (x := x) rfl ?_); intro w8 hb8 hg8; have HE8 := Lib.hid hb8; have F8 := Lib.hid ((F7.out.alloc F7.out.size _).grown hg8 (F7.out.alloc F7.out.size _).size (fun k e => by cases e; exact F7.out.size)); have HS8 := Lib.hid (show w7.heap.size + 1 ≤ w8.heap.size by have := hg8.size; rwa [World.size_alloc] at this); have HO8 := Lib.hid ((HO7.out.alloc _).kept hg8 (by cases hbk : blk A7 with | none => exact .inl rfl | some k => exact .inr (fun e => by have := (HN7.out k hbk).2; obtain rfl := Option.some.inj e; omega))); have hc8 : w8.cell? ⟨w7.heap.size, 1, none⟩ = some (.slice A7 x.cands.length c7) := hb8.cell 1; clear hb8 hg8)
        | (with_reducible refine wpList_load_ct (by kernel_rfl) (.tmp 2) rfl w.heap.size rfl (A := A) (c := c) (x := x) HB10.out ?_)
        | (at_builtin; (refine wpList_append_f _ sv_one rfl (.tmp 38) (.tmp 40) 24 rfl wd.heap.size 9 16 bi _ Tryd.underlying24 HBI.out HZ0.out HZ1.out HZ2.out (by omega) rfl x.cands [y] rfl rfl (HO8.out.alloc _) (rf_one (f := sv) w8 y _) (by have := HCL.out.1; simp only [List.length_cons, List.length_nil]; omega) (Nat.le_trans F8.out.size (by rw [World.size_alloc]; omega)) ?_; intro A9 c9 w9 r9 hr9 hown9 hg9 hb9; have F9 := Lib.hid ((F8.out.alloc F8.out.size _).grown hg9 (F8.out.alloc F8.out.size _).size (fun k e => (HN7.out k e).1)); have HE9 := Lib.hid ((HE8.out.alloc _).grown hg9 (fun e => by have := (HN7.out _ e.symm).2; omega)); have HN9 := Lib.hid (show blk A9 = none ∨ blk A9 ≠ some w7.heap.size by (rcases hb9 with e | e); (cases hbk : blk A7 with | none => exact .inl (by rw [e, hbk]) | some k => exact .inr (fun e2 => by have := (HN7.out k hbk).2; rw [e, hbk] at e2; obtain rfl := Option.some.inj e2; omega)); (exact .inr (fun e2 => by rw [e] at e2; have := Option.some.inj e2; rw [World.size_alloc] at this; have := HS8.out; omega))); have HR9 := Lib.hid hr9; have HO9 := Lib.hid hown9; have F10 := Lib.hid (F9.out.grown (grown_set w9 ⟨w7.heap.size, 1, none⟩ (.slice A9 r9.length c9)) F9.out.size (fun k e => by cases e; exact F7.out.size)); have HB10 := Lib.hid (HB6.out.below F10.out HB6.out.lt); have HE10 := Lib.hid (show Blk (w9.setCell ⟨w7.heap.size, 1, none⟩ (.slice A9 r9.length c9)) w7.heap.size 26 (cvs A9 c9 { x with cands := r9 }) from HE9.out.set_ 1 _); have HO10 := Lib.hid (HO9.out.kept (grown_set w9 ⟨w7.heap.size, 1, none⟩ (.slice A9 r9.length c9)) HN9.out); have hc9 : w9.cell? ⟨w7.heap.size, 1, none⟩ = some (.slice A7 x.cands.length c7) := HE9.out.cell 1; have hf9 : w9.frozen? ⟨w7.heap.size, 1, none⟩ = false := HE9.out.frozen 1; clear hr9 hown9 hg9 hb9)))
      clear hc8 hc9 hf9
      have B10 := Lib.hid (B6.out.trans (F10.out.mono B6.out.size))
      have HZC := Lib.hid (show ∀ z ∈ r9, z.length ≤ 140737488351232 from fun z hz => by
        rw [HR9.out] at hz
        rcases List.mem_append.1 hz with h | h
        · have := HCL.out.2.2 z h; omega
        · obtain rfl := List.mem_singleton.1 h; exact HYL.out)
      have HSC9 := Lib.hid (by have h := HSC.out; rw [← HR9.out] at h; exact h)
      refine (HK.out.place x y A c _ (HC.out.below B10.out) HYL.out (HK.out.keep HT.out B10.out)).mono ?_
      rintro e w11 ⟨rfl, hb⟩
      have F11 := Lib.hid (F10.out.trans (hb.mono F10.out.size))
      have B11 := Lib.hid (B6.out.trans (F11.out.mono B6.out.size))
      have HE11 := Lib.hid (HE10.out.below hb HE10.out.lt)
      have HR11 := Lib.hid ((HO10.out.rd.below hb).more hb.size)
      clear hb
      go_wp2_with (with_reducible refine wpList_load_ct (by kernel_rfl) (.tmp 7) rfl w7.heap.size rfl (A := A9) (c := c9) (x := { x with cands := r9 }) HE11.out ?_)
      refine (HK.out.place { x with cands := r9 } y A9 c9 _ (HC.out.place A9 c9 HR11.out rfl HZC.out rfl HC.out.seats) HYL.out (HK.out.keep HT.out B11.out)).mono ?_
      rintro e w12 ⟨rfl, hb⟩
      have F12 := Lib.hid (F11.out.trans (hb.mono F11.out.size))
      have B12 := Lib.hid (B6.out.trans (F12.out.mono B6.out.size))
      have HD12 := Lib.hid (HD6.out.below F12.out HD6.out.lt)
      have HR12 := Lib.hid ((HR6.out.below (F12.out.mono (Nat.le_trans (Nat.le_succ _) HS6.out))).more (Nat.le_trans (Nat.le_trans (Nat.le_succ _) HS6.out) F12.out.size))
      clear hb
      go_wp2_with (with_reducible refine wpList_load_ct (by kernel_rfl) (.tmp 6) rfl w4.heap.size rfl (A := A4) (c := c4) (x := { x with seats := 1 }) HD12.out ?_)
      refine (HK.out.check { x with seats := 1 } A4 c4 _ (HC.out.place A4 c4 HR12.out rfl HC.out.cands rfl ⟨by show (-9223372036854775808 : Int) ≤ 1; omega, by show (1 : Int) ≤ 9223372036854775807; omega⟩) (HK.out.keep HT.out B12.out)).mono ?_
      rintro e w13 ⟨rfl, hb⟩
      rw [H1S.out]
      have F13 := Lib.hid (F12.out.trans (hb.mono F12.out.size))
      have B13 := Lib.hid (B6.out.trans (F13.out.mono B6.out.size))
      have hc13 : w13.cell? ⟨w.heap.size, 1, none⟩ = some (.slice A x.cands.length c) := (HB6.out.below F13.out HB6.out.lt).cell 1
      clear hb
      have hl0 : (decide ((1 : Int) ≤ (y.length : Int)) = false ∧ gk y 0 = false) ∨ (decide ((1 : Int) ≤ (y.length : Int)) = true ∧ decide ((y.length : Int) ≤ 40) = false ∧ gk y 0 = false) ∨ (decide ((1 : Int) ≤ (y.length : Int)) = true ∧ decide ((y.length : Int) ≤ 40) = true ∧ gk y 0 = true) := by
        rw [gk_zero]
        by_cases h1 : 1 ≤ y.length
        · by_cases h2 : y.length ≤ 40
          · exact .inr (.inr ⟨by simp; omega, by simp; omega, by rw [decide_eq_true h1, decide_eq_true h2]; rfl⟩)
          · exact .inr (.inl ⟨by simp; omega, by simp; omega, by rw [decide_eq_false h2, Bool.and_false]⟩)
        · exact .inl ⟨by simp; omega, by rw [decide_eq_false h1]; rfl⟩
      rcases HSC9.out with ⟨e1, e2, e3, e4⟩ | ⟨e, he, e1, e2⟩
      · rw [e1, e2]
        have h10 : decide ((x.cands.length : Int) < 10) = true := by simp; omega
        have HN3 := Lib.hid e3
        clear e1 e2 e3 e4
        rcases hl0 with ⟨d1, hz⟩ | ⟨d1, d2, hz⟩ | ⟨d1, d2, hz⟩
        all_goals
          have HZ0k := Lib.hid hz
          clear hz
          go_wp2_with fail
          go_loop [12, 13] (fun g i => ∃ k : Nat, k ≤ y.length ∧ g = .bool (gk y k) ∧ i = .int .i64 k) (fun _ i => y.length - (intOf i).toNat)
          case atStart => exact ⟨0, Nat.zero_le _, by rw [HZ0k.out] <;> rfl, rfl⟩
          case round =>
            obtain ⟨k, hk, rfl, rfl⟩ := hrel
            by_cases hlt : k < y.length
            · have HS := Lib.hid (gk_succ hlt)
              cases hgk : gk y k with
              | false =>
                have HF := Lib.hid (show gk y (k + 1) = false by rw [HS.out, hgk]; rfl)
                clear hgk
                go_wp2_with fail
                go_round
                case rel => exact ⟨k + 1, by omega, by rw [HF.out], by go_num⟩
                case measure => simp [intOf]; omega
              | true =>
                by_cases b1 : 33 ≤ y[k].toNat
                · have b1d : decide ((33 : Int) ≤ ((y[k].toNat : Nat) : Int)) = true := by simp; omega
                  by_cases b2 : y[k].toNat ≤ 126
                  · have b2d : decide (((y[k].toNat : Nat) : Int) ≤ 126) = true := by simp; omega
                    have HF := Lib.hid (show gk y (k + 1) = true by rw [HS.out, hgk, decide_eq_true b1, decide_eq_true b2]; rfl)
                    clear hgk b1 b2
                    go_wp2_with fail
                    go_round
                    case rel => exact ⟨k + 1, by omega, by rw [HF.out], by go_num⟩
                    case measure => simp [intOf]; omega
                  · have b2d : decide (((y[k].toNat : Nat) : Int) ≤ 126) = false := by simp; omega
                    have HF := Lib.hid (show gk y (k + 1) = false by rw [HS.out, hgk, decide_eq_false b2, Bool.and_false]; rfl)
                    clear hgk b1 b2
                    go_wp2_with fail
                    go_round
                    case rel => exact ⟨k + 1, by omega, by rw [HF.out], by go_num⟩
                    case measure => simp [intOf]; omega
                · have b1d : decide ((33 : Int) ≤ ((y[k].toNat : Nat) : Int)) = false := by simp; omega
                  have HF := Lib.hid (show gk y (k + 1) = false by rw [HS.out, hgk, decide_eq_false b1]; rfl)
                  clear hgk b1
                  go_wp2_with fail
                  go_round
                  case rel => exact ⟨k + 1, by omega, by rw [HF.out], by go_num⟩
                  case measure => simp [intOf]; omega
            · obtain rfl : k = y.length := by omega
              rw [gk_last]
              rw [HN3.out]
              go_wp2_with fail
              go_ret
              exact ⟨rfl, B13.out⟩
      · rw [e1]
        clear e1
        have h2c : ((placeM x y).2 = 0 ∧ True) ∨ (placeM x y = (0, 6) ∧ nameB y = false) ∨ (placeM x y = (0, 6) ∧ decide ((x.cands.length : Int) < 10) = false) := by
          rcases e2 with e2 | ⟨e2, e2' | e2'⟩
          · exact .inl ⟨e2, trivial⟩
          · exact .inr (.inl ⟨e2, e2'⟩)
          · exact .inr (.inr ⟨e2, by simp; omega⟩)
        clear e2
        rcases he with rfl | rfl
        all_goals
          rcases h2c with ⟨e2, _⟩ | ⟨e2, e3⟩ | ⟨e2, h10⟩
        all_goals
          rw [e2]
          rcases hl0 with ⟨d1, hz⟩ | ⟨d1, d2, hz⟩ | ⟨d1, d2, hz⟩
        all_goals
          have HZ0k := Lib.hid hz
          clear hz
          go_wp2_with fail
          go_loop [12, 13] (fun g i => ∃ k : Nat, k ≤ y.length ∧ g = .bool (gk y k) ∧ i = .int .i64 k) (fun _ i => y.length - (intOf i).toNat)
          case atStart => exact ⟨0, Nat.zero_le _, by rw [HZ0k.out] <;> rfl, rfl⟩
          case round =>
            obtain ⟨k, hk, rfl, rfl⟩ := hrel
            by_cases hlt : k < y.length
            · have HS := Lib.hid (gk_succ hlt)
              cases hgk : gk y k with
              | false =>
                have HF := Lib.hid (show gk y (k + 1) = false by rw [HS.out, hgk]; rfl)
                clear hgk
                go_wp2_with fail
                go_round
                case rel => exact ⟨k + 1, by omega, by rw [HF.out], by go_num⟩
                case measure => simp [intOf]; omega
              | true =>
                by_cases b1 : 33 ≤ y[k].toNat
                · have b1d : decide ((33 : Int) ≤ ((y[k].toNat : Nat) : Int)) = true := by simp; omega
                  by_cases b2 : y[k].toNat ≤ 126
                  · have b2d : decide (((y[k].toNat : Nat) : Int) ≤ 126) = true := by simp; omega
                    have HF := Lib.hid (show gk y (k + 1) = true by rw [HS.out, hgk, decide_eq_true b1, decide_eq_true b2]; rfl)
                    clear hgk b1 b2
                    go_wp2_with fail
                    go_round
                    case rel => exact ⟨k + 1, by omega, by rw [HF.out], by go_num⟩
                    case measure => simp [intOf]; omega
                  · have b2d : decide (((y[k].toNat : Nat) : Int) ≤ 126) = false := by simp; omega
                    have HF := Lib.hid (show gk y (k + 1) = false by rw [HS.out, hgk, decide_eq_false b2, Bool.and_false]; rfl)
                    clear hgk b1 b2
                    go_wp2_with fail
                    go_round
                    case rel => exact ⟨k + 1, by omega, by rw [HF.out], by go_num⟩
                    case measure => simp [intOf]; omega
                · have b1d : decide ((33 : Int) ≤ ((y[k].toNat : Nat) : Int)) = false := by simp; omega
                  have HF := Lib.hid (show gk y (k + 1) = false by rw [HS.out, hgk, decide_eq_false b1]; rfl)
                  clear hgk b1
                  go_wp2_with fail
                  go_round
                  case rel => exact ⟨k + 1, by omega, by rw [HF.out], by go_num⟩
                  case measure => simp [intOf]; omega
            · obtain rfl : k = y.length := by omega
              rw [gk_last]
              cases hny : nameB y
              all_goals
                first
                  | (exfalso; rw [hny] at e3; exact absurd e3 (by decide))
                  | (go_wp2_with fail
                     go_ret
                     exact ⟨rfl, B13.out⟩)
end Go.Proofs.YtdjifopdlkppoaaDoor
