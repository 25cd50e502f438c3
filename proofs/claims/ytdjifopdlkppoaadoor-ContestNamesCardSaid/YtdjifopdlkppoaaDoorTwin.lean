/- strings.Clone; contest's Twin. -/
import Derived.Test.YtdjifopdlkppoaaDoorCon
import Derived.Test.YtdjifopdlkppoaaDoorShelf
import Derived.Test.YtdjifopdlkppoaaDoorCell
import Derived.Deep.RegionHeld
import Derived.Deep.RegionLaw
namespace Go.Proofs.YtdjifopdlkppoaaDoor
open Go.RowKit
set_option linter.unusedVariables false

theorem clone_any (l : List UInt8) (w : World) (hl : l.length ≤ 140737488351232) :
    Calls Tryd.prog 47 #[.string ⟨l.toArray⟩] w fun e w' => e = .returned (.string ⟨l.toArray⟩) ∧ Below w.heap.size w w' := by
  go_enter Tryd.func47, Tryd.ntmps47
  go_wp2_with fail
  refine (Tryd.stringslite_Clone ⟨l.toArray⟩ _ (by simp [ByteArray.size]; omega)).mono ?_
  rintro e w' ⟨rfl, hb⟩
  go_wp2_with fail
  go_ret
  exact ⟨rfl, hb⟩

theorem hb_made_sv (w : World) (n : Nat) : Hb sv (w.alloc (.cells (madeCells (Value.string ⟨#[]⟩).cells (n * 1)) 9)) w.heap.size 9 (List.replicate n []) := by
  unfold Hb
  have e : (List.map sv (List.replicate n ([] : List UInt8))).toArray = madeCells (Value.string ⟨#[]⟩).cells (n * 1) := by
    apply Array.toList_inj.1
    rw [show (Value.string ⟨#[]⟩).cells = #[Value.string ⟨#[]⟩] from rfl]
    rw [toList_madeCells_one, List.map_replicate, Nat.mul_one]
    rfl
  rw [e]
  exact Blk.new w _ _
theorem wpList_make_sv (w : World) {ops : Array Oper} {rest : List Oper} {o : Oper} {a : Act} {Q : Exit → Act → World → Prop}
    (hg : o.guard = none) (l c : Operand) (hop : o.op = Op.makeSlice 24 l c) (n : Nat) (hl : a.eval l = .int .i64 n) (hc : a.eval c = .int .i64 n) (hn : n ≤ 1000000)
    (hK : ∀ w', Hb sv w' w.heap.size 9 (List.replicate n []) → Below w.heap.size w w' → w'.heap.size = w.heap.size + 1 → wpList Tryd.prog ops Q rest (a.put o.dst (.slice (some ⟨w.heap.size, 0, none⟩) n n)) w') :
    wpList Tryd.prog ops Q (o :: rest) a w := by
  obtain ⟨i, hi, hz0, hz1, hz2⟩ := sInfo_parts
  refine wpList_plain hg fun K hK' => ?_
  have hrun := run_make (P := Tryd.prog) w 24 9 i _ Tryd.underlying24 hi hz0 .i64 .i64 (n : Int) (n : Int) (by omega) (by omega) (by rw [hz2]; omega) (by omega)
  simp only [Int.toNat_natCast] at hrun
  rw [hz1] at hrun
  unfold Oper.wp
  simp [execOp, hop, hl, hc, hrun, Result.andThen]
  refine hK' _ _ (hK _ ?_ (below_new _ _) (by simp))
  have := hb_made_sv w n
  rwa [Nat.mul_one] at this

theorem fill_step {l : List (List UInt8)} {k : Nat} (h : k < l.length) : (l.take k ++ List.replicate (l.length - k) []).set k l[k] = l.take (k + 1) ++ List.replicate (l.length - (k + 1)) [] := by
  have h1 : (l.take k).length = k := by simp; omega
  rw [List.set_append_right (h := by omega), h1, Nat.sub_self, List.take_succ_eq_append_getElem h, List.append_assoc]
  congr 1
  rw [show l.length - k = (l.length - (k + 1)) + 1 by omega, List.replicate_succ]
  rfl
theorem fill_get {l : List (List UInt8)} {k : Nat} (h : k < l.length) : (l.take k ++ List.replicate (l.length - k) ([] : List UInt8))[k]? = some [] := by
  have h1 : (l.take k).length = k := by simp; omega
  rw [List.getElem?_append_right (by omega), h1, Nat.sub_self, List.getElem?_replicate, if_pos (by omega)]

set_option maxRecDepth 100000 in
set_option maxHeartbeats 1000000 in
theorem twin_any (x : Ct) (A : Option Addr) (c : Nat) (w : World) (hx : CtOk w A c x) (hl : x.cands.length ≤ 1000000) :
    Calls Tryd.prog 29 #[cv A c x] w fun e w' => ∃ (A' : Option Addr) (c' : Nat), e = .returned (cv A' c' x) ∧ Ow sv w' w.heap.size 9 A' c' x.cands ∧ Below w.heap.size w w' := by
  have HX := Lib.hid hx
  have HB1 := Lib.hid (show Blk ((w.alloc (.cells (cvs A c x) 26)).alloc (.cells #[.string ⟨#[]⟩, .slice none 0 0, .int .i64 0, .int .u8 0] 26)) w.heap.size 26 (cvs A c x) from (Blk.new w _ _).alloc _)
  have HB2 := Lib.hid (show Blk ((w.alloc (.cells (cvs A c x) 26)).alloc (.cells #[.string ⟨#[]⟩, .slice none 0 0, .int .i64 0, .int .u8 0] 26)) (w.heap.size + 1) 26 #[.string ⟨#[]⟩, .slice none 0 0, .int .i64 0, .int .u8 0] by
    have h := Blk.new (w.alloc (.cells (cvs A c x) 26)) 26 #[.string ⟨#[]⟩, .slice none 0 0, .int .i64 0, .int .u8 0]
    rwa [World.size_alloc] at h)
  have HBW := Lib.hid (show Below w.heap.size w ((w.alloc (.cells (cvs A c x) 26)).alloc (.cells #[.string ⟨#[]⟩, .slice none 0 0, .int .i64 0, .int .u8 0] 26)) from (((Below.refl _ w).alloc (Nat.le_refl _) _).alloc (by simp only [World.size_alloc]; omega) _))
  clear hx
  unfold cv
  unfold cvs at HB1 HB2 HBW ⊢
  go_enter Tryd.func29, Tryd.ntmps29
  go_wp2_with (at_make; refine wpList_make_sv _ rfl _ _ rfl x.cands.length rfl rfl hl ?_; intro w3 hu3 hb3 hs3; have hc1 : w3.cell? ⟨w.heap.size, 1, none⟩ = some (.slice A x.cands.length c) := (HB1.out.below hb3 (by simp only [World.size_alloc]; omega)).cell 1)
  have hs2 : ((w.alloc (.cells #[.string ⟨x.name.toArray⟩, .slice A x.cands.length c, .int .i64 x.seats, .int .u8 x.rule] 26)).alloc (.cells #[.string ⟨#[]⟩, .slice none 0 0, .int .i64 0, .int .u8 0] 26)).heap.size = w.heap.size + 1 + 1 := by simp only [World.size_alloc]
  have HU3 := Lib.hid (show Hb sv w3 (w.heap.size + 1 + 1) 9 (x.cands.take 0 ++ List.replicate (x.cands.length - 0) []) by rw [← hs2]; exact hu3)
  have HB13 := Lib.hid (HB1.out.below hb3 (by simp only [World.size_alloc]; omega))
  have HB23 := Lib.hid (HB2.out.below hb3 (by simp only [World.size_alloc]; omega))
  have HBW3 := Lib.hid (HBW.out.trans (hb3.mono (by simp only [World.size_alloc]; omega)))
  have HS3 := Lib.hid (show w.heap.size + 1 + 1 < w3.heap.size by rw [hs3, hs2]; omega)
  clear hu3 hb3 hs3 hs2 HB1 HB2 HBW hc1
  go_loopw [13] (fun i wr => ∃ k : Nat, k ≤ x.cands.length ∧ i = .int .i64 k ∧ Hid (Hb sv wr (w.heap.size + 1 + 1) 9 (x.cands.take k ++ List.replicate (x.cands.length - k) [])) ∧ Hid (Blk wr w.heap.size 26 #[.string ⟨x.name.toArray⟩, .slice A x.cands.length c, .int .i64 x.seats, .int .u8 x.rule]) ∧ Hid (Blk wr (w.heap.size + 1) 26 #[.string ⟨#[]⟩, .slice none 0 0, .int .i64 0, .int .u8 0]) ∧ Hid (Below w.heap.size w wr)) (fun i _ => x.cands.length - (intOf i).toNat)
  case atStart => exact ⟨0, Nat.zero_le _, rfl, HU3, HB13, HB23, HBW3⟩
  case round =>
    obtain ⟨k, hk, rfl, hu, hb1, hb2, hbw⟩ := hrel
    rename_i wr
    by_cases hlt : k < x.cands.length
    · obtain ⟨b, o, rfl, hbb, hcc⟩ := (HX.out.below hbw.out).rd.at_ hlt
      have hcx := hcc k hlt
      have hzl := HX.out.cands _ (List.getElem_mem hlt)
      have hset := fill_step hlt
      obtain ⟨z, hz⟩ : ∃ z, z = x.cands[k] := ⟨_, rfl⟩
      rw [← hz] at hcx hzl hset
      unfold sv at hcx
      have HSET := Lib.hid hset
      clear hcc hz hset
      go_wp2_with fail
      refine (clone_any z _ hzl).mono ?_
      rintro e w5 ⟨rfl, hb5⟩
      have HU5 := Lib.hid (hu.out.below hb5 hu.out.lt)
      have hcu : w5.cell? ⟨w.heap.size + 1 + 1, k, none⟩ = some (.string ⟨#[]⟩) := by
        have e := Blk.cell HU5.out k
        rw [e, List.getElem?_toArray, List.getElem?_map, fill_get hlt]
        rfl
      have hfu : w5.frozen? ⟨w.heap.size + 1 + 1, k, none⟩ = false := HU5.out.frozen k
      have HB15 := Lib.hid (hb1.out.below hb5 hb1.out.lt)
      have HB25 := Lib.hid (hb2.out.below hb5 hb2.out.lt)
      have HBW5 := Lib.hid (hbw.out.trans (hb5.mono hbw.out.size))
      clear hb5
      go_wp2_with fail
      go_roundw
      case rel =>
        refine ⟨k + 1, by omega, by go_num, ?_, HB15.out.far (by simp; omega) _, HB25.out.far (by simp) _, HBW5.out.setCell (by simp; omega) _⟩
        have h := HU5.out.set_ k z _ rfl
        rw [HSET.out] at h
        exact h
      case measure => simp [intOf]; omega
    · obtain rfl : k = x.cands.length := by omega
      have HUN := Lib.hid (show Hb sv wr (w.heap.size + 1 + 1) 9 x.cands by
        have h := hu.out
        rw [Nat.sub_self, List.take_of_length_le (Nat.le_refl _)] at h
        simpa using h)
      clear hu
      -- REGION
      obtain ⟨Inv, hInv⟩ : ∃ Inv : World → Prop, Inv = fun w' => (Hb sv w' (w.heap.size + 1 + 1) 9 x.cands ∧ Blk w' w.heap.size 26 (cvs A c x)) ∧ Below w.heap.size w w' := ⟨_, rfl⟩
      obtain ⟨Inz, hInz⟩ : ∃ Inz : World → Prop, Inz = fun w' => Inv w' ∧ Blk w' (w.heap.size + 1) 26 #[.string ⟨#[]⟩, .slice none 0 0, .int .i64 0, .int .u8 0] := ⟨_, rfl⟩
      have HS0 := Lib.hid (show Inz wr.drew by rw [hInz, hInv]; exact ⟨⟨⟨HUN.out.drew, hb1.out⟩, hbw.out.drew⟩, hb2.out⟩)
      have HRG := Lib.hid (show ∀ w', Inv w' → (w'.cell? ⟨w.heap.size, 0, none⟩ = some (.string ⟨x.name.toArray⟩) ∧ w'.cell? ⟨w.heap.size, 2, none⟩ = some (.int .i64 x.seats) ∧ w'.cell? ⟨w.heap.size, 3, none⟩ = some (.int .u8 x.rule)) ∧ Inv w' from fun w' h => by
        have h2 := h
        rw [hInv] at h2
        exact ⟨⟨h2.1.2.cell 0, h2.1.2.cell 2, h2.1.2.cell 3⟩, h⟩)
      have HIZ := Lib.hid (show ∀ w', Inz w' → Inv w' from fun w' h => by rw [hInz] at h; exact h.1)
      have HI2 := Lib.hid (show ∀ w', Inz w' → Blk w' (w.heap.size + 1) 26 #[.string ⟨#[]⟩, .slice none 0 0, .int .i64 0, .int .u8 0] from fun w' h => by rw [hInz] at h; exact h.2)
      have HSB := Lib.hid (show ∀ wa wb, Inz wa → Below wa.heap.size wa wb → Inz wb from fun wa wb h hb => by
        rw [hInz, hInv] at h ⊢
        obtain ⟨⟨⟨h1, h2⟩, h3⟩, h4⟩ := h
        exact ⟨⟨⟨h1.below hb h1.lt, h2.below hb h2.lt⟩, h3.trans (hb.mono h3.size)⟩, h4.below hb h4.lt⟩)
      have HSG := Lib.hid (show ∀ wa wb, Inz wa → wa.grownBy wb (some (w.heap.size + 1)) → Inv wb from fun wa wb h hg => by
        rw [hInz, hInv] at h
        rw [hInv]
        obtain ⟨⟨⟨h1, h2⟩, h3⟩, h4⟩ := h
        exact ⟨⟨h1.grown hg (by simp), h2.grown hg (by simp)⟩, h3.grown hg h3.size (fun k e => by cases e; omega)⟩)
      have HFI := Lib.hid (show ∀ w', Inv w' → Ow sv w' w.heap.size 9 (some ⟨w.heap.size + 1 + 1, 0, none⟩) x.cands.length x.cands ∧ Below w.heap.size w w' from fun w' h => by
        rw [hInv] at h
        refine ⟨⟨by simp, .inr ⟨w.heap.size + 1 + 1, x.cands.length, (x.cands.map sv).toArray, rfl, by omega, h.1.1.heap, Nat.le_refl _, by unfold maxLen; omega, by simp, by simp; exact List.take_of_length_le (by simp)⟩⟩, h.2⟩)
      clear hInv hInz HUN hb1 hb2 hbw HU3 HB13 HB23 HBW3 HS3 hk
      go_wp2_with fail
      refine wp_region_held_drew (S := (fun w' => (w'.cell? ⟨w.heap.size, 0, none⟩ = some (.string ⟨x.name.toArray⟩) ∧ w'.cell? ⟨w.heap.size, 2, none⟩ = some (.int .i64 x.seats) ∧ w'.cell? ⟨w.heap.size, 3, none⟩ = some (.int .u8 x.rule)) ∧ Inv w')) (by kernel_rfl) (HRG.out _ (HIZ.out _ HS0.out)) ?_
      intro hHeld
      try simp only [Act.put, List.setIfInBounds_toArray, List.set_cons_zero, List.set_cons_succ]
      refine wpAnyH_take (i := 0) (oi := { dst := some 24, op := Op.fieldAddr 26 (Operand.tmp 1) 0, type := 0, pos := "contest.go:120", after := #[], guard := none }) (v := ?v0) rfl (by kernel_rfl) (by kernel_rfl) (by kernel_rfl) (fun _ _ _ h => h) (Or.inl ⟨by rfl, ?y0⟩) hHeld ?r0
      case y0 => intro wq hSw; obtain ⟨⟨q0, q2, q3⟩, qi⟩ := hSw; go_simp; try (with_reducible rfl)
      try simp only [Act.put, List.setIfInBounds_toArray, List.set_cons_zero, List.set_cons_succ]
      refine wpAnyH_take (i := 1) (oi := { dst := some 25, op := Op.load 9 (Operand.tmp 24), type := 9, pos := "contest.go:120", after := #[{ on := 0, ground := Ground.data }], guard := none }) (v := ?v1) rfl (by kernel_rfl) (by kernel_rfl) (by kernel_rfl) (fun _ _ _ h => h) (Or.inl ⟨by rfl, ?y1⟩) hHeld ?r1
      case y1 => intro wq hSw; obtain ⟨⟨q0, q2, q3⟩, qi⟩ := hSw; go_simp; try (with_reducible rfl)
      try simp only [Act.put, List.setIfInBounds_toArray, List.set_cons_zero, List.set_cons_succ]
      refine wpAnyH_take (i := 3) (oi := { dst := some 27, op := Op.move (Operand.tmp 3), type := 24, pos := "contest.go:120", after := #[], guard := none }) (v := ?v3) rfl (by kernel_rfl) (by kernel_rfl) (by kernel_rfl) (fun _ _ _ h => h) (Or.inl ⟨by rfl, ?y3⟩) hHeld ?r3
      case y3 => intro wq hSw; obtain ⟨⟨q0, q2, q3⟩, qi⟩ := hSw; go_simp; try (with_reducible rfl)
      try simp only [Act.put, List.setIfInBounds_toArray, List.set_cons_zero, List.set_cons_succ]
      refine wpAnyH_take (i := 4) (oi := { dst := some 28, op := Op.fieldAddr 26 (Operand.tmp 1) 2, type := 0, pos := "contest.go:120", after := #[], guard := none }) (v := ?v4) rfl (by kernel_rfl) (by kernel_rfl) (by kernel_rfl) (fun _ _ _ h => h) (Or.inl ⟨by rfl, ?y4⟩) hHeld ?r4
      case y4 => intro wq hSw; obtain ⟨⟨q0, q2, q3⟩, qi⟩ := hSw; go_simp; try (with_reducible rfl)
      try simp only [Act.put, List.setIfInBounds_toArray, List.set_cons_zero, List.set_cons_succ]
      refine wpAnyH_take (i := 5) (oi := { dst := some 29, op := Op.load 3 (Operand.tmp 28), type := 3, pos := "contest.go:120", after := #[{ on := 4, ground := Ground.data }], guard := none }) (v := ?v5) rfl (by kernel_rfl) (by kernel_rfl) (by kernel_rfl) (fun _ _ _ h => h) (Or.inl ⟨by rfl, ?y5⟩) hHeld ?r5
      case y5 => intro wq hSw; obtain ⟨⟨q0, q2, q3⟩, qi⟩ := hSw; go_simp; try (with_reducible rfl)
      try simp only [Act.put, List.setIfInBounds_toArray, List.set_cons_zero, List.set_cons_succ]
      refine wpAnyH_take (i := 6) (oi := { dst := some 30, op := Op.fieldAddr 26 (Operand.tmp 1) 3, type := 0, pos := "contest.go:120", after := #[], guard := none }) (v := ?v6) rfl (by kernel_rfl) (by kernel_rfl) (by kernel_rfl) (fun _ _ _ h => h) (Or.inl ⟨by rfl, ?y6⟩) hHeld ?r6
      case y6 => intro wq hSw; obtain ⟨⟨q0, q2, q3⟩, qi⟩ := hSw; go_simp; try (with_reducible rfl)
      try simp only [Act.put, List.setIfInBounds_toArray, List.set_cons_zero, List.set_cons_succ]
      refine wpAnyH_take (i := 7) (oi := { dst := some 31, op := Op.load 5 (Operand.tmp 30), type := 5, pos := "contest.go:120", after := #[{ on := 6, ground := Ground.data }], guard := none }) (v := ?v7) rfl (by kernel_rfl) (by kernel_rfl) (by kernel_rfl) (fun _ _ _ h => h) (Or.inl ⟨by rfl, ?y7⟩) hHeld ?r7
      case y7 => intro wq hSw; obtain ⟨⟨q0, q2, q3⟩, qi⟩ := hSw; go_simp; try (with_reducible rfl)
      try simp only [Act.put, List.setIfInBounds_toArray, List.set_cons_zero, List.set_cons_succ]
      refine wpAnyH_ready (rs := [2]) (by kernel_rfl) (by simp) ?_
      refine AllReadyH.cons (o := { dst := some 26, op := Op.call { callee := Callee.value (Operand.func 47), args := #[Operand.tmp 25], argTypes := #[9] }, type := 9, pos := "contest.go:120", after := #[{ on := 1, ground := Ground.data }], guard := none }) rfl (fun K hK => ?_) AllReadyH.nil
      go_simp
      go_at_call 47
      refine (clone_any _ _ HX.out.name).mono ?_
      rintro e w6 ⟨rfl, hb6⟩
      have HS6 := Lib.hid (HSB.out _ _ HS0.out hb6)
      clear hb6
      try go_simp
      refine hK.out _ _ (HRG.out _ (HIZ.out _ HS6.out)) (fun hHeld => ?_)
      try simp only [Act.put, List.setIfInBounds_toArray, List.set_cons_zero, List.set_cons_succ]
      refine wpAnyH_take (i := 8) (oi := { dst := some 32, op := Op.build 26 #[(0, Operand.tmp 26), (1, Operand.tmp 27), (2, Operand.tmp 29), (3, Operand.tmp 31)], type := 26, pos := "contest.go:120", after := #[{ on := 2, ground := Ground.data }, { on := 3, ground := Ground.data }, { on := 5, ground := Ground.data }, { on := 7, ground := Ground.data }], guard := none }) (v := ?v8) rfl (by kernel_rfl) (by kernel_rfl) (by kernel_rfl) (fun _ _ _ h => h) (Or.inl ⟨by rfl, ?y8⟩) hHeld ?r8
      case y8 => intro wq hSw; obtain ⟨⟨q0, q2, q3⟩, qi⟩ := hSw; go_simp; try (with_reducible rfl)
      try simp only [Act.put, List.setIfInBounds_toArray, List.set_cons_zero, List.set_cons_succ]
      refine wpAnyH_ready (rs := [9]) (by kernel_rfl) (by simp) ?_
      refine AllReadyH.cons (o := { dst := none, op := Op.store 26 (Operand.tmp 2) (Operand.tmp 32), type := 0, pos := "contest.go:120", after := #[{ on := 8, ground := Ground.data }, { on := 2, ground := Ground.chain }, { on := 0, ground := Ground.phase }, { on := 1, ground := Ground.phase }, { on := 2, ground := Ground.phase }, { on := 3, ground := Ground.phase }, { on := 4, ground := Ground.phase }, { on := 5, ground := Ground.phase }, { on := 6, ground := Ground.phase }, { on := 7, ground := Ground.phase }, { on := 8, ground := Ground.phase }], guard := none }) rfl (fun K hK => ?_) AllReadyH.nil
      rw [if_pos (by rfl)]
      have HC2 := Lib.hid (HI2.out _ HS6.out)
      refine wp_store_row 26 (.tmp 2) (.tmp 32) rfl (w.heap.size + 1) (cvs (some ⟨w.heap.size + 1 + 1, 0, none⟩) x.cands.length x) rfl rfl 26 _ HC2.out size_ct rfl (by simp [cvs, Value.oneCell']) ?_
      have HB7 := Lib.hid (show Blk (w6.setRow (w.heap.size + 1) (cvs (some ⟨w.heap.size + 1 + 1, 0, none⟩) x.cands.length x)) (w.heap.size + 1) 26 (cvs (some ⟨w.heap.size + 1 + 1, 0, none⟩) x.cands.length x) from setRow_heap w6 (w.heap.size + 1) _ _ _ _ HC2.out)
      have HG7 := Lib.hid (grown_setRow' w6 (w.heap.size + 1) (cvs (some ⟨w.heap.size + 1 + 1, 0, none⟩) x.cands.length x))
      generalize w6.setRow (w.heap.size + 1) (cvs (some ⟨w.heap.size + 1 + 1, 0, none⟩) x.cands.length x) = w7 at *
      have HS7 := Lib.hid (HSG.out _ _ HS6.out HG7.out)
      refine hK.out _ _ (HRG.out _ HS7.out) (fun hHeld => ?_)
      refine wpAnyH_done (by kernel_rfl) ?_ _
      go_wp2_with fail
      exact ct_ret (g := w.heap.size + 1) rfl rfl HB7.out rfl ⟨some ⟨w.heap.size + 1 + 1, 0, none⟩, x.cands.length, rfl, HFI.out _ HS7.out⟩
end Go.Proofs.YtdjifopdlkppoaaDoor
