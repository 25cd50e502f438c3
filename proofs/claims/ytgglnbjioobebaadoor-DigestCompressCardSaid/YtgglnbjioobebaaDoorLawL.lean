/- DigestLimits. -/
import Derived.Test.YtgglnbjioobebaaDoorLawF
namespace Go.Proofs.YtgglnbjioobebaaDoor
open Go.RowKit
set_option linter.unusedVariables false

theorem wpList_make_k (k : IntKind) (w : World) {ops : Array Oper} {rest : List Oper} {o : Oper} {a : Act} {Q : Exit → Act → World → Prop}
    (hg : o.guard = none) (l c : Operand) (hop : o.op = Op.makeSlice 26 l c) (C : Int) (n : Nat) (hl : a.eval l = .int k C) (hc : a.eval c = .int k C) (hC : C = (n : Int)) (hn : n ≤ 1000000)
    (hK : ∀ w', Hb bv w' w.heap.size 5 (List.replicate n 0) → Below w.heap.size w w' → w.heap.size < w'.heap.size → wpList Tryd.prog ops Q rest (a.put o.dst (.slice (some ⟨w.heap.size, 0, none⟩) n n)) w') :
    wpList Tryd.prog ops Q (o :: rest) a w := by
  obtain ⟨i, hi, hz0, hz1, hz2⟩ := info_parts bInfo
  refine wpList_plain hg fun K hK' => ?_
  have hrun := run_make (P := Tryd.prog) w 26 5 i _ Tryd.underlying26 hi hz0 k k (n : Int) (n : Int) (by omega) (by omega) (by rw [hz2]; omega) (by omega)
  subst hC
  simp only [Int.toNat_natCast] at hrun
  rw [hz1] at hrun
  unfold Oper.wp
  simp [execOp, hop, hl, hc, hrun, Result.andThen]
  refine hK' _ _ (hK _ ?_ (below_new _ _) (by simp))
  have := hb_made w n
  rwa [Nat.mul_one] at this
theorem leafM_len (l : List UInt8) : (leafM l).1.length = 32 := by unfold leafM; split; exact List.length_replicate; exact dig_len _
theorem compM_len (S : List UInt32) (l : List UInt8) (h : S.length = 8) : (compM S l).1.length = 8 := by unfold compM; split; exact comp_len l h; exact List.length_replicate
def one8 : List UInt32 := [1, 0, 0, 0, 0, 0, 0, 0]

set_option maxHeartbeats 1000000 in
theorem digestLimits_any (L : List UInt8) (w : World) (hL : L = List.replicate L.length 0) (hn : L.length < 65536) (hT : Tab w) :
    Calls Tryd.prog 7 #[.int .u16 (L.length : Int)] w fun e w' => e = .returned (.bool true) ∧ Below w.heap.size w w' := by
  have HT := Lib.hid hT
  have HL := Lib.hid hL
  clear hT hL
  by_cases hbig : 20000 < L.length
  · have hbd : (20000 : Int) < (L.length : Int) := by omega
    go_enter Tryd.func7, Tryd.ntmps7
    go_wp2_with fail
    refine (alive_any w HT.out).mono ?_
    rintro e w1 ⟨rfl, hb1⟩
    go_wp2_with fail
    go_ret
    exact ⟨rfl, hb1⟩
  · have hbd : decide ((20000 : Int) < (L.length : Int)) = false := by simp; omega
    obtain ⟨s1, e1, h1⟩ : ∃ s e, sumM L = (s, e) := ⟨_, _, rfl⟩
    obtain ⟨p2, e2, h2⟩ : ∃ s e, padM L = (s, e) := ⟨_, _, rfl⟩
    obtain ⟨s3, e3, h3⟩ : ∃ s e, leafM L = (s, e) := ⟨_, _, rfl⟩
    obtain ⟨s4, e4, h4⟩ : ∃ s e, compM one8 L = (s, e) := ⟨_, _, rfl⟩
    have l1 : s1.length = 32 := by have := sumM_len L; rw [h1] at this; exact this
    have l3 : s3.length = 32 := by have := leafM_len L; rw [h3] at this; exact this
    have l4 : s4.length = 8 := by have := compM_len one8 L rfl; rw [h4] at this; exact this
    have q1 : decide ((8192 : Int) < (L.length : Int)) = (e1 == 4) ∧ decide ((L.length : Int) ≤ 8192) = (e1 == 0) := by
      unfold sumM at h1
      split at h1 <;> (cases h1; simp; omega)
    have q2 : decide ((8192 : Int) < (L.length : Int)) = (e2 == 4) ∧ decide ((L.length : Int) ≤ 8192) = (e2 == 0) := by
      unfold padM at h2
      split at h2 <;> (cases h2; simp; omega)
    have q3 : decide ((8191 : Int) < (L.length : Int)) = (e3 == 4) ∧ decide ((L.length : Int) ≤ 8191) = (e3 == 0) := by
      unfold leafM at h3
      split at h3 <;> (cases h3; simp; omega)
    have q4 : ((L.length : Int) != 64) = (e4 == 2) ∧ ((L.length : Int) == 64) = (e4 == 0) := by
      unfold compM at h4
      split at h4 <;> (cases h4; simp; omega)
    have q12 : (e2 == 4) = (e1 == 4) := by rw [← q1.1, q2.1]
    have q12' : (e2 == 0) = (e1 == 0) := by rw [← q1.2, q2.2]
    obtain ⟨q1a, q1b⟩ := q1
    obtain ⟨q3a, q3b⟩ := q3
    obtain ⟨q4a, q4b⟩ := q4
    obtain ⟨c1, hc1⟩ : ∃ c, (s1.map bv).toArray = c := ⟨_, rfl⟩
    obtain ⟨c3, hc3⟩ : ∃ c, (s3.map bv).toArray = c := ⟨_, rfl⟩
    obtain ⟨c4, hc4⟩ : ∃ c, (s4.map uv).toArray = c := ⟨_, rfl⟩
    have HS : Hid (∀ (g : Nat) (B : Nat) (wx : World), Rf bv wx B (some ⟨g, 0, none⟩) L.length L → B ≤ wx.heap.size → Below w.heap.size w wx → Calls Tryd.prog 12 #[.slice (some ⟨g, 0, none⟩) L.length L.length] wx fun e w' => e = .returned (.tuple #[.agg c1, .int .i64 e1]) ∧ Below wx.heap.size wx w') := fun g B wx h hB hb => by
      have := sum_any _ _ B L wx h hB (by omega) (HT.out.below hb)
      rw [h1] at this
      unfold ab at this
      rwa [hc1] at this
    have HF : Hid (∀ (g : Nat) (B : Nat) (wx : World), Rf bv wx B (some ⟨g, 0, none⟩) L.length L → B ≤ wx.heap.size → Below w.heap.size w wx → Calls Tryd.prog 15 #[.slice (some ⟨g, 0, none⟩) L.length L.length] wx fun e w' => e = .returned (.tuple #[.agg c3, .int .i64 e3]) ∧ Below wx.heap.size wx w') := fun g B wx h hB hb => by
      have := leafX_any _ _ B L wx h hB (by omega) (HT.out.below hb)
      rw [h3] at this
      unfold ab at this
      rwa [hc3] at this
    have HP : Hid (∀ (g : Nat) (B : Nat) (wx : World), Rf bv wx B (some ⟨g, 0, none⟩) L.length L → B ≤ wx.heap.size → Calls Tryd.prog 13 #[.slice (some ⟨g, 0, none⟩) L.length L.length] wx fun e w' => ∃ A' c', e = .returned (.tuple #[.slice A' p2.length c', .int .i64 e2]) ∧ Below wx.heap.size wx w') := fun g B wx h hB => by
      have := padX_any _ _ B L wx h hB (by omega)
      rw [h2] at this
      exact this.mono fun e w' ⟨A', c', he, _, hb⟩ => ⟨A', c', he, hb⟩
    have HC : Hid (∀ (g : Nat) (B : Nat) (wx : World), Rf bv wx B (some ⟨g, 0, none⟩) L.length L → B ≤ wx.heap.size → Below w.heap.size w wx → Calls Tryd.prog 14 #[.agg #[.int .u32 1, .int .u32 0, .int .u32 0, .int .u32 0, .int .u32 0, .int .u32 0, .int .u32 0, .int .u32 0], .slice (some ⟨g, 0, none⟩) L.length L.length] wx fun e w' => e = .returned (.tuple #[.agg c4, .int .i64 e4]) ∧ Below wx.heap.size wx w') := fun g B wx h hB hb => by
      have := compX_any one8 _ _ B L wx rfl h hB (by omega) (HT.out.below hb)
      rw [h4] at this
      unfold aw at this
      rwa [hc4] at this
    have HC1 := Lib.hid hc1
    have HC3 := Lib.hid hc3
    have HC4 := Lib.hid hc4
    have L1 := Lib.hid l1
    have L3 := Lib.hid l3
    have L4 := Lib.hid l4
    clear h1 h2 h3 h4 l1 l3 l4 hc1 hc3 hc4 q2
    go_enter Tryd.func7, Tryd.ntmps7
    go_wp2_with fail
    refine (alive_any w HT.out).mono ?_
    rintro e w1 ⟨rfl, hb1⟩
    go_wp2_with (at_make; refine wpList_make_k .u16 _ rfl _ _ rfl _ L.length rfl rfl rfl (by omega) ?_; intro w2 hz2 hb2 hs2)
    rw [← HL.out] at hz2
    have hbw2 := hb1.trans (hb2.mono hb1.size)
    have hs1 := hb1.size
    have hr2 := hz2.rf_all (c := L.length) (Nat.le_refl _) (by unfold maxLen; omega)
    clear hb1 hb2 hz2
    refine (HS.out _ _ w2 hr2 (Nat.le_refl _) hbw2).mono ?_
    rintro e w3 ⟨rfl, hb3⟩
    have hr3 := hr2.below hb3
    have hbw3 := hbw2.trans (hb3.mono hbw2.size)
    have hs3 := hb3.size
    clear hb3 hr2 hbw2
    go_wp2_with (with_reducible refine wpList_store_cs bv_one rfl _ (.tmp 5) (.tmp 26) rfl _ s1 _ HC1.out rfl rfl (Hb.new bv w3 _ (List.replicate 32 0) _ z32) size32 (List.length_replicate ..) L1.out ?_; intro w4 h4 hg4)
    have hr4 := (hr3.alloc hs3 (.cells #[.int .u8 0, .int .u8 0, .int .u8 0, .int .u8 0, .int .u8 0, .int .u8 0, .int .u8 0, .int .u8 0, .int .u8 0, .int .u8 0, .int .u8 0, .int .u8 0, .int .u8 0, .int .u8 0, .int .u8 0, .int .u8 0, .int .u8 0, .int .u8 0, .int .u8 0, .int .u8 0, .int .u8 0, .int .u8 0, .int .u8 0, .int .u8 0, .int .u8 0, .int .u8 0, .int .u8 0, .int .u8 0, .int .u8 0, .int .u8 0, .int .u8 0, .int .u8 0] 22)).grown hg4 (by simp; omega) (fun _ => by simp [blk]; omega)
    have hbw4 : Below w.heap.size w w4 := (hbw3.alloc hbw3.size _).grown hg4 (hbw3.alloc hbw3.size _).size (fun k e => by cases e; exact hbw3.size)
    have hs4 := hg4.size
    simp only [World.size_alloc] at hs4
    clear h4 hg4 hr3 hbw3
    refine (HP.out _ _ w4 hr4 (by omega)).mono ?_
    rintro e w5 ⟨A5, c5, rfl, hb5⟩
    have hs5 := hb5.size
    have hr5 := hr4.below (hb5.mono (show w2.heap.size ≤ w4.heap.size by omega))
    have hbw5 := hbw4.trans (hb5.mono hbw4.size)
    clear hb5 hr4 hbw4
    go_wp2_with fail
    refine (HF.out _ _ w5 hr5 (by omega) hbw5).mono ?_
    rintro e w6 ⟨rfl, hb6⟩
    have hs6 := hb6.size
    have hr6 := hr5.below (hb6.mono (show w2.heap.size ≤ w5.heap.size by omega))
    have hbw6 := hbw5.trans (hb6.mono hbw5.size)
    clear hb6 hr5 hbw5
    go_wp2_with (with_reducible refine wpList_store_cs bv_one rfl _ (.tmp 9) (.tmp 36) rfl _ s3 _ HC3.out rfl rfl (Hb.new bv w6 _ (List.replicate 32 0) _ z32) size32 (List.length_replicate ..) L3.out ?_; intro w7 h7 hg7)
    have hr7 := (hr6.alloc (show w2.heap.size ≤ w6.heap.size by omega) (.cells #[.int .u8 0, .int .u8 0, .int .u8 0, .int .u8 0, .int .u8 0, .int .u8 0, .int .u8 0, .int .u8 0, .int .u8 0, .int .u8 0, .int .u8 0, .int .u8 0, .int .u8 0, .int .u8 0, .int .u8 0, .int .u8 0, .int .u8 0, .int .u8 0, .int .u8 0, .int .u8 0, .int .u8 0, .int .u8 0, .int .u8 0, .int .u8 0, .int .u8 0, .int .u8 0, .int .u8 0, .int .u8 0, .int .u8 0, .int .u8 0, .int .u8 0, .int .u8 0] 22)).grown hg7 (by simp; omega) (fun _ => by simp [blk]; omega)
    have hbw7 : Below w.heap.size w w7 := (hbw6.alloc hbw6.size _).grown hg7 (hbw6.alloc hbw6.size _).size (fun k e => by cases e; exact hbw6.size)
    have hs7 := hg7.size
    simp only [World.size_alloc] at hs7
    clear h7 hg7 hr6 hbw6
    refine (HC.out _ _ w7 hr7 (by omega) hbw7).mono ?_
    rintro e w8 ⟨rfl, hb8⟩
    have hbw8 := hbw7.trans (hb8.mono hbw7.size)
    clear hb8 hr7 hbw7
    go_wp2_with (with_reducible refine wpList_store_cs uv_one rfl _ (.tmp 11) (.tmp 42) rfl _ s4 _ HC4.out rfl rfl (Hb.new uv w8 _ (List.replicate 8 0) _ z8) size8 (List.length_replicate ..) L4.out ?_; intro w9 h9 hg9)
    go_ret
    exact ⟨rfl, (hbw8.alloc hbw8.size _).grown hg9 (hbw8.alloc hbw8.size _).size (fun k e => by cases e; exact hbw8.size)⟩
end Go.Proofs.YtgglnbjioobebaaDoor
