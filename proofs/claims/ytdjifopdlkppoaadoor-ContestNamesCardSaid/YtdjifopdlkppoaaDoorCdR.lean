/- contest's Read. -/
import Derived.Test.YtdjifopdlkppoaaDoorCdO
import Derived.Test.YtdjifopdlkppoaaDoorCon
namespace Go.Proofs.YtdjifopdlkppoaaDoor
open Go.RowKit
set_option linter.unusedVariables false

theorem partsOf_bounds {L : List (List UInt8)} {x : Ct} {M : Nat} (h : partsOf L = some x) (hM : ∀ y ∈ L, y.length ≤ M) : x.name.length ≤ M ∧ (∀ y ∈ x.cands, y.length ≤ M) ∧ x.rule ≤ 255 ∧ 0 ≤ x.seats ∧ x.seats ≤ 255 := by
  unfold partsOf at h
  split at h
  · rename_i n s r cs
    obtain rfl := Option.some.inj h
    have h1 := UInt8.toNat_lt s
    have h2 := UInt8.toNat_lt r
    refine ⟨hM n (List.mem_cons_self ..), fun y hy => hM _ (List.mem_cons_of_mem _ (List.mem_cons_of_mem _ hy)), ?_, ?_, ?_⟩ <;> simp only [ofParts] <;> omega
  · cases h

theorem readM_e {b : List UInt8} (h : (Oc.splitM b).2 ≠ 0) : readM b = (zeroCt, (Oc.splitM b).2) := by unfold readM; rw [if_pos h]
theorem readM_none {b : List UInt8} (h : (Oc.splitM b).2 = 0) (hp : partsOf (Oc.splitM b).1 = none) : readM b = (zeroCt, 11) := by unfold readM; rw [if_neg (by omega), hp]
theorem readM_bad {b : List UInt8} {x : Ct} (h : (Oc.splitM b).2 = 0) (hp : partsOf (Oc.splitM b).1 = some x) (hm : mayB x = false) : readM b = (zeroCt, 11) := by
  unfold readM
  rw [if_neg (by omega), hp]
  simp only [hm, Bool.false_eq_true, if_false]
theorem readM_good {b : List UInt8} {x : Ct} (h : (Oc.splitM b).2 = 0) (hp : partsOf (Oc.splitM b).1 = some x) (hm : mayB x = true) : readM b = (x, 0) := by
  unfold readM
  rw [if_neg (by omega), hp]
  simp only [hm, if_true]
theorem splitM_cases (b : List UInt8) : (Oc.splitM b).2 = 0 ∨ (Oc.splitM b).2 = 4 ∨ (Oc.splitM b).2 = 10 := by
  unfold Oc.splitM
  split
  · exact .inr (.inl rfl)
  · split
    · exact .inl rfl
    · exact .inr (.inr rfl)

set_option maxRecDepth 100000 in
set_option maxHeartbeats 1000000 in
theorem read_any (l : List UInt8) (A : Option Addr) (c : Nat) (w : World) (hr : Rf bv w w.heap.size A c l) (hl : l.length ≤ 100000) (hT : Tab w) :
    Calls Tryd.prog 24 #[.slice A l.length c] w (CtErr7 w (readM l)) := by
  have HB0 := Lib.hid (show Blk (w.alloc (.cells #[.string ⟨#[]⟩, .slice none 0 0, .int .i64 0, .int .u8 0] 26)) w.heap.size 26 #[.string ⟨#[]⟩, .slice none 0 0, .int .i64 0, .int .u8 0] from Blk.new w _ _)
  have B0 := Lib.hid (below_new w (.cells #[.string ⟨#[]⟩, .slice none 0 0, .int .i64 0, .int .u8 0] 26))
  have HSP := Lib.hid (Oc.split_any A c l (w.alloc (.cells #[.string ⟨#[]⟩, .slice none 0 0, .int .i64 0, .int .u8 0] 26)) (((hr.below B0.out).more (by simp)).toRd) (by omega))
  have HT := Lib.hid hT
  clear hT
  go_enter Tryd.func24, Tryd.ntmps24
  go_wp2_with fail
  refine HSP.out.mono ?_
  rintro e w1 ⟨A1, c1, xs, rfl, hby, how, hb⟩
  have B1 := Lib.hid (B0.out.trans (hb.mono B0.out.size))
  have HB1 := Lib.hid (HB0.out.below hb HB0.out.lt)
  have HRL := Lib.hid how.rd
  clear hb how
  rcases splitM_cases l with h0 | h0
  case inr =>
    have HQ := Lib.hid (readM_e (b := l) (by rcases h0 with h | h <;> rw [h] <;> decide))
    obtain ⟨er, her⟩ : ∃ er, er = (Oc.splitM l).2 := ⟨_, rfl⟩
    rw [← her] at h0 HQ ⊢
    have hne : (er != 0) = true := by rw [bne_iff_ne]; rcases h0 with h | h <;> rw [h] <;> decide
    have hne2 : ¬ er = 0 := by rcases h0 with h | h <;> rw [h] <;> decide
    clear h0 her hby
    go_wp2_with ((with_reducible refine wpList_store_ct rfl (.tmp 2) (.tmp 15) rfl w.heap.size rfl HB1.out rfl (A := none) (c := 0) (x := zeroCt) rfl ?_); intro w2 hb2 hg2)
    exact ct_ret2 (g := w.heap.size) rfl rfl hb2 rfl ⟨none, 0, zeroCt, er, rfl, HQ.out.symm, Rf.empty _ _, B1.out.grown hg2 B1.out.size (fun k e => by cases e; exact Nat.le_refl _)⟩
  obtain ⟨hfit, hfl, hbl⟩ := Oc.splitM_ok h0
  have hcnt := Oc.flat_count (Oc.splitM l).1
  rw [← hfl] at hcnt
  have HXL := Lib.hid (show xs.length ≤ 1000000 by rw [← Oc.byts_len, hby]; omega)
  have HEL := Lib.hid (show ∀ y ∈ xs, y.l.length ≤ 1000000 from fun y hy => by
    have hm : y.l ∈ Oc.byts xs := List.mem_map.2 ⟨y, hy, rfl⟩
    rw [hby] at hm
    exact Nat.le_trans (hfit _ hm) (by decide))
  have HFIT := Lib.hid (show ∀ y ∈ Oc.byts xs, y.length ≤ 65535 by rw [hby]; exact hfit)
  have HBY := Lib.hid hby
  have H0 := Lib.hid h0
  clear hby h0 hfit hfl hbl hcnt
  rw [H0.out]
  go_wp2_with fail
  refine (contestOf_any A1 c1 xs w1 HRL.out HXL.out HEL.out).mono ?_
  rintro e w3 ⟨A3, c3, x, ok, rfl, hok, hr3, hge3, hb3⟩
  have HGE3 := Lib.hid hge3
  have B3 := Lib.hid (B1.out.trans (hb3.mono B1.out.size))
  have HB3 := Lib.hid (HB1.out.below hb3 HB1.out.lt)
  have HR3 := Lib.hid hr3
  have HBN := Lib.hid (show Blk (w3.alloc (.cells #[.string ⟨#[]⟩, .slice none 0 0, .int .i64 0, .int .u8 0] 26)) w3.heap.size 26 #[.string ⟨#[]⟩, .slice none 0 0, .int .i64 0, .int .u8 0] from Blk.new w3 _ _)
  have HBO := Lib.hid (HB3.out.alloc (.cells #[.string ⟨#[]⟩, .slice none 0 0, .int .i64 0, .int .u8 0] 26))
  have BN := Lib.hid (below_new w3 (.cells #[.string ⟨#[]⟩, .slice none 0 0, .int .i64 0, .int .u8 0] 26))
  clear hr3 hge3 hb3
  rcases hok with ⟨rfl, hp⟩ | ⟨rfl, hp⟩
  case inr =>
    have HQ := Lib.hid (readM_none H0.out (by rw [← HBY.out]; exact hp))
    clear hp
    go_wp2_with (first
      | ((with_reducible refine wpList_store_ct rfl (.tmp 6) (.tmp 20) rfl w3.heap.size rfl HBN.out rfl (A := A3) (c := c3) (x := x) rfl ?_); intro w4 hb4 hg4; have HB4 := Lib.hid (HBO.out.grown hg4 (by have := HB3.out.lt; simp; omega)))
      | ((with_reducible refine wpList_store_ct rfl (.tmp 2) (.tmp 29) rfl w.heap.size rfl HB4.out rfl (A := none) (c := 0) (x := zeroCt) rfl ?_); intro w5 hb5 hg5))
    have B4 : Below w.heap.size w w4 := (B3.out.trans (BN.out.mono B3.out.size)).grown hg4 (Nat.le_trans B3.out.size BN.out.size) (fun k e => by cases e; exact B3.out.size)
    exact ct_ret2 (g := w.heap.size) rfl rfl hb5 rfl ⟨none, 0, zeroCt, 11, rfl, HQ.out.symm, Rf.empty _ _, B4.grown hg5 B4.size (fun k e => by cases e; exact Nat.le_refl _)⟩
  have HBD := Lib.hid (partsOf_bounds hp HFIT.out)
  cases hm : mayB x with
  | false =>
    have HQ := Lib.hid (readM_bad H0.out (by rw [← HBY.out]; exact hp) hm)
    have hck : ∃ ck, checkM x = ck ∧ (ck != 0) = true ∧ ¬ ck = 0 := by
      refine ⟨_, rfl, ?_, ?_⟩
      · rw [bne_iff_ne]; intro e; have := checkM_ok.1 e; rw [hm] at this; cases this
      · intro e; have := checkM_ok.1 e; rw [hm] at this; cases this
    obtain ⟨ck, hck, hck1, hck2⟩ := hck
    have HCK := Lib.hid hck
    clear hp hm hck
    go_wp2_with (first
      | ((with_reducible refine wpList_store_ct rfl (.tmp 6) (.tmp 20) rfl w3.heap.size rfl HBN.out rfl (A := A3) (c := c3) (x := x) rfl ?_); intro w4 hb4 hg4; have HB4 := Lib.hid (HBO.out.grown hg4 (by have := HB3.out.lt; simp; omega)); have HB6 := Lib.hid hb4)
      | (with_reducible refine wpList_load_ct (by kernel_rfl) (.tmp 6) rfl w3.heap.size rfl (A := A3) (c := c3) (x := x) HB6.out ?_))
    have B4 := Lib.hid (show Below w.heap.size w w4 from (B3.out.trans (BN.out.mono B3.out.size)).grown hg4 (Nat.le_trans B3.out.size BN.out.size) (fun k e => by cases e; exact B3.out.size))
    have hr4 : Rf sv w4 w4.heap.size A3 c3 x.cands := ((HR3.out.alloc (Nat.le_refl _) (.cells #[.string ⟨#[]⟩, .slice none 0 0, .int .i64 0, .int .u8 0] 26)).grown hg4 (by simp) (HR3.out.ne (Nat.le_refl _))).more (Nat.le_trans BN.out.size hg4.size)
    have HOK := Lib.hid (show CtOk w4 A3 c3 x from ⟨hr4, Nat.le_trans HBD.out.1 (by decide), fun y hy => Nat.le_trans (HBD.out.2.1 y hy) (by decide), HBD.out.2.2.1, by have := HBD.out.2.2.2; omega⟩)
    have HR4 := Lib.hid hr4
    clear hr4 hg4 hb4
    refine (check_any x A3 c3 w4 HOK.out (HT.out.below (Nat.le_refl _) B4.out)).mono ?_
    rintro e w5 ⟨rfl, hb5⟩
    rw [HCK.out]
    have HB7 := Lib.hid (HB4.out.below hb5 HB4.out.lt)
    have HB8 := Lib.hid (HB6.out.below hb5 HB6.out.lt)
    have B5 := Lib.hid (B4.out.trans (hb5.mono B4.out.size))
    have HR5 := Lib.hid ((HR4.out.below hb5).more hb5.size)
    clear hb5
    go_wp2_with ((with_reducible refine wpList_store_ct rfl (.tmp 2) (.tmp 29) rfl w.heap.size rfl HB7.out rfl (A := none) (c := 0) (x := zeroCt) rfl ?_); intro w6 hb6 hg6)
    exact ct_ret2 (g := w.heap.size) rfl rfl hb6 rfl ⟨none, 0, zeroCt, 11, rfl, HQ.out.symm, Rf.empty _ _, B5.out.grown hg6 B5.out.size (fun k e => by cases e; exact Nat.le_refl _)⟩
  | true =>
    have HQ := Lib.hid (readM_good H0.out (by rw [← HBY.out]; exact hp) hm)
    have HCK := Lib.hid (checkM_ok.2 hm)
    clear hp hm
    go_wp2_with (first
      | ((with_reducible refine wpList_store_ct rfl (.tmp 6) (.tmp 20) rfl w3.heap.size rfl HBN.out rfl (A := A3) (c := c3) (x := x) rfl ?_); intro w4 hb4 hg4; have HB4 := Lib.hid (HBO.out.grown hg4 (by have := HB3.out.lt; simp; omega)); have HB6 := Lib.hid hb4)
      | (with_reducible refine wpList_load_ct (by kernel_rfl) (.tmp 6) rfl w3.heap.size rfl (A := A3) (c := c3) (x := x) HB6.out ?_))
    have B4 := Lib.hid (show Below w.heap.size w w4 from (B3.out.trans (BN.out.mono B3.out.size)).grown hg4 (Nat.le_trans B3.out.size BN.out.size) (fun k e => by cases e; exact B3.out.size))
    have hr4 : Rf sv w4 w4.heap.size A3 c3 x.cands := ((HR3.out.alloc (Nat.le_refl _) (.cells #[.string ⟨#[]⟩, .slice none 0 0, .int .i64 0, .int .u8 0] 26)).grown hg4 (by simp) (HR3.out.ne (Nat.le_refl _))).more (Nat.le_trans BN.out.size hg4.size)
    have HOK := Lib.hid (show CtOk w4 A3 c3 x from ⟨hr4, Nat.le_trans HBD.out.1 (by decide), fun y hy => Nat.le_trans (HBD.out.2.1 y hy) (by decide), HBD.out.2.2.1, by have := HBD.out.2.2.2; omega⟩)
    have HR4 := Lib.hid hr4
    clear hr4 hg4 hb4
    refine (check_any x A3 c3 w4 HOK.out (HT.out.below (Nat.le_refl _) B4.out)).mono ?_
    rintro e w5 ⟨rfl, hb5⟩
    rw [HCK.out]
    have HB7 := Lib.hid (HB4.out.below hb5 HB4.out.lt)
    have HB8 := Lib.hid (HB6.out.below hb5 HB6.out.lt)
    have B5 := Lib.hid (B4.out.trans (hb5.mono B4.out.size))
    have HR5 := Lib.hid ((HR4.out.below hb5).more hb5.size)
    clear hb5
    go_wp2_with (first
      | (with_reducible refine wpList_load_ct (by kernel_rfl) (.tmp 6) rfl w3.heap.size rfl (A := A3) (c := c3) (x := x) HB8.out ?_)
      | ((with_reducible refine wpList_store_ct rfl (.tmp 2) (.tmp 30) rfl w.heap.size rfl HB7.out rfl (A := A3) (c := c3) (x := x) rfl ?_); intro w6 hb6 hg6))
    have hblk : 0 < x.cands.length → blk A3 ≠ some w.heap.size := fun hp e => by
      have := HGE3.out _ e
      have := HB1.out.lt
      omega
    exact ct_ret2 (g := w.heap.size) rfl rfl hb6 rfl ⟨A3, c3, x, 0, rfl, HQ.out.symm, (HR5.out.grown hg6 (Nat.le_refl _) hblk).more hg6.size, B5.out.grown hg6 B5.out.size (fun k e => by cases e; exact Nat.le_refl _)⟩
end Go.Proofs.YtdjifopdlkppoaaDoor
