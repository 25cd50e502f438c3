/- The walk of the law WordsTables. -/
import Derived.Test.YtnnenhcofibhoaaRefTab3
namespace Go.Proofs.Ytnnenhcofibhoaa
open Go.RowKit
set_option linter.unusedVariables false

/-- A [][]string of its own, with rows of its own. -/
structure OwR (w : World) (base : Nat) (A : Option Addr) (c : Nat) (rows : List Rw) : Prop where
  top : Ow Rw.v w base 22 A c rows
  row : ∀ x ∈ rows, Ow sv w base 9 x.A x.c x.l
theorem OwR.below {w w' : World} {base c B : Nat} {A : Option Addr} {rows : List Rw} (h : OwR w base A c rows) (hB : w.heap.size ≤ B) (hb : Below B w w') : OwR w' base A c rows :=
  ⟨h.top.below hB hb, fun x hx => (h.row x hx).below hB hb⟩
theorem OwR.rd {w : World} {base c : Nat} {A : Option Addr} {rows : List Rw} (h : OwR w base A c rows) : RfR w w.heap.size A c rows := ⟨h.top.rd, fun x hx => (h.row x hx).rd⟩
/-- Rows of two element types lie in two blocks. -/
theorem ow_apart {α β : Type} {f : α → Value} {g : β → Value} {w : World} {b1 b2 t1 t2 c1 c2 : Nat} {A1 A2 : Option Addr} {x1 : List α} {x2 : List β} (hne : t1 ≠ t2) (h1 : Ow f w b1 t1 A1 c1 x1) (h2 : Ow g w b2 t2 A2 c2 x2) : blk A1 = none ∨ blk A1 ≠ blk A2 := by
  rcases h1.2 with ⟨hv, _⟩ | ⟨g1, cap1, cur1, hv, _, hg1, _⟩
  · simp only [Value.slice.injEq] at hv
    rw [hv.1]
    exact .inl rfl
  · simp only [Value.slice.injEq] at hv
    rw [hv.1]
    refine .inr fun e => ?_
    rcases h2.2 with ⟨hv2, _⟩ | ⟨g2, cap2, cur2, hv2, _, hg2, _⟩
    · simp only [Value.slice.injEq] at hv2
      rw [hv2.1] at e
      simp [blk] at e
    · simp only [Value.slice.injEq] at hv2
      rw [hv2.1] at e
      have e2 : g1 = g2 := by simpa [blk] using e
      subst e2
      rw [hg1] at hg2
      simp at hg2
      exact hne hg2.2
theorem OwR.add {w w' : World} {base c c' xc : Nat} {A A' xA : Option Addr} {rows : List Rw} {xl : List (List UInt8)} (h : OwR w base A c rows) (hx : Ow sv w base 9 xA xc xl) (hg : w.grownBy w' (blk A))
    (ho : Ow Rw.v w' base 22 A' c' (rows ++ [⟨xA, xc, xl⟩])) : OwR w' base A' c' (rows ++ [⟨xA, xc, xl⟩]) := by
  refine ⟨ho, fun y hy => ?_⟩
  have hy2 : Ow sv w base 9 y.A y.c y.l := by
    rcases List.mem_append.1 hy with h1 | h1
    · exact h.row y h1
    · simp at h1; subst h1; exact hx
  exact hy2.kept hg (ow_apart (by decide) hy2 h.top)

theorem infoSS : (Try.prog.info? 22).map (fun i => (i.zero, i.size, i.bytes)) = some (some (.slice none 0 0), 1, 24) := by kernel_rfl

set_option maxRecDepth 100000 in
set_option maxHeartbeats 4000000 in
theorem tables_walk (a0 : Option Addr) (c0 : Nat) (x0 : List Rw) (w : World) (w0 : RfR w w.heap.size a0 c0 x0) (u0 : ∀ x ∈ x0, ∀ y ∈ x.l, y.length ≤ 140737488351232) :
    Calls Try.prog 5 #[.slice a0 x0.length c0] w fun e w' => e = .returned (.bool true) ∧ Below w.heap.size w w' := by
  obtain ⟨i0, hi, hz0, hz1, hz2⟩ := info_parts infoS
  obtain ⟨i1, hi1, hy0, hy1, hy2⟩ := info_parts infoSS
  have HU : Hid (∀ x ∈ x0, ∀ y ∈ x.l, y.length ≤ 140737488355328) := fun x hx y hy => Nat.le_trans (u0 x hx y hy) (by decide)
  clear u0
  go_enter Try.func5, Try.ntmps5
  go_wp2_with fail
  refine (great_any a0 c0 _ x0 _ w0 HU.out).mono ?_
  rintro e w' ⟨b, rfl, rfl, hsum⟩
  cases b with
  | true =>
    go_wp2_with fail
    go_ret
    exact ⟨rfl, Below.refl _ _⟩
  | false =>
  have hsum2 := hsum rfl
  clear hsum
  have hlen : x0.length ≤ 30000 := by have := sumR_len (txts x0); rw [txts_len] at this; omega
  have HRS : Hid (∀ i (h : i < x0.length), x0[i].l.length ≤ 30000) := by
    intro i h
    have h1 := sumR_get (txts x0) i (by rw [txts_len]; exact h)
    have h2 : (txts x0)[i]'(by rw [txts_len]; exact h) = x0[i].l := by simp [txts]
    rw [h2] at h1
    have h3 : (x0[i].l.map fun y => y.length + 1).sum = sumL x0[i].l := rfl
    have := sumL_len x0[i].l
    omega
  have HS := Lib.hid hsum2
  clear hsum2
  go_wp2_with fail
  go_loopw [3, 4] (fun s i wr => ∃ (k : Nat) (A1 : Option Addr) (c1 : Nat) (own : List Rw), k ≤ x0.length ∧ i = .int .i64 k ∧ s = .slice A1 own.length c1 ∧ Hid (txts own = (txts x0).take k) ∧ Hid (OwR wr w.heap.size A1 c1 own) ∧ Hid (Below w.heap.size w wr)) (fun _ i _ => x0.length - (intOf i).toNat)
  case atStart => exact ⟨0, none, 0, [], Nat.zero_le _, rfl, rfl, rfl, ⟨Ow.nil _ _ _, fun _ h => by cases h⟩, Below.refl _ _⟩
  case round =>
    obtain ⟨k, A1, c1, own, hk, rfl, rfl, htx, hown, hbr⟩ := hrel
    have hol : own.length = k := by have := congrArg List.length htx.out; rw [txts_len, List.length_take, txts_len] at this; omega
    by_cases hlt : k < x0.length
    · have hrd := w0.below hbr.out
      obtain ⟨b, o, rfl, hbb, hc⟩ := hrd.top.at_ hlt
      have hcx := hc k hlt
      have hrow := hrd.row x0[k] (List.getElem_mem hlt)
      have hsm := HRS.out k hlt
      have HT : Hid ((txts x0).take (k + 1) = (txts x0).take k ++ [x0[k].l]) := by
        show _ = _
        have hltt : k < (txts x0).length := by rw [txts_len]; exact hlt
        rw [List.take_succ_eq_append_getElem hltt]
        congr 2
        simp [txts]
      obtain ⟨xA, xc, xl, hx⟩ : ∃ a c l, x0[k] = Rw.mk a c l := ⟨_, _, _, rfl⟩
      rw [hx] at hcx hrow hsm HT
      dsimp only at hrow hsm
      unfold Rw.v at hcx
      have hsz := hbr.out.size
      have hcx2 : (wr.alloc (.cells #[] 9)).cell? ⟨b, o + k, none⟩ = some (.slice xA xl.length xc) := (World.cell?_alloc_lt wr _ _ (Nat.lt_of_lt_of_le hbb hsz)).trans hcx
      have hrow2 := hrow.alloc hsz (.cells #[] 9)
      have hol2 : own.length ≤ 30000 := by omega
      clear hc hx hrd hol hrow
      have hoR := hown.out.top
      go_wp2_with (first
        | (at_builtin; refine wpList_append_f _ sv_one rfl _ _ 22 rfl w.heap.size 9 16 i0 _ Try.underlying22 hi hz0 hz1 hz2 (by omega) rfl [] xl rfl rfl (ow_zero wr _ _ hsz) hrow2 (by simp; omega) (by simp; omega) ?_; intro A2 c2 w2 r2 hr2 hown2 hg2 _; have hb2 : Below wr.heap.size wr w2 := (below_new wr _).trans (below_of_grown hg2 (by simp) (fun k e => by cases e; exact Nat.le_refl _)); have hs2 := hb2.size; obtain rfl : r2 = xl := hr2.out; clear hg2 hr2)
        | (at_builtin; refine wpList_append_f _ rwv_one rfl _ _ 35 rfl w.heap.size 22 24 i1 _ Try.underlying35 hi1 hy0 hy1 hy2 (by omega) rfl own [⟨A2, c2, r2⟩] rfl rfl ((hoR.below (Nat.le_refl _) hb2).alloc _) (rf_one w2 (f := Rw.v) ⟨A2, c2, r2⟩ 22) (by simp; omega) (by simp; omega) ?_; intro A4 c4 w4 r4 hr4 hown4 hg4 _))
      obtain rfl := hr4.out
      have hrow5 : Ow sv (w2.alloc (.cells #[Rw.v ⟨A2, c2, r2⟩] 22)) w.heap.size 9 A2 c2 r2 := hown2.alloc _
      have hO5 : OwR (w2.alloc (.cells #[Rw.v ⟨A2, c2, r2⟩] 22)) w.heap.size A1 c1 own := (hown.out.below (Nat.le_refl _) hb2).below (Nat.le_refl _) (below_new w2 _)
      have HN := Lib.hid (hO5.add hrow5 hg4 hown4)
      have HB : Hid (Below w.heap.size w w4) := ((hbr.out.trans (hb2.mono hsz)).trans ((Below.refl _ w2).alloc (by omega) _)).trans (below_of_grown hg4 (by simp; omega) (fun k e => (hO5.top.blk_ge k e).1))
      have HX : Hid (txts (own ++ [⟨A2, c2, r2⟩]) = (txts x0).take (k + 1)) := by
        show _ = _
        rw [HT.out, ← htx.out]
        simp [txts]
      clear hrow5 hO5 hown4 hg4 hown2 hb2 hoR
      go_round
      case rel => exact ⟨k + 1, A4, c4, _, by omega, by go_num, rfl, HX, HN, HB⟩
      case measure => simp [intOf]; omega
    · obtain rfl : k = x0.length := by omega
      have HT : Hid (txts own = txts x0) := by
        have := htx.out
        rwa [← txts_len, List.take_of_length_le (Nat.le_refl _)] at this
      have hO := hown.out
      have hbo := hbr.out
      have HOL := Lib.hid hol
      clear htx hown hbr hlt hol
      go_wp2_with fail
      have hle1 : sumR (txts own) ≤ 4000000 := by rw [HT.out]; have := HS.out; omega
      have hc1 := table_any A1 c1 own wr hO.rd hle1
      rw [HT.out] at hc1
      obtain ⟨q, hq⟩ : ∃ q, q = tableM (txts x0) := ⟨_, rfl⟩
      rw [← hq] at hc1
      have HQ := Lib.hid hq
      clear hq
      (with_reducible refine hc1.mono ?_)
      rintro e w5 ⟨rfl, hb5⟩
      have hs5 := hb5.size
      have b5 := hbo.trans (hb5.mono hbo.size)
      go_wp2_with fail
      have hle2 : sumR (txts x0) ≤ 4000000 := by have := HS.out; omega
      have hc2 := refTable_any a0 c0 _ x0 w5 (w0.below b5) hle2
      rw [← HQ.out] at hc2
      clear hc1
      (with_reducible refine hc2.mono ?_)
      rintro e w6 ⟨rfl, hb6⟩
      have b6 := b5.trans (hb6.mono b5.size)
      have o6 := (hO.below (Nat.le_refl _) hb5).below (Nat.le_refl _) hb6
      obtain ⟨q1, q2⟩ := q
      clear hc2 HQ
      have hr1 := o6.rd
      have hr2 := w0.below b6
      clear hO b5 hb5 hb6 hbo o6
      go_wp2_with fail
      go_loopw [9] (fun i wr => ∃ k : Nat, k ≤ x0.length ∧ i = .int .i64 k ∧ ∃ n, wr = w6.drewN n) (fun i _ => x0.length - (intOf i).toNat)
      case atStart => exact ⟨0, Nat.zero_le _, rfl, 0, rfl⟩
      case round =>
        obtain ⟨k, hk, rfl, n, rfl⟩ := hrel
        by_cases hlt : k < x0.length
        · have hlt2 : k < own.length := by have := HOL.out; omega
          obtain ⟨b, o, rfl, hbb, hc⟩ := hr2.top.at_ hlt
          obtain ⟨b2, o2, rfl, hbb2, hc2⟩ := hr1.top.at_ hlt2
          have hcx := hc k hlt
          have hcy := hc2 k hlt2
          have hrx := hr2.row x0[k] (List.getElem_mem hlt)
          have hry := hr1.row own[k] (List.getElem_mem hlt2)
          have hsm := HRS.out k hlt
          have hl : own[k].l = x0[k].l := by
            have h1 : (txts own)[k]? = (txts x0)[k]? := by rw [HT.out]
            simpa [txts, hlt, hlt2] using h1
          obtain ⟨xA, xc, xl, hx⟩ : ∃ a c l, x0[k] = Rw.mk a c l := ⟨_, _, _, rfl⟩
          obtain ⟨yA, yc, yl, hy⟩ : ∃ a c l, own[k] = Rw.mk a c l := ⟨_, _, _, rfl⟩
          rw [hx] at hcx hrx hsm hl
          rw [hy] at hcy hry hl
          dsimp only at hrx hry hsm hl
          subst hl
          unfold Rw.v at hcx hcy
          have hsame : ∀ m, Calls Try.prog 11 #[.slice yA yl.length yc, .slice xA yl.length xc] (w6.drewN (n + m)) fun e w' => e = .returned (.bool true) ∧ ∃ k, w' = w6.drewN (n + k) := by
            intro m
            have := same_any yA xA yc xc _ _ yl yl (w6.drewN (n + m)) (hry.drewN (n + m)) (hrx.drewN (n + m)) (by omega) (by omega)
            rw [decide_eq_true rfl] at this
            refine this.mono ?_
            rintro e w' ⟨rfl, k, rfl⟩
            exact ⟨rfl, m + k, by rw [World.drewN_drewN, Nat.add_assoc]⟩
          have HSM := Lib.hid hsame
          clear hc hc2 hx hy hrx hry hsame
          go_wp2_with fail
          go_quiet ((exact HSM.out _))
          go_wp2_with fail
          go_round
          case rel => exact ⟨k + 1, by omega, by go_num, _, rfl⟩
          case measure => simp [intOf]; omega
        · go_wp2_with fail
          go_ret
          exact ⟨rfl, b6.trans (below_drewN _ _ _)⟩
end Go.Proofs.Ytnnenhcofibhoaa
