/- The walk of the law OctetSplits. -/
import Derived.Test.YtncccgpjlmelmaaWhole
namespace Go.Proofs.Ytncccgpjlmelmaa
open Go.RowKit
set_option linter.unusedVariables false

/-- '.slice A n c' is a row of bytes of the call's own, whatever it holds. -/
def Row (w : World) (base : Nat) (A : Option Addr) (c n : Nat) : Prop := ∃ xs, w.ownsRow base 5 1 (.slice A n c) n xs
theorem Own.row {w : World} {base c : Nat} {A : Option Addr} {l : List UInt8} (h : Own w base 5 A c l) : Row w base A c l.length := ⟨_, h⟩
theorem Row.setCell {w : World} {base c n : Nat} {A : Option Addr} (h : Row w base A c n) (g j : Nat) (u : Value) : Row (w.setCell ⟨g, j, none⟩ u) base A c n := by
  obtain ⟨xs, h1, h2⟩ := h
  rcases h2 with ⟨hv, hn⟩ | ⟨g', cap, cur, hv, hb, hg, hnc, hcm, hcs, ht⟩
  · exact ⟨xs, h1, .inl ⟨hv, hn⟩⟩
  · by_cases e : g' = g
    · subst e
      refine ⟨(cur.setIfInBounds j u).toList.take (n * 1), ?_, .inr ⟨g', cap, cur.setIfInBounds j u, hv, hb, heap_setCell_same w g' j cur _ u hg, hnc, hcm, by simpa using hcs, rfl⟩⟩
      rw [List.length_take, Array.length_toList, Array.size_setIfInBounds, hcs]
      omega
    · exact ⟨xs, h1, .inr ⟨g', cap, cur, hv, hb, by rw [heap_setCell_other w ⟨g, j, none⟩ g' u e]; exact hg, hnc, hcm, hcs, ht⟩⟩
theorem Row.form {w : World} {base c n : Nat} {A : Option Addr} (h : Row w base A c n) : (A = none ∧ c = 0 ∧ n = 0) ∨ ∃ g, A = some ⟨g, 0, none⟩ ∧ base ≤ g ∧ g < w.heap.size ∧ n ≤ c ∧ c ≤ maxLen := by
  obtain ⟨xs, h1, h2⟩ := h
  rcases h2 with ⟨hv, hn⟩ | ⟨g, cap, cur, hv, hb, hg, hnc, hcm, _⟩
  · simp only [Value.slice.injEq] at hv
    exact .inl ⟨hv.1, hv.2.2, hn⟩
  · simp only [Value.slice.injEq] at hv
    obtain ⟨rfl, _, rfl⟩ := hv
    exact .inr ⟨g, rfl, hb, (Array.getElem?_eq_some_iff.1 hg).1, hnc, hcm⟩
theorem Row.blk_ge {w : World} {base c n : Nat} {A : Option Addr} (h : Row w base A c n) : ∀ k, blk A = some k → base ≤ k ∧ k < w.heap.size := by
  intro k hk
  obtain ⟨xs, hx⟩ := h
  exact World.ownsRow.lt hx k (by rw [own_block]; exact hk)
theorem Row.lower {w : World} {base c n : Nat} {A : Option Addr} (h : Row w base A c n) {b : Nat} (hb : b ≤ base) : Row w b A c n := by
  obtain ⟨xs, h1, h2⟩ := h
  rcases h2 with hn | ⟨g, cap, cur, hv, hbg, r⟩
  · exact ⟨xs, h1, .inl hn⟩
  · exact ⟨xs, h1, .inr ⟨g, cap, cur, hv, Nat.le_trans hb hbg, r⟩⟩

set_option maxHeartbeats 400000 in
theorem spoil_rows (A : Option Addr) (c n base : Nat) (w : World) (hl : n ≤ 200000) (hrow : Row w base A c n) :
    Calls Try.prog 19 #[.slice A n c] w fun e w' => e = .returned (.tuple #[]) ∧ w.grownBy w' (blk A) ∧ ∀ b A' c' n', Row w b A' c' n' → Row w' b A' c' n' := by
  rcases hrow.form with ⟨rfl, rfl, rfl⟩ | ⟨g, rfl, hbg, hg, hcap, hcm⟩
  · go_enter Try.func19, Try.ntmps19
    go_wp2
    refine wp_loop_rounds 1 ?_
    rw [rounds_succ]
    go_wp2
    go_end0
    exact ⟨rfl, World.grownBy.refl _ _, fun _ _ _ _ h => h⟩
  · go_enter Try.func19, Try.ntmps19
    go_wp2
    go_loopw [2] (fun i wr => ∃ k : Nat, k ≤ n ∧ i = .int .i64 k ∧ w.grownBy wr (some g) ∧ Hid (∀ b A' c' n', Row w b A' c' n' → Row wr b A' c' n')) (fun i _ => n - (intOf i).toNat)
    case atStart => exact ⟨0, Nat.zero_le _, rfl, World.grownBy.refl _ _, fun _ _ _ _ h => h⟩
    case round =>
      obtain ⟨k, hk, rfl, hg1, hrows⟩ := hrel
      by_cases hlt : k < n
      · obtain ⟨xs, hxs⟩ := hrows.out _ _ _ _ hrow
        have hfr := hxs.frozenAt k
        have hlx := hxs.1
        obtain ⟨u, hu⟩ : ∃ u, wr.cell? ⟨g, k, none⟩ = some u := ⟨_, (hxs.cellAt k (by omega)).trans (List.getElem?_eq_getElem (show k < xs.length by omega))⟩
        have hst := hxs.stored k (.int .u8 77)
        have HS := Lib.hid hst
        have hrows' : Hid (∀ b A' c' n', Row w b A' c' n' → Row (wr.setCell ⟨g, k, none⟩ (.int .u8 77)) b A' c' n') := fun b A' c' n' h => (hrows.out b A' c' n' h).setCell g k _
        clear hst hlx
        go_wp2_with fail
        go_roundw
        case rel => exact ⟨k + 1, by omega, by go_num, hg1.trans HS.out.2, hrows'⟩
        case measure => simp [intOf]; omega
      · go_wp2
        go_end0
        exact ⟨rfl, hg1, hrows.out⟩

set_option maxRecDepth 100000 in
set_option maxHeartbeats 4000000 in
theorem splits_walk (A A2 : Option Addr) (c c2 : Nat) (b : List UInt8) (xs : List El) (w : World) (hrb : Rd w w.heap.size A2 c2 b) (hr : RdL w w.heap.size A c xs) :
    Calls Try.prog 6 #[.slice A2 b.length c2, .slice A xs.length c] w fun e w' => e = .returned (.bool true) ∧ Below w.heap.size w w' := by
  have hcap := hr.cap
  have hcm := hr.capm
  have hcap2 := hrb.cap
  have hcm2 := hrb.capm
  unfold maxLen at hcm hcm2
  by_cases hbig2 : 20000 < b.length
  · have hi2 : (20000 : Int) < b.length := by omega
    go_enter Try.func6, Try.ntmps6
    go_wp2_with fail
    go_ret
    exact ⟨rfl, Below.refl _ _⟩
  have hi2 : ¬ (20000 : Int) < b.length := by omega
  have hdd : decide ((20000 : Int) < b.length) = false := by simp; omega
  have hdd' : decide (20000 < b.length) = false := by simp; omega
  by_cases hbig : 300 < xs.length
  · have hi : (300 : Int) < xs.length := by omega
    go_enter Try.func6, Try.ntmps6
    go_wp2_with fail
    go_ret
    exact ⟨rfl, Below.refl _ _⟩
  have hi : ¬ (300 : Int) < xs.length := by omega
  have hd : decide ((300 : Int) < xs.length) = false := by simp; omega
  have hd' : decide (300 < xs.length) = false := by simp; omega
  go_enter Try.func6, Try.ntmps6
  go_wp2_with fail
  go_loopw [5, 6] (fun v i wr => ∃ k : Nat, ∃ A' c' ts, k ≤ xs.length ∧ i = .int .i64 k ∧ v = .slice A' ts.length c' ∧ Hid (byts ts = (byts xs).take k) ∧ ts.length ≤ 300 ∧ OwnL wr w.heap.size A' c' ts ∧ Below w.heap.size w wr ∧ Hid (∀ j (h : j < xs.length), j < k → xs[j].l.length ≤ 70000)) (fun _ i _ => xs.length - (intOf i).toNat)
  case atStart => exact ⟨0, none, 0, [], Nat.zero_le _, rfl, rfl, rfl, by simp, OwnL.nil _ _, Below.refl _ _, fun j h h0 => by omega⟩
  case round =>
    obtain ⟨k, A1, c1, ts, hk, rfl, rfl, hts, htl, hown1, hb1, hall⟩ := hrel
    have s1 := hb1.size
    by_cases hlt : k < xs.length
    · obtain ⟨bb, o, rfl, hbb, hc⟩ := hr.at_ hlt
      have hck := (hb1.cell (p := ⟨bb, o + k, none⟩) hbb).trans (hc k hlt)
      have rx := (hr.el xs[k] (List.getElem_mem _)).below hb1
      have hxc := rx.cap
      have hxm := rx.capm
      have htk := byts_take xs k hlt
      unfold maxLen at hxm
      obtain ⟨x, hxk⟩ : ∃ x, x = xs[k] := ⟨_, rfl⟩
      rw [← hxk] at hck hxc hxm rx htk
      unfold El.v at hck
      have HX := Lib.hid hxk
      have HTK := Lib.hid htk
      clear hc hxk htk
      by_cases hlong : 70000 < x.l.length
      · have hli : (70000 : Int) < x.l.length := by omega
        go_wp2_with fail
        go_ret
        exact ⟨rfl, hb1⟩
      · have hli : ¬ (70000 : Int) < x.l.length := by omega
        have hall' : Hid (∀ j (h : j < xs.length), j < k + 1 → xs[j].l.length ≤ 70000) := fun j h hj => by
          rcases Nat.lt_or_ge j k with h1 | h1
          · exact hall.out j h h1
          · obtain rfl : j = k := by omega
            rw [← HX.out]; omega
        have htl' : ts.length ≤ k := by
          have := congrArg List.length hts.out
          rw [byts_len, List.length_take] at this
          omega
        go_wp2_with fail
        refine (twin_any x.A x.c x.l _ (rx.more s1) (by omega)).mono ?_
        rintro e w2 ⟨A2', c2', rfl, hown2, hb2⟩
        have s2 := hb2.size
        have hown1' := hown1.below (Nat.le_refl _) hb2
        have hx2 := hown2.lower s1
        go_wp2_with (at_builtin; refine wpList_append_el w2 rfl _ _ rfl w.heap.size ts ⟨A2', c2', x.l⟩ rfl rfl hown1' hx2 (by omega) (by omega) ?_; intro A3 c3 w3 zs hzs hown3 hg3 hb3)
        have hzs' : Hid (byts zs = (byts xs).take (k + 1)) := by
          show _ = _
          rw [hzs.out, byts_app, hts.out, HTK.out]
          rfl
        have hzl : zs.length ≤ 300 := by rw [hzs.out, List.length_append]; simp; omega
        have hbn : Below w.heap.size w w3 := ((hb1.trans (hb2.mono s1)).alloc (by omega) _).trans (below_of_grown hg3 (by simp; omega) (fun g hg => (hown1.blk_ge g hg).1))
        go_roundw
        case rel => exact ⟨k + 1, A3, c3, zs, by omega, by go_num, rfl, hzs', hzl, hown3, hbn, hall'⟩
        case measure => simp [intOf]; omega
    · have hke : k = xs.length := by omega
      have htx : byts ts = byts xs := by rw [hts.out, List.take_of_length_le (by rw [byts_len]; omega)]
      have hel : ∀ x ∈ xs, x.l.length ≤ 100000 := fun x hx => by
        obtain ⟨j, hj, rfl⟩ := List.getElem_of_mem hx
        have := hall.out j hj (by omega)
        omega
      have helt : ∀ x ∈ ts, x.l.length ≤ 100000 := els_le htx (fun x hx => by
        obtain ⟨y, hy, rfl⟩ := List.mem_map.1 hx
        exact hel y hy)
      have HTX := Lib.hid htx
      have HEL := Lib.hid hel
      have HELT := Lib.hid helt
      clear hke htx hel helt hts
      go_wp2_with fail
      refine (twin_any A2 c2 b _ ((hrb.below hb1).more s1) (by omega)).mono ?_
      rintro e w2 ⟨A3, c3, rfl, hown3, hb2⟩
      have s2 := hb2.size
      have cS := split_any A3 c3 b w2 hown3.rd (by omega)
      have cS' := fun w hr => refSplit_any A2 c2 b w hr (by omega)
      have hcnt := splitM_count b
      generalize splitM b = t at cS cS' hcnt
      obtain ⟨t1, t2⟩ := t
      have HC := Lib.hid hcnt
      have CS := Lib.hid cS
      have CS' := Lib.hid cS'
      clear cS cS' hcnt
      have b2 : Below w.heap.size w w2 := hb1.trans (hb2.mono s1)
      go_wp2_with fail
      refine CS.out.mono ?_
      rintro e w3 ⟨A4, c4, x, rfl, hx, hown4, hb3⟩
      have s3 := hb3.size
      have b3 : Below w.heap.size w w3 := b2.trans (hb3.mono (by omega))
      have hx' : byts x = t1 := hx
      have HX := Lib.hid hx'
      clear hx hx'
      go_wp2_with fail
      refine (CS'.out _ ((hrb.below b3).more (by omega))).mono ?_
      rintro e w4 ⟨A5, c5, y, rfl, hy, hown5, hb4⟩
      have s4 := hb4.size
      have b4 : Below w.heap.size w w4 := b3.trans (hb4.mono (by omega))
      have hy' : byts y = t1 := hy
      have HY := Lib.hid hy'
      clear hy hy'
      have b14 : Below wr.heap.size wr w4 := hb2.trans ((hb3.mono s2).trans (hb4.mono (by omega)))
      have hownT4 := hown1.below (Nat.le_refl _) b14
      have cJ := join_any A1 c1 ts w4 hownT4.rd (by omega) HELT.out
      rw [HTX.out] at cJ
      have cJ' := fun w hr => refJoin_any A c xs w hr (by omega) HEL.out
      have hjl := joinM_len (byts xs)
      generalize joinM (byts xs) = q at cJ cJ' hjl
      obtain ⟨q1, q2⟩ := q
      have CJ := Lib.hid cJ
      have CJ' := Lib.hid cJ'
      clear cJ cJ'
      go_wp2_with fail
      refine CJ.out.mono ?_
      rintro e w5 ⟨A6, c6, r6, rfl, rfl, hown6, hb5⟩
      have s5 := hb5.size
      have b5 : Below w.heap.size w w5 := b4.trans (hb5.mono (by omega))
      go_wp2_with fail
      refine (CJ'.out _ ((hr.below b5).more (by omega))).mono ?_
      rintro e w6 ⟨A7, c7, r7, rfl, rfl, hown7, hb6⟩
      have s6 := hb6.size
      have b6 : Below w.heap.size w w6 := b5.trans (hb6.mono (by omega))
      have hx6 := ((hown4.below (Nat.le_refl _) hb4).below (Nat.le_refl _) hb5).below (Nat.le_refl _) hb6
      have hy6 := (hown5.below (Nat.le_refl _) hb5).below (Nat.le_refl _) hb6
      have hxl : x.length ≤ 16384 := by
        have := congrArg List.length HX.out
        rw [byts_len] at this
        have := HC.out.1
        omega
      have hyl : y.length ≤ 16384 := by
        have := congrArg List.length HY.out
        rw [byts_len] at this
        have := HC.out.1
        omega
      have hS := same_any A4 A5 c4 c5 _ _ x y w6 hx6.rd hy6.rd (by omega) (by omega)
      rw [HX.out, HY.out, decide_eq_true (rfl : t1 = t1)] at hS
      have HS := Lib.hid hS
      clear hS
      go_wp2_with fail
      refine HS.out.mono ?_
      rintro e w' ⟨rfl, nd, rfl⟩
      obtain ⟨w7, hw7⟩ : ∃ w7, w7 = w6.drewN nd := ⟨_, rfl⟩
      have hb7 : Below w6.heap.size w6 w7 := by rw [hw7]; exact ⟨rfl, rfl, rfl, Nat.le_refl _, fun _ _ => rfl⟩
      rw [← hw7]
      clear hw7
      have s7 := hb7.size
      have hp7 := (hown6.below (Nat.le_refl _) hb6).below (Nat.le_refl _) hb7
      have k1 := str_bytes' hp7.rd
      have k2 := str_bytes' (hown7.below (Nat.le_refl _) hb7).rd
      have hx7 := hx6.below (Nat.le_refl _) hb7
      have hrowp := (hp7.row).lower (b := w2.heap.size) (by omega)
      have hrows : Hid (∀ z ∈ x, Row w7 w2.heap.size z.A z.c z.l.length) := fun z hz => (hx7.2 z hz).row
      have hxel : Hid (∀ z ∈ x, z.l.length ≤ 65535) := els_le HX.out HC.out.2
      have b27 : Below w2.heap.size w2 w7 := hb3.trans ((hb4.mono (by omega)).trans ((hb5.mono (by omega)).trans ((hb6.mono (by omega)).trans (hb7.mono (by omega)))))
      have hout7 := hx7.1
      go_wp2_with fail
      go_loopw [17] (fun i wz => ∃ k : Nat, k ≤ x.length ∧ i = .int .i64 k ∧ wz.ownsRow w2.heap.size 22 1 (.slice A4 x.length c4) x.length (x.map El.v) ∧ Hid (∀ z ∈ x, Row wz w2.heap.size z.A z.c z.l.length) ∧ Row wz w2.heap.size A6 c6 r7.length ∧ Below w2.heap.size w2 wz) (fun i _ => x.length - (intOf i).toNat)
      case atStart => exact ⟨0, Nat.zero_le _, rfl, hout7, hrows, hrowp, b27⟩
      case round =>
        obtain ⟨m, hm, rfl, hout, hrw, hrp, hbz⟩ := hrel
        have sz := hbz.size
        by_cases hlt2 : m < x.length
        · obtain ⟨g, hg4⟩ : ∃ g, A4 = some ⟨g, 0, none⟩ := by
            rcases hx7.form with ⟨_, _, h⟩ | ⟨g, h, _⟩
            · rw [h] at hlt2; simp at hlt2
            · exact ⟨g, h⟩
          subst hg4
          have hcm := hout.cellAt m (by omega)
          rw [List.getElem?_map, List.getElem?_eq_getElem hlt2, Option.map_some] at hcm
          have hrz := hrw.out x[m] (List.getElem_mem _)
          have hzl := hxel.out x[m] (List.getElem_mem _)
          obtain ⟨z, hz⟩ : ∃ z, z = x[m] := ⟨_, rfl⟩
          rw [← hz] at hcm hrz hzl
          unfold El.v at hcm
          clear hz
          go_wp2_with fail
          refine (spoil_rows z.A z.c z.l.length w2.heap.size _ (by omega) hrz).mono ?_
          rintro e w8 ⟨rfl, hg8, hrow8⟩
          have hout8 : w8.ownsRow w2.heap.size 22 1 (.slice (some ⟨g, 0, none⟩) x.length c4) x.length (x.map El.v) := by
            obtain ⟨zs, hzs⟩ := hrz
            have hap := rows_apart (by decide) hout hzs
            rw [own_block z.A] at hap
            exact World.ownsRow.kept hout hg8 hap
          have hrw8 : Hid (∀ z ∈ x, Row w8 w2.heap.size z.A z.c z.l.length) := fun z hz => hrow8 _ _ _ _ (hrw.out z hz)
          have hrp8 := hrow8 _ _ _ _ hrp
          have hbz8 : Below w2.heap.size w2 w8 := hbz.trans (below_of_grown hg8 sz (fun k hk => (hrz.blk_ge k hk).1))
          have HR8 := Lib.hid hrow8
          clear hrow8
          go_wp2_with fail
          go_roundw
          case rel => exact ⟨m + 1, by omega, by go_num, hout8, hrw8, hrp8, hbz8⟩
          case measure => simp [intOf]; omega
        · go_wp2_with fail
          refine (spoil_rows A6 c6 r7.length w2.heap.size _ (by omega) hrp).mono ?_
          rintro e w8 ⟨rfl, hg8, hrow8⟩
          have hbz8 : Below w2.heap.size w2 w8 := hbz.trans (below_of_grown hg8 sz (fun k hk => (hrp.blk_ge k hk).1))
          have b8 : Below w.heap.size w w8 := b2.trans (hbz8.mono (by omega))
          have k3 := str_bytes' (hown3.below (Nat.le_refl _) hbz8).rd
          have k4 := str_bytes' (hrb.below b8)
          have hownT8 := (hown1.below (Nat.le_refl _) hb2).below (Nat.le_refl _) hbz8
          have hS2 := same_any A1 A c1 c _ _ ts xs w8 hownT8.rd (hr.below b8) (by omega) (by omega)
          rw [HTX.out, decide_eq_true (rfl : byts xs = byts xs)] at hS2
          have HS2 := Lib.hid hS2
          have HR8 := Lib.hid hrow8
          clear hrow8 hS2 k1 k2
          go_wp2_with fail
          refine HS2.out.mono ?_
          rintro e w' ⟨rfl, nd2, rfl⟩
          go_wp2_with fail
          go_ret
          exact ⟨rfl, b8.trans ⟨rfl, rfl, rfl, Nat.le_refl _, fun _ _ => rfl⟩⟩
end Go.Proofs.Ytncccgpjlmelmaa
