/- The reference's addition, products, comparison, Word, Of. -/
import Derived.Test.YtefoccjphbbmhaaMc
import Derived.Deep.LoopGhost
import Derived.Test.YtefoccjphbbmhaaRow
namespace Go.Proofs.Ytefoccjphbbmhaa
open Go.RowKit
set_option linter.unusedVariables false

set_option maxHeartbeats 400000 in
theorem rboth_any (A1 A2 : Option Addr) (c1 c2 B1 B2 : Nat) (a b : List UInt32) (w : World) (hr1 : Rf uv w B1 A1 c1 a) (hr2 : Rf uv w B2 A2 c2 b) :
    Calls Try.prog 61 #[.slice A1 a.length c1, .slice A2 b.length c2] w fun e w' => e = .returned (.int .i64 (chk2 a b)) ∧ w = w' := by
  by_cases h : chk a = 0
  · have HC := Lib.hid (show chk2 a b = chk b by unfold chk2; rw [if_pos h])
    have HA := Lib.hid h
    clear h
    go_enter Try.func61, Try.ntmps61
    go_wp2_with fail
    refine (rcheck_any A1 c1 B1 a w hr1).mono ?_
    rintro e w' ⟨rfl, rfl⟩
    rw [HA.out]
    go_wp2_with fail
    refine (rcheck_any A2 c2 B2 b w hr2).mono ?_
    rintro e w' ⟨rfl, rfl⟩
    go_wp2_with fail
    go_ret
    exact ⟨by rw [HC.out]; rfl, rfl⟩
  · have HC := Lib.hid (show chk2 a b = chk a by unfold chk2; rw [if_neg h])
    have hb : (chk a != 0) = true := by simpa using h
    clear h
    go_enter Try.func61, Try.ntmps61
    go_wp2_with fail
    refine (rcheck_any A1 c1 B1 a w hr1).mono ?_
    rintro e w' ⟨rfl, rfl⟩
    go_wp2_with fail
    go_ret
    exact ⟨by rw [HC.out]; rfl, rfl⟩

set_option maxHeartbeats 1000000 in
theorem rless_any (A1 A2 : Option Addr) (c1 c2 B1 B2 : Nat) (m n : Nat) (w : World) (hr1 : Rf uv w B1 A1 c1 (limbs m)) (hr2 : Rf uv w B2 A2 c2 (limbs n)) (h1 : (limbs m).length ≤ 1000000) (h2 : (limbs n).length ≤ 1000000) :
    Calls Try.prog 71 #[.slice A1 (limbs m).length c1, .slice A2 (limbs n).length c2] w fun e w' => e = .returned (.bool (decide (m < n))) ∧ ∃ q, w' = w.drewN q := by
  by_cases hlen : (limbs m).length = (limbs n).length
  · obtain ⟨L, hL⟩ : ∃ L, L = limbs m := ⟨_, rfl⟩
    obtain ⟨M, hM⟩ : ∃ M, M = limbs n := ⟨_, rfl⟩
    rw [← hL] at hr1 h1 hlen ⊢
    rw [← hM] at hr2 h2 hlen ⊢
    have hvm : val L = m := by rw [hL, val_limbs]
    have hvn : val M = n := by rw [hM, val_limbs]
    rw [← hvm, ← hvn]
    have HLen := Lib.hid hlen
    have hle1 : L.length ≤ M.length := Nat.le_of_eq hlen
    have hle2 : M.length ≤ L.length := Nat.le_of_eq hlen.symm
    rw [← hlen]
    have hcap := hr1.cap
    have hcap2 := hr2.cap
    have hcm := hr1.capm
    unfold maxLen at hcm
    clear hL hM hvm hvn hlen
    go_enter Try.func71, Try.ntmps71
    go_wp2_with fail
    go_loopw [5] (fun i wr => ∃ k q : Nat, k ≤ L.length ∧ i = .int .i64 ((k : Int) - 1) ∧ Hid (L.drop k = M.drop k) ∧ Hid (wr = w.drewN q)) (fun i _ => (intOf i + 1).toNat)
    case atStart => exact ⟨L.length, 0, Nat.le_refl _, rfl, (show L.drop L.length = M.drop L.length by rw [List.drop_of_length_le (Nat.le_refl _), List.drop_of_length_le (by omega)]), rfl⟩
    case round =>
      obtain ⟨k, q, hk, rfl, hd, hw⟩ := hrel
      by_cases h0 : k = 0
      · subst h0
        have HZ := Lib.hid (show decide (val L < val M) = false by have e := hd.out; simp at e; rw [e]; simp)
        go_wp2_with fail
        go_ret
        exact ⟨by rw [HZ.out]; rfl, q, hw.out⟩
      · obtain ⟨j, rfl⟩ : ∃ j, k = j + 1 := ⟨k - 1, by omega⟩
        have hj : j < L.length := by omega
        have hj2 : j < M.length := by omega
        obtain ⟨b1, o1, rfl, hb1, hc1⟩ := hr1.at_ hj
        obtain ⟨b2, o2, rfl, hb2, hc2⟩ := hr2.at_ hj2
        have hcj1 := hc1 j hj
        have hcj2 := hc2 j hj2
        unfold uv at hcj1 hcj2
        obtain rfl := hw.out
        have hi0 : (0 : Int) ≤ (j : Int) := by omega
        have hi1 : (j : Int) < (L.length : Int) := by omega
        have hi2 : (j : Int) < (M.length : Int) := by omega
        clear hc1 hc2
        by_cases hx : L[j] = M[j]
        · have HN : Hid (L.drop j = M.drop j) := by
            show L.drop j = M.drop j
            rw [List.drop_eq_getElem_cons hj, List.drop_eq_getElem_cons hj2, hd.out, hx]
          have HX : ((((L[j]).toNat : Int)) != ((M[j]).toNat : Int)) = false := by rw [hx]; simp
          clear hx
          go_wp2_with fail
          go_quiet (fail)
          go_wp2_with fail
          go_roundw
          case rel => exact ⟨j, q + nq, by omega, by go_num, HN, by simp [Hid]⟩
          case measure => simp [intOf]
        · have hx2 : (L[j]).toNat ≠ (M[j]).toNat := fun e => hx (u32_eq e)
          have HC := Lib.hid (show decide (val L < val M) = decide ((L[j]).toNat < (M[j]).toNat) by
            by_cases hlt : (L[j]).toNat < (M[j]).toNat
            · rw [decide_eq_true hlt, decide_eq_true (val_drop_lt hj HLen.out hd.out hlt)]
            · have := val_drop_lt hj2 HLen.out.symm hd.out.symm (show (M[j]).toNat < (L[j]).toNat by omega)
              rw [decide_eq_false hlt, decide_eq_false (by omega)])
          have HX : ((((L[j]).toNat : Int)) != ((M[j]).toNat : Int)) = true := by simp; omega
          clear hx hx2
          go_wp2_with fail
          go_quiet (fail)
          go_wp2_with fail
          go_quiet (fail)
          go_wp2_with fail
          go_ret
          rw [HC.out]
          refine ⟨?_, _, by rw [World.drewN_drewN, World.drewN_drewN]⟩
          simp
  · have h3 : (((limbs m).length : Int) != ((limbs n).length : Int)) = true := by simp; omega
    have HC := Lib.hid (show decide (m < n) = decide ((limbs m).length < (limbs n).length) by
      by_cases hlt : (limbs m).length < (limbs n).length
      · rw [decide_eq_true hlt, decide_eq_true (val_lt_of_len hlt)]
      · have := val_lt_of_len (show (limbs n).length < (limbs m).length by omega)
        rw [decide_eq_false hlt, decide_eq_false (by omega)])
    clear hlen
    go_enter Try.func71, Try.ntmps71
    go_wp2_with fail
    go_ret
    refine ⟨?_, 0, rfl⟩
    rw [HC.out]
    simp
set_option maxHeartbeats 400000 in
theorem rat_any (A : Option Addr) (c B : Nat) (xs : List UInt32) (i : Nat) (w : World) (hr : Rf uv w B A c xs) (hi : i ≤ 4000000000) : Calls Try.prog 77 #[.slice A xs.length c, .int .i64 i] w fun e w' => e = .returned (.int .u64 (lat xs i)) ∧ w = w' := by
  by_cases h : i < xs.length
  · have e := lat_in h
    obtain ⟨b, o, rfl, hb, hc⟩ := hr.at_ h
    have hci := hc i h
    unfold uv at hci
    have hxl := u32_lt xs[i]
    obtain ⟨x, hx⟩ : ∃ x, x = (xs[i]).toNat := ⟨_, rfl⟩
    rw [← hx] at hci hxl e
    have hd : decide (xs.length ≤ i) = false := by simp; omega
    have HE := Lib.hid e
    clear e hc hx
    go_enter Try.func77, Try.ntmps77
    go_wp2_with fail
    go_ret
    exact ⟨by rw [HE.out]; rfl, rfl⟩
  · have e := lat_out (m := xs) (i := i) (by omega)
    have HE := Lib.hid e
    clear e
    go_enter Try.func77, Try.ntmps77
    go_wp2_with fail
    go_ret
    exact ⟨by rw [HE.out]; rfl, rfl⟩

theorem rat_n (A : Option Addr) (n c B : Nat) (xs : List UInt32) (i v : Nat) (w : World) (hr : Rf uv w B A c xs) (hn : n = xs.length) (hi : i ≤ 4000000000) (hv : lat xs i = v) : Calls Try.prog 77 #[.slice A n c, .int .i64 i] w fun e w' => e = .returned (.int .u64 v) ∧ w = w' := by
  subst hn hv
  exact rat_any A c B xs i w hr hi
/-- A limb behind a list that the call owns. -/
theorem ro_one (w : World) (x : UInt32) (v : Int) (hv : v = (x.toNat : Int)) : Rf uv (w.alloc (.cells #[.int .u32 v] 55)) (w.heap.size + 1) (some ⟨w.heap.size, 0, none⟩) 1 [x] := by
  subst hv
  exact rf_one (f := uv) w x 55
theorem ow_below {w w' : World} {base c : Nat} {A : Option Addr} {l : List UInt32} (h : Ow uv w base 55 A c l) (hw : Below base w w') : True := trivial
/-- What stands behind an append of one limb. -/
theorem push_grown {w wr w2 : World} {A A2 : Option Addr} {o : Obj} (hg1 : w.grownBy wr none) (hb1 : ∀ g, blk A = some g → w.heap.size ≤ g) (hg2 : (wr.alloc o).grownBy w2 (blk A)) (hb2 : blk A2 = blk A ∨ blk A2 = some (wr.alloc o).heap.size) :
    w.grownBy w2 none ∧ ∀ g, blk A2 = some g → w.heap.size ≤ g := by
  refine ⟨grown_step' (hg1.trans (World.grownBy_alloc _ _ _)) hg2 (fun g hg => .inr (hb1 g hg)), fun g hg => ?_⟩
  rcases hb2 with e | e
  · exact hb1 g (e ▸ hg)
  · rw [e] at hg
    have h1 := Option.some.inj hg
    have := hg1.size
    simp at h1
    omega
theorem below_of_none {w w2 : World} (h : w.grownBy w2 none) : Below w.heap.size w w2 := below_of_grown h (Nat.le_refl _) (by simp)

set_option maxRecDepth 100000 in
set_option maxHeartbeats 1000000 in
theorem rtrim_any (A : Option Addr) (c n : Nat) (L : List UInt32) (w : World) (hr : Rf uv w w.heap.size A c L) (hl : L.length ≤ 1000000) (hn : L.length = n) :
    Calls Try.prog 73 #[.slice A n c] w fun e w' => NumP w w' (limbs (val L)) e := by
  subst hn
  obtain ⟨i0, hi, hz0, hz1, hz2⟩ := info_parts uInfo
  have hro := (hr.alloc (Nat.le_refl _) (.cells #[] 55))
  have hoz := ow_zero (f := uv) w 55 w.heap.size (Nat.le_refl _)
  go_enter Try.func73, Try.ntmps73
  go_wp2_with (at_builtin; refine wpList_append_f _ uv_one rfl _ _ 25 rfl w.heap.size 55 4 i0 _ Try.underlying25 hi hz0 hz1 hz2 (by decide) rfl [] L rfl rfl hoz hro (by simp; omega) (by simp) ?_; intro A2 c2 w2 r2 hr2 hown2 hg2 hb2)
  have e2 : r2 = L := by have := hr2.out; simpa using this
  subst e2
  have hBL : Below w.heap.size w w2 := (below_new w _).trans (below_of_grown hg2 (by simp) (by simp [blk]))
  have HBL := Lib.hid hBL
  have hrd := hown2.rd
  have hcap := hrd.cap
  have hcm := hrd.capm
  unfold maxLen at hcm
  have HRD := Lib.hid hrd
  clear hr2 hg2 hb2 hBL hro hoz
  go_loop [3] (fun v => ∃ k : Nat, k ≤ r2.length ∧ v = .slice A2 k c2 ∧ Hid (val r2 = val (r2.take k))) (fun v => match v with | .slice _ n _ => n | _ => 0)
  case atStart => exact ⟨r2.length, Nat.le_refl _, rfl, (val_take_len r2).symm⟩
  case round =>
    obtain ⟨k, hk, rfl, hv⟩ := hrel
    by_cases h0 : k = 0
    · subst h0
      have HZ := Lib.hid (show limbs (val r2) = [] by rw [hv.out]; exact limbs_zero)
      go_wp2_with fail
      go_ret
      rw [HZ.out]
      refine ⟨A2, c2, rfl, ?_, HBL.out⟩
      exact ⟨by simp, HRD.out.capm, HRD.out.nil, fun ad e j hj => by simp at hj⟩
    · obtain ⟨j, rfl⟩ : ∃ j, k = j + 1 := ⟨k - 1, by omega⟩
      have hj : j < r2.length := by omega
      obtain ⟨b, o, rfl, hb, hc⟩ := HRD.out.at_ hj
      have hcj := hc j hj
      unfold uv at hcj
      have HV := val_take_succ hj
      by_cases hx : r2[j] = 0
      · have HN : Hid (val r2 = val (r2.take j)) := by
          show val r2 = _
          rw [hv.out, HV, hx]; simp
        have HX : ((r2[j]).toNat : Int) = 0 := by rw [hx]; rfl
        rw [HX] at hcj
        clear HV hx hc HX
        go_wp2_with fail
        go_round
        case rel => exact ⟨j, by omega, by simp, HN⟩
        case measure => simp
      · have hx2 : (r2[j]).toNat ≠ 0 := fun e => hx (u32_eq (by rw [e]; rfl))
        have HP := Lib.hid (limbs_prefix r2 (j + 1) hv.out (.inr ⟨j, rfl, hj, hx⟩))
        have HX : (((r2[j]).toNat : Int) == 0) = false := by rw [beq_eq_false_iff_ne]; omega
        clear HV hx hc hx2
        go_wp2_with fail
        go_ret
        rw [HP.out]
        have hlen : (r2.take (j + 1)).length = j + 1 := by rw [List.length_take]; omega
        refine ⟨some ⟨b, o, none⟩, c2, by rw [hlen]; rfl, ?_, HBL.out⟩
        have e3 := HRD.out.trim
        rw [HP.out] at e3
        exact ⟨by rw [hlen]; omega, HRD.out.capm, HRD.out.nil, e3.cell⟩

theorem plus_step {r a b : List UInt32} {k cr x y : Nat} {t : UInt32} (hl : r.length = k) (hv : val r + bp k * cr = val (a.take k) + val (b.take k)) (hx : lat a k = x) (hy : lat b k = y) (ht : t.toNat = (x + y + cr) % 4294967296) :
    val (r ++ [t]) + bp (k + 1) * ((x + y + cr) / 4294967296) = val (a.take (k + 1)) + val (b.take (k + 1)) := by
  rw [val_snoc, hl, val_take_lat, val_take_lat, hx, hy, bp_succ, ht]
  exact add_round hv (by omega)
set_option maxRecDepth 100000 in
set_option maxHeartbeats 2000000 in
theorem rplus_any (A1 A2 : Option Addr) (c1 c2 n1 n2 : Nat) (a b : List UInt32) (w : World) (hr1 : Rf uv w w.heap.size A1 c1 a) (hr2 : Rf uv w w.heap.size A2 c2 b) (h1 : a.length = n1) (h2 : b.length = n2) (hl1 : n1 ≤ 10000) (hl2 : n2 ≤ 10000) :
    Calls Try.prog 62 #[.slice A1 n1 c1, .slice A2 n2 c2] w fun e w' => NumP w w' (limbs (val a + val b)) e := by
  obtain ⟨i0, hi, hz0, hz1, hz2⟩ := info_parts uInfo
  have HN1 := Lib.hid h1
  have HN2 := Lib.hid h2
  clear h1 h2
  go_enter Try.func62, Try.ntmps62
  go_wp2_with fail
  go_loopw [5, 6, 7] (fun v x i wr => ∃ k cr : Nat, ∃ (A : Option Addr) (c : Nat) (r : List UInt32), i = .int .i64 k ∧ x = .int .u64 cr ∧ v = .slice A r.length c ∧ cr ≤ 1 ∧ k ≤ n1 + n2 + 1 ∧ r.length ≤ k ∧ Hid (r.length = k) ∧ (0 < cr → k ≤ n1 + n2) ∧ Hid (cr = 0 ∨ k ≤ n1 ∨ k ≤ n2) ∧ Hid (val r + bp k * cr = val (a.take k) + val (b.take k)) ∧ Hid (Ow uv wr w.heap.size 55 A c r) ∧ Hid (w.grownBy wr none))
    (fun _ _ i _ => n1 + n2 + 2 - (intOf i).toNat)
  case atStart => exact ⟨0, 0, none, 0, [], rfl, rfl, rfl, by omega, by omega, by simp, rfl, by omega, .inl rfl, (by simp [val_nil, bp_zero, Hid]), Ow.nil _ _ _, grown_refl _ _⟩
  case round =>
    obtain ⟨k, cr, A, c, r, rfl, rfl, rfl, hcr, hk, hrk, hrl, hcz, hor, hv, ho, hg⟩ := hrel
    have hb1 := ho.out.blk_ge
    by_cases hgo : k < n1 ∨ k < n2 ∨ 0 < cr
    · have hra := hr1.below (below_of_none hg.out)
      have hrb := hr2.below (below_of_none hg.out)
      have hxl := lat_lt a k
      have hyl := lat_lt b k
      obtain ⟨x, hx⟩ : ∃ x, lat a k = x := ⟨_, rfl⟩
      obtain ⟨y, hy⟩ : ∃ y, lat b k = y := ⟨_, rfl⟩
      rw [hx] at hxl
      rw [hy] at hyl
      obtain ⟨t, ht⟩ : ∃ t, t = UInt32.ofNat ((x + y + cr) % 4294967296) := ⟨_, rfl⟩
      have htv : ((x : Int) + (y : Int) + (cr : Int)) % 4294967296 = (t.toNat : Int) := by rw [ht, u32_of _ (by omega)]; omega
      have HS := Lib.hid (plus_step (t := t) hrl.out hv.out hx hy (by rw [ht, u32_of _ (by omega)]))
      have hcz2 : 0 < (x + y + cr) / 4294967296 → k + 1 ≤ n1 + n2 := by
        intro h
        have hx0 : n1 ≤ k → x = 0 := fun hh => by rw [← hx, lat_out (by have := HN1.out; omega)]
        have hy0 : n2 ≤ k → y = 0 := fun hh => by rw [← hy, lat_out (by have := HN2.out; omega)]
        rcases Nat.lt_or_ge k n1 with h3 | h3
        · rcases Nat.lt_or_ge k n2 with h4 | h4
          · omega
          · have := hy0 h4; omega
        · have := hx0 h3
          rcases Nat.lt_or_ge k n2 with h4 | h4
          · omega
          · have := hy0 h4; omega
      have hor2 : Hid ((x + y + cr) / 4294967296 = 0 ∨ k + 1 ≤ n1 ∨ k + 1 ≤ n2) := by
        rcases Nat.lt_or_ge k n1 with h3 | h3
        · exact .inr (.inl h3)
        · rcases Nat.lt_or_ge k n2 with h4 | h4
          · exact .inr (.inr h4)
          · left
            have hx0 : x = 0 := by rw [← hx, lat_out (by have := HN1.out; omega)]
            have hy0 : y = 0 := by rw [← hy, lat_out (by have := HN2.out; omega)]
            omega
      have hkn : k ≤ n1 + n2 := by
        rcases hgo with h | h | h
        · omega
        · omega
        · exact hcz h
      have HX := Lib.hid hx
      have HY := Lib.hid hy
      have HTV := Lib.hid htv
      have hro := ro_one wr t (((x : Int) + (y : Int) + (cr : Int)) % 4294967296) htv
      have HRO := Lib.hid hro
      have hrk4 : r.length ≤ 30000 := by omega
      have hbz := hg.out.size
      have HA1 := HN1.out.symm
      clear hx hy ht htv hro HA1
      by_cases t1 : k < n1
      · have t1d : decide (k < n1) = true := by simpa using t1
        go_wp2_with (first | (go_at_call 77; (with_reducible refine (rat_n A1 n1 _ _ a k x _ hra HN1.out.symm (by omega) HX.out).mono ?_); rintro e w' ⟨rfl, rfl⟩) | (go_at_call 77; (with_reducible refine (rat_n A2 n2 _ _ b k y _ hrb HN2.out.symm (by omega) HY.out).mono ?_); rintro e w' ⟨rfl, rfl⟩) | (at_builtin; refine wpList_append_f _ uv_one rfl _ _ 25 rfl w.heap.size 55 4 i0 _ Try.underlying25 hi hz0 hz1 hz2 (by decide) rfl r [t] rfl rfl (ho.out.alloc _) HRO.out (by simp; omega) (by simp; omega) ?_; intro A3 c3 w3 r3 hr3 ho3 hg3 hb3))
        have hpg := push_grown hg.out (fun g hg => (hb1 g hg).1) hg3 hb3
        have hr4 := hr3.out
        have HS3 := Lib.hid (show val r3 + bp (k + 1) * ((x + y + cr) / 4294967296) = val (a.take (k + 1)) + val (b.take (k + 1)) by rw [hr4]; exact HS.out)
        have hl3 : r3.length ≤ k + 1 := by rw [hr4]; simp; omega
        have HL3 := Lib.hid (show r3.length = k + 1 by rw [hr4, List.length_append, hrl.out]; rfl)
        clear hr4
        go_roundw
        case rel => exact ⟨k + 1, (x + y + cr) / 4294967296, A3, c3, r3, by go_num, by go_num, rfl, by omega, by omega, hl3, HL3, hcz2, hor2, HS3, ho3, hpg.1⟩
        case measure => simp [intOf]; omega
      · have t1d : decide (k < n1) = false := by simpa using t1
        by_cases t2 : k < n2
        · have t2d : decide (k < n2) = true := by simpa using t2
          go_wp2_with (first | (go_at_call 77; (with_reducible refine (rat_n A1 n1 _ _ a k x _ hra HN1.out.symm (by omega) HX.out).mono ?_); rintro e w' ⟨rfl, rfl⟩) | (go_at_call 77; (with_reducible refine (rat_n A2 n2 _ _ b k y _ hrb HN2.out.symm (by omega) HY.out).mono ?_); rintro e w' ⟨rfl, rfl⟩) | (at_builtin; refine wpList_append_f _ uv_one rfl _ _ 25 rfl w.heap.size 55 4 i0 _ Try.underlying25 hi hz0 hz1 hz2 (by decide) rfl r [t] rfl rfl (ho.out.alloc _) HRO.out (by simp; omega) (by simp; omega) ?_; intro A3 c3 w3 r3 hr3 ho3 hg3 hb3))
          have hpg := push_grown hg.out (fun g hg => (hb1 g hg).1) hg3 hb3
          have hr4 := hr3.out
          have HS3 := Lib.hid (show val r3 + bp (k + 1) * ((x + y + cr) / 4294967296) = val (a.take (k + 1)) + val (b.take (k + 1)) by rw [hr4]; exact HS.out)
          have hl3 : r3.length ≤ k + 1 := by rw [hr4]; simp; omega
          have HL3 := Lib.hid (show r3.length = k + 1 by rw [hr4, List.length_append, hrl.out]; rfl)
          clear hr4
          go_roundw
          case rel => exact ⟨k + 1, (x + y + cr) / 4294967296, A3, c3, r3, by go_num, by go_num, rfl, by omega, by omega, hl3, HL3, hcz2, hor2, HS3, ho3, hpg.1⟩
          case measure => simp [intOf]; omega
        · have t2d : decide (k < n2) = false := by simpa using t2
          have t3 : 0 < cr := by omega
          have t3i : (0 : Int) < (cr : Int) := by omega
          go_wp2_with (first | (go_at_call 77; (with_reducible refine (rat_n A1 n1 _ _ a k x _ hra HN1.out.symm (by omega) HX.out).mono ?_); rintro e w' ⟨rfl, rfl⟩) | (go_at_call 77; (with_reducible refine (rat_n A2 n2 _ _ b k y _ hrb HN2.out.symm (by omega) HY.out).mono ?_); rintro e w' ⟨rfl, rfl⟩) | (at_builtin; refine wpList_append_f _ uv_one rfl _ _ 25 rfl w.heap.size 55 4 i0 _ Try.underlying25 hi hz0 hz1 hz2 (by decide) rfl r [t] rfl rfl (ho.out.alloc _) HRO.out (by simp; omega) (by simp; omega) ?_; intro A3 c3 w3 r3 hr3 ho3 hg3 hb3))
          have hpg := push_grown hg.out (fun g hg => (hb1 g hg).1) hg3 hb3
          have hr4 := hr3.out
          have HS3 := Lib.hid (show val r3 + bp (k + 1) * ((x + y + cr) / 4294967296) = val (a.take (k + 1)) + val (b.take (k + 1)) by rw [hr4]; exact HS.out)
          have hl3 : r3.length ≤ k + 1 := by rw [hr4]; simp; omega
          have HL3 := Lib.hid (show r3.length = k + 1 by rw [hr4, List.length_append, hrl.out]; rfl)
          clear hr4
          go_roundw
          case rel => exact ⟨k + 1, (x + y + cr) / 4294967296, A3, c3, r3, by go_num, by go_num, rfl, by omega, by omega, hl3, HL3, hcz2, hor2, HS3, ho3, hpg.1⟩
          case measure => simp [intOf]; omega
    · have t1d : decide (k < n1) = false := by simp; omega
      have t2d : decide (k < n2) = false := by simp; omega
      have hc0 : cr = 0 := by omega
      subst hc0
      have hval : val r = val a + val b := by
        have e := hv.out
        rw [val_take_ge (by have := HN1.out; omega), val_take_ge (by have := HN2.out; omega)] at e
        omega
      have HVAL := Lib.hid hval
      have HRD := Lib.hid (show Rf uv wr wr.heap.size A c r from ho.out.rd)
      have hrk4 : r.length ≤ 30000 := by omega
      clear hval
      go_wp2_with fail
      (with_reducible refine (rtrim_any A c r.length r wr HRD.out (by omega) rfl).mono ?_)
      rintro e w5 ⟨A5, c5, rfl, h5, hb5⟩
      have H5 := Lib.hid h5
      have HB5 := Lib.hid ((below_of_none hg.out).trans (hb5.mono hg.out.size))
      clear h5 hb5
      go_wp2_with fail
      go_ret
      rw [← HVAL.out]
      exact ⟨A5, c5, rfl, H5.out, HB5.out⟩

theorem minus_step {r a b : List UInt32} {k bo x y z : Nat} {t : UInt32} (hl : r.length = k) (hv : val r + val (b.take k) = val (a.take k) + bp k * bo) (hx : lat a k = x) (hy : lat b k = y) (hxl : x < 4294967296) (hyl : y < 4294967296) (hb : bo ≤ 1) (hz : z = x + 4294967296 - y - bo) (ht : t.toNat = z % 4294967296) :
    val (r ++ [t]) + val (b.take (k + 1)) = val (a.take (k + 1)) + bp (k + 1) * (1 - z / 4294967296) ∧ z / 4294967296 ≤ 1 := by
  refine ⟨?_, by omega⟩
  rw [val_snoc, hl, val_take_lat, val_take_lat, hx, hy, bp_succ, ht]
  have h := sub_round (v := val r) (b1 := val (a.take k)) (b2 := val (b.take k)) (p := bp k) (l := x) (m := y) (t := 1) (s := z % 4294967296) (o := bo) (o' := 1 - z / 4294967296) (by omega) (by omega)
  rw [Nat.mul_one] at h
  exact h
set_option maxRecDepth 100000 in
set_option maxHeartbeats 2000000 in
theorem rminus_any (A1 A2 : Option Addr) (c1 c2 n1 n2 : Nat) (a b : List UInt32) (w : World) (hr1 : Rf uv w w.heap.size A1 c1 a) (hr2 : Rf uv w w.heap.size A2 c2 b) (h1 : a.length = n1) (h2 : b.length = n2) (hl1 : n1 ≤ 10000) (hl2 : n2 ≤ n1) (hle : Hid (val b ≤ val a)) :
    Calls Try.prog 72 #[.slice A1 n1 c1, .slice A2 n2 c2] w fun e w' => NumP w w' (limbs (val a - val b)) e := by
  obtain ⟨i0, hi, hz0, hz1, hz2⟩ := info_parts uInfo
  have HN1 := Lib.hid h1
  have HN2 := Lib.hid h2
  clear h1 h2
  go_enter Try.func72, Try.ntmps72
  go_wp2_with fail
  go_loopw [5, 6, 7] (fun v x i wr => ∃ k cr : Nat, ∃ (A : Option Addr) (c : Nat) (r : List UInt32), i = .int .i64 k ∧ x = .int .u64 cr ∧ v = .slice A r.length c ∧ cr ≤ 1 ∧ k ≤ n1 ∧ r.length ≤ k ∧ Hid (r.length = k) ∧ Hid (val r + val (b.take k) = val (a.take k) + bp k * cr) ∧ Hid (Ow uv wr w.heap.size 55 A c r) ∧ Hid (w.grownBy wr none))
    (fun _ _ i _ => n1 - (intOf i).toNat)
  case atStart => exact ⟨0, 0, none, 0, [], rfl, rfl, rfl, by omega, by omega, by simp, rfl, (by simp [val_nil, bp_zero, Hid]), Ow.nil _ _ _, grown_refl _ _⟩
  case round =>
    obtain ⟨k, cr, A, c, r, rfl, rfl, rfl, hcr, hk, hrk, hrl, hv, ho, hg⟩ := hrel
    have hb1 := ho.out.blk_ge
    by_cases hlt : k < n1
    · have hra := hr1.below (below_of_none hg.out)
      have hrb := hr2.below (below_of_none hg.out)
      have hxl := lat_lt a k
      have hyl := lat_lt b k
      obtain ⟨x, hx⟩ : ∃ x, lat a k = x := ⟨_, rfl⟩
      obtain ⟨y, hy⟩ : ∃ y, lat b k = y := ⟨_, rfl⟩
      rw [hx] at hxl
      rw [hy] at hyl
      obtain ⟨z, hz⟩ : ∃ z, z = x + 4294967296 - y - cr := ⟨_, rfl⟩
      obtain ⟨t, ht⟩ : ∃ t, t = UInt32.ofNat (z % 4294967296) := ⟨_, rfl⟩
      have hzi : (x : Int) + 4294967296 - (y : Int) - (cr : Int) = (z : Int) := by omega
      have htv : (z : Int) % 4294967296 = (t.toNat : Int) := by rw [ht, u32_of _ (by omega)]; omega
      have HS := Lib.hid (minus_step (t := t) hrl.out hv.out hx hy hxl hyl hcr hz (by rw [ht, u32_of _ (by omega)]))
      have hz1b := HS.out.2
      have hzl : z < 8589934592 := by omega
      have HX := Lib.hid hx
      have HY := Lib.hid hy
      have hro := ro_one wr t ((z : Int) % 4294967296) htv
      have HRO := Lib.hid hro
      have hrk4 : r.length ≤ 30000 := by omega
      have hbz := hg.out.size
      clear hx hy ht htv hro hz
      go_wp2_with (first | (go_at_call 77; (with_reducible refine (rat_n A1 n1 _ _ a k x _ hra HN1.out.symm (by omega) HX.out).mono ?_); rintro e w' ⟨rfl, rfl⟩) | (go_at_call 77; (with_reducible refine (rat_n A2 n2 _ _ b k y _ hrb HN2.out.symm (by omega) HY.out).mono ?_); rintro e w' ⟨rfl, rfl⟩) | (at_builtin; refine wpList_append_f _ uv_one rfl _ _ 25 rfl w.heap.size 55 4 i0 _ Try.underlying25 hi hz0 hz1 hz2 (by decide) rfl r [t] rfl rfl (ho.out.alloc _) HRO.out (by simp; omega) (by simp; omega) ?_; intro A3 c3 w3 r3 hr3 ho3 hg3 hb3))
      have hpg := push_grown hg.out (fun g hg => (hb1 g hg).1) hg3 hb3
      have hr4 := hr3.out
      have HS3 := Lib.hid (show val r3 + val (b.take (k + 1)) = val (a.take (k + 1)) + bp (k + 1) * (1 - z / 4294967296) by rw [hr4]; exact HS.out.1)
      have hl3 : r3.length ≤ k + 1 := by rw [hr4]; simp; omega
      have HL3 := Lib.hid (show r3.length = k + 1 by rw [hr4, List.length_append, hrl.out]; rfl)
      clear hr4
      go_roundw
      case rel => exact ⟨k + 1, 1 - z / 4294967296, A3, c3, r3, by go_num, by go_num, rfl, by omega, by omega, hl3, HL3, HS3, ho3, hpg.1⟩
      case measure => simp [intOf]; omega
    · obtain rfl : k = n1 := by omega
      have hval : val r = val a - val b := by
        have e := hv.out
        rw [val_take_ge (m := b) (by have := HN2.out; omega), val_take_ge (m := a) (by have := HN1.out; omega)] at e
        have h3 := val_lt r
        rw [hrl.out] at h3
        have h4 := hle.out
        rcases Nat.eq_zero_or_pos cr with e2 | e2
        · rw [e2] at e; omega
        · have : cr = 1 := by omega
          rw [this] at e; omega
      have HVAL := Lib.hid hval
      have HRD := Lib.hid (show Rf uv wr wr.heap.size A c r from ho.out.rd)
      have hrk4 : r.length ≤ 30000 := by omega
      clear hval
      go_wp2_with fail
      (with_reducible refine (rtrim_any A c r.length r wr HRD.out (by omega) rfl).mono ?_)
      rintro e w5 ⟨A5, c5, rfl, h5, hb5⟩
      have H5 := Lib.hid h5
      have HB5 := Lib.hid ((below_of_none hg.out).trans (hb5.mono hg.out.size))
      clear h5 hb5
      go_wp2_with fail
      go_ret
      rw [← HVAL.out]
      exact ⟨A5, c5, rfl, H5.out, HB5.out⟩

set_option maxRecDepth 100000 in
set_option maxHeartbeats 1000000 in
theorem rword_any (A : Option Addr) (c B : Nat) (a : List UInt32) (w : World) (hr : Rf uv w B A c a) :
    Calls Try.prog 47 #[.slice A a.length c] w fun e w' => e = .returned (.tuple #[.int .u64 (wordM a).1, .int .i64 (wordM a).2]) ∧ w = w' := by
  have hcap := hr.cap
  have hcm := hr.capm
  unfold maxLen at hcm
  by_cases h : chk a = 0
  · by_cases h2 : a.length ≤ 2
    · have HQ := Lib.hid (wordM_ok h h2)
      have HA := Lib.hid h
      have h2d : decide ((2 : Int) < (a.length : Int)) = false := by simp; omega
      clear h
      go_enter Try.func47, Try.ntmps47
      go_wp2_with fail
      refine (rcheck_any A c B a w hr).mono ?_
      rintro e w' ⟨rfl, rfl⟩
      rw [HA.out]
      go_wp2_with fail
      go_loop [5, 6] (fun v i => ∃ k n : Nat, k ≤ a.length ∧ i = .int .i64 ((k : Int) - 1) ∧ v = .int .u64 n ∧ Hid (n = val (a.drop k))) (fun _ i => (intOf i + 1).toNat)
      case atStart => exact ⟨a.length, 0, Nat.le_refl _, rfl, rfl, (show 0 = val (a.drop a.length) by rw [List.drop_of_length_le (Nat.le_refl _)]; rfl)⟩
      case round =>
        obtain ⟨k, n, hk, rfl, rfl, hv⟩ := hrel
        by_cases h0 : k = 0
        · subst h0
          have HV := Lib.hid (show n = val a by have := hv.out; simpa using this)
          go_wp2_with fail
          go_ret2
          rw [HQ.out]
          exact ⟨by rw [← HV.out]; rfl, rfl⟩
        · obtain ⟨j, rfl⟩ : ∃ j, k = j + 1 := ⟨k - 1, by omega⟩
          have hj : j < a.length := by omega
          obtain ⟨b, o, rfl, hb, hc⟩ := hr.at_ hj
          have hcj := hc j hj
          unfold uv at hcj
          have hxl := u32_lt a[j]
          have hnl : n < 4294967296 := by
            have h3 := val_lt (a.drop (j + 1))
            rw [List.length_drop] at h3
            have h4 := bp_mono (show a.length - (j + 1) ≤ 1 by omega)
            rw [bp_one] at h4
            have := hv.out
            omega
          obtain ⟨x, hx⟩ : ∃ x, x = (a[j]).toNat := ⟨_, rfl⟩
          have HN := Lib.hid (show x + 4294967296 * n = val (a.drop j) by rw [val_drop_cons hj, ← hv.out, hx])
          rw [← hx] at hcj hxl
          have hi0 : (0 : Int) ≤ (j : Int) := by omega
          have hi1 : (j : Int) < (a.length : Int) := by omega
          clear hc hx h0
          go_wp2_with fail
          go_round
          case rel => exact ⟨j, x + 4294967296 * n, by omega, by go_num, congrArg (Value.int .u64) (by omega), HN⟩
          case measure => simp [intOf]
    · have HQ := Lib.hid (wordM_great h h2)
      have HA := Lib.hid h
      have h2d : (2 : Int) < (a.length : Int) := by omega
      clear h
      go_enter Try.func47, Try.ntmps47
      go_wp2_with fail
      refine (rcheck_any A c B a w hr).mono ?_
      rintro e w' ⟨rfl, rfl⟩
      rw [HA.out]
      go_wp2_with fail
      go_ret2
      rw [HQ.out]
      exact ⟨rfl, rfl⟩
  · have HQ := Lib.hid (wordM_err h)
    have hb : (chk a != 0) = true := by simpa using h
    clear h
    go_enter Try.func47, Try.ntmps47
    go_wp2_with fail
    refine (rcheck_any A c B a w hr).mono ?_
    rintro e w' ⟨rfl, rfl⟩
    go_wp2_with fail
    go_ret2
    rw [HQ.out]
    exact ⟨rfl, rfl⟩

set_option maxRecDepth 100000 in
set_option maxHeartbeats 1000000 in
theorem rof_any (n : Nat) (w : World) (hn : Hid (n < 18446744073709551616)) :
    Calls Try.prog 55 #[.int .u64 n] w fun e w' => NumP w w' (limbs n) e := by
  obtain ⟨i0, hi, hz0, hz1, hz2⟩ := info_parts uInfo
  have hl2 : (limbs n).length ≤ 2 := limbs_len_le.2 (by rw [show bp 2 = 18446744073709551616 by decide]; exact hn.out)
  go_enter Try.func55, Try.ntmps55
  go_wp2_with fail
  go_loopg [0, 3] n (fun v s0 s3 wr => ∃ (A : Option Addr) (c : Nat) (r : List UInt32), s0 = .int .u64 v ∧ s3 = .slice A r.length c ∧ r.length ≤ 2 ∧ Hid (r ++ limbs v = limbs n) ∧ Hid (Ow uv wr w.heap.size 55 A c r) ∧ Hid (w.grownBy wr none))
  case atStart => exact ⟨none, 0, [], rfl, rfl, by simp, (by simp [Hid]), Ow.nil _ _ _, grown_refl _ _⟩
  case round =>
    obtain ⟨A, c, r, rfl, rfl, hrl, hv, ho, hg⟩ := hrel
    by_cases hg0 : gk = 0
    · subst hg0
      have HR := Lib.hid (show r = limbs n by have := hv.out; rwa [limbs_zero, List.append_nil] at this)
      go_wp2_with fail
      go_ret
      rw [← HR.out]
      exact ⟨A, c, rfl, ho.out.rd, below_of_none hg.out⟩
    · have hgp : (0 : Int) < (gk : Int) := by omega
      obtain ⟨t, ht⟩ : ∃ t, t = UInt32.ofNat (gk % 4294967296) := ⟨_, rfl⟩
      have htv : (gk : Int) % 4294967296 = (t.toNat : Int) := by rw [ht, u32_of _ (by omega)]; omega
      have hcat : r ++ [t] ++ limbs (gk / 4294967296) = limbs n := by
        rw [← hv.out, limbs_pos hg0, ht]; simp
      have HCAT := Lib.hid hcat
      have hl3 : r.length + 1 ≤ 2 := by
        have h3 := congrArg List.length hcat
        simp at h3
        omega
      have hdiv : gk / 4294967296 < gk := by omega
      have hgl : (limbs gk).length ≤ 2 := by
        have h3 := congrArg List.length hv.out
        rw [List.length_append] at h3
        omega
      have hgb : gk < 18446744073709551616 := by
        have h3 := limbs_len_le.1 hgl
        rwa [show bp 2 = 18446744073709551616 by decide] at h3
      have hro := ro_one wr t ((gk : Int) % 4294967296) htv
      have HRO := Lib.hid hro
      have hbz := hg.out.size
      have hb1 := ho.out.blk_ge
      clear ht htv hcat hro hg0 hgl
      go_wp2_with (at_builtin; refine wpList_append_f _ uv_one rfl _ _ 25 rfl w.heap.size 55 4 i0 _ Try.underlying25 hi hz0 hz1 hz2 (by decide) rfl r [t] rfl rfl (ho.out.alloc _) HRO.out (by simp; omega) (by simp; omega) ?_; intro A3 c3 w3 r3 hr3 ho3 hg3 hb3)
      have hpg := push_grown hg.out (fun g hg => (hb1 g hg).1) hg3 hb3
      have HC3 := Lib.hid (show r3 ++ limbs (gk / 4294967296) = limbs n by rw [hr3.out]; exact HCAT.out)
      have hl4 : r3.length ≤ 2 := by rw [hr3.out]; simp; omega
      go_roundg (gk / 4294967296)
      case measure => exact hdiv
      case rel => exact ⟨A3, c3, r3, by go_num, rfl, hl4, HC3, ho3, hpg.1⟩

theorem rless_c (A1 A2 : Option Addr) (c1 c2 n1 n2 B1 B2 m n : Nat) (v : Bool) (w : World) (hr1 : Rf uv w B1 A1 c1 (limbs m)) (hr2 : Rf uv w B2 A2 c2 (limbs n)) (h1 : (limbs m).length = n1) (h2 : (limbs n).length = n2) (hl1 : n1 ≤ 1000000) (hl2 : n2 ≤ 1000000) (hv : decide (m < n) = v) :
    Calls Try.prog 71 #[.slice A1 n1 c1, .slice A2 n2 c2] w fun e w' => e = .returned (.bool v) ∧ Below w.heap.size w w' := by
  subst h1 h2 hv
  refine (rless_any A1 A2 c1 c2 B1 B2 m n w hr1 hr2 hl1 hl2).mono ?_
  rintro e w' ⟨he, q, rfl⟩
  exact ⟨he, below_drewN _ _ _⟩

set_option maxHeartbeats 1000000 in
theorem radd_any (A1 A2 : Option Addr) (c1 c2 : Nat) (a b : List UInt32) (w : World) (hr1 : Rf uv w w.heap.size A1 c1 a) (hr2 : Rf uv w w.heap.size A2 c2 b) :
    Calls Try.prog 40 #[.slice A1 a.length c1, .slice A2 b.length c2] w fun e w' => NumErr w w' (addM a b) e := by
  by_cases h : chk2 a b = 0
  · have HA := Lib.hid h
    have ha := (chk_zero (chk2_zero h).1).1
    have hb := (chk_zero (chk2_zero h).2).1
    obtain ⟨L, hL⟩ : ∃ L, L = limbs (val a + val b) := ⟨_, rfl⟩
    have HL := Lib.hid hL
    by_cases h96 : L.length ≤ 96
    · have HQ := Lib.hid (show addM a b = (L, 0) by rw [addM_ok h, hL, numM_ok (by rw [← hL]; exact h96)])
      have h96d : decide ((96 : Int) < (L.length : Int)) = false := by simp; omega
      clear h hL
      go_enter Try.func40, Try.ntmps40
      go_wp2_with fail
      refine (rboth_any A1 A2 c1 c2 _ _ _ _ w hr1 hr2).mono ?_
      rintro e w' ⟨rfl, rfl⟩
      rw [HA.out]
      go_wp2_with fail
      (with_reducible refine (rplus_any A1 A2 c1 c2 a.length b.length a b w hr1 hr2 rfl rfl (by omega) (by omega)).mono ?_)
      rw [← HL.out]
      rintro e w3 ⟨A3, c3, rfl, hrd, hbl⟩
      have HR3 := Lib.hid hrd
      have HB3 := Lib.hid hbl
      clear hrd hbl
      go_wp2_with fail
      go_ret2
      rw [HQ.out]
      exact ⟨A3, c3, rfl, HR3.out, HB3.out⟩
    · have HQ := Lib.hid (show addM a b = ([], 30) by rw [addM_ok h, numM_great (by rw [← hL]; exact h96)])
      have h96i : (96 : Int) < (L.length : Int) := by omega
      clear h hL
      go_enter Try.func40, Try.ntmps40
      go_wp2_with fail
      refine (rboth_any A1 A2 c1 c2 _ _ _ _ w hr1 hr2).mono ?_
      rintro e w' ⟨rfl, rfl⟩
      rw [HA.out]
      go_wp2_with fail
      (with_reducible refine (rplus_any A1 A2 c1 c2 a.length b.length a b w hr1 hr2 rfl rfl (by omega) (by omega)).mono ?_)
      rw [← HL.out]
      rintro e w3 ⟨A3, c3, rfl, hrd, hbl⟩
      have HB3 := Lib.hid hbl
      clear hrd hbl
      go_wp2_with fail
      go_ret2
      rw [HQ.out]
      exact ⟨none, 0, rfl, Rf.empty _ _, HB3.out⟩
  · have HQ := Lib.hid (addM_err h)
    have hb : (chk2 a b != 0) = true := by simpa using h
    clear h
    go_enter Try.func40, Try.ntmps40
    go_wp2_with fail
    refine (rboth_any A1 A2 c1 c2 _ _ a b w hr1 hr2).mono ?_
    rintro e w' ⟨rfl, rfl⟩
    go_wp2_with fail
    go_ret2
    rw [HQ.out]
    exact numErr_bad w _

theorem ow_of_ub {w : World} {g base n : Nat} {L : List UInt32} (h : Ub w g 55 L) (hb : base ≤ g) (hn : L.length = n) (hm : n ≤ 1000000) : Ow uv w base 55 (some ⟨g, 0, none⟩) n L := by
  subst hn
  refine ⟨by simp, .inr ⟨g, L.length, (L.map uv).toArray, rfl, hb, h, Nat.le_refl _, by unfold maxLen; omega, by simp, by simp [List.take_of_length_le]⟩⟩
theorem row_step {r a : List UInt32} {i k cr y x z : Nat} {t : UInt32} (hl : r.length = i + k) (hv : val r + bp (i + k) * cr = (bp i * val (a.take k)) * y) (hk : k < a.length) (hx : (a[k]).toNat = x) (hz : z = x * y + cr) (ht : t.toNat = z % 4294967296) :
    val (r ++ [t]) + bp (i + (k + 1)) * (z / 4294967296) = (bp i * val (a.take (k + 1))) * y := by
  have e1 : bp (i + (k + 1)) = 4294967296 * bp (i + k) := bp_succ (i + k)
  have e2 : bp i * (val (a.take k) + bp k * x) = bp i * val (a.take k) + bp (i + k) * x := by rw [Nat.mul_add, bp_add, Nat.mul_assoc]
  rw [val_snoc, hl, val_take_succ hk, hx, e1, e2, ht]
  have h := prod_round (v := val r) (b1 := 0) (b2 := bp i * val (a.take k)) (p := bp (i + k)) (l := 0) (m := x) (t := y) (s := z % 4294967296) (c := cr) (c' := z / 4294967296) (by omega) (by omega)
  omega
theorem row_end {r a : List UInt32} {i cr y : Nat} {t : UInt32} (hl : r.length = i + a.length) (hv : val r + bp (i + a.length) * cr = (bp i * val (a.take a.length)) * y) (ht : t.toNat = cr) : val (r ++ [t]) = bp i * (val a * y) := by
  rw [val_snoc, hl, ht, hv, val_take_len, Nat.mul_assoc]

set_option maxRecDepth 100000 in
set_option maxHeartbeats 4000000 in
theorem rmul_good (A1 A2 : Option Addr) (c1 c2 : Nat) (a b LM : List UInt32) (w : World) (hr1 : Rf uv w w.heap.size A1 c1 a) (hr2 : Rf uv w w.heap.size A2 c2 b) (HA : Hid (chk2 a b = 0)) (ha : a.length ≤ 96) (hb : b.length ≤ 96) (HLM : Hid (limbs (val a * val b) = LM)) :
    Calls Try.prog 57 #[.slice A1 a.length c1, .slice A2 b.length c2] w fun e w' => NumErr w w' (mulM a b) e := by
  obtain ⟨i0, hi, hz0, hz1, hz2⟩ := info_parts uInfo
  have HQ := Lib.hid (mulM_ok HA.out)
  go_enter Try.func57, Try.ntmps57
  go_wp2_with fail
  refine (rboth_any A1 A2 c1 c2 _ _ _ _ w hr1 hr2).mono ?_
  rintro e w' ⟨rfl, rfl⟩
  rw [HA.out]
  go_wp2_with fail
  go_loopw [7, 8] (fun v i wr => ∃ (k : Nat) (A : Option Addr) (c : Nat) (r : List UInt32), i = .int .i64 k ∧ v = .slice A r.length c ∧ k ≤ b.length ∧ r.length ≤ 200 ∧ Hid (r = limbs (val a * val (b.take k))) ∧ Hid (Rf uv wr wr.heap.size A c r) ∧ Hid (Below w.heap.size w wr)) (fun _ i _ => b.length - (intOf i).toNat)
  case atStart => exact ⟨0, none, 0, [], rfl, rfl, by omega, by simp, (by simp [val_nil, limbs_zero, Hid]), Rf.empty _ _, Below.refl _ _⟩
  case round =>
    obtain ⟨k, A, c, r, rfl, rfl, hk, hr200, hv, hrd, hbl⟩ := hrel
    obtain ⟨wo, rfl⟩ : ∃ wo, wo = wr := ⟨_, rfl⟩
    by_cases hlt : k < b.length
    · have hra := hr1.below hbl.out
      have hrb := hr2.below hbl.out
      have hbz := hbl.out.size
      obtain ⟨bb, bo, rfl, hbb, hbc⟩ := hrb.at_ hlt
      have hbk := hbc k hlt
      unfold uv at hbk
      have hyl := u32_lt b[k]
      obtain ⟨y, hy⟩ : ∃ y, y = (b[k]).toNat := ⟨_, rfl⟩
      rw [← hy] at hbk hyl
      have HY := Lib.hid hy
      have hk0 : (0 : Int) ≤ (k : Int) := by omega
      have hk1 : (k : Int) < (b.length : Int) := by omega
      clear hbc hy
      go_wp2_with (at_make; refine wpList_make_ub _ rfl _ _ rfl _ k rfl rfl (by omega) (by omega) ?_; intro w1 hu1 hb1 hs1)
      have hO1 : Hid (Ow uv w1 wo.heap.size 55 (some ⟨wo.heap.size, 0, none⟩) k (List.replicate k 0)) := ow_of_ub hu1 (Nat.le_refl _) (by simp) (by omega)
      have HB1 := Lib.hid hb1
      clear hu1
      go_loopw [9, 10, 11] (fun v x j wx => ∃ (kk cr : Nat) (A' : Option Addr) (c' : Nat) (q : List UInt32), v = .slice A' q.length c' ∧ x = .int .u64 cr ∧ j = .int .i64 kk ∧ kk ≤ a.length ∧ cr < 4294967296 ∧ q.length ≤ 200 ∧ Hid (q.length = k + kk) ∧ Hid (val q + bp (k + kk) * cr = (bp k * val (a.take kk)) * y) ∧ Hid (Ow uv wx wo.heap.size 55 A' c' q) ∧ Hid (Below wo.heap.size wo wx)) (fun _ _ j _ => a.length - (intOf j).toNat)
      case atStart => exact ⟨0, 0, some ⟨wo.heap.size, 0, none⟩, k, List.replicate k 0, by simp, rfl, rfl, by omega, by omega, by simp; omega, (by simp [Hid]), (by simp [val_zeros, val_nil, Hid]), hO1, HB1⟩
      case round =>
        obtain ⟨kk, cr, A', c', q, rfl, rfl, rfl, hkk, hcr, hq200, hql, hqv, ho, hbx⟩ := hrel
        have hrax := hra.below (hbx.out.mono hbz)
        have hrbx := hrb.below (hbx.out.mono hbz)
        have hbzx := hbx.out.size
        have ho1 := ho.out.blk_ge
        by_cases hin : kk < a.length
        · obtain ⟨ab, ao, rfl, hab, hac⟩ := hrax.at_ hin
          have hak := hac kk hin
          unfold uv at hak
          obtain ⟨b2, o2, e2, hb2, hbc2⟩ := hrbx.at_ hlt
          have e2' := Option.some.inj e2
          simp only [Addr.mk.injEq] at e2'
          obtain ⟨rfl, rfl, _⟩ := e2'
          have hbk2 := hbc2 k hlt
          unfold uv at hbk2
          rw [← HY.out] at hbk2
          have hxl := u32_lt a[kk]
          obtain ⟨x, hx⟩ : ∃ x, (a[kk]).toNat = x := ⟨_, rfl⟩
          rw [hx] at hak hxl
          obtain ⟨p, hp⟩ : ∃ p, p = x * y := ⟨_, rfl⟩
          have hpl : p ≤ 18446744065119617025 := by rw [hp]; exact mul_le_max hxl hyl
          obtain ⟨z, hz⟩ : ∃ z, z = p + cr := ⟨_, rfl⟩
          have hzl : z < 18446744073709551616 := by omega
          obtain ⟨t, ht⟩ : ∃ t, t = UInt32.ofNat (z % 4294967296) := ⟨_, rfl⟩
          have htv : (z : Int) % 4294967296 = (t.toNat : Int) := by rw [ht, u32_of _ (by omega)]; omega
          have HS := Lib.hid (row_step (z := z) (t := t) hql.out hqv.out hin hx (by rw [hz, hp]) (by rw [ht, u32_of _ (by omega)]))
          have hro := fun (W : World) => ro_one W t ((z : Int) % 4294967296) htv
          have HRO := Lib.hid hro
          have hi0 : (0 : Int) ≤ (kk : Int) := by omega
          have hi1 : (kk : Int) < (a.length : Int) := by omega
          have hp1 : (x : Int) * (y : Int) = (p : Int) := by rw [hp]; simp
          have hp2 : IntKind.u64.wrap (p : Int) = (p : Int) := by rw [IntKind.wrap_u64]; omega
          have hp3 : IntKind.u64.wrap ((p : Int) + (cr : Int)) = (z : Int) := by rw [IntKind.wrap_u64]; omega
          clear hx hp hz ht htv hro hac hbc2 e2
          go_wp2_with fail
          go_quiet (fail)
          clear hp1 hp2 hp3
          have ho2 := ho.out.drewN nq
          go_wp2_with (at_builtin; refine wpList_append_f _ uv_one rfl _ _ 25 rfl wo.heap.size 55 4 i0 _ Try.underlying25 hi hz0 hz1 hz2 (by decide) rfl q [t] rfl rfl (ho2.alloc _) (HRO.out _) (by simp; omega) (by simp; omega) ?_; intro A3 c3 w3 r3 hr3 ho3 hg3 hb3)
          have hr4 := hr3.out
          have HL3 := Lib.hid (show r3.length = k + (kk + 1) by rw [hr4, List.length_append, hql.out]; rfl)
          have HS3 := Lib.hid (show val r3 + bp (k + (kk + 1)) * (z / 4294967296) = (bp k * val (a.take (kk + 1))) * y by rw [hr4]; exact HS.out)
          have hl3 : r3.length ≤ 200 := by
            have := HL3.out
            omega
          have HBX3 := Lib.hid ((hbx.out.trans ((below_drewN _ _ nq).trans ((below_new (wr.drewN nq) _).mono hbzx))).trans (below_of_grown hg3 (by simp; omega) (fun g hg => (ho1 g hg).1)))
          clear hr4 hr3 hg3 hb3
          go_wp2_with fail
          go_roundw
          case rel => exact ⟨kk + 1, z / 4294967296, A3, c3, r3, rfl, by go_num, by go_num, by omega, by omega, hl3, HL3, HS3, ho3, HBX3⟩
          case measure => simp [intOf]; omega
        · obtain rfl : kk = a.length := by omega
          obtain ⟨t, ht⟩ : ∃ t, t = UInt32.ofNat cr := ⟨_, rfl⟩
          have htv : (cr : Int) = (t.toNat : Int) := by rw [ht, u32_of _ hcr]
          have HS := Lib.hid (row_end (t := t) hql.out hqv.out (by rw [ht, u32_of _ hcr]))
          have hro := ro_one wr t (cr : Int) htv
          have HRO := Lib.hid hro
          clear ht htv hro
          go_wp2_with (at_builtin; refine wpList_append_f _ uv_one rfl _ _ 25 rfl wo.heap.size 55 4 i0 _ Try.underlying25 hi hz0 hz1 hz2 (by decide) rfl q [t] rfl rfl (ho.out.alloc _) HRO.out (by simp; omega) (by simp; omega) ?_; intro A3 c3 w3 q3 hr3 ho3 hg3 hb3)
          have hr4 := hr3.out
          have HV3 := Lib.hid (show val q3 = bp k * (val a * y) by rw [hr4]; exact HS.out)
          have hl3 : q3.length ≤ 1000 := by rw [hr4]; simp; omega
          have HBX3 := Lib.hid ((hbx.out.trans ((below_new wr _).mono hbzx)).trans (below_of_grown hg3 (by simp; omega) (fun g hg => (ho1 g hg).1)))
          have HRD3 := Lib.hid (show Rf uv w3 w3.heap.size A3 c3 q3 from ho3.rd)
          have HRR := Lib.hid ((hrd.out.below HBX3.out).more HBX3.out.size)
          have HVN := Lib.hid (show limbs (val r + val q3) = limbs (val a * val (b.take (k + 1))) by
            rw [hv.out, val_limbs, HV3.out, val_take_succ hlt, ← HY.out, Nat.mul_add]
            congr 2
            rw [← Nat.mul_assoc, ← Nat.mul_assoc, Nat.mul_comm (bp k)])
          clear hr4 hr3 hg3 hb3
          go_wp2_with fail
          (with_reducible refine (rplus_any A A3 c c3 r.length q3.length r q3 w3 HRR.out HRD3.out rfl rfl (by omega) (by omega)).mono ?_)
          rw [HVN.out]
          obtain ⟨r9, hr9⟩ : ∃ r9, r9 = limbs (val a * val (b.take (k + 1))) := ⟨_, rfl⟩
          rw [← hr9]
          have HR9 := Lib.hid hr9
          have hl9 : r9.length ≤ 200 := by
            rw [hr9]
            have h1 := val_lt a
            have h2 := val_take_lt b (k + 1) (by omega)
            have h3 := len_mul (limbs_len_le.2 h1) (limbs_len_le.2 h2)
            omega
          rintro e w5 ⟨A5, c5, rfl, hrd5, hbl5⟩
          have HRD5 := Lib.hid hrd5
          have HBL5 := Lib.hid ((hbl.out.trans (HBX3.out.mono hbl.out.size)).trans (hbl5.mono (Nat.le_trans hbl.out.size HBX3.out.size)))
          clear hrd5 hbl5 hr9
          go_wp2_with fail
          go_roundw
          case rel => exact ⟨k + 1, A5, c5, r9, by go_num, rfl, by omega, hl9, HR9, HRD5, HBL5⟩
          case measure => simp [intOf]; omega
    · have hval : val a * val (b.take k) = val a * val b := by rw [val_take_ge (by omega)]
      have hrL : r = LM := by rw [hv.out, hval, HLM.out]
      have HRL := Lib.hid hrL
      have hltd : decide (k < b.length) = false := by simpa using hlt
      clear hval hrL
      by_cases h96 : r.length ≤ 96
      · have HEQ := Lib.hid (show mulM a b = (r, 0) by rw [HQ.out, HRL.out, ← HLM.out, numM_ok (by rw [HLM.out, ← HRL.out]; exact h96)])
        have h96d : decide ((96 : Int) < (r.length : Int)) = false := by simp; omega
        go_wp2_with fail
        go_ret2
        rw [HEQ.out]
        exact ⟨A, c, rfl, hrd.out, hbl.out⟩
      · have HEQ := Lib.hid (show mulM a b = ([], 30) by rw [HQ.out, numM_great (by rw [HLM.out, ← HRL.out]; exact h96)])
        have h96i : (96 : Int) < (r.length : Int) := by omega
        go_wp2_with fail
        go_ret2
        rw [HEQ.out]
        exact ⟨none, 0, rfl, Rf.empty _ _, hbl.out⟩

set_option maxHeartbeats 1000000 in
theorem rmul_any (A1 A2 : Option Addr) (c1 c2 : Nat) (a b : List UInt32) (w : World) (hr1 : Rf uv w w.heap.size A1 c1 a) (hr2 : Rf uv w w.heap.size A2 c2 b) :
    Calls Try.prog 57 #[.slice A1 a.length c1, .slice A2 b.length c2] w fun e w' => NumErr w w' (mulM a b) e := by
  by_cases h : chk2 a b = 0
  · exact rmul_good A1 A2 c1 c2 a b _ w hr1 hr2 h (chk_zero (chk2_zero h).1).1 (chk_zero (chk2_zero h).2).1 rfl
  · have HQ := Lib.hid (mulM_err h)
    have hb : (chk2 a b != 0) = true := by simpa using h
    clear h
    go_enter Try.func57, Try.ntmps57
    go_wp2_with fail
    refine (rboth_any A1 A2 c1 c2 _ _ a b w hr1 hr2).mono ?_
    rintro e w' ⟨rfl, rfl⟩
    go_wp2_with fail
    go_ret2
    rw [HQ.out]
    exact numErr_bad w _

section
variable (A1 A2 : Option Addr) (c1 c2 n1 n2 : Nat) (a b : List UInt32) (w : World)
theorem radd_c (l : List UInt32) (er : Int) (hr1 : Hid (Sl w A1 c1 a)) (hr2 : Hid (Sl w A2 c2 b)) (h1 : Hid (a.length = n1)) (h2 : Hid (b.length = n2)) (hq : Hid (addM a b = (l, er))) :
    Calls Try.prog 40 #[.slice A1 n1 c1, .slice A2 n2 c2] w fun e w' => ResP w w' l er e := by
  obtain rfl := h1.out
  obtain rfl := h2.out
  exact (radd_any A1 A2 c1 c2 a b w hr1.out hr2.out).mono fun e w' h => resP_of hq.out h
theorem rmul_c (l : List UInt32) (er : Int) (hr1 : Hid (Sl w A1 c1 a)) (hr2 : Hid (Sl w A2 c2 b)) (h1 : Hid (a.length = n1)) (h2 : Hid (b.length = n2)) (hq : Hid (mulM a b = (l, er))) :
    Calls Try.prog 57 #[.slice A1 n1 c1, .slice A2 n2 c2] w fun e w' => ResP w w' l er e := by
  obtain rfl := h1.out
  obtain rfl := h2.out
  exact (rmul_any A1 A2 c1 c2 a b w hr1.out hr2.out).mono fun e w' h => resP_of hq.out h
theorem rcheck_c (v : Int) (hr1 : Hid (Sl w A1 c1 a)) (h1 : Hid (a.length = n1)) (hq : Hid (chk a = v)) :
    Calls Try.prog 74 #[.slice A1 n1 c1] w fun e w' => e = .returned (.int .i64 v) ∧ w = w' := by
  obtain rfl := h1.out
  have h := rcheck_any A1 c1 _ a w hr1.out
  rw [hq.out] at h
  exact h
theorem rword_c (v : Nat) (er : Int) (hr1 : Hid (Sl w A1 c1 a)) (h1 : Hid (a.length = n1)) (hq : Hid (wordM a = (v, er))) :
    Calls Try.prog 47 #[.slice A1 n1 c1] w fun e w' => e = .returned (.tuple #[.int .u64 v, .int .i64 er]) ∧ w = w' := by
  obtain rfl := h1.out
  have h := rword_any A1 c1 _ a w hr1.out
  rw [hq.out] at h
  exact h
end
theorem rof_c (n : Nat) (w : World) (l : List UInt32) (hn : n < 18446744073709551616) (hq : Hid (limbs n = l)) :
    Calls Try.prog 55 #[.int .u64 n] w fun e w' => ∃ A c, e = .returned (.slice A l.length c) ∧ Sl w' A c l ∧ Below w.heap.size w w' := by
  obtain rfl := hq.out
  exact rof_any n w hn
end Go.Proofs.Ytefoccjphbbmhaa
