/- nat's Text and Read. -/
import Derived.Test.YtffbmkobholmhaaDoorRev
namespace Go.Proofs.YtffbmkobholmhaaDoor
open Go.RowKit
set_option linter.unusedVariables false
attribute [local go_sem] mk_get

def TextP (q : List UInt8 × Int) (w w' : World) (e : Ending) : Prop := e = .returned (.tuple #[.string ⟨q.1.toArray⟩, .int .i64 q.2]) ∧ Below w.heap.size w w'
theorem Ow.take_ {w : World} {base g c : Nat} {l : List UInt8} (h : Ow bv w base 5 (some ⟨g, 0, none⟩) c l) {k : Nat} (hk : k ≤ l.length) : Ow bv w base 5 (some ⟨g, 0, none⟩) c (l.take k) := by
  have hlk : (l.take k).length = k := by rw [List.length_take]; omega
  refine ⟨by simp, ?_⟩
  rcases h.2 with ⟨hv, _⟩ | ⟨g2, cap, cur, hv, hb, hg, hnc, hcm, hcs, ht⟩
  · cases hv
  · refine .inr ⟨g2, cap, cur, ?_, hb, hg, by omega, hcm, hcs, ?_⟩
    · simp only [Value.slice.injEq] at hv ⊢
      exact ⟨hv.1, trivial, hv.2.2⟩
    · rw [hlk, Nat.mul_one, List.map_take, ← ht, Nat.mul_one, List.take_take, Nat.min_eq_left hk]
theorem run_str (w : World) {B c : Nat} {A : Option Addr} {l : List UInt8} (h : Rf bv w B A c l) : (convert 61 9 (.slice A l.length c)).run Tryd.prog w = .ok (.string ⟨l.toArray⟩) w :=
  run_string_f (P := Tryd.prog) w 61 9 5 Tryd.underlying61 Tryd.underlying5 Tryd.underlying9 h
theorem short_n (g n c : Nat) (L : List UInt32) (w : World) (v rm : Nat) (hu : Ub w g 45 L) (hn : n ≤ L.length) (hnc : n ≤ c) (hl : L.length ≤ 1000000) (hv : val (L.take n) = v) (hrm : rm = v % 1000000000) :
    Calls Tryd.prog 56 #[.slice (some ⟨g, 0, none⟩) n c, .int .u32 1000000000] w fun e w' => ∃ M : List UInt32, e = .returned (.int .u32 rm) ∧ far M L 0 n ∧ val (M.take n) = v / 1000000000 ∧ Ub w' g 45 M ∧ w.grownBy w' (some g) := by
  subst hv hrm
  exact shorten_any g n c L w hu hn hnc hl

/-- What holds at the head of Text's loop: v is what is left of the number V, j pieces of digits are written. -/
structure TxRel (w wr : World) (g base V j v n c : Nat) (A : Option Addr) (cd : Nat) (r : List UInt8) (L : List UInt32) : Prop where
  hv : v = V / 10 ^ (9 * j)
  hr : r = led (9 * j) V
  hn : n = (limbs v).length
  hnc : n ≤ c
  hnl : n ≤ L.length
  hL : L.length ≤ 96
  hval : val (L.take n) = v
  hu : Ub wr g 45 L
  ho : Ow bv wr base 5 A cd r
  hb : Below w.heap.size w wr
  hbz : base ≤ wr.heap.size
  hcm : c ≤ 1000
  hlen : r.length ≤ 4100

theorem bp_pow (n : Nat) : bp n = 2 ^ (32 * n) := by
  unfold bp
  rw [show (4294967296 : Nat) = 2 ^ 32 from rfl, ← Nat.pow_mul]
theorem digits_bound {V m n : Nat} (h : V < bp n) (h2 : 10 ^ m ≤ V) : m < 32 * n := by
  rw [bp_pow] at h
  have h3 : 2 ^ m ≤ 10 ^ m := Nat.pow_le_pow_left (by decide) m
  have h4 : 2 ^ m < 2 ^ (32 * n) := Nat.lt_of_le_of_lt h3 (Nat.lt_of_le_of_lt h2 h)
  exact (Nat.pow_lt_pow_iff_right (by decide)).1 h4

set_option maxRecDepth 100000 in
set_option maxHeartbeats 2000000 in
theorem text_any (A : Option Addr) (c : Nat) (a : List UInt32) (w : World) (hr : Rf uv w w.heap.size A c a) :
    Calls Tryd.prog 30 #[.slice A a.length c] w fun e w' => TextP (textM a) w w' e := by
  by_cases h : chk a = 0
  · have HA := Lib.hid h
    obtain ⟨V, rfl, hm⟩ := limbs_of_chk h
    have HQ := Lib.hid (show textM (limbs V) = (Lib.decDigits V, 0) by rw [textM_ok h, val_limbs])
    by_cases h0 : V = 0
    · subst h0
      have HZ := Lib.hid (limbs_len_eq_zero.2 (rfl : (0 : Nat) = 0))
      have HD := Lib.hid (show Lib.decDigits 0 = [48] by rw [decDigits_small (by decide)]; rfl)
      clear h
      go_enter Tryd.func30, Tryd.ntmps30
      go_wp2_with fail
      refine (check_any A c _ _ w hr).mono ?_
      rintro e w' ⟨rfl, rfl⟩
      rw [HA.out, HZ.out]
      go_wp2_with fail
      go_ret2
      rw [HQ.out, HD.out]
      exact ⟨rfl, Below.refl _ _⟩
    · have hVp : 0 < V := by omega
      obtain ⟨la, hla⟩ : ∃ la, (limbs V).length = la := ⟨_, rfl⟩
      have hl0 : ((la : Int) == 0) = false := by
        have : (limbs V).length ≠ 0 := fun e => h0 (limbs_len_eq_zero.1 e)
        rw [beq_eq_false_iff_ne]; omega
      rw [hla] at hm
      have HLA := Lib.hid hla
      rw [hla]
      clear h h0 hla
      go_enter Tryd.func30, Tryd.ntmps30
      go_wp2_with fail
      rw [← HLA.out]
      refine (check_any A c _ _ w hr).mono ?_
      rintro e w' ⟨rfl, rfl⟩
      rw [HA.out, HLA.out]
      go_wp2_with fail
      (with_reducible refine (twin_n A c w.heap.size la la (limbs V) w hr (Nat.le_refl _) (Nat.le_of_eq HLA.out) (by omega) HLA.out).mono ?_)
      rintro e w1 ⟨rfl, hu1, hb1, hs1⟩
      have HR0 : Hid (TxRel w w1 w.heap.size w1.heap.size V 0 V la la none 0 [] (limbs V)) := by
        have e2 : limbs V ++ List.replicate (la - (limbs V).length) 0 = limbs V := by rw [HLA.out]; simp
        rw [e2] at hu1
        exact ⟨by simp, rfl, HLA.out.symm, Nat.le_refl _, Nat.le_of_eq HLA.out.symm, by rw [HLA.out]; exact hm, by rw [List.take_of_length_le (Nat.le_of_eq HLA.out), val_limbs], hu1, Ow.nil _ _ _, hb1, Nat.le_refl _, by omega, by simp⟩
      clear hu1 hb1
      go_wp2_with fail
      go_loopg [5, 6] V (fun v s5 s6 wr => ∃ (j n cr : Nat) (A' : Option Addr) (cd : Nat) (r : List UInt8) (L : List UInt32), s5 = .slice A' r.length cd ∧ s6 = .slice (some ⟨w.heap.size, 0, none⟩) n cr ∧ n ≤ 96 ∧ Hid (TxRel w wr w.heap.size w1.heap.size V j v n cr A' cd r L))
      case atStart => exact ⟨0, la, la, none, 0, [], limbs V, rfl, rfl, hm, HR0⟩
      case round =>
        obtain ⟨j, n, cr, A', cd, r, L, rfl, rfl, hn96, hrel⟩ := hrel
        by_cases hg0 : gk = 0
        · subst hg0
          have hn0 : n = 0 := by rw [hrel.out.hn]; exact limbs_len_eq_zero.2 rfl
          subst hn0
          have hVlt : V < 10 ^ (9 * j) := by
            have e := hrel.out.hv
            rcases Nat.lt_or_ge V (10 ^ (9 * j)) with h | h
            · exact h
            · have := Nat.div_pos h (Nat.pow_pos (by decide)); omega
          have hj0 : 0 < 9 * j := by
            rcases Nat.eq_zero_or_pos (9 * j) with e | e
            · rw [e] at hVlt; simp at hVlt; omega
            · exact e
          have hrl0 : r.length = 9 * j := by rw [hrel.out.hr, led_len]
          have HTR := Lib.hid (show trimR r = (Lib.decDigits V).reverse by rw [hrel.out.hr]; exact trimR_led hVp hVlt)
          have hrp : 0 < r.length := by omega
          obtain ⟨gd, hgd⟩ : ∃ gd, A' = some ⟨gd, 0, none⟩ := by
            rcases hrel.out.ho.form with ⟨_, _, e⟩ | ⟨gd, e, _⟩
            · rw [e] at hrp; simp at hrp
            · exact ⟨gd, e⟩
          subst hgd
          have hbase := (hrel.out.ho.blk_ge gd rfl).1
          have hgt := trimR_eq_take r
          have HO := Lib.hid (show Ow bv wr w1.heap.size 5 (some ⟨gd, 0, none⟩) cd (trimR r) by
            have := hrel.out.ho.take_ hgt.2
            rwa [← hgt.1] at this)
          have hrl : r.length ≤ 1000000 := by have := hrel.out.hlen; omega
          have htl : (trimR r).length ≤ 1000000 := by omega
          have htp : 0 < (trimR r).length := by
            rw [HTR.out, List.length_reverse]
            exact List.length_pos_iff.2 (decDigits_ne V)
          have HRD := Lib.hid hrel.out.ho.rd
          have HB := Lib.hid hrel.out.hb
          clear hVlt hj0 hrl0 hgt
          go_wp2_with fail
          (with_reducible refine (trimRight_any (some ⟨gd, 0, none⟩) cd _ r wr HRD.out hrl hrp).mono ?_)
          rintro e w5 ⟨rfl, rfl⟩
          go_wp2_with fail
          (with_reducible refine (reverse_any gd cd (trimR r).length w1.heap.size (trimR r) wr HO.out rfl htl htp).mono ?_)
          rintro e w6 ⟨rfl, ho6, hg6⟩
          have HO6 := Lib.hid (show Ow bv w6 w1.heap.size 5 (some ⟨gd, 0, none⟩) cd (Lib.decDigits V) by rw [HTR.out, List.reverse_reverse] at ho6; exact ho6)
          have HB6 := Lib.hid (HB.out.trans (below_of_grown hg6 HB.out.size (by intro g e; injection e with e; omega)))
          have hlen6 : (trimR r).length = (Lib.decDigits V).length := by rw [HTR.out, List.length_reverse]
          rw [hlen6]
          clear ho6 hg6 hlen6
          have hstr := run_str w6 HO6.out.rd
          go_wp2_with fail
          go_ret2
          rw [HQ.out]
          exact ⟨rfl, HB6.out⟩
        · have hgp : 0 < gk := by omega
          have hn0 : 0 < n := by
            have e := hrel.out.hn
            have : (limbs gk).length ≠ 0 := fun e => hg0 (limbs_len_eq_zero.1 e)
            omega
          have hn0i : (0 : Int) < (n : Int) := by omega
          have hVb : V < bp 96 := limbs_len_le.1 (by rw [HLA.out]; exact hm)
          have h9 : 9 * j < 32 * 96 := by
            refine digits_bound hVb ?_
            have e := hrel.out.hv
            rcases Nat.lt_or_ge V (10 ^ (9 * j)) with h | h
            · rw [Nat.div_eq_of_lt h] at e; omega
            · exact h
          have hrl : r.length ≤ 4000 := by rw [hrel.out.hr, led_len]; omega
          have hgb : ∀ x, blk A' = some x → w1.heap.size ≤ x := fun x hx => (hrel.out.ho.blk_ge x hx).1
          have hLl := hrel.out.hL
          obtain ⟨rm, hrm⟩ : ∃ rm, rm = gk % 1000000000 := ⟨_, rfl⟩
          have hrml : rm < 1000000000 := by omega
          have HRM := Lib.hid hrm
          clear hg0 h9 hVb hrm
          go_wp2_with fail
          (with_reducible refine (short_n w.heap.size n cr L wr gk rm hrel.out.hu hrel.out.hnl hrel.out.hnc (by omega) hrel.out.hval HRM.out).mono ?_)
          rintro e w3 ⟨M, rfl, hf3, hv3, hu3, hg3⟩
          have HO3 := Lib.hid (hrel.out.ho.kept hg3 (by
            cases e : blk A' with
            | none => exact .inl rfl
            | some x =>
              right
              intro e2
              have h1 := hgb x e
              injection e2 with e2
              omega))
          have hbz3 : w1.heap.size ≤ w3.heap.size := Nat.le_trans hrel.out.hbz hg3.size
          have HF3 := Lib.hid hf3
          have HV3 := Lib.hid hv3
          have HU3 := Lib.hid hu3
          have HB3 := Lib.hid (hrel.out.hb.trans (below_of_grown hg3 hrel.out.hb.size (by intro g e; injection e with e; omega)))
          clear hf3 hv3 hu3 hg3
          go_wp2_with fail
          (with_reducible refine (appendDigits_any A' cd rm w1.heap.size r.length r w3 HO3.out rfl hrl hbz3 (by omega)).mono ?_)
          rintro e w4 ⟨A4, c4, r4, rfl, hr4, ho4, hg4, hb4⟩
          have HU4 := Lib.hid (HU3.out.grown hg4 (by
            cases e : blk A' with
            | none => simp
            | some x =>
              intro e2
              have h1 := hgb x e
              injection e2 with e2
              omega))
          have hle96 : (limbs (gk / 1000000000)).length ≤ 96 := by
            have h1 := limbs_mono (Nat.div_le_self gk 1000000000)
            have h2 := hrel.out.hn
            omega
          have HML := Lib.hid (show (M.take n).length = n by rw [List.length_take, HF3.out.1]; have := hrel.out.hnl; omega)
          have hcap4 := hrel.out.hnc
          have hLM := HF3.out.1
          have HRD := Lib.hid (show Rf uv w4 w4.heap.size (some ⟨w.heap.size, 0, none⟩) cr (M.take n) from HU4.out.rf_take (by have := hrel.out.hnl; omega) hcap4 (by have := hrel.out.hcm; unfold maxLen; omega))
          have HREL : Hid (TxRel w w4 w.heap.size w1.heap.size V (j + 1) (gk / 1000000000) (limbs (gk / 1000000000)).length (limbs (gk / 1000000000)).length A4 c4 r4 M) := by
            have hlt := limbs_take (M.take n)
            rw [HV3.out, List.take_take] at hlt
            have hlen : (limbs (gk / 1000000000)).length ≤ n := by
              have h1 := limbs_mono (Nat.div_le_self gk 1000000000)
              have h2 := hrel.out.hn
              omega
            rw [Nat.min_eq_left hlen] at hlt
            refine ⟨?_, ?_, rfl, Nat.le_refl _, by have := hrel.out.hnl; omega, by omega, by rw [← hlt, val_limbs], HU4.out, ho4, HB3.out.trans (below_of_grown hg4 HB3.out.size (fun x hx => Nat.le_trans (Nat.le_of_lt hs1) (hgb x hx))), Nat.le_trans hbz3 hg4.size, by omega, by rw [hr4, List.length_append, led_len]; omega⟩
            · rw [hrel.out.hv, Nat.div_div_eq_div_mul, show 9 * (j + 1) = 9 * j + 9 by omega, Nat.pow_add]
            · rw [hr4, HRM.out, led_mod, hrel.out.hr, show 9 * (j + 1) = 9 * j + 9 by omega, led_add, hrel.out.hv]
          clear hr4 ho4 hg4 hb4 hLM
          go_wp2_with fail
          (with_reducible refine (trim_n (some ⟨w.heap.size, 0, none⟩) cr _ n (limbs (gk / 1000000000)).length (M.take n) w4 HRD.out (by rw [HML.out]; omega) HML.out (by rw [HV3.out])).mono ?_)
          rintro e w5 ⟨rfl, rfl⟩
          go_wp2_with fail
          go_roundg (gk / 1000000000)
          case measure => omega
          case rel => exact ⟨j + 1, _, _, A4, c4, r4, M, rfl, rfl, hle96, HREL⟩
  · have HQ := Lib.hid (textM_err h)
    have hb : (chk a != 0) = true := by simpa using h
    clear h
    go_enter Tryd.func30, Tryd.ntmps30
    go_wp2_with fail
    refine (check_any A c _ a w hr).mono ?_
    rintro e w' ⟨rfl, rfl⟩
    go_wp2_with fail
    go_ret2
    rw [HQ.out]
    exact ⟨rfl, Below.refl _ _⟩
end Go.Proofs.YtffbmkobholmhaaDoor
