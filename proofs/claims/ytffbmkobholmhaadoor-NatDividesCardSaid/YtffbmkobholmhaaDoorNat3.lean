/- nat's Div, Gcd. -/
import Derived.Test.YtffbmkobholmhaaDoorNat2
import Derived.Deep.LoopGhost
namespace Go.Proofs.YtffbmkobholmhaaDoor
open Go.RowKit
set_option linter.unusedVariables false

def DivErr (w w' : World) (q : (List UInt32 × List UInt32) × Int) (e : Ending) : Prop :=
  ∃ A1 A2 c1 c2, e = .returned (.tuple #[.slice A1 q.1.1.length c1, .slice A2 q.1.2.length c2, .int .i64 q.2]) ∧ Rf uv w' w'.heap.size A1 c1 q.1.1 ∧ Rf uv w' w'.heap.size A2 c2 q.1.2 ∧ Below w.heap.size w w'
theorem divErr_bad (w : World) (er : Int) : DivErr w w (([], []), er) (.returned (.tuple #[.slice none 0 0, .slice none 0 0, .int .i64 er])) := ⟨none, none, 0, 0, rfl, Rf.empty _ _, Rf.empty _ _, Below.refl _ _⟩

set_option maxHeartbeats 1000000 in
theorem div2_any (A1 A2 : Option Addr) (c1 c2 : Nat) (a b : List UInt32) (w : World) (hr1 : Rf uv w w.heap.size A1 c1 a) (hr2 : Rf uv w w.heap.size A2 c2 b) :
    Calls Tryd.prog 28 #[.slice A1 a.length c1, .slice A2 b.length c2] w fun e w' => DivErr w w' (divM a b) e := by
  by_cases h : chk2 a b = 0
  · have HA := Lib.hid h
    obtain ⟨m, rfl, hm⟩ := limbs_of_chk (chk2_zero h).1
    obtain ⟨n, rfl, hn⟩ := limbs_of_chk (chk2_zero h).2
    by_cases hn0 : n = 0
    · have HQ := Lib.hid (divM_zero h (by rw [val_limbs]; exact hn0))
      have HZ := Lib.hid (limbs_len_eq_zero.2 hn0)
      clear h hn0
      go_enter Tryd.func28, Tryd.ntmps28
      go_wp2_with fail
      refine (checkBoth_any A1 A2 c1 c2 _ _ _ _ w hr1 hr2).mono ?_
      rintro e w' ⟨rfl, rfl⟩
      rw [HA.out, HZ.out]
      go_wp2_with fail
      go_ret3
      rw [HQ.out]
      exact divErr_bad w 40
    · have HQ := Lib.hid (show divM (limbs m) (limbs n) = ((limbs (m / n), limbs (m % n)), 0) by rw [divM_ok h (by rw [val_limbs]; exact hn0), val_limbs, val_limbs])
      have hl0 : (((limbs n).length : Int) == 0) = false := by
        have : (limbs n).length ≠ 0 := fun e => hn0 (limbs_len_eq_zero.1 e)
        rw [beq_eq_false_iff_ne]; omega
      have hnp : 0 < n := by omega
      obtain ⟨k, hk⟩ : ∃ k, k = (limbs n).length := ⟨_, rfl⟩
      have HK := Lib.hid hk
      have hlk : ((k : Int) == 0) = false := by rw [hk]; exact hl0
      rw [← hk]
      clear h hn0 hl0 hk
      go_enter Tryd.func28, Tryd.ntmps28
      go_wp2_with fail
      rw [HK.out]
      refine (checkBoth_any A1 A2 c1 c2 _ _ _ _ w hr1 hr2).mono ?_
      rintro e w' ⟨rfl, rfl⟩
      rw [HA.out, ← HK.out]
      go_wp2_with fail
      rw [HK.out]
      (with_reducible refine (divide_any A1 A2 c1 c2 m n w hr1 hr2 (by omega) (by omega) hnp).mono ?_)
      rintro e w2 ⟨A3, A4, c3, c4, rfl, h3, h4, hb⟩
      have H3 := Lib.hid h3
      have H4 := Lib.hid h4
      have HB := Lib.hid hb
      clear h3 h4 hb
      go_wp2_with fail
      go_ret3
      rw [HQ.out]
      exact ⟨A3, A4, c3, c4, rfl, H3.out, H4.out, HB.out⟩
  · have HQ := Lib.hid (divM_err h)
    have hb : (chk2 a b != 0) = true := by simpa using h
    clear h
    go_enter Tryd.func28, Tryd.ntmps28
    go_wp2_with fail
    refine (checkBoth_any A1 A2 c1 c2 _ _ a b w hr1 hr2).mono ?_
    rintro e w' ⟨rfl, rfl⟩
    go_wp2_with fail
    go_ret3
    rw [HQ.out]
    exact divErr_bad w _

set_option maxRecDepth 100000 in
set_option maxHeartbeats 1000000 in
theorem gcd2_any (A1 A2 : Option Addr) (c1 c2 : Nat) (a b : List UInt32) (w : World) (hr1 : Rf uv w w.heap.size A1 c1 a) (hr2 : Rf uv w w.heap.size A2 c2 b) :
    Calls Tryd.prog 35 #[.slice A1 a.length c1, .slice A2 b.length c2] w fun e w' => NumErr w w' (gcdM a b) e := by
  by_cases h : chk2 a b = 0
  · have HA := Lib.hid h
    obtain ⟨m, rfl, hm⟩ := limbs_of_chk (chk2_zero h).1
    obtain ⟨n, rfl, hn⟩ := limbs_of_chk (chk2_zero h).2
    have HQ := Lib.hid (show gcdM (limbs m) (limbs n) = (limbs (Nat.gcd m n), 0) by rw [gcdM_ok h, val_limbs, val_limbs])
    clear h
    go_enter Tryd.func35, Tryd.ntmps35
    go_wp2_with fail
    refine (checkBoth_any A1 A2 c1 c2 _ _ _ _ w hr1 hr2).mono ?_
    rintro e w' ⟨rfl, rfl⟩
    rw [HA.out]
    go_wp2_with fail
    go_loopg [0, 1] n (fun y s0 s1 wr => ∃ (x : Nat) (A A' : Option Addr) (c c' : Nat), s0 = .slice A (limbs x).length c ∧ s1 = .slice A' (limbs y).length c' ∧ (limbs x).length ≤ 96 ∧ (limbs y).length ≤ 96 ∧ Hid (Nat.gcd x y = Nat.gcd m n) ∧ Hid (Rf uv wr wr.heap.size A c (limbs x)) ∧ Hid (Rf uv wr wr.heap.size A' c' (limbs y)) ∧ Hid (Below w.heap.size w wr))
    case atStart => exact ⟨m, A1, A2, c1, c2, rfl, rfl, hm, hn, rfl, hr1, hr2, Below.refl _ _⟩
    case round =>
      obtain ⟨x, A, A', c, c', rfl, rfl, hx, hy, hg, hrx, hry, hbl⟩ := hrel
      by_cases hg0 : gk = 0
      · subst hg0
        have HZ := Lib.hid (limbs_len_eq_zero.2 (rfl : (0 : Nat) = 0))
        have HX := Lib.hid (show Nat.gcd m n = x by rw [← hg.out]; simp)
        obtain ⟨lx, hlx⟩ : ∃ lx, (limbs x).length = lx := ⟨_, rfl⟩
        rw [hlx] at hx
        rw [hlx, HZ.out]
        have HLX := Lib.hid hlx
        clear hlx hy
        go_wp2_with fail
        (with_reducible refine (twin_n A c wr.heap.size lx lx (limbs x) wr hrx.out (Nat.le_refl _) (Nat.le_of_eq HLX.out) (by omega) HLX.out).mono ?_)
        rintro e w1 ⟨rfl, hu1, hb1, hs1⟩
        have HU1 := Lib.hid (show Ub w1 wr.heap.size 45 (limbs x) by
          have e2 : limbs x ++ List.replicate (lx - (limbs x).length) 0 = limbs x := by rw [HLX.out]; simp
          rw [e2] at hu1
          exact hu1)
        have HB1 := Lib.hid (hbl.out.trans (hb1.mono hbl.out.size))
        clear hu1 hb1
        go_wp2_with fail
        go_ret2
        rw [HQ.out, HX.out]
        refine ⟨some ⟨wr.heap.size, 0, none⟩, lx, by rw [HLX.out]; rfl, ?_, HB1.out⟩
        exact HU1.out.rf_all (Nat.le_of_eq HLX.out) (by unfold maxLen; omega)
      · have hgp : 0 < gk := by omega
        have hl0 : (0 : Int) < ((limbs gk).length : Int) := by
          have : (limbs gk).length ≠ 0 := fun e => hg0 (limbs_len_eq_zero.1 e)
          omega
        have HGN := Lib.hid (show Nat.gcd gk (x % gk) = Nat.gcd m n by rw [← hg.out, Nat.gcd_comm x gk, Nat.gcd_rec gk x, Nat.gcd_comm])
        have hml := Nat.le_trans (limbs_mono (Nat.le_of_lt (Nat.mod_lt x hgp))) hy
        have hmlt := Nat.mod_lt x hgp
        clear hg0
        go_wp2_with fail
        (with_reducible refine (divide_any A A' c c' x gk wr hrx.out hry.out (by omega) (by omega) hgp).mono ?_)
        rintro e w2 ⟨A3, A4, c3, c4, rfl, h3, h4, hb⟩
        have H4 := Lib.hid h4
        have H2 := Lib.hid ((hry.out.below hb).more hb.size)
        have HB := Lib.hid (hbl.out.trans (hb.mono hbl.out.size))
        clear h3 h4 hb
        go_wp2_with fail
        go_roundg (x % gk)
        case measure => exact hmlt
        case rel => exact ⟨gk, A', A4, c', c4, rfl, rfl, hy, hml, HGN, H2, H4, HB⟩
  · have HQ := Lib.hid (gcdM_err h)
    have hb : (chk2 a b != 0) = true := by simpa using h
    clear h
    go_enter Tryd.func35, Tryd.ntmps35
    go_wp2_with fail
    refine (checkBoth_any A1 A2 c1 c2 _ _ a b w hr1 hr2).mono ?_
    rintro e w' ⟨rfl, rfl⟩
    go_wp2_with fail
    go_ret2
    rw [HQ.out]
    exact numErr_bad w _
end Go.Proofs.YtffbmkobholmhaaDoor
