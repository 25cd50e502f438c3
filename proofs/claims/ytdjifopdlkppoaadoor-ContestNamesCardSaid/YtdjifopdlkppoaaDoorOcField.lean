/- octet's PutField and TakeField. -/
import Derived.Test.YtdjifopdlkppoaaDoorOcRef
namespace Go.Proofs.YtdjifopdlkppoaaDoor.Oc
open Go.RowKit
set_option linter.unusedVariables false

set_option maxHeartbeats 400000 in
theorem hasRoom_yes (A : Option Addr) (c : Nat) (f : List UInt8) (u : Nat) (w : World) (h1 : f.length ≤ 65535) (h2 : u + 2 + f.length ≤ 16384) :
    Calls Tryd.prog 66 #[.int .i64 u, .slice A f.length c] w fun e w' => e = .returned (.bool true) ∧ w = w' := by
  have hi1 : (f.length : Int) ≤ 65535 := by omega
  have hi2 : (u : Int) ≤ 16382 - f.length := by omega
  go_enter Tryd.func66, Tryd.ntmps66
  go_wp2
  go_ret
  exact ⟨rfl, rfl⟩
set_option maxHeartbeats 400000 in
theorem hasRoom_no (A : Option Addr) (c : Nat) (f : List UInt8) (u : Nat) (w : World) (h0 : f.length ≤ 200000) (h : ¬ (f.length ≤ 65535 ∧ u + 2 + f.length ≤ 16384)) :
    Calls Tryd.prog 66 #[.int .i64 u, .slice A f.length c] w fun e w' => e = .returned (.bool false) ∧ w = w' := by
  by_cases h1 : f.length ≤ 65535
  · have hi1 : (f.length : Int) ≤ 65535 := by omega
    have hi2 : ¬ (u : Int) ≤ 16382 - f.length := by omega
    have hd : decide ((u : Int) ≤ 16382 - f.length) = false := by simp; omega
    clear h
    go_enter Tryd.func66, Tryd.ntmps66
    go_wp2
    go_ret
    exact ⟨rfl, rfl⟩
  · have hi1 : ¬ (f.length : Int) ≤ 65535 := by omega
    have hd : decide ((f.length : Int) ≤ 65535) = false := by simp; omega
    have hd2 : decide (f.length ≤ 65535) = false := by simp; omega
    clear h
    go_enter Tryd.func66, Tryd.ntmps66
    go_wp2
    go_ret
    exact ⟨rfl, rfl⟩

/-- A byte string as a field. -/
def fld (f : List UInt8) : List UInt8 := be 2 f.length ++ f
theorem fld_len (f : List UInt8) : (fld f).length = 2 + f.length := by simp [fld, be_len]

set_option maxHeartbeats 400000 in
theorem appendField_any (A A2 : Option Addr) (c c2 : Nat) (l f : List UInt8) (base : Nat) (w : World) (hl : l.length ≤ 100000) (hf : f.length ≤ 100000) (hown : Own w base 5 A c l) (hbase : base ≤ w.heap.size) (hr : Rd w base A2 c2 f) :
    Calls Tryd.prog 67 #[.slice A l.length c, .slice A2 f.length c2] w fun e w' => ∃ A' c' r, e = .returned (.slice A' r.length c') ∧ r = l ++ fld f ∧ Own w' base 5 A' c' r ∧
      w.grownBy w' (blk A) ∧ (∀ g, blk A' = some g → blk A = some g ∨ w.heap.size ≤ g) := by
  obtain ⟨i0, hi, hz0, hz1, hz2⟩ := info_parts info5
  go_enter Tryd.func67, Tryd.ntmps67
  go_wp2_with fail
  refine (appendInteger_any A c l f.length 2 base _ (by omega) (by omega) (by omega) hown hbase).mono ?_
  rintro e w1 ⟨A1, c1, r1, rfl, hr1, hown1, hg1, hb1⟩
  have hl1 : r1.length = l.length + 2 := by rw [hr1]; simp [be_len]
  have HR1 := Lib.hid hr1
  have HL1 := Lib.hid hl1
  have hl1' : r1.length ≤ 100002 := by omega
  have hs1 := hg1.size
  have hbb := fun k hk => (hown.blk_ge k hk).1
  have hrd := hr.below (below_of_grown hg1 hbase hbb)
  have HB := Lib.hid hbb
  clear hr1 hl1 hbb
  go_wp2_with (at_builtin; refine wpList_append_bytes _ rfl _ _ 37 rfl base 5 i0 _ Tryd.underlying37 hi hz0 hz1 hz2 rfl r1 f rfl rfl hown1 hrd (by omega) (by omega) ?_; intro A3 c3 w3 r3 hr3 hown3 hg3 hb3)
  go_ret
  refine ⟨A3, c3, r3, rfl, by rw [hr3.out, HR1.out, fld, List.append_assoc], hown3, grown_step hg1 hg3 hb1, fun g hg => ?_⟩
  rcases hb3 with e | e
  · exact hb1 g (e ▸ hg)
  · rw [e] at hg
    right
    have := Option.some.inj hg
    omega

def putFieldM (l f : List UInt8) : List UInt8 × Int := if f.length ≤ 65535 ∧ l.length + 2 + f.length ≤ 16384 then (l ++ fld f, 0) else ([], 4)
theorem putFieldM_len (l f : List UInt8) : (putFieldM l f).1.length ≤ 200000 := by
  unfold putFieldM
  split
  · simp only [List.length_append, fld_len]; omega
  · simp

/-- What TakeField answers. -/
def takeFieldM (l : List UInt8) (p : Int) : List UInt8 × Int × Int :=
  if 0 ≤ p ∧ p ≤ l.length then
    if p + 2 ≤ l.length ∧ p + 2 + num ((l.drop p.toNat).take 2) ≤ l.length then ((l.drop (p.toNat + 2)).take (num ((l.drop p.toNat).take 2)), p + 2 + num ((l.drop p.toNat).take 2), 0) else ([], 0, 10)
  else ([], 0, 2)
theorem takeFieldM_len (l : List UInt8) (p : Int) : (takeFieldM l p).1.length ≤ l.length := by
  unfold takeFieldM
  split
  · split
    · simp only [List.length_take, List.length_drop]; omega
    · simp
  · simp

def BytesIntErr (w : World) (q : List UInt8 × Int × Int) (e : Ending) (w' : World) : Prop :=
  ∃ A' c' r, e = .returned (.tuple #[.slice A' r.length c', .int .i64 q.2.1, .int .i64 q.2.2]) ∧ r = q.1 ∧ Own w' w.heap.size 5 A' c' r ∧ Below w.heap.size w w'
theorem bytesIntErr_bad (w : World) (er : Int) : BytesIntErr w ([], 0, er) (.returned (.tuple #[.slice none 0 0, .int .i64 0, .int .i64 er])) w :=
  ⟨none, 0, [], rfl, rfl, Own.nil _ _ _, Below.refl _ _⟩

set_option maxHeartbeats 1000000 in
theorem takeField_any (A : Option Addr) (c : Nat) (l : List UInt8) (p : Int) (w : World) (hr : Rd w w.heap.size A c l) (hl : l.length ≤ 200000) (hp1 : -9223372036854775808 ≤ p) (hp2 : p ≤ 9223372036854775807) :
    Calls Tryd.prog 73 #[.slice A l.length c, .int .i64 p] w (BytesIntErr w (takeFieldM l p)) := by
  have hcap := hr.cap
  by_cases h1 : 0 ≤ p ∧ p ≤ l.length
  · obtain ⟨k, rfl⟩ := Int.eq_ofNat_of_zero_le h1.1
    have hk : k ≤ l.length := by omega
    by_cases h2 : k + 2 ≤ l.length
    · have hnum : num ((l.drop k).take 2) < 65536 := Nat.lt_of_lt_of_le (num_lt_of _ 2 (by simp; omega)) (by decide)
      have hT := take_any A c l k 2 w hr hl (by omega) (by omega) hp1 hp2
      have hTq := takeM_ok (l := l) (p := k) (k := 2) (by omega) (by omega) h2
      rw [show ((2 : Nat) : Int) = 2 from rfl] at hTq
      rw [hTq] at hT
      by_cases h3 : k + 2 + num ((l.drop k).take 2) ≤ l.length
      · have hq : takeFieldM l k = ((l.drop (k + 2)).take (num ((l.drop k).take 2)), (k : Int) + 2 + num ((l.drop k).take 2), 0) := by
          unfold takeFieldM
          rw [if_pos h1, if_pos (by simp only [Int.toNat_natCast]; omega)]
          simp
        rw [hq]
        clear hq hTq h1
        generalize hm : num ((l.drop k).take 2) = m at *
        clear hm
        obtain ⟨b, o, rfl, hb, hcell⟩ := hr.at_ (k := 0) (by omega)
        have H3 : ¬ ((l.length : Int) - (k + 2) < m) := by omega
        have HT := Lib.hid hT
        clear hT hcell
        have hlen : ((l.drop (k + 2)).take m).length = m := by simp; omega
        have hcut : ∃ X Y, Rd w w.heap.size X Y ((l.drop (k + 2)).take m) ∧ (c = k + 2 → X = some ⟨b, o, none⟩ ∧ Y = 0) ∧ (¬ c = k + 2 → X = some ⟨b, o + (k + 2), none⟩ ∧ Y = c - (k + 2)) := by
          by_cases hck : c = k + 2
          · have hl0 : (l.drop (k + 2)).take m = [] := List.eq_nil_of_length_eq_zero (by omega)
            refine ⟨some ⟨b, o, none⟩, 0, ?_, fun _ => ⟨rfl, rfl⟩, fun h => absurd hck h⟩
            rw [hl0]
            exact ⟨by simp, by simp [maxLen], (fun e => by cases e), fun ad e j hj => by simp at hj⟩
          · exact ⟨_, _, hr.cut (k + 2) m h3, fun h => absurd h hck, fun _ => ⟨rfl, rfl⟩⟩
        obtain ⟨X, Y, hcut, hX1, hX2⟩ := hcut
        have hC := copyOf_any X Y ((l.drop (k + 2)).take m) 0 w hcut (by omega) (by omega)
        rw [show ((0 : Nat) : Int) = 0 from rfl] at hC
        generalize hs : (l.drop (k + 2)).take m = r at *
        clear hs hcut
        subst hlen
        have HC := Lib.hid hC
        clear hC
        by_cases hck : c = k + 2
        · obtain ⟨rfl, rfl⟩ := hX1 hck
          clear hX1 hX2
          subst hck
          go_enter Tryd.func73, Tryd.ntmps73
          go_wp2_with fail
          refine HT.out.mono ?_
          rintro e w' ⟨rfl, rfl⟩
          go_wp2_with fail
          refine HC.out.mono ?_
          rintro e w1 ⟨A1, c1, rfl, hown1, hb1⟩
          go_wp2_with fail
          go_ret3
          exact ⟨A1, c1, r, rfl, rfl, hown1, hb1⟩
        · obtain ⟨rfl, rfl⟩ := hX2 hck
          clear hX1 hX2
          go_enter Tryd.func73, Tryd.ntmps73
          go_wp2_with fail
          refine HT.out.mono ?_
          rintro e w' ⟨rfl, rfl⟩
          go_wp2_with fail
          refine HC.out.mono ?_
          rintro e w1 ⟨A1, c1, rfl, hown1, hb1⟩
          go_wp2_with fail
          go_ret3
          exact ⟨A1, c1, r, rfl, rfl, hown1, hb1⟩
      · have hq : takeFieldM l k = ([], 0, 10) := by
          unfold takeFieldM
          rw [if_pos h1, if_neg (by simp only [Int.toNat_natCast]; omega)]
        rw [hq]
        clear hq hTq h1
        generalize hm : num ((l.drop k).take 2) = m at *
        clear hm
        have H3 : (l.length : Int) - (k + 2) < m := by omega
        have HT := Lib.hid hT
        clear hT
        go_enter Tryd.func73, Tryd.ntmps73
        go_wp2_with fail
        refine HT.out.mono ?_
        rintro e w' ⟨rfl, rfl⟩
        go_wp2_with fail
        go_ret3
        exact bytesIntErr_bad w 10
    · have hq : takeFieldM l k = ([], 0, 10) := by
        unfold takeFieldM
        rw [if_pos h1, if_neg (by omega)]
      have hT := take_any A c l k 2 w hr hl (by omega) (by omega) hp1 hp2
      have hTq := takeM_short (l := l) (p := k) (k := 2) (by omega) (by omega) hk h2
      rw [show ((2 : Nat) : Int) = 2 from rfl] at hTq
      rw [hTq] at hT
      rw [hq]
      have HT := Lib.hid hT
      clear hT hq hTq
      go_enter Tryd.func73, Tryd.ntmps73
      go_wp2_with fail
      refine HT.out.mono ?_
      rintro e w' ⟨rfl, rfl⟩
      go_wp2_with fail
      go_ret3
      exact bytesIntErr_bad w 10
  · have hq : takeFieldM l p = ([], 0, 2) := by unfold takeFieldM; rw [if_neg h1]
    have hT := take_any A c l p 2 w hr hl (by omega) (by omega) hp1 hp2
    rw [takeM_bad (by omega)] at hT
    rw [hq]
    have HT := Lib.hid hT
    clear hT hq
    go_enter Tryd.func73, Tryd.ntmps73
    go_wp2_with fail
    refine HT.out.mono ?_
    rintro e w' ⟨rfl, rfl⟩
    go_wp2_with fail
    go_ret3
    exact bytesIntErr_bad w 2
end Go.Proofs.YtdjifopdlkppoaaDoor.Oc
