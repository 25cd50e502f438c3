/- The reference's Check, Place, Same. -/
import Derived.Test.YtdjifopdlkppoaaDoorRefMay
namespace Go.Proofs.YtdjifopdlkppoaaDoor
open Go.RowKit
set_option linter.unusedVariables false

set_option maxRecDepth 100000 in
set_option maxHeartbeats 400000 in
theorem refCheck_any (x : Ct) (A : Option Addr) (c : Nat) (w : World) (hr : Rf sv w w.heap.size A c x.cands) (hn : x.name.length ≤ 4000000000) (hl : ∀ y ∈ x.cands, y.length ≤ 4000000000) (hrule : x.rule ≤ 255) (hsl : -9223372036854775808 ≤ x.seats ∧ x.seats ≤ 9223372036854775807) :
    Calls Tryd.prog 30 #[cv A c x] w fun e w' => e = .returned (.int .i64 (checkM x)) ∧ Below w.heap.size w w' := by
  have HM := Lib.hid (fun wx (hb : Below w.heap.size w wx) => refMay_any x A c wx ((hr.below hb).more hb.size) hn hl hrule hsl)
  have hbw := fun (o : Obj) => below_new w o
  by_cases h1 : 10 < x.cands.length
  · have h1d : decide ((10 : Int) < (x.cands.length : Int)) = true := by simp; omega
    have HC := Lib.hid (show checkM x = 4 by unfold checkM; rw [if_pos h1])
    clear h1
    unfold cv cvs
    go_enter Tryd.func30, Tryd.ntmps30
    go_wp2_with fail
    go_ret
    exact ⟨by rw [HC.out] <;> rfl, hbw _⟩
  · have h1d : decide ((10 : Int) < (x.cands.length : Int)) = false := by simp; omega
    cases hm : mayB x with
    | true =>
      have HB := Lib.hid hm
      have HC := Lib.hid (show checkM x = 0 by unfold checkM; rw [if_neg h1, if_pos hm])
      clear h1 hm
      unfold cv cvs
      go_enter Tryd.func30, Tryd.ntmps30
      go_wp2_with fail
      refine (HM.out _ (hbw _)).mono ?_
      rintro e w1 ⟨rfl, hb⟩
      rw [HB.out]
      go_wp2_with fail
      go_ret
      exact ⟨by rw [HC.out] <;> rfl, (hbw _).trans (hb.mono (hbw _).size)⟩
    | false =>
      have HB := Lib.hid hm
      have HC := Lib.hid (show checkM x = 8 by unfold checkM; rw [if_neg h1, hm]; rfl)
      clear h1 hm
      unfold cv cvs
      go_enter Tryd.func30, Tryd.ntmps30
      go_wp2_with fail
      refine (HM.out _ (hbw _)).mono ?_
      rintro e w1 ⟨rfl, hb⟩
      rw [HB.out]
      go_wp2_with fail
      go_ret
      exact ⟨by rw [HC.out] <;> rfl, (hbw _).trans (hb.mono (hbw _).size)⟩

set_option maxRecDepth 100000 in
set_option maxHeartbeats 400000 in
theorem refPlace_any (x : Ct) (y : List UInt8) (A : Option Addr) (c : Nat) (w : World) (hr : Rf sv w w.heap.size A c x.cands) (hn : x.name.length ≤ 4000000000) (hl : ∀ y ∈ x.cands, y.length ≤ 4000000000) (hrule : x.rule ≤ 255) (hsl : -9223372036854775808 ≤ x.seats ∧ x.seats ≤ 9223372036854775807) :
    Calls Tryd.prog 28 #[cv A c x, .string ⟨y.toArray⟩] w fun e w' => e = .returned (.tuple #[.int .i64 (placeM x y).1, .int .i64 (placeM x y).2]) ∧ Below w.heap.size w w' := by
  have HK := Lib.hid (fun wx (hb : Below w.heap.size w wx) => refCheck_any x A c wx ((hr.below hb).more hb.size) hn hl hrule hsl)
  have hbw := fun (o : Obj) => below_new w o
  rcases checkM_cases x with hc | hc | hc
  · have HC := Lib.hid hc
    have HP := Lib.hid (place_ok y hc)
    have hlen : x.cands.length ≤ 10 := ((mayB_iff x).1 (checkM_ok.1 hc)).2.2.1
    have HR := Lib.hid (fun wx (hb : Below w.heap.size w wx) => hr.below hb)
    have HBK := Lib.hid (fun wx (hb : Below (w.alloc (.cells (cvs A c x) 26)).heap.size (w.alloc (.cells (cvs A c x) 26)) wx) => (show Blk wx w.heap.size _ (cvs A c x) from (Blk.new w 26 (cvs A c x)).below hb (by simp)).cell 1)
    clear hc hr
    unfold cvs at HBK
    unfold cv cvs
    go_enter Tryd.func28, Tryd.ntmps28
    go_wp2_with fail
    refine (HK.out _ (hbw _)).mono ?_
    rintro e w1 ⟨rfl, hb⟩
    rw [HC.out]
    have hc1 : w1.cell? ⟨w.heap.size, 1, none⟩ = some (.slice A x.cands.length c) := HBK.out w1 hb
    have HBW := Lib.hid ((hbw _).trans (hb.mono (hbw _).size))
    have hr1 := HR.out w1 HBW.out
    clear hb HK
    go_wp2_with fail
    go_loop [7] (fun i => ∃ k : Nat, k ≤ x.cands.length ∧ i = .int .i64 k ∧ Hid (∀ t, t < k → x.cands[t]? ≠ some y)) (fun i => x.cands.length - (intOf i).toNat)
    case atStart => exact ⟨0, Nat.zero_le _, rfl, fun t ht => absurd ht (Nat.not_lt_zero t)⟩
    case round =>
      obtain ⟨k, hk, rfl, hpre⟩ := hrel
      by_cases hlt : k < x.cands.length
      · obtain ⟨b, o, rfl, hbb, hcc⟩ := hr1.at_ hlt
        have hcx := hcc k hlt
        obtain ⟨z, hz⟩ : ∃ z, z = x.cands[k] := ⟨_, rfl⟩
        have HZ := Lib.hid (show x.cands[k]? = some z by rw [List.getElem?_eq_getElem hlt, hz])
        rw [← hz] at hcx
        unfold sv at hcx
        clear hcc hz
        by_cases he : z = y
        · have hbe : (z == y) = true := by rw [beq_iff_eq]; exact he
          have HB := Lib.hid (show placeM x y = (((k : Nat) : Int), 0) by
            have h := HZ.out
            rw [he] at h
            rw [HP.out, if_pos (List.mem_of_getElem? h), idxOf_at x.cands k hlt y (by rw [List.getElem?_eq_getElem hlt] at h; exact Option.some.inj h) hpre.out])
          clear he hpre
          go_wp2_with fail
          go_ret2
          exact ⟨by rw [HB.out] <;> rfl, HBW.out⟩
        · have hbe : (z == y) = false := by rw [beq_eq_false_iff_ne]; exact he
          have HN := Lib.hid (show ∀ t, t < k + 1 → x.cands[t]? ≠ some y from fun t ht => by
            by_cases e : t = k
            · subst e; rw [HZ.out]; intro e; exact he (Option.some.inj e)
            · exact hpre.out t (by omega))
          clear he hpre
          go_wp2_with fail
          go_round
          case rel => exact ⟨k + 1, by omega, by go_num, HN⟩
          case measure => simp [intOf]; omega
      · obtain rfl : k = x.cands.length := by omega
        have HB := Lib.hid (show placeM x y = (0, 6) by
          rw [HP.out, if_neg]
          intro hm
          obtain ⟨j, hj, e⟩ := List.getElem_of_mem hm
          exact hpre.out j hj (by rw [← e]; exact List.getElem?_eq_getElem hj))
        clear hpre
        go_wp2_with fail
        go_ret2
        exact ⟨by rw [HB.out] <;> rfl, HBW.out⟩
  all_goals
    have HC := Lib.hid hc
    have HB := Lib.hid (show placeM x y = (0, checkM x) by unfold placeM; rw [if_pos (by rw [hc]; decide)])
    clear hc
    unfold cv cvs
    go_enter Tryd.func28, Tryd.ntmps28
    go_wp2_with fail
    refine (HK.out _ (hbw _)).mono ?_
    rintro e w1 ⟨rfl, hb⟩
    rw [HC.out]
    go_wp2_with fail
    go_ret2
    exact ⟨by rw [HB.out, HC.out] <;> rfl, (hbw _).trans (hb.mono (hbw _).size)⟩
end Go.Proofs.YtdjifopdlkppoaaDoor
