/- The reference's Great, wide. -/
import Derived.Test.YtnnenhcofibhoaaDoorTab
import Derived.Test.YtnnenhcofibhoaaDoorRef
namespace Go.Proofs.YtnnenhcofibhoaaDoor
open Go.RowKit
set_option linter.unusedVariables false

/-- Great answers false only where the rows are of at most 30,000 bytes and words. -/
def GreatE (rs : List Row) (w : World) (e : Ending) (w' : World) : Prop := ∃ b, e = .returned (.bool b) ∧ w = w' ∧ (b = false → sumR rs ≤ 30000)
theorem sumR_app (xs ys : List Row) : sumR (xs ++ ys) = sumR xs + sumR ys := by simp only [sumR, List.map_append, List.sum_append]
theorem sumR_take (rs : List Row) (k : Nat) (h : k < rs.length) : sumR (rs.take (k + 1)) = sumR (rs.take k) + (1 + sumL rs[k]) := by
  rw [List.take_succ_eq_append_getElem h, sumR_snoc]
  rfl

set_option maxRecDepth 100000 in
set_option maxHeartbeats 1000000 in
theorem great_any (A : Option Addr) (c B : Nat) (rows : List Rw) (w : World) (hr : RfR w B A c rows) (hs : ∀ x ∈ rows, ∀ y ∈ x.l, y.length ≤ 140737488355328) :
    Calls Tryd.prog 24 #[.slice A rows.length c] w (GreatE (txts rows) w) := by
  have hcap := hr.top.cap
  have hcm := hr.top.capm
  simp only [maxLen] at hcm
  have HS := Lib.hid hs
  clear hs
  go_enter Tryd.func24, Tryd.ntmps24
  go_wp2_with fail
  go_loop [3, 4] (fun v i => ∃ k n : Nat, k ≤ rows.length ∧ i = .int .i64 k ∧ v = .int .i64 n ∧ Hid (n < 30000 → sumR ((txts rows).take k) ≤ n) ∧ n ≤ 100000) (fun _ i => rows.length - (intOf i).toNat)
  case atStart => exact ⟨0, 0, Nat.zero_le _, rfl, rfl, (fun _ => Nat.le_refl _), by omega⟩
  case round =>
    obtain ⟨k, n, hk, rfl, rfl, hn, hn2⟩ := hrel
    by_cases hlt : k < rows.length
    · by_cases hbig : n < 30000
      · obtain ⟨b, o, rfl, hbb, hc⟩ := hr.top.at_ hlt
        have hcx := hc k hlt
        have hrow := hr.row rows[k] (List.getElem_mem hlt)
        have hys := HS.out rows[k] (List.getElem_mem hlt)
        have hltt : k < (txts rows).length := by rw [txts_len]; exact hlt
        have hgt : (txts rows)[k]'hltt = rows[k].l := by simp [txts]
        have ht := sumR_take (txts rows) k hltt
        rw [hgt] at ht
        obtain ⟨xA, xc, xl, hx⟩ : ∃ a c l, rows[k] = Rw.mk a c l := ⟨_, _, _, rfl⟩
        rw [hx] at hcx hrow hys ht
        dsimp only at hrow hys ht
        unfold Rw.v at hcx
        have HT := Lib.hid ht
        have HYS := Lib.hid hys
        have hni : (n : Int) < 30000 := by omega
        clear hc hx ht hgt hys
        go_wp2_with fail
        refine (long_any xA xc _ xl _ hrow HYS.out).mono ?_
        rintro e w' ⟨m, rfl, rfl, hm, hm2⟩
        have hmi : min (m : Int) 30000 = ((min m 30000 : Nat) : Int) := by omega
        obtain ⟨q, hq⟩ : ∃ q, q = min m 30000 := ⟨_, rfl⟩
        rw [← hq] at hmi
        have hql : q ≤ 30000 := by omega
        have HQ := Lib.hid hq
        have HM := Lib.hid hm
        clear hm hm2 hq
        go_wp2_with fail
        go_round
        case rel => exact ⟨k + 1, n + 1 + q, by omega, by go_num, by first | go_num | (rw [hmi]; go_num), fun h => by
          have h1 := hn.out hbig
          have h2 := HT.out
          have h3 := HQ.out
          have h4 := HM.out
          have h5 : m < 1000000 := by omega
          have h6 := h4 h5
          omega, by omega⟩
        case measure => simp [intOf]; omega
      · have hi : ¬ (n : Int) < 30000 := by omega
        have hd : decide ((30000 : Int) ≤ n) = true := by simp; omega
        go_wp2_with fail
        go_ret
        exact ⟨true, rfl, rfl, fun h => by cases h⟩
    · obtain rfl : k = rows.length := by omega
      by_cases hbig : n < 30000
      · have hd : decide ((30000 : Int) ≤ n) = false := by simp; omega
        have HF := Lib.hid (hn.out hbig)
        go_wp2_with fail
        go_ret
        refine ⟨false, rfl, rfl, fun _ => ?_⟩
        have h1 := HF.out
        rw [← txts_len, List.take_of_length_le (Nat.le_refl _)] at h1
        omega
      · have hd : decide ((30000 : Int) ≤ n) = true := by simp; omega
        go_wp2_with fail
        go_ret
        exact ⟨true, rfl, rfl, fun h => by cases h⟩
end Go.Proofs.YtnnenhcofibhoaaDoor
