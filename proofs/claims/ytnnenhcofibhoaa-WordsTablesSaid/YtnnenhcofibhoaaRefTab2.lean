/- The reference's wide and Table. -/
import Derived.Test.YtnnenhcofibhoaaRefTab
import Derived.Test.YtnnenhcofibhoaaRefB
namespace Go.Proofs.Ytnnenhcofibhoaa
open Go.RowKit
set_option linter.unusedVariables false
attribute [local go_sem] mk_get mk_append mk_extract

def lenW (r : Row) (k : Nat) : Nat := ((r[k]?).map fun x => x.length).getD 0
def wideM (rs : List Row) (k : Nat) : Nat := (rs.map (lenW · k)).foldl max 0
theorem wideM_take (rs : List Row) (k i : Nat) (h : i < rs.length) : wideM (rs.take (i + 1)) k = max (wideM (rs.take i) k) (lenW rs[i] k) := by
  unfold wideM
  rw [List.take_succ_eq_append_getElem h, List.map_append, List.foldl_append]
  rfl
theorem lenW_out {r : Row} {k : Nat} (h : r.length ≤ k) : lenW r k = 0 := by unfold lenW; rw [List.getElem?_eq_none h]; rfl
theorem lenW_in {r : Row} {k : Nat} (h : k < r.length) : lenW r k = r[k].length := by unfold lenW; rw [List.getElem?_eq_getElem h]; rfl
theorem wd_wide {rs : List Row} {r : Row} {k : Nat} (hr : r ∈ rs) (hk : k < r.length) : wd rs k = wideM rs k + 2 := by
  have h0 := wd_ge hr k
  rw [cellW_in hk] at h0
  have h1 : wd rs k ≤ wideM rs k + 2 := foldl_max_le (Nat.zero_le _) fun x hx => by
    obtain ⟨q, hq, rfl⟩ := List.mem_map.1 hx
    have h2 : lenW q k ≤ wideM rs k := (foldl_max_ge _ 0).2 _ (List.mem_map.2 ⟨q, hq, rfl⟩)
    by_cases hkq : k < q.length
    · rw [cellW_in hkq]; rw [lenW_in hkq] at h2; omega
    · rw [cellW_out (by omega)]; omega
  have h2 : wideM rs k ≤ wd rs k - 2 := foldl_max_le (Nat.zero_le _) fun x hx => by
    obtain ⟨q, hq, rfl⟩ := List.mem_map.1 hx
    have h3 := wd_ge hq k
    by_cases hkq : k < q.length
    · rw [cellW_in hkq] at h3; rw [lenW_in hkq]; omega
    · rw [lenW_out (by omega)]; omega
  omega

set_option maxRecDepth 100000 in
set_option maxHeartbeats 1000000 in
theorem wide_any (A : Option Addr) (c B k : Nat) (rows : List Rw) (w : World) (hr : RfR w B A c rows) (hs : sumR (txts rows) ≤ 4000000) (hk : k ≤ 4000000) :
    Calls Try.prog 29 #[.slice A rows.length c, .int .i64 k] w fun e w' => e = .returned (.int .i64 (wideM (txts rows) k)) ∧ w = w' := by
  have hlen : rows.length ≤ 4000000 := by have := sumR_len (txts rows); rw [txts_len] at this; omega
  have hrowsum : ∀ i (h : i < rows.length), sumL rows[i].l ≤ 4000000 := by
    intro i h
    have h1 := sumR_get (txts rows) i (by rw [txts_len]; exact h)
    have h2 : (txts rows)[i]'(by rw [txts_len]; exact h) = rows[i].l := by simp [txts]
    rw [h2] at h1
    have h3 : (rows[i].l.map fun y => y.length + 1).sum = sumL rows[i].l := rfl
    omega
  have HRS := Lib.hid hrowsum
  clear hrowsum hs
  go_enter Try.func29, Try.ntmps29
  go_wp2_with fail
  go_loop [5, 6] (fun v i => ∃ m n : Nat, m ≤ rows.length ∧ i = .int .i64 m ∧ v = .int .i64 n ∧ Hid (n = wideM ((txts rows).take m) k) ∧ n ≤ 4000000) (fun _ i => rows.length - (intOf i).toNat)
  case atStart => exact ⟨0, 0, Nat.zero_le _, rfl, rfl, rfl, by omega⟩
  case round =>
    obtain ⟨m, n, hm, rfl, rfl, hn, hn2⟩ := hrel
    by_cases hlt : m < rows.length
    · obtain ⟨b, o, rfl, hbb, hc⟩ := hr.top.at_ hlt
      have hcx := hc m hlt
      have hrow := hr.row rows[m] (List.getElem_mem hlt)
      have hsm := HRS.out m hlt
      have hltt : m < (txts rows).length := by rw [txts_len]; exact hlt
      have hgt : (txts rows)[m]'hltt = rows[m].l := by simp [txts]
      have ht := wideM_take (txts rows) k m hltt
      rw [hgt] at ht
      obtain ⟨xA, xc, xl, hx⟩ : ∃ a c l, rows[m] = Rw.mk a c l := ⟨_, _, _, rfl⟩
      rw [hx] at hcx hrow hsm ht
      dsimp only at hrow hsm ht
      unfold Rw.v at hcx
      have hxl : xl.length ≤ 4000000 := Nat.le_trans (sumL_len xl) hsm
      clear hc hx hgt
      by_cases hkx : k < xl.length
      · rw [lenW_in hkx] at ht
        obtain ⟨b2, o2, hA, hb2, hc2⟩ := hrow.at_ hkx
        have hcy := hc2 k hkx
        have hyl := sumL_get xl k hkx
        obtain ⟨y, hy⟩ : ∃ y, y = xl[k] := ⟨_, rfl⟩
        rw [← hy] at hcy hyl ht
        have hyl2 : y.length ≤ 4000000 := by omega
        unfold sv at hcy
        have HT := Lib.hid ht
        have hmi : max (n : Int) (y.length : Int) = ((max n y.length : Nat) : Int) := by omega
        obtain ⟨q, hq⟩ : ∃ q, q = max n y.length := ⟨_, rfl⟩
        rw [← hq] at hmi
        have hql : q ≤ 4000000 := by omega
        have HQ := Lib.hid hq
        clear hc2 hy hyl ht hq
        subst hA
        go_wp2_with fail
        go_round
        case rel => exact ⟨m + 1, q, by omega, by go_num, by first | go_num | (rw [hmi]), by show _ = _; rw [HT.out, HQ.out, hn.out], hql⟩
        case measure => simp [intOf]; omega
      · rw [lenW_out (by omega), Nat.max_zero] at ht
        have HT := Lib.hid ht
        clear ht
        go_wp2_with fail
        go_round
        case rel => exact ⟨m + 1, n, by omega, by go_num, rfl, by show _ = _; rw [HT.out, hn.out], hn2⟩
        case measure => simp [intOf]; omega
    · obtain rfl : m = rows.length := by omega
      have HF : Hid (n = wideM (txts rows) k) := by
        have h1 := hn.out
        rw [← txts_len, List.take_of_length_le (Nat.le_refl _)] at h1
        exact h1
      go_wp2_with fail
      go_ret
      exact ⟨by rw [← HF.out]; rfl, rfl⟩
end Go.Proofs.Ytnnenhcofibhoaa
