/- The walk of the law OctetBack. -/
import Derived.Test.YtncccgpjlmelmaaOrder
import Derived.Test.YtncccgpjlmelmaaKeep
namespace Go.Proofs.Ytncccgpjlmelmaa
open Go.RowKit
set_option linter.unusedVariables false

theorem Rd.pre {w : World} {B c : Nat} {A : Option Addr} {l m : List UInt8} (h : Rd w B A c (l ++ m)) : Rd w B A c l := by
  have hc := h.cap
  rw [List.length_append] at hc
  refine ⟨by omega, h.capm, h.nil, fun ad e j hj => ?_⟩
  obtain ⟨h1, h2⟩ := h.cell ad e j (by rw [List.length_append]; omega)
  exact ⟨h1, by rw [h2, List.getElem_append_left hj]⟩

set_option maxRecDepth 100000 in
set_option maxHeartbeats 2000000 in
theorem back_walk (A A2 : Option Addr) (c c2 : Nat) (l rest : List UInt8) (n : Nat) (s : Int) (w : World) (hr : Rd w w.heap.size A c l) (hr2 : Rd w w.heap.size A2 c2 rest) (hn : n < 18446744073709551616) (hs1 : -9223372036854775808 ≤ s) (hs2 : s ≤ 9223372036854775807) :
    Calls Try.prog 7 #[.slice A l.length c, .int .u64 n, .int .i64 s, .slice A2 rest.length c2] w fun e w' => e = .returned (.bool true) ∧ Below w.heap.size w w' := by
  have hcap := hr.cap
  have hcm := hr.capm
  have hcap2 := hr2.cap
  have hcm2 := hr2.capm
  unfold maxLen at hcm hcm2
  by_cases hbig : 20000 < l.length
  · have hi : (20000 : Int) < l.length := by omega
    go_enter Try.func7, Try.ntmps7
    go_wp2_with fail
    refine (alive_any w).mono ?_
    rintro e w1 ⟨rfl, hb1⟩
    go_wp2_with fail
    go_ret
    exact ⟨rfl, hb1⟩
  have hi : ¬ (20000 : Int) < l.length := by omega
  have hd : decide ((20000 : Int) < l.length) = false := by simp; omega
  have hd' : decide (20000 < l.length) = false := by simp; omega
  by_cases hbig2 : 20000 < rest.length
  · have hi2 : (20000 : Int) < rest.length := by omega
    go_enter Try.func7, Try.ntmps7
    go_wp2_with fail
    refine (alive_any w).mono ?_
    rintro e w1 ⟨rfl, hb1⟩
    go_wp2_with fail
    go_ret
    exact ⟨rfl, hb1⟩
  have hi2 : ¬ (20000 : Int) < rest.length := by omega
  have hdd : decide ((20000 : Int) < rest.length) = false := by simp; omega
  have hdd' : decide (20000 < rest.length) = false := by simp; omega
  have cPut := fun w hr => put_any A c l n s w hr (by omega) hn hs1 hs2
  obtain ⟨q, hq⟩ : ∃ q, q = putM l n s := ⟨_, rfl⟩
  rw [← hq] at cPut
  obtain ⟨q1, q2⟩ := q
  have HQ := Lib.hid hq
  have CPut := Lib.hid cPut
  clear cPut hq
  obtain ⟨i0, hi0, hz0, hz1, hz2⟩ := info_parts info5
  by_cases hq0 : q2 = 0
  · subst hq0
    obtain ⟨k, hk, hk1, hk2, hnk, hlk, hrq⟩ := putM_ok HQ.out
    have hql : (q1.length : Int) = l.length + s := by rw [hrq, List.length_append, be_len]; omega
    have hqn : q1.length ≤ 16384 := by omega
    have hq1' : 1 ≤ q1.length := by omega
    have hsa : 1 ≤ s := by omega
    have hsb : s ≤ 8 := by omega
    have hlq : l.length ≤ q1.length := by omega
    have HRQ := Lib.hid hrq
    have HQL := Lib.hid hql
    have HK := Lib.hid hk
    clear hrq hql hk
    go_enter Try.func7, Try.ntmps7
    go_wp2_with fail
    refine (alive_any w).mono ?_
    rintro e w1 ⟨rfl, hb1⟩
    have s1 := hb1.size
    go_wp2_with fail
    refine (CPut.out _ ((hr.below hb1).more s1)).mono ?_
    rintro e w2 ⟨A3, c3, r2, rfl, rfl, hown2, hb2⟩
    have s2 := hb2.size
    go_wp2_with (at_builtin; refine wpList_append_keep _ rfl _ _ 22 rfl w1.heap.size 5 i0 _ Try.underlying22 hi0 hz0 hz1 hz2 rfl r2 rest rfl rfl hown2 ((hr2.below hb1).below (hb2.mono s1)) (by omega) (by omega) ?_; intro A4 c4 w4 r4 hr4 hown4 hg4 hkeep)
    have hb4 : Below w1.heap.size w2 w4 := below_of_grown hg4 (by omega) (fun g hg => (hown2.blk_ge g hg).1)
    have b4 : Below w.heap.size w w4 := hb1.trans ((hb2.mono s1).trans (hb4.mono s1))
    have hl4 : r4.length = r2.length + rest.length := by rw [hr4.out, List.length_append]
    have hT := take_any A4 c4 r4 l.length s w4 hown4.rd (by omega) hs1 hs2 (by omega) (by omega)
    have hTq : takeM r4 l.length s = (n, l.length + s, 0) := by
      have hkk := HK.out
      have hlen : l.length + k ≤ r4.length := by have := HQL.out; omega
      rw [hkk, takeM_ok hk1 hk2 hlen, hr4.out, HRQ.out, List.append_assoc, List.drop_left, List.take_left' (be_len k n), num_be, Nat.mod_eq_of_lt hnk]
    rw [hTq] at hT
    clear hl4 hTq
    refine hT.mono ?_
    rintro e w' ⟨rfl, rfl⟩
    clear hT
    have hpre : Rd w4 w4.heap.size A3 c3 l := by
      have := hkeep
      rw [HRQ.out] at this
      exact this.pre
    have hc3 := hkeep.cap
    have hcc : l.length ≤ c3 := by omega
    have hcc1 : 1 ≤ c3 := by omega
    obtain ⟨g, rfl⟩ : ∃ g, A3 = some ⟨g, 0, none⟩ := by
      rcases hown2.form with ⟨_, _, h⟩ | ⟨g, h, _⟩
      · rw [h] at hq1'; simp at hq1'
      · exact ⟨g, h⟩
    have kx := fun nq => str_bytes' (hpre.drewN nq)
    have kb := fun nq => str_bytes' ((hr.below b4).drewN nq)
    have hlen : ((r2.length : Int) == (l.length : Int) + s) = true := by rw [beq_iff_eq]; exact HQL.out
    have hne0 : ¬ c3 = 0 := by omega
    go_wp2_with fail
    go_quiet (fail)
    go_wp2_with fail
    go_ret
    exact ⟨rfl, b4.trans ⟨rfl, rfl, rfl, Nat.le_refl _, fun _ _ => rfl⟩⟩
  · have hne : (q2 != 0) = true := by rw [bne_iff_ne]; omega
    obtain rfl : q1 = [] := putM_err HQ.out hq0
    clear hq0
    go_enter Try.func7, Try.ntmps7
    go_wp2_with fail
    refine (alive_any w).mono ?_
    rintro e w1 ⟨rfl, hb1⟩
    have s1 := hb1.size
    go_wp2_with fail
    refine (CPut.out _ ((hr.below hb1).more s1)).mono ?_
    rintro e w2 ⟨A3, c3, r2, rfl, rfl, hown2, hb2⟩
    go_wp2_with fail
    go_ret
    exact ⟨rfl, hb1.trans (hb2.mono s1)⟩
end Go.Proofs.Ytncccgpjlmelmaa
