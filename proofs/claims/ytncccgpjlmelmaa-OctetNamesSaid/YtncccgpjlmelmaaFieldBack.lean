/- The walk of the law OctetFieldBack. -/
import Derived.Test.YtncccgpjlmelmaaBack
namespace Go.Proofs.Ytncccgpjlmelmaa
open Go.RowKit
set_option linter.unusedVariables false

theorem putFieldM_ok {l f r : List UInt8} (h : (r, (0 : Int)) = putFieldM l f) : f.length ≤ 65535 ∧ l.length + 2 + f.length ≤ 16384 ∧ r = l ++ fld f := by
  unfold putFieldM at h
  split at h
  · rename_i h1
    exact ⟨h1.1, h1.2, congrArg Prod.fst h⟩
  · simp at h
theorem putFieldM_err {l f r : List UInt8} {e : Int} (h : (r, e) = putFieldM l f) (he : e ≠ 0) : r = [] ∧ 16384 < l.length + 2 + f.length := by
  unfold putFieldM at h
  split at h
  · simp at h; exact absurd h.2 he
  · simp at h; exact ⟨h.1, by omega⟩
theorem takeFieldM_put (l f r : List UInt8) (hf : f.length ≤ 65535) : takeFieldM (l ++ fld f ++ r) l.length = (f, (l.length : Int) + 2 + f.length, 0) := by
  have hd : (l ++ fld f ++ r).drop l.length = fld f ++ r := by rw [List.append_assoc, List.drop_left]
  rcases takeFieldM_spec (l ++ fld f ++ r) l.length (by simp) with ⟨x, hx, hxl, hq, hdx⟩ | ⟨hq, hno⟩
  · rw [hd] at hdx
    obtain ⟨rfl, _⟩ := fld_inj hf hx hdx
    rw [hq]
    simp
  · exact absurd hd (hno f r hf)

set_option maxRecDepth 100000 in
set_option maxHeartbeats 2000000 in
theorem fieldBack_walk (A A1 A2 : Option Addr) (c c1 c2 : Nat) (l f rest : List UInt8) (w : World) (hr : Rd w w.heap.size A c l) (hrf : Rd w w.heap.size A1 c1 f) (hr2 : Rd w w.heap.size A2 c2 rest) :
    Calls Try.prog 8 #[.slice A l.length c, .slice A1 f.length c1, .slice A2 rest.length c2] w fun e w' => e = .returned (.bool true) ∧ Below w.heap.size w w' := by
  have hcap := hr.cap
  have hcm := hr.capm
  have hcap1 := hrf.cap
  have hcm1 := hrf.capm
  have hcap2 := hr2.cap
  have hcm2 := hr2.capm
  unfold maxLen at hcm hcm1 hcm2
  by_cases hbig : 20000 < l.length
  · have hi : (20000 : Int) < l.length := by omega
    go_enter Try.func8, Try.ntmps8
    go_wp2_with fail
    refine (alive_any w).mono ?_
    rintro e w1 ⟨rfl, hb1⟩
    go_wp2_with fail
    go_ret
    exact ⟨rfl, hb1⟩
  have hi : ¬ (20000 : Int) < l.length := by omega
  have hd : decide ((20000 : Int) < l.length) = false := by simp; omega
  have hd' : decide (20000 < l.length) = false := by simp; omega
  by_cases hbig1 : 70000 < f.length
  · have hi1 : (70000 : Int) < f.length := by omega
    go_enter Try.func8, Try.ntmps8
    go_wp2_with fail
    refine (alive_any w).mono ?_
    rintro e w1 ⟨rfl, hb1⟩
    go_wp2_with fail
    go_ret
    exact ⟨rfl, hb1⟩
  have hi1 : ¬ (70000 : Int) < f.length := by omega
  have hdf : decide ((70000 : Int) < f.length) = false := by simp; omega
  have hdf' : decide (70000 < f.length) = false := by simp; omega
  by_cases hbig2 : 20000 < rest.length
  · have hi2 : (20000 : Int) < rest.length := by omega
    go_enter Try.func8, Try.ntmps8
    go_wp2_with fail
    refine (alive_any w).mono ?_
    rintro e w1 ⟨rfl, hb1⟩
    go_wp2_with fail
    go_ret
    exact ⟨rfl, hb1⟩
  have hi2 : ¬ (20000 : Int) < rest.length := by omega
  have hdd : decide ((20000 : Int) < rest.length) = false := by simp; omega
  have hdd' : decide (20000 < rest.length) = false := by simp; omega
  have cPut := fun w hr hrf => putField_any A A1 c c1 l f w hr hrf (by omega) (by omega)
  obtain ⟨q, hq⟩ : ∃ q, q = putFieldM l f := ⟨_, rfl⟩
  rw [← hq] at cPut
  obtain ⟨q1, q2⟩ := q
  have HQ := Lib.hid hq
  have CPut := Lib.hid cPut
  clear cPut hq
  obtain ⟨i0, hi0, hz0, hz1, hz2⟩ := info_parts info5
  by_cases hq0 : q2 = 0
  · subst hq0
    obtain ⟨hf1, hf2, hrq⟩ := putFieldM_ok HQ.out
    have hql : q1.length = l.length + 2 + f.length := by rw [hrq, List.length_append, fld_len]; omega
    have hqn : q1.length ≤ 16384 := by omega
    have hlen : ((l.length : Int) + 2 + f.length == (q1.length : Int)) = true := by rw [beq_iff_eq]; omega
    have HRQ := Lib.hid hrq
    clear hrq hql
    go_enter Try.func8, Try.ntmps8
    go_wp2_with fail
    refine (alive_any w).mono ?_
    rintro e w1 ⟨rfl, hb1⟩
    have s1 := hb1.size
    go_wp2_with fail
    refine (CPut.out _ ((hr.below hb1).more s1) ((hrf.below hb1).more s1)).mono ?_
    rintro e w2 ⟨A3, c3, r2, rfl, rfl, hown2, hb2⟩
    have s2 := hb2.size
    go_wp2_with (at_builtin; refine wpList_append_bytes _ rfl _ _ 22 rfl w1.heap.size 5 i0 _ Try.underlying22 hi0 hz0 hz1 hz2 rfl r2 rest rfl rfl hown2 ((hr2.below hb1).below (hb2.mono s1)) (by omega) (by omega) ?_; intro A4 c4 w4 r4 hr4 hown4 hg4 hat4)
    have hb4 : Below w1.heap.size w2 w4 := below_of_grown hg4 (by omega) (fun g hg => (hown2.blk_ge g hg).1)
    have b4 : Below w.heap.size w w4 := hb1.trans ((hb2.mono s1).trans (hb4.mono s1))
    have s4 := hb4.size
    have hl4 : r4.length ≤ 36384 := by rw [hr4.out, List.length_append]; omega
    have hT := takeField_any A4 c4 r4 l.length w4 hown4.rd (by omega) (by omega) (by omega)
    have hTq : takeFieldM r4 l.length = (f, (l.length : Int) + 2 + f.length, 0) := by rw [hr4.out, HRQ.out]; exact takeFieldM_put l f rest hf1
    rw [hTq] at hT
    clear hTq
    refine hT.mono ?_
    clear hT
    rintro e w5 ⟨A5, c5, r5, rfl, rfl, hown5, hb5⟩
    have b5 : Below w.heap.size w w5 := b4.trans (hb5.mono (by omega))
    have k1 := str_bytes' hown5.rd
    have k2 := str_bytes' (hrf.below b5)
    go_wp2_with fail
    go_ret
    exact ⟨rfl, b5⟩
  · have hne : (q2 != 0) = true := by rw [bne_iff_ne]; omega
    obtain ⟨rfl, hbigl⟩ := putFieldM_err HQ.out hq0
    have hlt : (16384 : Int) < (l.length : Int) + f.length + 2 := by omega
    clear hq0
    go_enter Try.func8, Try.ntmps8
    go_wp2_with fail
    refine (alive_any w).mono ?_
    rintro e w1 ⟨rfl, hb1⟩
    have s1 := hb1.size
    go_wp2_with fail
    refine (CPut.out _ ((hr.below hb1).more s1) ((hrf.below hb1).more s1)).mono ?_
    rintro e w2 ⟨A3, c3, r2, rfl, rfl, hown2, hb2⟩
    go_wp2_with fail
    go_ret
    exact ⟨rfl, hb1.trans (hb2.mono s1)⟩
end Go.Proofs.Ytncccgpjlmelmaa
