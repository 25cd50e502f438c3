/- DigestFolds. -/
import Derived.Test.YtgglnbjioobebaaDoorFold
namespace Go.Proofs.YtgglnbjioobebaaDoor
open Go.RowKit
set_option linter.unusedVariables false

theorem bytesOf_four : ∀ (S : List UInt32) (i : Nat) (h : i < S.length), ∃ a b c d : UInt8, num [a, b, c, d] = (S[i]).toNat ∧ (bytesOf S)[4 * i]? = some a ∧ (bytesOf S)[4 * i + 1]? = some b ∧ (bytesOf S)[4 * i + 2]? = some c ∧ (bytesOf S)[4 * i + 3]? = some d
  | [], i, h => by simp at h
  | x :: S, 0, h => by
    refine ⟨UInt8.ofNat (x.toNat / 2 ^ 24), UInt8.ofNat (x.toNat / 2 ^ 16), UInt8.ofNat (x.toNat / 2 ^ 8), UInt8.ofNat (x.toNat / 2 ^ 0), ?_, rfl, rfl, rfl, rfl⟩
    have := u32_lt x
    rw [num_four, u8_mod, u8_mod, u8_mod, u8_mod]
    simp only [List.getElem_cons_zero]
    omega
  | x :: S, i + 1, h => by
    obtain ⟨a, b, c, d, h0, h1, h2, h3, h4⟩ := bytesOf_four S i (by simpa using h)
    refine ⟨a, b, c, d, by simpa using h0, ?_⟩
    simp only [bytesOf]
    have hl : (beN 4 x.toNat).length = 4 := beN_len _ _
    refine ⟨?_, ?_, ?_, ?_⟩ <;> (rw [List.getElem?_append_right (by omega), hl])
    · rw [show 4 * (i + 1) - 4 = 4 * i by omega]; exact h1
    · rw [show 4 * (i + 1) + 1 - 4 = 4 * i + 1 by omega]; exact h2
    · rw [show 4 * (i + 1) + 2 - 4 = 4 * i + 2 by omega]; exact h3
    · rw [show 4 * (i + 1) + 3 - 4 = 4 * i + 3 by omega]; exact h4
theorem Hb.cellq {α : Type} {f : α → Value} {w : World} {g t : Nat} {L : List α} (h : Hb f w g t L) {i : Nat} {x : α} (hi : L[i]? = some x) : w.cell? ⟨g, i, none⟩ = some (f x) := by
  obtain ⟨hl, rfl⟩ := List.getElem?_eq_some_iff.1 hi
  exact h.cell hl

set_option maxHeartbeats 1000000 in
theorem digestFolds_any (A : Option Addr) (c : Nat) (l : List UInt8) (w : World) (hr : Rf bv w w.heap.size A c l) (hT : Tab w) :
    Calls Tryd.prog 10 #[.slice A l.length c] w fun e w' => e = .returned (.bool true) ∧ Below w.heap.size w w' := by
  have HT := Lib.hid hT
  clear hT
  by_cases hbig : 8192 < l.length
  · have hbd : (8192 : Int) < (l.length : Int) := by omega
    go_enter Tryd.func10, Tryd.ntmps10
    go_wp2_with fail
    refine (alive_any w HT.out).mono ?_
    rintro e w1 ⟨rfl, hb1⟩
    go_wp2_with fail
    go_ret
    exact ⟨rfl, hb1⟩
  · have HMP := Lib.hid (show padM l = (padB l, 0) by unfold padM; rw [if_neg hbig])
    have HMS := Lib.hid (show sumM l = (dig l, 0) by unfold sumM; rw [if_neg hbig])
    have hbd : decide ((8192 : Int) < (l.length : Int)) = false := by simp; omega
    go_enter Tryd.func10, Tryd.ntmps10
    go_wp2_with fail
    refine (alive_any w HT.out).mono ?_
    rintro e w1 ⟨rfl, hb1⟩
    go_wp2_with fail
    refine (padX_any A c w.heap.size l w1 (hr.below hb1) hb1.size (by omega)).mono ?_
    rintro e w2 ⟨A2, c2, rfl, hp2, hb2⟩
    rw [HMP.out] at hp2 ⊢
    have hbw2 := hb1.trans (hb2.mono hb1.size)
    clear hb1 hb2
    have HPL := Lib.hid (padB_len l)
    have HD := Lib.hid (show dig l = bytesOf (stA start (padB l) ((padB l).length / 64)) by rw [padB_len]; unfold dig blocksN; congr 2; omega)
    obtain ⟨p, hpe⟩ : ∃ p, p = padB l := ⟨_, rfl⟩
    have hpl : p.length ≤ 100000 := by rw [hpe, padB_len]; omega
    simp only [← hpe] at hp2 HD ⊢
    clear hpe
    obtain ⟨S, hS⟩ : ∃ S, S = stA start p (p.length / 64) := ⟨_, rfl⟩
    have hSL : S.length = 8 := by rw [hS]; exact stA_len _ start_len _
    have HSL := Lib.hid hSL
    have HPL2 := Lib.hid hpl
    rw [← hS] at HD
    have HS := Lib.hid hS
    clear hS hSL HPL hpl
    go_wp2_with fail
    refine (sum_any A c w.heap.size l w2 (hr.below hbw2) hbw2.size (by omega) (HT.out.below hbw2)).mono ?_
    rintro e w3 ⟨rfl, hb3⟩
    rw [HMS.out]
    unfold ab
    have HP3 := Lib.hid (hp2.below hb3)
    have hbw3 := hbw2.trans (hb3.mono hbw2.size)
    have hs3 := hb3.size
    clear hb3 hp2 hbw2
    obtain ⟨cs, hcs⟩ : ∃ cs, ((dig l).map bv).toArray = cs := ⟨_, rfl⟩
    rw [hcs]
    go_wp2_with ((with_reducible refine wpList_store_cs bv_one rfl _ (.tmp 6) (.tmp 28) rfl _ (dig l) _ hcs rfl rfl (Hb.new bv w3 _ (List.replicate 32 0) _ z32) size32 (List.length_replicate ..) (dig_len l) ?_); intro w4 h4 hg4; have hbw4 : Below w.heap.size w w4 := (hbw3.alloc hbw3.size _).grown hg4 (hbw3.alloc hbw3.size _).size (fun k e => by cases e; exact hbw3.size); have HP4 := Lib.hid ((HP3.out.alloc hs3 (.cells #[.int .u8 0, .int .u8 0, .int .u8 0, .int .u8 0, .int .u8 0, .int .u8 0, .int .u8 0, .int .u8 0, .int .u8 0, .int .u8 0, .int .u8 0, .int .u8 0, .int .u8 0, .int .u8 0, .int .u8 0, .int .u8 0, .int .u8 0, .int .u8 0, .int .u8 0, .int .u8 0, .int .u8 0, .int .u8 0, .int .u8 0, .int .u8 0, .int .u8 0, .int .u8 0, .int .u8 0, .int .u8 0, .int .u8 0, .int .u8 0, .int .u8 0, .int .u8 0] 22)).grown hg4 (by simp; omega) (fun hp => by obtain ⟨b, o, rfl, hb, _⟩ := HP3.out.at_ hp; simp [blk]; omega)))
    have hs4 := hg4.size
    simp only [World.size_alloc] at hs4
    refine (first_any w4).mono ?_
    rintro e w5 ⟨rfl, hb5⟩
    have h5 := h4.below hb5 h4.lt
    have hbw5 := hbw4.trans (hb5.mono hbw4.size)
    have hs5 := hb5.size
    have HP5 := Lib.hid (HP4.out.below (hb5.mono (show w2.heap.size ≤ w4.heap.size by omega)))
    clear h4 hg4 hbw4 hb5 hbw3
    go_wp2_with fail
    refine (folded_any start A2 c2 w2.heap.size p w5 start_len HP5.out (by omega) HPL2.out (HT.out.below hbw5)).mono ?_
    rintro e w6 ⟨rfl, hb6⟩
    rw [← HS.out]
    have h6 := h5.below hb6 h5.lt
    have hbw6 := hbw5.trans (hb6.mono hbw5.size)
    have hs6 := hb6.size
    clear h5 hb6 hbw5
    obtain ⟨ss, hss⟩ : ∃ ss, aw S = .agg ss := ⟨_, rfl⟩
    rw [hss]
    have hss' : (S.map uv).toArray = ss := by unfold aw at hss; simpa using hss
    go_wp2_with ((with_reducible refine wpList_store_cs uv_one rfl _ (.tmp 8) (.tmp 34) rfl _ S _ hss' rfl rfl (Hb.new uv w6 _ (List.replicate 8 0) _ z8) size8 (List.length_replicate ..) HSL.out ?_); intro w7 h7 hg7; have hbw7 : Below w.heap.size w w7 := (hbw6.alloc hbw6.size _).grown hg7 (hbw6.alloc hbw6.size _).size (fun k e => by cases e; exact hbw6.size); have h67 := (h6.alloc _).grown hg7 (by have := h6.lt; simp; omega))
    have HB7 := Lib.hid hbw7
    have H7 := Lib.hid h7
    have H67 := Lib.hid h67
    clear h6 hg7 hbw6 hbw7 h7 h67
    go_loopw [10] (fun i wr => ∃ j : Nat, j ≤ 8 ∧ i = .int .i64 j ∧ Hid (Hb bv wr w3.heap.size 22 (dig l)) ∧ Hid (Hb uv wr w6.heap.size 30 S) ∧ Hid (Below w.heap.size w wr)) (fun i _ => 8 - (intOf i).toNat)
    case atStart => exact ⟨0, by omega, rfl, H67, H7, HB7⟩
    case round =>
      clear H67 H7 HB7
      obtain ⟨j, hj, rfl, hD, hS7, hBw⟩ := hrel
      by_cases h8 : j = 8
      · have h8d : decide ((j : Int) < 8) = false := by simp; omega
        go_wp2_with fail
        go_ret
        exact ⟨rfl, hBw.out⟩
      · have hj8 : j < 8 := by omega
        have hjS : j < S.length := by rw [HSL.out]; exact hj8
        obtain ⟨xa, xb, xc, xd, hx, ha, hb, hc, hd⟩ := bytesOf_four S j hjS
        have hDo := hD.out
        rw [HD.out] at hDo
        have c0 := hDo.cellq ha
        have c1 := hDo.cellq hb
        have c2' := hDo.cellq hc
        have c3 := hDo.cellq hd
        have cS := hS7.out.cell hjS
        obtain ⟨s, hs⟩ : ∃ s, s = S[j] := ⟨_, rfl⟩
        rw [← hs] at hx cS
        simp only [bv, uv] at c0 c1 c2' c3 cS
        have b0 := u8_lt xa
        have b1 := u8_lt xb
        have b2 := u8_lt xc
        have b3 := u8_lt xd
        have hne : (bits .or .u32 (bits .or .u32 (bits .or .u32 ((xa.toNat : Int) * 16777216) ((xb.toNat : Int) * 65536)) ((xc.toNat : Int) * 256)) (xd.toNat : Int) != (s.toNat : Int)) = false := by rw [word_or, hx]; simp
        clear ha hb hc hd hx hs hDo
        go_wp2_with fail
        go_quiet (fail)
        go_wp2_with fail
        go_roundw
        case rel => exact ⟨j + 1, by omega, by go_num, hD.out.drewN _, hS7.out.drewN _, hBw.out.trans (below_drewN _ _ _)⟩
        case measure => simp [intOf]; omega
end Go.Proofs.YtgglnbjioobebaaDoor
