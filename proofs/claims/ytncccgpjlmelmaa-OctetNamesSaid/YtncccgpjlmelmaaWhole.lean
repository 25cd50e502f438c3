/- The walk of the law OctetWhole. -/
import Derived.Test.YtncccgpjlmelmaaFieldBack
namespace Go.Proofs.Ytncccgpjlmelmaa
open Go.RowKit
set_option linter.unusedVariables false

theorem splitM_nil : splitM [] = ([], 0) := splitM_flat (L := []) (fun _ h => by cases h) (by simp [flat])
theorem joinM_nil : joinM [] = ([], 0) := by decide
/-- What Join and then Split come to. -/
theorem join_split (L : List (List UInt8)) : ((joinM L).2 = 0 ∧ splitM (joinM L).1 = (L, 0)) ∨ ((joinM L).2 = 4 ∧ (joinM L).1 = []) := by
  unfold joinM
  split
  · rename_i h
    exact .inl ⟨rfl, splitM_flat (fit_of_flat h) h⟩
  · exact .inr ⟨rfl, rfl⟩
/-- What Split and then Join come to. -/
theorem split_join (b : List UInt8) : ((splitM b).2 = 0 ∧ joinM (splitM b).1 = (b, 0)) ∨ ((splitM b).2 ≠ 0 ∧ (splitM b).1 = []) := by
  by_cases h : (splitM b).2 = 0
  · obtain ⟨_, h2, h3⟩ := splitM_ok h
    refine .inl ⟨h, ?_⟩
    unfold joinM
    rw [← h2, if_pos h3]
  · exact .inr ⟨h, splitM_err h⟩
theorem byts_nil {ys : List El} (h : byts ys = []) : ys = [] := by simpa [byts] using h
theorem splitM_count (b : List UInt8) : (splitM b).1.length ≤ 16384 ∧ ∀ x ∈ (splitM b).1, x.length ≤ 65535 := by
  by_cases h : (splitM b).2 = 0
  · obtain ⟨h1, h2, h3⟩ := splitM_ok h
    have := flat_count (splitM b).1
    rw [← h2] at this
    exact ⟨by omega, h1⟩
  · rw [splitM_err h]
    exact ⟨by simp, (fun _ h => by cases h)⟩
theorem els_le {ys : List El} {L : List (List UInt8)} (h : byts ys = L) {n : Nat} (hL : ∀ x ∈ L, x.length ≤ n) : ∀ x ∈ ys, x.l.length ≤ n := fun x hx => hL x.l (by rw [← h]; exact List.mem_map_of_mem hx)

set_option maxRecDepth 100000 in
set_option maxHeartbeats 4000000 in
theorem whole_walk (A A2 : Option Addr) (c c2 : Nat) (xs : List El) (b : List UInt8) (w : World) (hr : RdL w w.heap.size A c xs) (hrb : Rd w w.heap.size A2 c2 b) :
    Calls Try.prog 9 #[.slice A xs.length c, .slice A2 b.length c2] w fun e w' => e = .returned (.bool true) ∧ Below w.heap.size w w' := by
  have hcap := hr.cap
  have hcm := hr.capm
  have hcap2 := hrb.cap
  have hcm2 := hrb.capm
  unfold maxLen at hcm hcm2
  by_cases hbig : 300 < xs.length
  · have hi : (300 : Int) < xs.length := by omega
    go_enter Try.func9, Try.ntmps9
    go_wp2_with fail
    refine (alive_any w).mono ?_
    rintro e w1 ⟨rfl, hb1⟩
    go_wp2_with fail
    go_ret
    exact ⟨rfl, hb1⟩
  have hi : ¬ (300 : Int) < xs.length := by omega
  have hd : decide ((300 : Int) < xs.length) = false := by simp; omega
  have hd' : decide (300 < xs.length) = false := by simp; omega
  by_cases hbig2 : 20000 < b.length
  · have hi2 : (20000 : Int) < b.length := by omega
    go_enter Try.func9, Try.ntmps9
    go_wp2_with fail
    refine (alive_any w).mono ?_
    rintro e w1 ⟨rfl, hb1⟩
    go_wp2_with fail
    go_ret
    exact ⟨rfl, hb1⟩
  have hi2 : ¬ (20000 : Int) < b.length := by omega
  have hdd : decide ((20000 : Int) < b.length) = false := by simp; omega
  have hdd' : decide (20000 < b.length) = false := by simp; omega
  go_enter Try.func9, Try.ntmps9
  go_wp2_with fail
  refine (alive_any w).mono ?_
  rintro e w1 ⟨rfl, hb1⟩
  have s1 := hb1.size
  have hr1 := (hr.below hb1).more s1
  have hrb1 := (hrb.below hb1).more s1
  go_wp2_with fail
  go_loop [6] (fun i => ∃ k : Nat, k ≤ xs.length ∧ i = .int .i64 k ∧ Hid (∀ j (h : j < xs.length), j < k → xs[j].l.length ≤ 70000)) (fun i => xs.length - (intOf i).toNat)
  case atStart => exact ⟨0, Nat.zero_le _, rfl, fun j h h0 => by omega⟩
  case round =>
    obtain ⟨k, hk, rfl, hall⟩ := hrel
    by_cases hlt : k < xs.length
    · obtain ⟨bb, o, rfl, hbb, hc⟩ := hr1.at_ hlt
      have hck := hc k hlt
      have rx := hr1.el xs[k] (List.getElem_mem _)
      have hxc := rx.cap
      have hxm := rx.capm
      unfold maxLen at hxm
      obtain ⟨x, hxk⟩ : ∃ x, x = xs[k] := ⟨_, rfl⟩
      rw [← hxk] at hck hxc hxm
      unfold El.v at hck
      have HX := Lib.hid hxk
      clear hc hxk rx
      by_cases hlong : 70000 < x.l.length
      · have hli : (70000 : Int) < x.l.length := by omega
        go_wp2_with fail
        go_ret
        exact ⟨rfl, hb1⟩
      · have hli : ¬ (70000 : Int) < x.l.length := by omega
        have hall' : Hid (∀ j (h : j < xs.length), j < k + 1 → xs[j].l.length ≤ 70000) := fun j h hj => by
          rcases Nat.lt_or_ge j k with h1 | h1
          · exact hall.out j h h1
          · obtain rfl : j = k := by omega
            rw [← HX.out]; omega
        go_wp2_with fail
        go_round
        case rel => exact ⟨k + 1, by omega, by go_num, hall'⟩
        case measure => simp [intOf]; omega
    · have hel : ∀ x ∈ xs, x.l.length ≤ 100000 := fun x hx => by
        obtain ⟨j, hj, rfl⟩ := List.getElem_of_mem hx
        have := hall.out j hj (by omega)
        omega
      have cJ := join_any A c xs w1 hr1 (by omega) hel
      have HJS := Lib.hid (join_split (byts xs))
      have hjl := joinM_len (byts xs)
      generalize joinM (byts xs) = q at cJ hjl HJS
      obtain ⟨q1, q2⟩ := q
      have CJ := Lib.hid cJ
      have HEL := Lib.hid hel
      clear cJ hel
      go_wp2_with fail
      refine CJ.out.mono ?_
      rintro e w2 ⟨A3, c3, r3, rfl, rfl, hown3, hb2⟩
      have s2 := hb2.size
      have cS := split_any A3 c3 r3 w2 hown3.rd (by omega)
      rcases HJS.out with ⟨h0, hsp⟩ | ⟨h4, h0⟩
      · obtain rfl : q2 = 0 := h0
        rw [show splitM r3 = (byts xs, 0) from hsp] at cS
        have CS := Lib.hid cS
        clear cS hsp
        go_wp2_with fail
        refine CS.out.mono ?_
        rintro e w3 ⟨A4, c4, ys, rfl, hys, hown4, hb3⟩
        have s3 := hb3.size
        have b13 : Below w1.heap.size w1 w3 := hb2.trans (hb3.mono s2)
        have hyl : ys.length ≤ 1000000 := by
          have := congrArg List.length (show byts ys = byts xs from hys)
          rw [byts_len, byts_len] at this
          omega
        have hS := same_any A4 A c4 c _ _ ys xs w3 hown4.rd (hr1.below b13) hyl (by omega)
        rw [show byts ys = byts xs from hys] at hS
        rw [decide_eq_true (rfl : byts xs = byts xs)] at hS
        have HS := Lib.hid hS
        clear hS hys
        go_wp2_with fail
        refine HS.out.mono ?_
        rintro e w4 ⟨rfl, nd, rfl⟩
        have b14 : Below w1.heap.size w1 (w3.drewN nd) := b13.trans ⟨rfl, rfl, rfl, Nat.le_refl _, fun _ _ => rfl⟩
        obtain ⟨w4, hw4⟩ : ∃ w4, w4 = w3.drewN nd := ⟨_, rfl⟩
        rw [← hw4] at b14 ⊢
        clear hw4
        have s4 := b14.size
        have cT := split_any A2 c2 b w4 ((hrb1.below b14).more s4) (by omega)
        have hcnt := splitM_count b
        have hsj := split_join b
        generalize splitM b = t at cT hcnt hsj
        obtain ⟨t1, t2⟩ := t
        have HC := Lib.hid hcnt
        have CT := Lib.hid cT
        have hrb4 := hrb1.below b14
        clear cT hcnt
        rcases hsj with ⟨ht, hj⟩ | ⟨ht, hj⟩
        · obtain rfl : t2 = 0 := ht
          have hj' : joinM t1 = (b, 0) := hj
          have HJ := Lib.hid hj'
          clear hj hj'
          go_wp2_with fail
          refine CT.out.mono ?_
          rintro e w5 ⟨A5, c5, zs, rfl, hzs, hown5, hb5⟩
          have s5 := hb5.size
          have hzs' : byts zs = t1 := hzs
          have hzl : zs.length ≤ 1000000 := by
            have := congrArg List.length hzs'
            rw [byts_len] at this
            have := HC.out.1
            omega
          have cU := join_any A5 c5 zs w5 hown5.rd hzl (fun x hx => by have := els_le hzs' HC.out.2 x hx; omega)
          rw [hzs', HJ.out] at cU
          have CU := Lib.hid cU
          clear cU hzs hzs'
          go_wp2_with fail
          refine CU.out.mono ?_
          rintro e w6 ⟨A6, c6, r6, rfl, hr6, hown6, hb6⟩
          obtain rfl : r6 = b := hr6
          have b16 : Below w.heap.size w1 w6 := (b14.mono s1).trans ((hb5.mono (by omega)).trans (hb6.mono (by omega)))
          have k1 := str_bytes' hown6.rd
          have k2 := str_bytes' ((hrb.below hb1).below b16)
          go_wp2_with fail
          go_ret
          exact ⟨rfl, hb1.trans b16⟩
        · obtain rfl : t1 = [] := hj
          have htn : (t2 != 0) = true := by rw [bne_iff_ne]; exact ht
          clear ht
          go_wp2_with fail
          refine CT.out.mono ?_
          rintro e w5 ⟨A5, c5, zs, rfl, hzs, hown5, hb5⟩
          have s5 := hb5.size
          obtain rfl : zs = [] := byts_nil hzs
          have cU := join_any A5 c5 [] w5 hown5.rd (by simp) (fun _ h => by cases h)
          have CU := Lib.hid cU
          clear cU hzs
          go_wp2_with fail
          refine CU.out.mono ?_
          rintro e w6 ⟨A6, c6, r6, rfl, hr6, hown6, hb6⟩
          have b16 : Below w.heap.size w1 w6 := (b14.mono s1).trans ((hb5.mono (by omega)).trans (hb6.mono (by omega)))
          clear hr6
          go_wp2_with fail
          go_ret
          exact ⟨rfl, hb1.trans b16⟩
      · obtain rfl : q2 = 4 := h4
        obtain rfl : r3 = [] := h0
        rw [splitM_nil] at cS
        have CS := Lib.hid cS
        clear cS
        go_wp2_with fail
        refine CS.out.mono ?_
        rintro e w4 ⟨A4, c4, ys, rfl, hys, hown4, hb3⟩
        obtain rfl : ys = [] := byts_nil hys
        have b14 : Below w1.heap.size w1 w4 := hb2.trans (hb3.mono s2)
        have s4 := b14.size
        clear hys
        have cT := split_any A2 c2 b w4 ((hrb1.below b14).more s4) (by omega)
        have hcnt := splitM_count b
        have hsj := split_join b
        generalize splitM b = t at cT hcnt hsj
        obtain ⟨t1, t2⟩ := t
        have HC := Lib.hid hcnt
        have CT := Lib.hid cT
        have hrb4 := hrb1.below b14
        clear cT hcnt
        rcases hsj with ⟨ht, hj⟩ | ⟨ht, hj⟩
        · obtain rfl : t2 = 0 := ht
          have hj' : joinM t1 = (b, 0) := hj
          have HJ := Lib.hid hj'
          clear hj hj'
          go_wp2_with fail
          refine CT.out.mono ?_
          rintro e w5 ⟨A5, c5, zs, rfl, hzs, hown5, hb5⟩
          have s5 := hb5.size
          have hzs' : byts zs = t1 := hzs
          have hzl : zs.length ≤ 1000000 := by
            have := congrArg List.length hzs'
            rw [byts_len] at this
            have := HC.out.1
            omega
          have cU := join_any A5 c5 zs w5 hown5.rd hzl (fun x hx => by have := els_le hzs' HC.out.2 x hx; omega)
          rw [hzs', HJ.out] at cU
          have CU := Lib.hid cU
          clear cU hzs hzs'
          go_wp2_with fail
          refine CU.out.mono ?_
          rintro e w6 ⟨A6, c6, r6, rfl, hr6, hown6, hb6⟩
          obtain rfl : r6 = b := hr6
          have b16 : Below w.heap.size w1 w6 := (b14.mono s1).trans ((hb5.mono (by omega)).trans (hb6.mono (by omega)))
          have k1 := str_bytes' hown6.rd
          have k2 := str_bytes' ((hrb.below hb1).below b16)
          go_wp2_with fail
          go_ret
          exact ⟨rfl, hb1.trans b16⟩
        · obtain rfl : t1 = [] := hj
          have htn : (t2 != 0) = true := by rw [bne_iff_ne]; exact ht
          clear ht
          go_wp2_with fail
          refine CT.out.mono ?_
          rintro e w5 ⟨A5, c5, zs, rfl, hzs, hown5, hb5⟩
          have s5 := hb5.size
          obtain rfl : zs = [] := byts_nil hzs
          have cU := join_any A5 c5 [] w5 hown5.rd (by simp) (fun _ h => by cases h)
          have CU := Lib.hid cU
          clear cU hzs
          go_wp2_with fail
          refine CU.out.mono ?_
          rintro e w6 ⟨A6, c6, r6, rfl, hr6, hown6, hb6⟩
          have b16 : Below w.heap.size w1 w6 := (b14.mono s1).trans ((hb5.mono (by omega)).trans (hb6.mono (by omega)))
          clear hr6
          go_wp2_with fail
          go_ret
          exact ⟨rfl, hb1.trans b16⟩
end Go.Proofs.Ytncccgpjlmelmaa
