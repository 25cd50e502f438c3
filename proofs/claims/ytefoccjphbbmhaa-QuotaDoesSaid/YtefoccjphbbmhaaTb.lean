/- The reference's Droop, Hare, Hagenbach. -/
import Derived.Test.YtefoccjphbbmhaaTa
namespace Go.Proofs.Ytefoccjphbbmhaa
open Go.RowKit
set_option linter.unusedVariables false

set_option maxRecDepth 100000 in
set_option maxHeartbeats 1000000 in
theorem rdroop_any (a b : Int) (v er : Int) (hM : Hid (droopM a b = (v, er))) (w : World) :
    Calls Try.prog 8 #[.int .i64 a, .int .i64 b] w fun e w' => e = .returned (.tuple #[.int .i64 v, .int .i64 er]) ∧ Below w.heap.size w w' := by
  have HR := Lib.hid (may_any a b w)
  cases hin : mayQ a b with
  | false =>
    rw [hin] at HR
    have HE := Lib.hid (show (v, er) = (0, 2) by rw [← hM.out, droopM_no hin])
    obtain ⟨rfl, rfl⟩ : v = 0 ∧ er = 2 := by have := HE.out; simp only [Prod.mk.injEq] at this; exact this
    go_enter Try.func8, Try.ntmps8
    go_wp2_with fail
    refine HR.out.mono ?_
    rintro e w1 ⟨rfl, rfl⟩
    go_wp2_with fail
    go_ret2
    exact ⟨rfl, Below.refl _ _⟩
  | true =>
    rw [hin] at HR
    have HE := Lib.hid (show (v, er) = (a / (b + 1) + 1, 0) by rw [← hM.out, droopM_yes hin])
    obtain ⟨h1, h2, h3, h4⟩ := mayQ_yes hin
    obtain ⟨x, rfl⟩ := Int.eq_ofNat_of_zero_le h1
    obtain ⟨y, rfl⟩ := Int.eq_ofNat_of_zero_le (show 0 ≤ b by omega)
    obtain ⟨z, hz⟩ : ∃ z, z = x / (y + 1) := ⟨_, rfl⟩
    have hzl : z ≤ x := by rw [hz]; exact Nat.div_le_self _ _
    obtain ⟨hv, rfl⟩ : v = (z : Int) + 1 ∧ er = 0 := by have := HE.out; simp only [Prod.mk.injEq] at this; rw [hz]; exact this
    have W1 : IntKind.i64.wrap ((y : Int) + 1) = (y : Int) + 1 := by rw [IntKind.wrap_i64]; omega
    have T1 : (x : Int).tdiv ((y : Int) + 1) = (z : Int) := by rw [hz]; rfl
    have Z1 : ¬ (y : Int) + 1 = 0 := by omega
    have W2 : IntKind.i64.wrap (z : Int) = (z : Int) := by rw [IntKind.wrap_i64]; omega
    have W3 : IntKind.i64.wrap ((z : Int) + 1) = v := by rw [IntKind.wrap_i64, hv]; omega
    clear hz hv HE hM hin
    go_enter Try.func8, Try.ntmps8
    go_wp2_with fail
    refine HR.out.mono ?_
    rintro e w1 ⟨rfl, rfl⟩
    go_wp2_with fail
    go_ret2
    exact ⟨rfl, Below.refl _ _⟩
set_option maxRecDepth 100000 in
set_option maxHeartbeats 1000000 in
theorem rhare_any (a b : Int) (z : Rq) (er : Int) (hM : Hid (hareM a b = (z, er))) (w : World) :
    Calls Try.prog 10 #[.int .i64 a, .int .i64 b] w (RqE w z er) := by
  have hK := (Kp.refl w).alloc #[.bool false, .slice none 0 0, .slice none 0 0] 27 _ rfl
  have HK := Lib.hid hK
  have HR := Lib.hid (fun wx => may_any a b wx)
  cases hin : mayQ a b with
  | false =>
    rw [hin] at HR
    obtain ⟨rfl, rfl⟩ : Rq.zero = z ∧ 2 = er := by have := hM.out; rw [hareM_no hin] at this; simpa using this
    clear hM hin hK
    go_enter Try.func10, Try.ntmps10
    go_wp2_with fail
    refine (HR.out _).mono ?_
    rintro e wz ⟨rfl, rfl⟩
    have HK1 := HK
    have HB := Lib.hid HK1.out.blk0
    go_wp2_with (first
      | (with_reducible refine wpList_store_rq rfl (.tmp 4) (.tmp 10) rfl w.heap.size rfl HB.out rfl (A := none) (c := 0) (B := none) (d := 0) (x := Rq.zero) rfl ?_; intro w6 hb6 hg6))
    refine rq_ret2 rfl rfl hb6 rfl rfl ⟨none, 0, none, 0, rfl, RqS.zero _, below_own HK1.out.1 hg6 (by omega)⟩
  | true =>
    rw [hin] at HR
    obtain ⟨h1, h2, h3, h4⟩ := mayQ_yes hin
    have HO := Lib.hid (fun wx => rOf4_any a b z er (by omega) (by omega) (by omega) (by omega) (by have := hM.out; rw [hareM_yes hin] at this; exact this) wx)
    clear hM hin hK
    go_enter Try.func10, Try.ntmps10
    go_wp2_with fail
    refine (HR.out _).mono ?_
    rintro e wz ⟨rfl, rfl⟩
    have HK1 := HK
    go_wp2_with fail
    refine (HO.out _).mono ?_
    rintro e w2 ⟨A1, c1, A2, c2, rfl, hs, hb⟩
    have HK2 := Lib.hid (HK1.out.next hb)
    have HS := Lib.hid hs
    have HB := Lib.hid HK2.out.blk0
    clear hb hs
    go_wp2_with (first
      | (with_reducible refine wpList_store_rq rfl (.tmp 4) (.tmp 14) rfl w.heap.size rfl HB.out rfl (A := A1) (c := c1) (B := A2) (d := c2) (x := z) rfl ?_; intro w6 hb6 hg6))
    refine rq_ret2 rfl rfl hb6 rfl rfl ⟨A1, c1, A2, c2, rfl, HS.out.off HB.out (noU_rq _ _ _ _ _ _ _) hg6, below_own HK2.out.1 hg6 (by omega)⟩

set_option maxRecDepth 100000 in
set_option maxHeartbeats 1000000 in
theorem rhag_any (a b : Int) (z : Rq) (er : Int) (hM : Hid (hagM a b = (z, er))) (w : World) :
    Calls Try.prog 12 #[.int .i64 a, .int .i64 b] w (RqE w z er) := by
  have hK := (Kp.refl w).alloc #[.bool false, .slice none 0 0, .slice none 0 0] 27 _ rfl
  have HK := Lib.hid hK
  have HR := Lib.hid (fun wx => may_any a b wx)
  cases hin : mayQ a b with
  | false =>
    rw [hin] at HR
    obtain ⟨rfl, rfl⟩ : Rq.zero = z ∧ 2 = er := by have := hM.out; rw [hagM_no hin] at this; simpa using this
    clear hM hin hK
    go_enter Try.func12, Try.ntmps12
    go_wp2_with fail
    refine (HR.out _).mono ?_
    rintro e wz ⟨rfl, rfl⟩
    have HK1 := HK
    have HB := Lib.hid HK1.out.blk0
    go_wp2_with (first
      | (with_reducible refine wpList_store_rq rfl (.tmp 4) (.tmp 10) rfl w.heap.size rfl HB.out rfl (A := none) (c := 0) (B := none) (d := 0) (x := Rq.zero) rfl ?_; intro w6 hb6 hg6))
    refine rq_ret2 rfl rfl hb6 rfl rfl ⟨none, 0, none, 0, rfl, RqS.zero _, below_own HK1.out.1 hg6 (by omega)⟩
  | true =>
    rw [hin] at HR
    obtain ⟨h1, h2, h3, h4⟩ := mayQ_yes hin
    have W1 : IntKind.i64.wrap (b + 1) = b + 1 := i64w (by omega) (by omega)
    have HO := Lib.hid (fun wx => rOf4_any a (b + 1) z er (by omega) (by omega) (by omega) (by omega) (by have := hM.out; rw [hagM_yes hin] at this; exact this) wx)
    clear hM hin hK
    go_enter Try.func12, Try.ntmps12
    go_wp2_with fail
    refine (HR.out _).mono ?_
    rintro e wz ⟨rfl, rfl⟩
    have HK1 := HK
    go_wp2_with fail
    refine (HO.out _).mono ?_
    rintro e w2 ⟨A1, c1, A2, c2, rfl, hs, hb⟩
    have HK2 := Lib.hid (HK1.out.next hb)
    have HS := Lib.hid hs
    have HB := Lib.hid HK2.out.blk0
    clear hb hs
    go_wp2_with (first
      | (with_reducible refine wpList_store_rq rfl (.tmp 4) (.tmp 15) rfl w.heap.size rfl HB.out rfl (A := A1) (c := c1) (B := A2) (d := c2) (x := z) rfl ?_; intro w6 hb6 hg6))
    refine rq_ret2 rfl rfl hb6 rfl rfl ⟨A1, c1, A2, c2, rfl, HS.out.off HB.out (noU_rq _ _ _ _ _ _ _) hg6, below_own HK2.out.1 hg6 (by omega)⟩

end Go.Proofs.Ytefoccjphbbmhaa
