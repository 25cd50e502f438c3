/- quota's Hare, Hagenbach, Ratio. -/
import Derived.Test.YtefoccjphbbmhaaQc
import Derived.Test.YtefoccjphbbmhaaRg
namespace Go.Proofs.Ytefoccjphbbmhaa
open Go.RowKit
set_option linter.unusedVariables false

theorem i64w {z : Int} (h1 : -9223372036854775808 ≤ z) (h2 : z ≤ 9223372036854775807) : IntKind.i64.wrap z = z := by rw [IntKind.wrap_i64]; omega
set_option maxRecDepth 100000 in
set_option maxHeartbeats 1000000 in
theorem hare_any (a b : Int) (z : Rq) (er : Int) (hM : Hid (hareM a b = (z, er))) (w : World) :
    Calls Try.prog 9 #[.int .i64 a, .int .i64 b] w (RqE w z er) := by
  have hK := (Kp.refl w).alloc #[.bool false, .slice none 0 0, .slice none 0 0] 27 _ rfl
  have HK := Lib.hid hK
  have HR := Lib.hid (fun wx => inRange_any a b wx)
  cases hin : mayQ a b with
  | false =>
    rw [hin] at HR
    obtain ⟨rfl, rfl⟩ : Rq.zero = z ∧ 2 = er := by have := hM.out; rw [hareM_no hin] at this; simpa using this
    clear hM hin hK
    go_enter Try.func9, Try.ntmps9
    go_wp2_with fail
    refine (HR.out _).mono ?_
    rintro e w1 ⟨rfl, hb⟩
    have HK1 := Lib.hid (HK.out.next hb)
    have HB := Lib.hid HK1.out.blk0
    clear hb
    go_wp2_with (first
      | (with_reducible refine wpList_store_rq rfl (.tmp 4) (.tmp 10) rfl w.heap.size rfl HB.out rfl (A := none) (c := 0) (B := none) (d := 0) (x := Rq.zero) rfl ?_; intro w6 hb6 hg6))
    refine rq_ret2 rfl rfl hb6 rfl rfl ⟨none, 0, none, 0, rfl, RqS.zero _, below_own HK1.out.1 hg6 (by omega)⟩
  | true =>
    rw [hin] at HR
    obtain ⟨h1, h2, h3, h4⟩ := mayQ_yes hin
    have HO := Lib.hid (fun wx => qOf_any a b z er (by omega) (by omega) (by omega) (by omega) (by have := hM.out; rw [hareM_yes hin] at this; exact this) wx)
    clear hM hin hK
    go_enter Try.func9, Try.ntmps9
    go_wp2_with fail
    refine (HR.out _).mono ?_
    rintro e w1 ⟨rfl, hb⟩
    have HK1 := Lib.hid (HK.out.next hb)
    clear hb
    go_wp2_with fail
    refine (HO.out _).mono ?_
    rintro e w2 ⟨A1, c1, A2, c2, rfl, hs, hb⟩
    have HK2 := Lib.hid (HK1.out.next hb)
    have HS := Lib.hid hs
    have HB := Lib.hid HK2.out.blk0
    clear hb hs
    go_wp2_with (first
      | (with_reducible refine wpList_store_rq rfl (.tmp 4) (.tmp 14) rfl w.heap.size rfl HB.out rfl (A := A1) (c := c1) (B := A2) (d := c2) (x := z) rfl ?_; intro w6 hb6 hg6))
    refine rq_ret2 rfl rfl hb6 rfl rfl ⟨A1, c1, A2, c2, rfl, HS.out.off HB.out (noU_rq _ _ _ _ _ _ _) hg6, below_own HK2.out.1 hg6 (by omega)⟩

set_option maxRecDepth 100000 in
set_option maxHeartbeats 1000000 in
theorem hag_any (a b : Int) (z : Rq) (er : Int) (hM : Hid (hagM a b = (z, er))) (w : World) :
    Calls Try.prog 11 #[.int .i64 a, .int .i64 b] w (RqE w z er) := by
  have hK := (Kp.refl w).alloc #[.bool false, .slice none 0 0, .slice none 0 0] 27 _ rfl
  have HK := Lib.hid hK
  have HR := Lib.hid (fun wx => inRange_any a b wx)
  cases hin : mayQ a b with
  | false =>
    rw [hin] at HR
    obtain ⟨rfl, rfl⟩ : Rq.zero = z ∧ 2 = er := by have := hM.out; rw [hagM_no hin] at this; simpa using this
    clear hM hin hK
    go_enter Try.func11, Try.ntmps11
    go_wp2_with fail
    refine (HR.out _).mono ?_
    rintro e w1 ⟨rfl, hb⟩
    have HK1 := Lib.hid (HK.out.next hb)
    have HB := Lib.hid HK1.out.blk0
    clear hb
    go_wp2_with (first
      | (with_reducible refine wpList_store_rq rfl (.tmp 4) (.tmp 10) rfl w.heap.size rfl HB.out rfl (A := none) (c := 0) (B := none) (d := 0) (x := Rq.zero) rfl ?_; intro w6 hb6 hg6))
    refine rq_ret2 rfl rfl hb6 rfl rfl ⟨none, 0, none, 0, rfl, RqS.zero _, below_own HK1.out.1 hg6 (by omega)⟩
  | true =>
    rw [hin] at HR
    obtain ⟨h1, h2, h3, h4⟩ := mayQ_yes hin
    have W1 : IntKind.i64.wrap (b + 1) = b + 1 := i64w (by omega) (by omega)
    have HO := Lib.hid (fun wx => qOf_any a (b + 1) z er (by omega) (by omega) (by omega) (by omega) (by have := hM.out; rw [hagM_yes hin] at this; exact this) wx)
    clear hM hin hK
    go_enter Try.func11, Try.ntmps11
    go_wp2_with fail
    refine (HR.out _).mono ?_
    rintro e w1 ⟨rfl, hb⟩
    have HK1 := Lib.hid (HK.out.next hb)
    clear hb
    go_wp2_with fail
    refine (HO.out _).mono ?_
    rintro e w2 ⟨A1, c1, A2, c2, rfl, hs, hb⟩
    have HK2 := Lib.hid (HK1.out.next hb)
    have HS := Lib.hid hs
    have HB := Lib.hid HK2.out.blk0
    clear hb hs
    go_wp2_with (first
      | (with_reducible refine wpList_store_rq rfl (.tmp 4) (.tmp 15) rfl w.heap.size rfl HB.out rfl (A := A1) (c := c1) (B := A2) (d := c2) (x := z) rfl ?_; intro w6 hb6 hg6))
    refine rq_ret2 rfl rfl hb6 rfl rfl ⟨A1, c1, A2, c2, rfl, HS.out.off HB.out (noU_rq _ _ _ _ _ _ _) hg6, below_own HK2.out.1 hg6 (by omega)⟩

set_option maxRecDepth 100000 in
set_option maxHeartbeats 1000000 in
theorem ratio_any (a : Int) (z : Rq) (er : Int) (hM : Hid (ratioM a = (z, er))) (w : World) :
    Calls Try.prog 21 #[.int .i64 a] w (RqE w z er) := by
  have hK := (Kp.refl w).alloc #[.bool false, .slice none 0 0, .slice none 0 0] 27 _ rfl
  have HK1 := Lib.hid (hK.alloc #[.int .i64 a] 3 (w.heap.size + 1) (by simp))
  have hF := fixed1 a (w.alloc (.cells #[.bool false, .slice none 0 0, .slice none 0 0] 27))
  rw [World.size_alloc] at hF
  have HF := Lib.hid hF
  clear hF
  cases hin : inQ a with
  | false =>
    rw [hin] at HF
    obtain ⟨rfl, rfl⟩ : Rq.zero = z ∧ 2 = er := by have := hM.out; rw [ratioM_no hin] at this; simpa using this
    clear hM hin hK
    have HB := Lib.hid HK1.out.blk1
    go_enter Try.func21, Try.ntmps21
    go_wp2_with fail
    refine HF.out.mono ?_
    rintro e w1 ⟨rfl, rfl⟩
    go_wp2_with (first
      | (with_reducible refine wpList_store_rq rfl (.tmp 2) (.tmp 8) rfl w.heap.size rfl HB.out rfl (A := none) (c := 0) (B := none) (d := 0) (x := Rq.zero) rfl ?_; intro w6 hb6 hg6))
    refine rq_ret2 rfl rfl hb6 rfl rfl ⟨none, 0, none, 0, rfl, RqS.zero _, below_own HK1.out.1 hg6 (by omega)⟩
  | true =>
    rw [hin] at HF
    obtain ⟨h1, h2⟩ := inQ_yes hin
    have HO := Lib.hid (fun wx => qOf_any a 1000000000 z er (by omega) (by omega) (by omega) (by omega) (by have := hM.out; rw [ratioM_yes hin] at this; exact this) wx)
    clear hM hin hK
    go_enter Try.func21, Try.ntmps21
    go_wp2_with fail
    refine HF.out.mono ?_
    rintro e w1 ⟨rfl, rfl⟩
    go_wp2_with fail
    refine (HO.out _).mono ?_
    rintro e w2 ⟨A1, c1, A2, c2, rfl, hs, hb⟩
    have HK2 := Lib.hid (HK1.out.next hb)
    have HS := Lib.hid hs
    have HB := Lib.hid HK2.out.blk1
    clear hb hs
    go_wp2_with (first
      | (with_reducible refine wpList_store_rq rfl (.tmp 2) (.tmp 11) rfl w.heap.size rfl HB.out rfl (A := A1) (c := c1) (B := A2) (d := c2) (x := z) rfl ?_; intro w6 hb6 hg6))
    refine rq_ret2 rfl rfl hb6 rfl rfl ⟨A1, c1, A2, c2, rfl, HS.out.off HB.out (noU_rq _ _ _ _ _ _ _) hg6, below_own HK2.out.1 hg6 (by omega)⟩
end Go.Proofs.Ytefoccjphbbmhaa
