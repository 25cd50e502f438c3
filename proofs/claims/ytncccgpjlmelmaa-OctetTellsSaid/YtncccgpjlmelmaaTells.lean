/- The walk of the law OctetTells. -/
import Derived.Test.YtncccgpjlmelmaaRefPut
namespace Go.Proofs.Ytncccgpjlmelmaa
open Go.RowKit
set_option linter.unusedVariables false

set_option maxHeartbeats 1000000 in
theorem tells_walk (A : Option Addr) (c : Nat) (l : List UInt8) (n : Nat) (p s : Int) (w : World) (hr : Rd w w.heap.size A c l) (hn : n < 18446744073709551616) (hs1 : -9223372036854775808 ≤ s) (hs2 : s ≤ 9223372036854775807)
    (hp1 : -9223372036854775808 ≤ p) (hp2 : p ≤ 9223372036854775807) :
    Calls Try.prog 4 #[.slice A l.length c, .int .u64 n, .int .i64 p, .int .i64 s] w fun e w' => e = .returned (.bool true) ∧ Below w.heap.size w w' := by
  have hcap := hr.cap
  have hcm := hr.capm
  unfold maxLen at hcm
  by_cases hbig : 20000 < l.length
  · have hi : (20000 : Int) < l.length := by omega
    go_enter Try.func4, Try.ntmps4
    go_wp2_with fail
    go_ret
    exact ⟨rfl, Below.refl _ _⟩
  have hi : ¬ (20000 : Int) < l.length := by omega
  have hl : l.length ≤ 200000 := by omega
  have cPut := fun A c w hr => put_any A c l n s w hr hl hn hs1 hs2
  have cPut' := fun A c w hr => refPut_any A c l n s w hr hl hn hs1 hs2
  have cTake := fun A c w hr => take_any A c l p s w hr hl hs1 hs2 hp1 hp2
  have cTake' := fun A c w hr => refTake_any A c l p s w hr hl hs1 hs2 hp1 hp2
  have hqs := putM_len l n s
  generalize putM l n s = q at cPut cPut' hqs
  generalize takeM l p s = t at cTake cTake'
  have hlr : q.1.length ≤ 200000 := hqs
  obtain ⟨q1, q2⟩ := q
  obtain ⟨t1, t2, t3⟩ := t
  have CPut := Lib.hid cPut
  have CPut' := Lib.hid cPut'
  have CTake := Lib.hid cTake
  have CTake' := Lib.hid cTake'
  clear cPut cPut' cTake cTake'
  go_enter Try.func4, Try.ntmps4
  go_wp2_with fail
  refine (twin_any A c l _ hr hl).mono ?_
  rintro e w1 ⟨A1, c1, rfl, hown1, hb1⟩
  have hs1' := hb1.size
  go_wp2_with fail
  refine (CPut.out A1 c1 _ hown1.rd).mono ?_
  rintro e w2 ⟨A2, c2, r2, rfl, rfl, hown2, hb2⟩
  have hs2' := hb2.size
  go_wp2_with fail
  refine (CPut'.out A c _ (((hr.below hb1).more hs1').below hb2 |>.more hs2')).mono ?_
  rintro e w3 ⟨A3, c3, r3, rfl, rfl, hown3, hb3⟩
  have hs3' := hb3.size
  have hown13 := (hown1.below (Nat.le_refl _) hb2).below (Nat.le_refl _) hb3
  have hr3 := ((hr.below hb1).below (hb2.mono hs1')).below (hb3.mono (by omega))
  have hown23 := hown2.below (Nat.le_refl _) hb3
  go_wp2_with fail
  refine (CTake.out A1 c1 _ hown13.rd).mono ?_
  rintro e w' ⟨rfl, rfl⟩
  go_wp2_with fail
  refine (CTake'.out A c _ (hr3.more (by omega))).mono ?_
  rintro e w' ⟨rfl, rfl⟩
  have k1 := run_string_bytes (P := Try.prog) w3 22 9 5 Try.underlying22 Try.underlying5 Try.underlying9 hown23.rd
  have k2 := run_string_bytes (P := Try.prog) w3 22 9 5 Try.underlying22 Try.underlying5 Try.underlying9 hown3.rd
  go_wp2_with fail
  refine (spoil_any A2 c2 r3 _ _ hlr hown23).mono ?_
  rintro e w4 ⟨rfl, hg4⟩
  have hs4' := hg4.size
  have hown14 := hown13.kept hg4 (blk_apart (fun k hk => (hown1.blk_ge k hk).2) (fun k hk => (hown2.blk_ge k hk).1))
  have hb4 : Below w.heap.size w3 w4 := below_of_grown hg4 (by omega) (fun k hk => by have := (hown2.blk_ge k hk).1; omega)
  have k3 := run_string_bytes (P := Try.prog) w4 22 9 5 Try.underlying22 Try.underlying5 Try.underlying9 hown14.rd
  have k4 := run_string_bytes (P := Try.prog) w4 22 9 5 Try.underlying22 Try.underlying5 Try.underlying9 (hr3.below hb4)
  clear k1 k2
  go_wp2_with fail
  go_ret
  exact ⟨rfl, hb1.trans ((hb2.mono hs1').trans ((hb3.mono (by omega)).trans hb4))⟩
end Go.Proofs.Ytncccgpjlmelmaa
