/- The walk of the law OctetFields. -/
import Derived.Test.YtncccgpjlmelmaaRefField
namespace Go.Proofs.Ytncccgpjlmelmaa
open Go.RowKit
set_option linter.unusedVariables false

theorem str_bytes {B c : Nat} {A : Option Addr} {l : List UInt8} {w : World} (h : Rd w B A c l) : (convert 22 9 (.slice A l.length c)).run Try.prog w = .ok (.string ⟨l.toArray⟩) w :=
  run_string_bytes (P := Try.prog) w 22 9 5 Try.underlying22 Try.underlying5 Try.underlying9 h

set_option maxHeartbeats 2000000 in
theorem fields_walk (A A2 : Option Addr) (c c2 : Nat) (l f : List UInt8) (p : Int) (w : World) (hr : Rd w w.heap.size A c l) (hr2 : Rd w w.heap.size A2 c2 f)
    (hp1 : -9223372036854775808 ≤ p) (hp2 : p ≤ 9223372036854775807) :
    Calls Try.prog 5 #[.slice A l.length c, .slice A2 f.length c2, .int .i64 p] w fun e w' => e = .returned (.bool true) ∧ Below w.heap.size w w' := by
  have hcap := hr.cap
  have hcm := hr.capm
  have hcap2 := hr2.cap
  have hcm2 := hr2.capm
  unfold maxLen at hcm hcm2
  by_cases hbig : 20000 < l.length
  · have hi : (20000 : Int) < l.length := by omega
    go_enter Try.func5, Try.ntmps5
    go_wp2_with fail
    go_ret
    exact ⟨rfl, Below.refl _ _⟩
  have hi : ¬ (20000 : Int) < l.length := by omega
  have hd : decide ((20000 : Int) < l.length) = false := by simp; omega
  have hd' : decide (20000 < l.length) = false := by simp; omega
  by_cases hbig2 : 70000 < f.length
  · have hi2 : (70000 : Int) < f.length := by omega
    go_enter Try.func5, Try.ntmps5
    go_wp2_with fail
    go_ret
    exact ⟨rfl, Below.refl _ _⟩
  have hi2 : ¬ (70000 : Int) < f.length := by omega
  have hl : l.length ≤ 200000 := by omega
  have hf : f.length ≤ 200000 := by omega
  have hqs := putFieldM_len l f
  have hts := takeFieldM_len l p
  have cPut := fun A c A2 c2 w hr hr2 => putField_any A A2 c c2 l f w hr hr2 hl hf
  have cPut' := fun A c A2 c2 w hr hr2 => refPutField_any A A2 c c2 l f w hr hr2 hl hf
  have cTake := fun A c w hr => takeField_any A c l p w hr hl hp1 hp2
  have cTake' := fun A c w hr => refTakeField_any A c l p w hr hl hp1 hp2
  generalize putFieldM l f = q at cPut cPut' hqs
  generalize takeFieldM l p = t at cTake cTake' hts
  obtain ⟨q1, q2⟩ := q
  obtain ⟨t1, t2, t3⟩ := t
  have CPut := Lib.hid cPut
  have CPut' := Lib.hid cPut'
  have CTake := Lib.hid cTake
  have CTake' := Lib.hid cTake'
  clear cPut cPut' cTake cTake'
  go_enter Try.func5, Try.ntmps5
  go_wp2_with fail
  refine (twin_any A c l _ hr hl).mono ?_
  rintro e w1 ⟨A1, c1, rfl, hown1, hb1⟩
  have hs1 := hb1.size
  go_wp2_with fail
  refine (twin_any A2 c2 f _ ((hr2.below hb1).more hs1) hf).mono ?_
  rintro e w2 ⟨A3, c3, rfl, hown3, hb2⟩
  have hs2 := hb2.size
  have hown1' := hown1.below (Nat.le_refl _) hb2
  go_wp2_with fail
  refine (CPut.out A1 c1 A3 c3 _ hown1'.rd hown3.rd).mono ?_
  rintro e w3 ⟨A4, c4, r4, rfl, rfl, hown4, hb3⟩
  have hs3 := hb3.size
  have b3 : Below w.heap.size w w3 := hb1.trans ((hb2.mono hs1).trans (hb3.mono (by omega)))
  go_wp2_with fail
  refine (CPut'.out A c A2 c2 _ ((hr.below b3).more (by omega)) ((hr2.below b3).more (by omega))).mono ?_
  rintro e w4 ⟨A5, c5, r5, rfl, rfl, hown5, hb4⟩
  have hs4 := hb4.size
  have hown1'' := (hown1'.below (Nat.le_refl _) hb3).below (Nat.le_refl _) hb4
  have b4 : Below w.heap.size w w4 := b3.trans (hb4.mono (by omega))
  go_wp2_with fail
  refine (CTake.out A1 c1 _ hown1''.rd).mono ?_
  rintro e w5 ⟨A6, c6, r6, rfl, rfl, hown6, hb5⟩
  have hs5 := hb5.size
  have b5 : Below w.heap.size w w5 := b4.trans (hb5.mono (by omega))
  go_wp2_with fail
  refine (CTake'.out A c _ ((hr.below b5).more (by omega))).mono ?_
  rintro e w6 ⟨A7, c7, r7, rfl, rfl, hown7, hb6⟩
  have hs6 := hb6.size
  have b6 : Below w.heap.size w w6 := b5.trans (hb6.mono (by omega))
  have hown4' := ((hown4.below (Nat.le_refl _) hb4).below (Nat.le_refl _) hb5).below (Nat.le_refl _) hb6
  have hown5' := (hown5.below (Nat.le_refl _) hb5).below (Nat.le_refl _) hb6
  have hown6' := hown6.below (Nat.le_refl _) hb6
  have k1 := str_bytes hown4'.rd
  have k2 := str_bytes hown5'.rd
  have k3 := str_bytes hown6'.rd
  have k4 := str_bytes hown7.rd
  go_wp2_with fail
  refine (spoil_any A4 c4 _ _ _ hqs hown4').mono ?_
  rintro e w7 ⟨rfl, hg7⟩
  have hs7 := hg7.size
  have hown6'' := hown6'.kept hg7 ((blk_apart (H := w4.heap.size) (fun k hk => by have := (hown4.blk_ge k hk).2; omega) (fun k hk => (hown6.blk_ge k hk).1)).elim (fun h => by
    cases e : blk A6 with
    | none => exact .inl rfl
    | some g => exact .inr (by rw [h]; simp)) fun h => .inr (fun e => h e.symm))
  clear k1 k2 k3 k4
  go_wp2_with fail
  refine (spoil_any A6 c6 _ _ _ (by omega) hown6'').mono ?_
  rintro e w8 ⟨rfl, hg8⟩
  have hs8 := hg8.size
  have b78 : Below w2.heap.size w6 w8 := (below_of_grown hg7 (by omega) (fun k hk => (hown4.blk_ge k hk).1)).trans (below_of_grown hg8 (by omega) (fun k hk => by have := (hown6.blk_ge k hk).1; omega))
  have b36 : Below w2.heap.size w2 w6 := hb3.trans ((hb4.mono hs3).trans ((hb5.mono (by omega)).trans (hb6.mono (by omega))))
  have b28 := b36.trans b78
  have b8 : Below w.heap.size w w8 := b6.trans (b78.mono (by omega))
  have k1 := str_bytes (hown1'.below (Nat.le_refl _) b28).rd
  have k2 := str_bytes (hr.below b8)
  have k3 := str_bytes (hown3.below (Nat.le_refl _) b28).rd
  have k4 := str_bytes (hr2.below b8)
  go_wp2_with fail
  go_ret
  exact ⟨rfl, b8⟩
end Go.Proofs.Ytncccgpjlmelmaa
