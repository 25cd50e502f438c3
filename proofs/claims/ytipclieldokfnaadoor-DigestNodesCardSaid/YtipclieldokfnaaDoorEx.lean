/- slices.Concat of byte slices; digest's Pad, Compress, Sum, Leaf, Node. -/
import Derived.Test.YtipclieldokfnaaDoorDig
import Derived.Lib.AppendZerosOnto
namespace Go.Proofs.YtipclieldokfnaaDoor
open Go.RowKit
set_option linter.unusedVariables false

theorem bInfo1 : ∃ i, Tryd.prog.info? 5 = some i ∧ i.zero = some (.int .u8 0) ∧ i.size = 1 ∧ i.bytes = 1 := info_parts bInfo

set_option maxRecDepth 100000 in
set_option maxHeartbeats 1000000 in
/-- slices.Grow at nil: room for n elements, in a block of its own (nil where n is 0). -/
theorem grow_any (n : Nat) (w : World) (hn : n ≤ 1000000) (h1 : 1 ≤ n) :
    Calls Tryd.prog 64 #[.slice none 0 0, .int .i64 n] w fun e w' => ∃ A c, e = .returned (.slice A 0 c) ∧ Ow bv w' w.heap.size 5 A c [] ∧ Below w.heap.size w w' := by
  obtain ⟨i, hi, hz0, hz1, hz2⟩ := info_parts bInfo
  obtain ⟨G, hG⟩ : ∃ G, G = grownCap w (0 + n) 0 5 := ⟨_, rfl⟩
  have hGn : n ≤ G := by have := grownCap_ge w (0 + n) 0 5; omega
  have hGm : G ≤ maxLen := by rw [hG]; exact grownCap_le_maxLen w (0 + n) 0 5 (by unfold maxLen; omega)
  have hrz : ∀ ty, (Builtin.append_ #[36, 3] ty #[.slice none 0 0, .int .i64 (n : Int)]).run Tryd.prog w =
      .ok (.slice (some ⟨w.heap.size, 0, none⟩) n G) (w.drew.alloc (.cells (Builtin.zeroCells #[.int .u8 0] n ++ Builtin.zeroCells #[.int .u8 0] (G - n)) 5)) := fun ty => by
    have h := Lib.run_append_grow_zeros (P := Tryd.prog) w 36 3 ty 5 i _ .i64 .i64 Tryd.underlying36 Tryd.underlying3 hi hz0 none 0 0 [] (by rw [hz1]; exact run_firstCells_none _ 1 0 0 0) n (by omega) (by rw [hz1]; omega) (by omega) (by omega)
      (by rw [hz2]; omega) (by rw [hz2]; exact growslice_fits (by omega) (by omega))
    rw [← hG, show (Value.int .u8 0).cells = #[.int .u8 0] from rfl] at h
    simpa using h
  have hcur : (Builtin.zeroCells #[.int .u8 0] n ++ Builtin.zeroCells #[.int .u8 0] (G - n)).size = G * 1 := by
    simp [Builtin.zeroCells]; omega
  obtain ⟨cur, hce⟩ : ∃ cur, cur = Builtin.zeroCells #[.int .u8 0] n ++ Builtin.zeroCells #[.int .u8 0] (G - n) := ⟨_, rfl⟩
  rw [← hce] at hrz hcur
  clear hce hG
  have HCUR := Lib.hid hcur
  clear hcur
  unfold maxLen at hGm
  go_enter Tryd.func64, Tryd.ntmps64
  go_wp2_with (at_builtin; refine Lib.wpList_append_run _ rfl _ _ _ _ rfl _ _ rfl rfl _ _ (hrz _) ?_)
  go_ret
  refine ⟨_, _, rfl, World.ownsRow_made (size := 1) w.drew cur G (Nat.le_refl _) (by unfold maxLen; exact hGm) HCUR.out, ?_⟩
  exact ((Below.refl _ w).drew).alloc (Nat.le_refl _) _

/-- A byte slice as it stands in memory: address, capacity, bytes. -/
structure El where
  A : Option Addr
  c : Nat
  l : List UInt8
instance : Inhabited El := ⟨⟨none, 0, []⟩⟩
def El.v (x : El) : Value := .slice x.A x.l.length x.c
theorem elv_one (x : El) : x.v.oneCell' = true := rfl
def flat (xs : List El) : List UInt8 := xs.flatMap (·.l)
theorem flat_snoc (xs : List El) {i : Nat} (h : i < xs.length) : flat (xs.take (i + 1)) = flat (xs.take i) ++ xs[i].l := by
  unfold flat
  rw [List.take_succ_eq_append_getElem h, List.flatMap_append]
  simp
theorem flat_le (xs : List El) (i : Nat) : (flat (xs.take i)).length ≤ (flat xs).length := by
  have h : flat xs = flat (xs.take i) ++ flat (xs.drop i) := by
    unfold flat
    rw [← List.flatMap_append, List.take_append_drop]
  rw [h, List.length_append]; omega

set_option maxRecDepth 100000 in
set_option maxHeartbeats 1000000 in
theorem concat_any (A : Option Addr) (c B : Nat) (xs : List El) (w : World) (hr : Rf El.v w B A c xs) (hx : ∀ x ∈ xs, Rf bv w B x.A x.c x.l) (hB : B ≤ w.heap.size) (hk : xs.length ≤ 1000) (h1 : 1 ≤ (flat xs).length) (h2 : (flat xs).length ≤ 100000) :
    Calls Tryd.prog 43 #[.slice A xs.length c] w fun e w' => ∃ A' c', e = .returned (.slice A' (flat xs).length c') ∧ Ow bv w' w.heap.size 5 A' c' (flat xs) ∧ Below w.heap.size w w' := by
  have hcap := hr.cap
  have hcm := hr.capm
  unfold maxLen at hcm
  go_enter Tryd.func43, Tryd.ntmps43
  go_wp2_with fail
  go_loop [3, 11] (fun x i => ∃ j s : Nat, j ≤ xs.length ∧ i = .int .i64 j ∧ x = .int .i64 s ∧ s ≤ 100000 ∧ Hid (s = (flat (xs.take j)).length)) (fun _ i => xs.length - (intOf i).toNat)
  case atStart => exact ⟨0, 0, by omega, rfl, rfl, by omega, rfl⟩
  case round =>
    obtain ⟨j, s, hj, rfl, rfl, hs, hse⟩ := hrel
    by_cases hjk : j = xs.length
    · have HSE := Lib.hid (show s = (flat xs).length by rw [hse.out, hjk, List.take_of_length_le (Nat.le_refl _)])
      have hs1 : 1 ≤ s := by rw [HSE.out]; exact h1
      subst hjk
      go_wp2_with fail
      refine (grow_any s _ (by omega) hs1).mono ?_
      rintro e w1 ⟨A1, c1, rfl, ho1, hb1⟩
      go_wp2_with fail
      go_loopw [6, 27] (fun v i wr => ∃ (j : Nat) (A2 : Option Addr) (c2 : Nat) (r : List UInt8), j ≤ xs.length ∧ i = .int .i64 j ∧ v = .slice A2 r.length c2 ∧ r.length ≤ 100000 ∧ Hid (r = flat (xs.take j)) ∧ Hid (Ow bv wr w.heap.size 5 A2 c2 r) ∧ Hid (Below w.heap.size w wr)) (fun _ i _ => xs.length - (intOf i).toNat)
      case atStart => exact ⟨0, A1, c1, [], by omega, rfl, rfl, by simp, rfl, ho1, hb1⟩
      case round =>
        clear ho1 hb1
        obtain ⟨j, A2, c2, r, hj2, rfl, rfl, hrl, hre, hown, hbw⟩ := hrel
        by_cases hjk : j = xs.length
        · have HRE := Lib.hid (show r = flat xs by rw [hre.out, hjk, List.take_of_length_le (Nat.le_refl _)])
          subst hjk
          go_wp2_with fail
          go_ret
          rw [← HRE.out]
          exact ⟨_, _, rfl, hown.out, hbw.out⟩
        · have hlt : j < xs.length := by omega
          obtain ⟨b, o, rfl, hb, hc⟩ := (hr.below (hbw.out.mono hB)).at_ hlt
          have hcj := hc j hlt
          unfold El.v at hcj
          have hl := flat_le xs (j + 1)
          rw [flat_snoc xs hlt, List.length_append, ← hre.out] at hl
          have hxr := (hx xs[j] (List.getElem_mem hlt)).below (hbw.out.mono hB)
          have HN := Lib.hid (show r ++ (xs[j]).l = flat (xs.take (j + 1)) by rw [flat_snoc xs hlt, hre.out])
          have HXR := Lib.hid hxr
          have hl2 : r.length + (xs[j]).l.length ≤ 100000 := by omega
          obtain ⟨bi, hbi, hz0, hz1, hz2⟩ := info_parts bInfo
          have HBI := Lib.hid hbi
          have HZ0 := Lib.hid hz0
          have HZ1 := Lib.hid hz1
          have HZ2 := Lib.hid hz2
          clear hc hl hxr hbi hz0 hz1 hz2
          go_wp2_with (at_builtin; refine wpList_append_f _ bv_one rfl _ _ 36 rfl w.heap.size 5 1 bi _ Tryd.underlying36 HBI.out HZ0.out HZ1.out HZ2.out (by omega) rfl r (xs[j]).l rfl rfl hown.out HXR.out (by omega) hbw.out.size ?_; intro A3 c3 w3 r3 hr3 hown3 hg3 hb3)
          go_roundw
          case rel =>
            refine ⟨j + 1, A3, c3, r3, by omega, by go_num, rfl, by rw [hr3.out, List.length_append]; omega, by rw [← HN.out]; exact hr3.out, hown3, ?_⟩
            exact hbw.out.grown hg3 hbw.out.size (fun k e => (hown.out.blk_ge k e).1)
          case measure => simp [intOf]; omega
    · have hlt : j < xs.length := by omega
      obtain ⟨b, o, rfl, hb, hc⟩ := hr.at_ hlt
      have hcj := hc j hlt
      unfold El.v at hcj
      have hl := flat_le xs (j + 1)
      rw [flat_snoc xs hlt, List.length_append] at hl
      have hl2 : s + (xs[j]).l.length ≤ 100000 := by rw [hse.out]; omega
      have HN := Lib.hid (show s + (xs[j]).l.length = (flat (xs.take (j + 1))).length by rw [flat_snoc xs hlt, List.length_append, hse.out])
      clear hc hl
      go_wp2_with fail
      go_round
      case rel => exact ⟨j + 1, s + (xs[j]).l.length, by omega, by go_num, by go_num, hl2, HN.out⟩
      case measure => simp [intOf]; omega
end Go.Proofs.YtipclieldokfnaaDoor
