/- fair's tries: the function that yields the tries of a draw number; lastSmall. -/
import Derived.Test.YtipclieldokfnaaDoorSrc
namespace Go.Proofs.YtipclieldokfnaaDoor
open Go.RowKit Go.Shelf
set_option linter.unusedVariables false
attribute [local go_sem] Oper.semAt_some

/-- draw's method value of a seed. -/
def tryF (s : List UInt8) : Value := .func (.func 46) #[ab s] #[]

set_option maxRecDepth 100000 in
set_option maxHeartbeats 2000000 in
theorem tries_seq (s : List UInt8) (i Bt Bi : Nat) (w : World) (n : Nat) (hn : 3 ≤ n) (hs : s.length = 32) (hi : i < 4294967296) (hT : Tab w) (hct : w.cell? ⟨Bt, 0, none⟩ = some (tryF s)) (hBt : Bt < w.heap.size)
    (hci : w.cell? ⟨Bi, 0, none⟩ = some (.int .u32 i)) (hBi : Bi < w.heap.size) :
    SeqNew Fence.wide n Tryd.prog 75 #[.pointer (some ⟨Bt, 0, none⟩), .pointer (some ⟨Bi, 0, none⟩)] (fun k => #[.int .u64 (tryM s i k : Nat)]) (fun W W' => Below w.heap.size W W') (fun k _ => k < 16)
      (fun xs => xs = List.range 16) (fun pre => ∃ m, m < 16 ∧ pre = List.range (m + 1)) 16 w := by
  intro L J Jx W hW hJ hJx hY h0
  have HC := Lib.hid (show ∀ (k : Nat) (wx : World), k < 16 → Below w.heap.size w wx → Calls Tryd.prog 46 #[ab s, .int .u32 i, .int .u32 k] wx fun e w' => e = .returned (.int .u64 (tryM s i k : Nat)) ∧ Below wx.heap.size wx w' from
    fun k wx hk hb => try_any s i k wx hs hi (by omega) (hT.below hb))
  have HJ := Lib.hid hJ
  have HY := Lib.hid hY
  have HCT := Lib.hid hct
  have HCI := Lib.hid hci
  unfold tryF at HCT
  unfold ab at HCT HC
  obtain ⟨cs, hcs⟩ : ∃ cs, (s.map bv).toArray = cs := ⟨_, rfl⟩
  rw [hcs] at HCT HC
  clear hJ hJx hY hct hci hT hs hcs
  refine callsIn_of_wp Tryd.func75 rfl trivial ?_ rfl
  simp only [Tryd.ntmps75, List.size_toArray, List.length_cons, List.length_nil, Nat.reduceAdd, Nat.reduceSub, Array.replicate_succ, Array.replicate_zero, List.push_toArray, List.append_toArray, List.nil_append, List.cons_append]
  gi_wp2
  gi_loopw [5] (fun v wr => ∃ j : Nat, j ≤ 16 ∧ v = .int .u32 j ∧ Hid (J (List.range j) wr) ∧ Hid (Below w.heap.size w wr)) (fun v _ => 16 - (intOf v).toNat)
  case atStart => exact ⟨0, by omega, rfl, h0, hW⟩
  case round =>
    obtain ⟨j, hj, rfl, hJp, hbw⟩ := hrel
    by_cases h16 : j = 16
    · subst h16
      gi_wp2_with fail
      exact ⟨rfl, _, results_none rfl _ _ _, ⟨_, rfl⟩, .inl ⟨_, rfl, hJp.out⟩⟩
    · have hj16 : j < 16 := by omega
      have c1 := (hbw.out.cell (p := ⟨Bt, 0, none⟩) hBt).trans HCT.out
      have c2 := (hbw.out.cell (p := ⟨Bi, 0, none⟩) hBi).trans HCI.out
      gi_wp2_with fail
      refine ⟨trivial, (fun _ => by omega), (callsIn_wide.2 (HC.out j wr hj16 hbw.out)).mono ?_⟩
      rintro e w1 ⟨rfl, hb1⟩
      have hJ1 := HJ.out _ _ _ hJp.out (grown_of_below hb1 (Nat.le_refl _) none)
      obtain ⟨fn, tmps, assign, body, hy, hR⟩ := HY.out (List.range j) j w1 hJ1 hj16 (by rw [List.length_range]; omega)
      rw [← List.range_succ] at hR
      have HB1 := Lib.hid (hbw.out.trans (hb1.mono hbw.out.size))
      clear hb1 hJ1 c1 c2
      gi_wp2_with fail
      refine ⟨fun _ => by omega, hR.mono ?_⟩
      rintro e W3 (⟨rfl, hJ3, hk3⟩ | ⟨rfl, hx3⟩)
      · clear hR hy
        have HJ3 := Lib.hid hJ3
        have HB3 := Lib.hid (HB1.out.trans hk3)
        clear hJ3 hk3
        gi_wp2_with fail
        go_roundw
        case rel => exact ⟨j + 1, by omega, by go_num, HJ3.out, HB3.out⟩
        case measure => simp [intOf]; omega
      · clear hR hy
        gi_wp2_with fail
        refine bodyPost_ret (results_none rfl _ _ _) rfl ?_
        exact ⟨⟨_, rfl⟩, .inr ⟨_, ⟨j, hj16, rfl⟩, hx3⟩⟩

/-- The greatest try that is small enough. -/
def lastM (n : Nat) : Nat := 18446744073709551615 - (18446744073709551616 - n) % n
theorem neg_u64 (n : Nat) (h1 : 1 ≤ n) (h2 : n ≤ 4294967296) : IntKind.u64.wrap (-(n : Int)) = ((18446744073709551616 - n : Nat) : Int) := by
  rw [IntKind.wrap_u64]; omega
theorem lastM_rest (n : Nat) (h1 : 1 ≤ n) (h2 : n ≤ 4294967296) : lastM n = 18446744073709551615 - 18446744073709551616 % n := by
  unfold lastM
  congr 1
  conv => rhs; rw [show 18446744073709551616 = (18446744073709551616 - n) + n by omega]
  rw [Nat.add_mod_right]
set_option maxHeartbeats 400000 in
theorem lastSmall_any (n : Nat) (w : World) (h1 : 1 ≤ n) (h2 : n ≤ 4294967296) :
    Calls Tryd.prog 65 #[.int .u64 n] w fun e w' => e = .returned (.int .u64 (lastM n : Nat)) ∧ w = w' := by
  obtain ⟨m, hm⟩ : ∃ m, m = 18446744073709551616 - n := ⟨_, rfl⟩
  have e1 := neg_u64 n h1 h2
  rw [← hm] at e1
  have hm1 : m < 18446744073709551616 := by omega
  have hr : m % n < n := Nat.mod_lt _ h1
  have HL := Lib.hid (show lastM n = 18446744073709551615 - m % n by unfold lastM; rw [hm])
  obtain ⟨r, hre⟩ : ∃ r, r = m % n := ⟨_, rfl⟩
  have e2 : (m : Int) % (n : Int) = (r : Int) := by rw [hre]; simp
  rw [← hre] at HL hr
  have e3 : IntKind.u64.wrap (18446744073709551615 - (r : Int)) = ((18446744073709551615 - r : Nat) : Int) := by rw [IntKind.wrap_u64]; omega
  have h0 : ((n : Int) == 0) = false := by simp; omega
  rw [HL.out]
  obtain ⟨q, hq⟩ : ∃ q, q = 18446744073709551615 - r := ⟨_, rfl⟩
  rw [← hq] at e3 ⊢
  clear hm hm1 hre hq hr HL
  go_enter Tryd.func65, Tryd.ntmps65
  go_wp2_with fail
  go_ret
  exact ⟨rfl, rfl⟩
end Go.Proofs.YtipclieldokfnaaDoor
