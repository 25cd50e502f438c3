/- octet's Take. -/
import Derived.Test.YtdjifopdlkppoaaDoorOcOne
namespace Go.Proofs.YtdjifopdlkppoaaDoor.Oc
open Go.RowKit
set_option linter.unusedVariables false

/-- What bytes are as a number. -/
def num (l : List UInt8) : Nat := l.foldl (fun n b => n * 256 + b.toNat) 0
theorem num_snoc (l : List UInt8) (b : UInt8) : num (l ++ [b]) = num l * 256 + b.toNat := by simp [num]
theorem num_lt (l : List UInt8) : num l < 256 ^ l.length := by
  have : ∀ (l : List UInt8) (a : Nat), l.foldl (fun n b => n * 256 + b.toNat) a < (a + 1) * 256 ^ l.length := by
    intro l
    induction l with
    | nil => intro a; simp
    | cons b l ih =>
      intro a
      simp only [List.foldl_cons, List.length_cons]
      refine Nat.lt_of_lt_of_le (ih _) ?_
      have hb := b.toNat_lt
      rw [Nat.pow_succ, Nat.mul_comm (256 ^ l.length) 256, ← Nat.mul_assoc]
      exact Nat.mul_le_mul_right _ (by omega)
  simpa [num] using this l 0
theorem num_lt_of (l : List UInt8) (k : Nat) (h : l.length ≤ k) : num l < 256 ^ k := Nat.lt_of_lt_of_le (num_lt l) (Nat.pow_le_pow_right (by omega) h)

theorem or_byte (x : Nat) (b : UInt8) (h : x < 72057594037927936) : bits .or .u64 ((x : Int) * 256) (IntKind.u64.wrap (b.toNat : Int)) = ((x * 256 + b.toNat : Nat) : Int) := by
  have hb := b.toNat_lt
  rw [IntWalk.u64_in _ (by omega)]
  have : (x : Int) * 256 = ((x * 256 : Nat) : Int) := by simp
  rw [this, u64_or_nat _ _ (by omega) (by omega), nat_join 8 _ _ (by omega) (by omega)]

/-- What Take answers. -/
def takeM (l : List UInt8) (at' size : Int) : Nat × Int × Int :=
  if 1 ≤ size ∧ size ≤ 8 ∧ 0 ≤ at' ∧ at' ≤ l.length then (if (l.length : Int) - at' < size then (0, 0, 10) else (num ((l.drop at'.toNat).take size.toNat), at' + size, 0)) else (0, 0, 2)

def IntsEnd (w : World) (q : Nat × Int × Int) (e : Ending) (w' : World) : Prop :=
  e = .returned (.tuple #[.int .u64 q.1, .int .i64 q.2.1, .int .i64 q.2.2]) ∧ w = w'

set_option maxHeartbeats 1000000 in
theorem take_ok (A : Option Addr) (c : Nat) (l : List UInt8) (p k : Nat) (w : World) (hr : Rd w w.heap.size A c l) (hl : l.length ≤ 200000) (hk1 : 1 ≤ k) (hk2 : k ≤ 8) (hp : p + k ≤ l.length) :
    Calls Tryd.prog 78 #[.slice A l.length c, .int .i64 p, .int .i64 k] w (IntsEnd w (num ((l.drop p).take k), (p : Int) + k, 0)) := by
  obtain ⟨b, o, rfl, hb, hcell⟩ := hr.at_ (k := 0) (by omega)
  have hi1 : (1 : Int) ≤ k := by omega
  have hi2 : (k : Int) ≤ 8 := by omega
  have hcap := hr.cap
  go_enter Tryd.func78, Tryd.ntmps78
  go_wp2_with fail
  refine (isSize_yes _ _ hi1 hi2).mono ?_
  rintro e w' ⟨rfl, rfl⟩
  go_wp2_with fail
  go_loop [6, 30] (fun v i => ∃ j : Nat, j ≤ k ∧ i = .int .i64 j ∧ v = .int .u64 (num ((l.drop p).take j))) (fun _ i => k - (intOf i).toNat)
  case atStart => exact ⟨0, Nat.zero_le _, rfl, by simp [num]⟩
  case round =>
    obtain ⟨j, hj, rfl, rfl⟩ := hrel
    by_cases hlt : j < k
    · have hc := hcell (p + j) (by omega)
      have hn := num_lt_of ((l.drop p).take j) 7 (by simp; omega)
      go_wp2_with fail
      rw [or_byte _ _ (Nat.lt_of_lt_of_le hn (by decide))]
      have hsn : num ((l.drop p).take (j + 1)) = num ((l.drop p).take j) * 256 + (l[p + j]'(by omega)).toNat := by
        rw [List.take_succ_eq_append_getElem (by simp; omega), num_snoc]
        simp
      go_round
      case rel => exact ⟨j + 1, by omega, by go_num, by rw [hsn]⟩
      case measure => simp [intOf]; omega
    · obtain rfl : j = k := by omega
      go_wp2_with fail
      go_ret3
      exact ⟨rfl, rfl⟩

theorem takeM_ok {l : List UInt8} {p k : Nat} (hk1 : 1 ≤ k) (hk2 : k ≤ 8) (hp : p + k ≤ l.length) : takeM l p k = (num ((l.drop p).take k), (p : Int) + k, 0) := by
  unfold takeM
  rw [if_pos (by omega), if_neg (by omega)]
  simp
theorem takeM_short {l : List UInt8} {p k : Nat} (hk1 : 1 ≤ k) (hk2 : k ≤ 8) (hp : p ≤ l.length) (h : ¬ p + k ≤ l.length) : takeM l p k = (0, 0, 10) := by
  unfold takeM
  rw [if_pos (by omega), if_pos (by omega)]
theorem takeM_bad {l : List UInt8} {p k : Int} (h : ¬ (1 ≤ k ∧ k ≤ 8 ∧ 0 ≤ p ∧ p ≤ l.length)) : takeM l p k = (0, 0, 2) := by
  unfold takeM
  rw [if_neg h]

set_option maxHeartbeats 1000000 in
theorem take_any (A : Option Addr) (c : Nat) (l : List UInt8) (p s : Int) (w : World) (hr : Rd w w.heap.size A c l) (hl : l.length ≤ 200000) (hs1 : -9223372036854775808 ≤ s) (hs2 : s ≤ 9223372036854775807)
    (hp1 : -9223372036854775808 ≤ p) (hp2 : p ≤ 9223372036854775807) :
    Calls Tryd.prog 78 #[.slice A l.length c, .int .i64 p, .int .i64 s] w (IntsEnd w (takeM l p s)) := by
  by_cases h1 : s < 1
  · rw [takeM_bad (by omega)]
    go_enter Tryd.func78, Tryd.ntmps78
    go_wp2_with (go_at_call 80; refine (isSize_low _ _ h1).mono ?_; rintro e w' ⟨rfl, rfl⟩)
    go_ret3
    exact ⟨rfl, rfl⟩
  by_cases h2 : 8 < s
  · rw [takeM_bad (by omega)]
    go_enter Tryd.func78, Tryd.ntmps78
    go_wp2_with (go_at_call 80; refine (isSize_high _ _ h2 (by simp; omega)).mono ?_; rintro e w' ⟨rfl, rfl⟩)
    go_ret3
    exact ⟨rfl, rfl⟩
  have hi1 : (1 : Int) ≤ s := by omega
  have hi2 : (s : Int) ≤ 8 := by omega
  by_cases h3 : p < 0
  · rw [takeM_bad (by omega)]
    go_enter Tryd.func78, Tryd.ntmps78
    go_wp2_with (go_at_call 80; refine (isSize_yes _ _ hi1 hi2).mono ?_; rintro e w' ⟨rfl, rfl⟩)
    go_ret3
    exact ⟨rfl, rfl⟩
  by_cases h4 : (l.length : Int) < p
  · rw [takeM_bad (by omega)]
    have hd : decide (p < 0) = false := by simp; omega
    go_enter Tryd.func78, Tryd.ntmps78
    go_wp2_with (go_at_call 80; refine (isSize_yes _ _ hi1 hi2).mono ?_; rintro e w' ⟨rfl, rfl⟩)
    go_ret3
    exact ⟨rfl, rfl⟩
  obtain ⟨k, rfl⟩ := Int.eq_ofNat_of_zero_le (show 0 ≤ s by omega)
  obtain ⟨q, rfl⟩ := Int.eq_ofNat_of_zero_le (show 0 ≤ p by omega)
  by_cases h5 : q + k ≤ l.length
  · rw [takeM_ok (by omega) (by omega) h5]
    exact take_ok A c l q k w hr hl (by omega) (by omega) h5
  · rw [takeM_short (by omega) (by omega) (by omega) h5]
    have hq1 : (0 : Int) ≤ q := by omega
    have hq2 : (q : Int) ≤ l.length := by omega
    have hd : decide ((q : Int) < 0) = false := by simp
    have hd2 : decide (l.length < q) = false := by simp; omega
    have hd3 : (l.length : Int) - q < k := by omega
    go_enter Tryd.func78, Tryd.ntmps78
    go_wp2_with (go_at_call 80; refine (isSize_yes _ _ hi1 hi2).mono ?_; rintro e w' ⟨rfl, rfl⟩)
    go_ret3
    exact ⟨rfl, rfl⟩
end Go.Proofs.YtdjifopdlkppoaaDoor.Oc
