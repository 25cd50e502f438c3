/- contest's own table of the rules: what its cells hold, now and behind what a call makes. contest's isRule, mostSeats, Kind, Most, Word, Rule. contest's areNames, areDistinct; slices.Index, Contains, Equal over strings. contest's isValid. contest's Check, Place; slices.Equal; Same. -/
import Derived.Test.YtejphpcngbjgjaaDoorGc
import Derived.Lib.LaidU8
import Derived.Lib.SmallJoins
import Derived.Deep.RegionLaw
import Derived.Deep.QuietTactic
import Derived.BigQuiet
import Derived.WalkArith
namespace Go.Proofs.YtejphpcngbjgjaaDoor
open Go.RowKit Go.ChangeShapes Go.WideShapes Go.ChangeAt Go.Joins
set_option linter.unusedVariables false

/-- Whether a ballot of rule r has at most one mark; how many seats it fills (0: one, 1: some, 2: lists). -/
def oneMarkT (r : Nat) : Bool := decide (r = 1) || decide (14 ≤ r)
def seatsT (r : Nat) : Nat := if r = 0 then 0 else if oneB r then 0 else if listsB r then 2 else 1
def kindT (r : Nat) : Nat := if r = 0 then 0 else kindM r
/-- The table's rows, as they are laid. -/
def rowD (r : Nat) : DataW Unit := .agg [.lit (.string (wordsM.getD r [])), .lit (.int .u8 (kindT r)), .lit (.bool (oneMarkT r)), .lit (.int .i64 (seatsT r))]
def rulesD : DataW Unit := .agg ((List.range 17).map rowD)
/-- The cells of row r. -/
def rowV (r : Nat) : List Value := [sv (wordsM.getD r []), .int .u8 (kindT r), .bool (oneMarkT r), .int .i64 (seatsT r)]

/-- The table of the rules holds. -/
structure Tab (w : World) : Prop where
  lt : 0 < w.heap.size
  cell : ∀ r, r < 17 → ∀ j, j < 4 → w.cell? ⟨0, r * 4 + j, none⟩ = (rowV r)[j]?
theorem Tab.below {w w' : World} {B : Nat} (h : Tab w) (hB : w.heap.size ≤ B) (hb : Below B w w') : Tab w' :=
  ⟨Nat.lt_of_lt_of_le h.lt hb.size, fun r hr j hj => by
    rw [hb.cell (show (⟨0, r * 4 + j, none⟩ : Addr).block < B from Nat.lt_of_lt_of_le h.lt hB)]
    exact h.cell r hr j hj⟩
theorem Tab.word {w : World} (h : Tab w) {r : Nat} (hr : r < 17) : w.cell? ⟨0, r * 4, none⟩ = some (sv (wordsM.getD r [])) := h.cell r hr 0 (by omega)
theorem Tab.kind {w : World} (h : Tab w) {r : Nat} (hr : r < 17) : w.cell? ⟨0, r * 4 + 1, none⟩ = some (.int .u8 (kindT r)) := h.cell r hr 1 (by omega)
theorem Tab.mark {w : World} (h : Tab w) {r : Nat} (hr : r < 17) : w.cell? ⟨0, r * 4 + 2, none⟩ = some (.bool (oneMarkT r)) := h.cell r hr 2 (by omega)
theorem Tab.seats {w : World} (h : Tab w) {r : Nat} (hr : r < 17) : w.cell? ⟨0, r * 4 + 3, none⟩ = some (.int .i64 (seatsT r)) := h.cell r hr 3 (by omega)

theorem gR : Tryd.prog.globalNamed "suffrage/contest.rules" = some 0 := by kernel_rfl
theorem tR : (Tryd.prog.globals[0]?).map (·.type) = some 99 := by kernel_rfl
set_option maxRecDepth 100000 in
theorem tab_of_reads {W : World} (h : Lib.VarReads Tryd.prog W "suffrage/contest.rules" rulesD) : Tab W := by
  obtain ⟨g, t, cs, fuel, p, hg, ht, hv, hd⟩ := h
  obtain rfl := Option.some.inj (gR.symm.trans hg)
  obtain rfl := Option.some.inj (tR.symm.trans ht)
  have hcell := fun i => World.var?_cell gR hv i
  have hcs : cs.size = 68 := by
    cases fuel with
    | zero => simp [DataW.trod] at hd
    | succ fuel =>
      simp only [DataW.trod, Tryd.underlying99] at hd
      split at hd
      · rename_i hl
        rw [show Tryd.prog.cellsOf 99 = 68 by kernel_rfl] at hl
        simpa using hl
      · cases hd
  have hrow : ∀ r, r < 17 → ((cs.toList.drop (r * 4)).take 4) = rowV r := fun r hr => by
    obtain ⟨f2, d, q, hdd, hrd⟩ := Lib.array_elem Tryd.underlying99 hd r hr
    rw [show Tryd.prog.cellsOf 98 = 4 by kernel_rfl] at hrd
    have hd2 : d = rowD r := by
      have : ((List.range 17).map rowD)[r]? = some (rowD r) := by simp [hr]
      rw [this] at hdd
      exact (Option.some.inj hdd).symm
    subst hd2
    obtain ⟨y0, y1, y2, y3, n, hx, hl, t0, t1, t2, t3⟩ := trod_struct4 Tryd.underlying98 hrd
    simp only [Prod.mk.injEq, rowD] at hx
    obtain ⟨hx, _⟩ := hx
    injection hx with hx
    injection hx with x0 hx
    injection hx with x1 hx
    injection hx with x2 hx
    injection hx with x3 hx
    obtain ⟨s0, e0, rfl, _⟩ := DataW.trod_string Tryd.underlying9 t0
    obtain ⟨n1, e1, rfl, _⟩ := DataW.trod_int Tryd.underlying5 t1
    obtain ⟨b2, e2, rfl⟩ := DataW.trod_bool Tryd.underlying4 t2
    obtain ⟨n3, e3, rfl, _⟩ := DataW.trod_int Tryd.underlying3 t3
    injection x0 with x0
    injection x0 with x0
    injection x1 with x1
    injection x1 with _ x1
    injection x2 with x2
    injection x2 with x2
    injection x3 with x3
    injection x3 with _ x3
    subst x1 x2 x3
    have hs : sv (wordsM.getD r []) = .string s0 := by rw [x0]; unfold sv; rw [mk_eta]
    unfold rowV
    rw [hs]
    generalize (cs.toList.drop (r * 4)).take 4 = L at *
    rw [show Tryd.prog.cellsOf 98 = 4 by kernel_rfl] at hl
    obtain ⟨a, b, c, d, rfl⟩ : ∃ a b c d, L = [a, b, c, d] := by
      match L, hl with
      | [a, b, c, d], _ => exact ⟨a, b, c, d, rfl⟩
    rw [show Tryd.prog.cellsOf 9 = 1 by kernel_rfl] at e0
    rw [show Tryd.prog.cellsOf 5 = 1 by kernel_rfl] at e1
    rw [show Tryd.prog.cellsOf 4 = 1 by kernel_rfl] at e2
    rw [show Tryd.prog.cellsOf 3 = 1 by kernel_rfl] at e3
    simp at e0 e1 e2 e3
    rw [e0, e1, e2, e3]
  have hlt : 0 < W.heap.size := by
    obtain ⟨v, hv⟩ : ∃ v, W.cell? ⟨0, 0, none⟩ = some v := by
      rw [hcell]
      exact ⟨cs[0], by rw [Array.getElem?_eq_getElem (by omega)]⟩
    exact World.block_lt_of_cell? W _ hv
  refine ⟨hlt, fun r hr j hj => ?_⟩
  rw [hcell, ← hrow r hr, List.getElem?_take, if_pos hj, List.getElem?_drop]
  simp
end Go.Proofs.YtejphpcngbjgjaaDoor
namespace Go.Proofs.YtejphpcngbjgjaaDoor
open Go.RowKit
set_option linter.unusedVariables false

theorem isRule_any (r : Nat) (w : World) (hr : r ≤ 255) :
    Calls Tryd.prog 50 #[.int .u8 r] w fun e w' => e = .returned (.bool (ruleB r)) ∧ w = w' := by
  by_cases h1 : 1 ≤ r
  · have h1d : decide ((1 : Int) ≤ (r : Int)) = true := by simp; omega
    by_cases h2 : r ≤ 16
    · have h2d : decide ((r : Int) < 17) = true := by simp; omega
      have HB := Lib.hid ((ruleB_iff r).2 ⟨h1, h2⟩)
      clear h1 h2
      go_enter Tryd.func50, Tryd.ntmps50
      go_wp2_with fail
      go_ret
      exact ⟨by rw [HB.out] <;> rfl, rfl⟩
    · have h2d : decide ((r : Int) < 17) = false := by simp; omega
      have HB := Lib.hid (Bool.eq_false_iff.2 (fun e => h2 ((ruleB_iff r).1 e).2))
      clear h1 h2
      go_enter Tryd.func50, Tryd.ntmps50
      go_wp2_with fail
      go_ret
      exact ⟨by rw [HB.out] <;> rfl, rfl⟩
  · have h1d : decide ((1 : Int) ≤ (r : Int)) = false := by simp; omega
    have HB := Lib.hid (Bool.eq_false_iff.2 (fun e => h1 ((ruleB_iff r).1 e).1))
    clear h1
    go_enter Tryd.func50, Tryd.ntmps50
    go_wp2_with fail
    go_ret
    exact ⟨by rw [HB.out] <;> rfl, rfl⟩

/-- The most seats that a contest of a rule with n candidates fills. -/
def mostSeatsM (r : Nat) (n : Int) : Int := if oneB r then 1 else if listsB r then 10 else min n 10

set_option maxHeartbeats 400000 in
theorem mostSeats_any (r : Nat) (n : Int) (w : World) (hr : ruleB r = true) (hn : (Lit.int .i64 n).wf = true) (hT : Tab w) :
    Calls Tryd.prog 59 #[.int .u8 r, .int .i64 n] w fun e w' => e = .returned (.int .i64 (mostSeatsM r n)) ∧ w = w' := by
  have hb := (ruleB_iff r).1 hr
  have hc := hT.seats (r := r) (by omega)
  cases h1 : oneB r with
  | true =>
    have HB := Lib.hid (show mostSeatsM r n = 1 by unfold mostSeatsM; rw [h1]; rfl)
    rw [show seatsT r = 0 by unfold seatsT; rw [if_neg (by omega), h1]; rfl] at hc
    clear h1 hr
    go_enter Tryd.func59, Tryd.ntmps59
    go_wp2_with fail
    go_ret
    exact ⟨by rw [HB.out] <;> rfl, rfl⟩
  | false =>
    cases h2 : listsB r with
    | true =>
      have HB := Lib.hid (show mostSeatsM r n = 10 by unfold mostSeatsM; rw [h1, h2]; rfl)
      rw [show seatsT r = 2 by unfold seatsT; rw [if_neg (by omega), h1, h2]; rfl] at hc
      clear h1 h2 hr
      go_enter Tryd.func59, Tryd.ntmps59
      go_wp2_with fail
      go_ret
      exact ⟨by rw [HB.out] <;> rfl, rfl⟩
    | false =>
      have HB := Lib.hid (show mostSeatsM r n = min n 10 by unfold mostSeatsM; rw [h1, h2]; rfl)
      rw [show seatsT r = 1 by unfold seatsT; rw [if_neg (by omega), h1, h2]; rfl] at hc
      clear h1 h2 hr
      go_enter Tryd.func59, Tryd.ntmps59
      go_wp2_with fail
      go_ret
      exact ⟨by rw [HB.out] <;> rfl, rfl⟩

set_option maxHeartbeats 400000 in
theorem kind_any (r : Nat) (w : World) (hr : r ≤ 255) (hT : Tab w) :
    Calls Tryd.prog 38 #[.int .u8 r] w fun e w' => e = .returned (.tuple #[.int .u8 ((kindE r).1 : Nat), .int .i64 (kindE r).2]) ∧ w = w' := by
  go_enter Tryd.func38, Tryd.ntmps38
  go_wp2_with fail
  refine (isRule_any r _ hr).mono ?_
  rintro e w1 ⟨rfl, rfl⟩
  cases hb : ruleB r with
  | false =>
    have HB := Lib.hid (show kindE r = (0, 2) by unfold kindE; rw [hb]; rfl)
    clear hb
    go_wp2_with fail
    go_ret2
    exact ⟨by rw [HB.out] <;> rfl, rfl⟩
  | true =>
    have HB := Lib.hid (show kindE r = (kindM r, 0) by unfold kindE; rw [hb]; rfl)
    have hb2 := (ruleB_iff r).1 hb
    have hc := hT.kind (r := r) (by omega)
    rw [show kindT r = kindM r by unfold kindT; rw [if_neg (by omega)]] at hc
    clear hb
    go_wp2_with fail
    go_ret2
    exact ⟨by rw [HB.out] <;> rfl, rfl⟩

set_option maxHeartbeats 400000 in
theorem most_any (r : Nat) (n : Int) (w : World) (hr : r ≤ 255) (hn : (Lit.int .i64 n).wf = true) (hT : Tab w) :
    Calls Tryd.prog 39 #[.int .u8 r, .int .i64 n] w fun e w' => e = .returned (.tuple #[.int .i64 (mostM r n).1, .int .i64 (mostM r n).2]) ∧ w = w' := by
  cases hb : ruleB r with
  | false =>
    have HR := Lib.hid hb
    have HB := Lib.hid (show mostM r n = (0, 2) by unfold mostM; rw [hb]; rfl)
    clear hb
    go_enter Tryd.func39, Tryd.ntmps39
    go_wp2_with fail
    refine (isRule_any r _ hr).mono ?_
    rintro e w1 ⟨rfl, rfl⟩
    rw [HR.out]
    go_wp2_with fail
    go_ret2
    exact ⟨by rw [HB.out] <;> rfl, rfl⟩
  | true =>
    have HR := Lib.hid hb
    by_cases h1 : n < 1
    · have h1d : decide (n < 1) = true := by simp; omega
      have HB := Lib.hid (show mostM r n = (0, 2) by unfold mostM; rw [hb, show decide (1 ≤ n) = false by simp; omega]; rfl)
      clear hb h1
      go_enter Tryd.func39, Tryd.ntmps39
      go_wp2_with fail
      refine (isRule_any r _ hr).mono ?_
      rintro e w1 ⟨rfl, rfl⟩
      rw [HR.out]
      go_wp2_with fail
      go_ret2
      exact ⟨by rw [HB.out] <;> rfl, rfl⟩
    · have h1d : decide (n < 1) = false := by simp; omega
      by_cases h2 : 10 < n
      · have h2d : decide (10 < n) = true := by simp; omega
        have HB := Lib.hid (show mostM r n = (0, 2) by unfold mostM; rw [hb, show decide (n ≤ 10) = false by simp; omega]; simp)
        clear hb h1 h2
        go_enter Tryd.func39, Tryd.ntmps39
        go_wp2_with fail
        refine (isRule_any r _ hr).mono ?_
        rintro e w1 ⟨rfl, rfl⟩
        rw [HR.out]
        go_wp2_with fail
        go_ret2
        exact ⟨by rw [HB.out] <;> rfl, rfl⟩
      · have h2d : decide (10 < n) = false := by simp; omega
        have HB := Lib.hid (show mostM r n = (marksM r n, 0) by unfold mostM; rw [hb, show decide (1 ≤ n) = true by simp; omega, show decide (n ≤ 10) = true by simp; omega]; rfl)
        have hb2 := (ruleB_iff r).1 hb
        have hc := hT.mark (r := r) (by omega)
        clear hb h1 h2
        cases ho : oneMarkT r with
        | true =>
          have HM := Lib.hid (show marksM r n = 1 by unfold oneMarkT at ho; simp at ho; unfold marksM; rw [if_pos ho])
          rw [ho] at hc
          clear ho
          go_enter Tryd.func39, Tryd.ntmps39
          go_wp2_with fail
          refine (isRule_any r _ hr).mono ?_
          rintro e w1 ⟨rfl, rfl⟩
          rw [HR.out]
          go_wp2_with fail
          go_ret2
          exact ⟨by rw [HB.out, HM.out] <;> rfl, rfl⟩
        | false =>
          have HM := Lib.hid (show marksM r n = n by unfold oneMarkT at ho; simp at ho; unfold marksM; rw [if_neg (by omega)])
          rw [ho] at hc
          clear ho
          go_enter Tryd.func39, Tryd.ntmps39
          go_wp2_with fail
          refine (isRule_any r _ hr).mono ?_
          rintro e w1 ⟨rfl, rfl⟩
          rw [HR.out]
          go_wp2_with fail
          go_ret2
          exact ⟨by rw [HB.out, HM.out] <;> rfl, rfl⟩

end Go.Proofs.YtejphpcngbjgjaaDoor
namespace Go.Proofs.YtejphpcngbjgjaaDoor
open Go.RowKit
set_option linter.unusedVariables false
attribute [local go_sem] mk_get

theorem Rf.take {α : Type} {f : α → Value} {w : World} {B c : Nat} {A : Option Addr} {xs : List α} (h : Rf f w B A c xs) (k : Nat) : Rf f w B A c (xs.take k) := by
  have hcap := h.cap
  refine ⟨by rw [List.length_take]; omega, h.capm, h.nil, fun ad e j hj => ?_⟩
  rw [List.length_take] at hj
  have := h.cell ad e j (by omega)
  rw [List.getElem_take]
  exact this

def bytesB (l : List UInt8) : Bool := l.all fun b => decide (33 ≤ b.toNat) && decide (b.toNat ≤ 126)
theorem bytesB_iff (l : List UInt8) : bytesB l = true ↔ ∀ b ∈ l, 33 ≤ b.toNat ∧ b.toNat ≤ 126 := by simp [bytesB]
theorem bytesB_bad {l : List UInt8} {b : UInt8} (hb : b ∈ l) (h : b.toNat < 33 ∨ 126 < b.toNat) : bytesB l = false := by
  rw [Bool.eq_false_iff]
  intro e
  have := (bytesB_iff l).1 e b hb
  omega
set_option maxRecDepth 100000 in
set_option maxHeartbeats 400000 in
theorem hasBytes_any (l : List UInt8) (w : World) (hl : l.length ≤ 4000000000) :
    Calls Tryd.prog 63 #[.string ⟨l.toArray⟩] w fun e w' => e = .returned (.bool (bytesB l)) ∧ w = w' := by
  go_enter Tryd.func63, Tryd.ntmps63
  go_wp2_with fail
  go_loop [6] (fun i => ∃ k : Nat, k ≤ l.length ∧ i = .int .i64 k ∧ Hid (∀ b ∈ l.take k, 33 ≤ b.toNat ∧ b.toNat ≤ 126)) (fun i => l.length - (intOf i).toNat)
  case atStart => exact ⟨0, Nat.zero_le _, rfl, by simp [Hid]⟩
  case round =>
    obtain ⟨k, hk, rfl, hpre⟩ := hrel
    by_cases hlt : k < l.length
    · by_cases h1 : l[k].toNat < 33
      · have HB := Lib.hid (bytesB_bad (List.getElem_mem hlt) (.inl h1))
        have h1d : decide (((l[k].toNat : Nat) : Int) < 33) = true := by simp; omega
        go_wp2_with fail
        go_ret
        exact ⟨by rw [HB.out]; rfl, rfl⟩
      · have h1d : decide (((l[k].toNat : Nat) : Int) < 33) = false := by simp; omega
        by_cases h2 : 126 < l[k].toNat
        · have HB := Lib.hid (bytesB_bad (List.getElem_mem hlt) (.inr h2))
          have h2d : decide ((126 : Int) < ((l[k].toNat : Nat) : Int)) = true := by simp; omega
          go_wp2_with fail
          go_ret
          exact ⟨by rw [HB.out]; rfl, rfl⟩
        · have h2d : decide ((126 : Int) < ((l[k].toNat : Nat) : Int)) = false := by simp; omega
          have HN := Lib.hid (take_mem_succ (P := fun b => 33 ≤ b.toNat ∧ b.toNat ≤ 126) l k hlt hpre.out ⟨by omega, by omega⟩)
          go_wp2_with fail
          go_round
          case rel => exact ⟨k + 1, by omega, by go_num, HN⟩
          case measure => simp [intOf]; omega
    · obtain rfl : k = l.length := by omega
      have HB := Lib.hid (show bytesB l = true from (bytesB_iff l).2 (by have := hpre.out; rwa [List.take_of_length_le (Nat.le_refl _)] at this))
      go_wp2_with fail
      go_ret
      exact ⟨by rw [HB.out]; rfl, rfl⟩

theorem nameB_of {l : List UInt8} (h1 : 1 ≤ l.length) (h2 : l.length ≤ 40) : nameB l = bytesB l := by
  unfold nameB bytesB
  rw [decide_eq_true h1, decide_eq_true h2]
  rfl
set_option maxRecDepth 100000 in
set_option maxHeartbeats 400000 in
theorem areNames_any (l : List (List UInt8)) (A : Option Addr) (c : Nat) (w : World) (hr : Rf sv w w.heap.size A c l) :
    Calls Tryd.prog 57 #[.slice A l.length c] w fun e w' => e = .returned (.bool (l.all nameB)) ∧ w = w' := by
  go_enter Tryd.func57, Tryd.ntmps57
  go_wp2_with fail
  go_loop [7] (fun i => ∃ k : Nat, k ≤ l.length ∧ i = .int .i64 k ∧ Hid (∀ y ∈ l.take k, nameB y = true)) (fun i => l.length - (intOf i).toNat)
  case atStart => exact ⟨0, Nat.zero_le _, rfl, by simp [Hid]⟩
  case round =>
    obtain ⟨k, hk, rfl, hpre⟩ := hrel
    have hcm := hr.capm
    have hcp := hr.cap
    unfold maxLen at hcm
    by_cases hlt : k < l.length
    · obtain ⟨b, o, rfl, hbb, hc⟩ := hr.at_ hlt
      have hcx := hc k hlt
      have hm := List.getElem_mem hlt
      have hs := fun h => take_mem_succ (P := fun y => nameB y = true) l k hlt hpre.out h
      obtain ⟨x, hx⟩ : ∃ x, x = l[k] := ⟨_, rfl⟩
      rw [← hx] at hcx hm hs
      unfold sv at hcx
      have HS := Lib.hid hs
      have HF := Lib.hid (show nameB x = false → l.all nameB = false from fun h => by
        rw [Bool.eq_false_iff]
        intro e
        have := List.all_eq_true.1 e x hm
        rw [h] at this
        cases this)
      clear hc hx hs hm
      by_cases h1 : x.length < 1
      · have HB := Lib.hid (HF.out (nameB_size (.inl h1)))
        have h1i : (x.length : Int) < 1 := by omega
        have h1d : decide ((x.length : Int) < 1) = true := by simp; omega
        clear h1
        go_wp2_with fail
        go_ret
        exact ⟨by rw [HB.out]; rfl, rfl⟩
      · have h1d : decide ((x.length : Int) < 1) = false := by simp; omega
        by_cases h2 : 40 < x.length
        · have HB := Lib.hid (HF.out (nameB_size (.inr h2)))
          have h2d : decide ((40 : Int) < (x.length : Int)) = true := by simp; omega
          clear h1 h2
          go_wp2_with fail
          go_ret
          exact ⟨by rw [HB.out]; rfl, rfl⟩
        · have h2d : decide ((40 : Int) < (x.length : Int)) = false := by simp; omega
          have HNB := Lib.hid (nameB_of (l := x) (by omega) (by omega))
          have hxl : x.length ≤ 4000000000 := by omega
          clear h1 h2
          cases hbx : bytesB x with
          | false =>
            have HX := Lib.hid hbx
            have HB := Lib.hid (HF.out (by rw [HNB.out]; exact hbx))
            clear hbx
            go_wp2_with fail
            refine (hasBytes_any x _ hxl).mono ?_
            rintro e w1 ⟨rfl, rfl⟩
            rw [HX.out]
            go_wp2_with fail
            go_ret
            exact ⟨by rw [HB.out]; rfl, rfl⟩
          | true =>
            have HX := Lib.hid hbx
            have HN := Lib.hid (HS.out (by rw [HNB.out]; exact hbx))
            clear hbx
            go_wp2_with fail
            refine (hasBytes_any x _ hxl).mono ?_
            rintro e w1 ⟨rfl, rfl⟩
            rw [HX.out]
            go_wp2_with fail
            go_round
            case rel => exact ⟨k + 1, by omega, by go_num, HN⟩
            case measure => simp [intOf]; omega
    · obtain rfl : k = l.length := by omega
      have HB := Lib.hid (show l.all nameB = true from List.all_eq_true.2 (by have := hpre.out; rwa [List.take_of_length_le (Nat.le_refl _)] at this))
      go_wp2_with fail
      go_ret
      exact ⟨by rw [HB.out]; rfl, rfl⟩

/-- slices.Index. -/
def indexM (l : List (List UInt8)) (y : List UInt8) : Int := if y ∈ l then ((l.idxOf y : Nat) : Int) else -1
set_option maxRecDepth 100000 in
set_option maxHeartbeats 400000 in
theorem index_any (l : List (List UInt8)) (y : List UInt8) (n : Nat) (hn : n = l.length) (A : Option Addr) (c : Nat) (w : World) (hr : Rf sv w w.heap.size A c l) :
    Calls Tryd.prog 68 #[.slice A n c, .string ⟨y.toArray⟩] w fun e w' => e = .returned (.int .i64 (indexM l y)) ∧ w = w' := by
  subst hn
  go_enter Tryd.func68, Tryd.ntmps68
  go_wp2_with fail
  go_loop [8] (fun i => ∃ k : Nat, k ≤ l.length ∧ i = .int .i64 k ∧ Hid (∀ t, t < k → l[t]? ≠ some y)) (fun i => l.length - (intOf i).toNat)
  case atStart => exact ⟨0, Nat.zero_le _, rfl, fun t ht => absurd ht (Nat.not_lt_zero t)⟩
  case round =>
    obtain ⟨k, hk, rfl, hpre⟩ := hrel
    have hcm := hr.capm
    have hcp := hr.cap
    unfold maxLen at hcm
    by_cases hlt : k < l.length
    · obtain ⟨b, o, rfl, hbb, hcc⟩ := hr.at_ hlt
      have hcx := hcc k hlt
      obtain ⟨z, hz⟩ : ∃ z, z = l[k] := ⟨_, rfl⟩
      have HZ := Lib.hid (show l[k]? = some z by rw [List.getElem?_eq_getElem hlt, hz])
      rw [← hz] at hcx
      unfold sv at hcx
      clear hcc hz
      by_cases he : y = z
      · have hbe : (y == z) = true := by rw [beq_iff_eq]; exact he
        have HB := Lib.hid (show indexM l y = ((k : Nat) : Int) by
          have h := HZ.out
          rw [← he] at h
          unfold indexM
          rw [if_pos (List.mem_of_getElem? h), idxOf_at l k hlt y (by rw [List.getElem?_eq_getElem hlt] at h; exact Option.some.inj h) hpre.out])
        clear he hpre
        go_wp2_with fail
        go_ret
        exact ⟨by rw [HB.out] <;> rfl, rfl⟩
      · have hbe : (y == z) = false := by rw [beq_eq_false_iff_ne]; exact he
        have HN := Lib.hid (show ∀ t, t < k + 1 → l[t]? ≠ some y from fun t ht => by
          by_cases e : t = k
          · subst e; rw [HZ.out]; intro e; exact he (Option.some.inj e).symm
          · exact hpre.out t (by omega))
        clear he hpre
        go_wp2_with fail
        go_round
        case rel => exact ⟨k + 1, by omega, by go_num, HN⟩
        case measure => simp [intOf]; omega
    · obtain rfl : k = l.length := by omega
      have HB := Lib.hid (show indexM l y = -1 by
        unfold indexM
        rw [if_neg]
        intro hm
        obtain ⟨j, hj, e⟩ := List.getElem_of_mem hm
        exact hpre.out j hj (by rw [← e]; exact List.getElem?_eq_getElem hj))
      clear hpre
      go_wp2_with fail
      go_ret
      exact ⟨by rw [HB.out] <;> rfl, rfl⟩

theorem contains_any (l : List (List UInt8)) (y : List UInt8) (n : Nat) (hn : n = l.length) (A : Option Addr) (c : Nat) (w : World) (hr : Rf sv w w.heap.size A c l) :
    Calls Tryd.prog 64 #[.slice A n c, .string ⟨y.toArray⟩] w fun e w' => e = .returned (.bool (decide (y ∈ l))) ∧ w = w' := by
  subst hn
  by_cases h : y ∈ l
  · have HB := Lib.hid (show decide (y ∈ l) = true from decide_eq_true h)
    obtain ⟨k, hk⟩ : ∃ k : Nat, indexM l y = k := ⟨l.idxOf y, by unfold indexM; rw [if_pos h]⟩
    have HK := Lib.hid hk
    clear h hk
    go_enter Tryd.func64, Tryd.ntmps64
    go_wp2_with fail
    refine (index_any l y _ rfl A c _ hr).mono ?_
    rintro e w1 ⟨rfl, rfl⟩
    rw [HK.out]
    go_wp2_with fail
    go_ret
    exact ⟨by rw [HB.out]; simp, rfl⟩
  · have HB := Lib.hid (show decide (y ∈ l) = false from decide_eq_false h)
    have HK := Lib.hid (show indexM l y = -1 by unfold indexM; rw [if_neg h])
    clear h
    go_enter Tryd.func64, Tryd.ntmps64
    go_wp2_with fail
    refine (index_any l y _ rfl A c _ hr).mono ?_
    rintro e w1 ⟨rfl, rfl⟩
    rw [HK.out]
    go_wp2_with fail
    go_ret
    exact ⟨by rw [HB.out]; rfl, rfl⟩

theorem distinct_false {l : List (List UInt8)} {k : Nat} (h : k < l.length) (hm : l[k] ∈ l.take k) : distinctB l = false := by
  rw [Bool.eq_false_iff]
  intro e
  obtain ⟨j, hj, he⟩ := List.getElem_of_mem hm
  have hj' : j < k := by simp at hj; omega
  refine not_nodup hj' h ?_ ((distinctB_iff l).1 e)
  rw [List.getElem?_eq_getElem (by omega), ← he, List.getElem_take]
theorem nodup_more {l : List (List UInt8)} {k : Nat} (h : k < l.length) (hd : (l.take k).Nodup) (hm : l[k] ∉ l.take k) : (l.take (k + 1)).Nodup :=
  nodup_snoc h hd fun j hj e => hm (by
    rw [List.getElem?_eq_getElem (by omega)] at e
    have := Option.some.inj e
    rw [← this]
    rw [show l[j] = (l.take k)[j]'(by simp; omega) by rw [List.getElem_take]]
    exact List.getElem_mem _)
set_option maxRecDepth 100000 in
set_option maxHeartbeats 400000 in
theorem areDistinct_any (l : List (List UInt8)) (A : Option Addr) (c : Nat) (w : World) (hr : Rf sv w w.heap.size A c l) :
    Calls Tryd.prog 58 #[.slice A l.length c] w fun e w' => e = .returned (.bool (distinctB l)) ∧ w = w' := by
  go_enter Tryd.func58, Tryd.ntmps58
  go_wp2_with fail
  go_loop [7] (fun i => ∃ k : Nat, k ≤ l.length ∧ i = .int .i64 k ∧ Hid ((l.take k).Nodup)) (fun i => l.length - (intOf i).toNat)
  case atStart => exact ⟨0, Nat.zero_le _, rfl, by simp [Hid]⟩
  case round =>
    obtain ⟨k, hk, rfl, hpre⟩ := hrel
    have hcm := hr.capm
    have hcp := hr.cap
    unfold maxLen at hcm
    by_cases hlt : k < l.length
    · obtain ⟨b, o, rfl, hbb, hcc⟩ := hr.at_ hlt
      have hcx := hcc k hlt
      have HD := Lib.hid (distinct_false hlt)
      have HM := Lib.hid (nodup_more hlt hpre.out)
      have HT := Lib.hid (fun wx (e : w = wx) => contains_any (l.take k) (l[k]) k (by rw [List.length_take]; omega) (some ⟨b, o, none⟩) c wx (e ▸ hr.take k))
      obtain ⟨z, hz⟩ : ∃ z, z = l[k] := ⟨_, rfl⟩
      rw [← hz] at hcx HD HM HT
      unfold sv at hcx
      clear hcc hz
      by_cases he : z ∈ l.take k
      · have HE := Lib.hid (decide_eq_true he)
        have HB := Lib.hid (HD.out he)
        clear he hpre
        go_wp2_with fail
        refine (HT.out _ rfl).mono ?_
        rintro e w1 ⟨rfl, rfl⟩
        rw [HE.out]
        go_wp2_with fail
        go_ret
        exact ⟨by rw [HB.out] <;> rfl, rfl⟩
      · have HE := Lib.hid (decide_eq_false he)
        have HN := Lib.hid (HM.out he)
        clear he hpre
        go_wp2_with fail
        refine (HT.out _ rfl).mono ?_
        rintro e w1 ⟨rfl, rfl⟩
        rw [HE.out]
        go_wp2_with fail
        go_round
        case rel => exact ⟨k + 1, by omega, by go_num, HN⟩
        case measure => simp [intOf]; omega
    · obtain rfl : k = l.length := by omega
      have HB := Lib.hid (show distinctB l = true from (distinctB_iff l).2 (by have := hpre.out; rwa [List.take_of_length_le (Nat.le_refl _)] at this))
      clear hpre
      go_wp2_with fail
      go_ret
      exact ⟨by rw [HB.out] <;> rfl, rfl⟩
end Go.Proofs.YtejphpcngbjgjaaDoor
namespace Go.Proofs.YtejphpcngbjgjaaDoor
open Go.RowKit
set_option linter.unusedVariables false

theorem valid_most {x : Ct} (h10 : x.cands.length ≤ 10) (hn : nameB x.name = true) (h1 : 1 ≤ x.cands.length) (ha : x.cands.all nameB = true) (hd : distinctB x.cands = true) (hr : ruleB x.rule = true) (hs : 1 ≤ x.seats) :
    mayB x = decide (x.seats ≤ mostSeatsM x.rule x.cands.length) := by
  unfold mayB
  rw [hn, ha, hd, hr, decide_eq_true h1, decide_eq_true h10, decide_eq_true hs]
  simp only [Bool.true_and]
  unfold seatsB mostSeatsM
  cases ho : oneB x.rule with
  | true => simp only [if_true]; rw [Bool.eq_iff_iff]; simp; omega
  | false =>
    cases hl : listsB x.rule with
    | true => simp
    | false => simp only [Bool.false_eq_true, if_false, Bool.false_or]; rw [Bool.eq_iff_iff]; simp; omega

/-- Behind the first k operations of a region that draws its order the rest only reads: one walk in the order of the text. -/
theorem wpAny_quiet_rest {P : Program} {L : List Oper} {Q : Exit → Act → World → Prop} {a : Act} {w : World} {listed : Array Bool} {fuel : Nat} (k : Nat) (hs : Region.noSelect L.toArray = true) (hf : fuel = (L.drop k).length)
    (hB : Region.lexFrom .any L.toArray (L.drop k).length k listed = true)
    (h : wpQuiet P L.toArray (fun w' => ∃ n, w' = w.drewN n) (fun a' => ∀ w', (∃ n, w' = w.drewN n) → Q .normal a' w') (L.drop k) a) : wpAny P .any L.toArray Q fuel listed a w := by
  subst hf
  refine wpAny_of_quiet (C := fun w' => ∃ n, w' = w.drewN n) (Q := fun a' => ∀ w', (∃ n, w' = w.drewN n) → Q .normal a' w') (fun _ w' hw' h => h w' hw') _ _ _ _ ⟨0, rfl⟩ ?_
  exact wpAnyQ_lex hs (L.drop k) k listed a (fun j => by simp [List.getElem?_drop]) hB h
theorem quiet_add7 {P : Program} {f : FuncId} {args : Array Value} {w : World} {n : Nat} {v : Value} (h : Calls P f args (w.drewN (1 + n)) fun e w' => e = .returned v ∧ w.drewN (1 + n) = w') : Calls P f args (w.drewN (1 + n)) fun e w'' => e = .returned v ∧ ∃ m, w'' = w.drewN (1 + m) :=
  h.mono fun _ _ ⟨he, hm⟩ => ⟨he, n, hm.symm⟩

theorem Rf.one_drew {n : List UInt8} (w : World) (e g : Nat) (hg : g = w.heap.size) : Rf sv (w.alloc (.cells #[sv n] e)) (w.alloc (.cells #[sv n] e)).heap.size (some ⟨g, 0, none⟩) 1 [n] := by
  subst hg
  exact (rf_one (f := sv) (w := w) n e).more (by simp)

set_option maxRecDepth 100000 in
set_option maxHeartbeats 4000000 in
theorem isValid_walk (n : List UInt8) (l : List (List UInt8)) (s : Int) (r : Nat) (A : Option Addr) (c : Nat) (w : World) (b1 b2 b3 b4 : Bool) (m : Int) (hrule : r ≤ 255) (hseats : -9223372036854775808 ≤ s ∧ s ≤ 9223372036854775807) (h10 : l.length ≤ 10)
    (C1 : ∀ q, Calls Tryd.prog 57 #[(.slice (some ⟨w.heap.size + 1, 0, none⟩) 1 1)] ((((w.alloc (.cells #[.string ⟨n.toArray⟩, .slice A l.length c, .int .i64 s, .int .u8 r] 24)).alloc (.cells #[.string ⟨n.toArray⟩] 9))).drewN q) fun e w' => e = .returned (.bool b1) ∧ (((w.alloc (.cells #[.string ⟨n.toArray⟩, .slice A l.length c, .int .i64 s, .int .u8 r] 24)).alloc (.cells #[.string ⟨n.toArray⟩] 9))).drewN q = w')
    (C2 : b1 = true → 0 < l.length → ∀ q, Calls Tryd.prog 57 #[.slice A l.length c] ((((w.alloc (.cells #[.string ⟨n.toArray⟩, .slice A l.length c, .int .i64 s, .int .u8 r] 24)).alloc (.cells #[.string ⟨n.toArray⟩] 9))).drewN q) fun e w' => e = .returned (.bool b2) ∧ (((w.alloc (.cells #[.string ⟨n.toArray⟩, .slice A l.length c, .int .i64 s, .int .u8 r] 24)).alloc (.cells #[.string ⟨n.toArray⟩] 9))).drewN q = w')
    (C3 : b1 = true → 0 < l.length → b2 = true → ∀ q, Calls Tryd.prog 58 #[.slice A l.length c] ((((w.alloc (.cells #[.string ⟨n.toArray⟩, .slice A l.length c, .int .i64 s, .int .u8 r] 24)).alloc (.cells #[.string ⟨n.toArray⟩] 9))).drewN q) fun e w' => e = .returned (.bool b3) ∧ (((w.alloc (.cells #[.string ⟨n.toArray⟩, .slice A l.length c, .int .i64 s, .int .u8 r] 24)).alloc (.cells #[.string ⟨n.toArray⟩] 9))).drewN q = w')
    (C4 : b1 = true → 0 < l.length → b2 = true → b3 = true → ∀ q, Calls Tryd.prog 50 #[.int .u8 r] ((((w.alloc (.cells #[.string ⟨n.toArray⟩, .slice A l.length c, .int .i64 s, .int .u8 r] 24)).alloc (.cells #[.string ⟨n.toArray⟩] 9))).drewN q) fun e w' => e = .returned (.bool b4) ∧ (((w.alloc (.cells #[.string ⟨n.toArray⟩, .slice A l.length c, .int .i64 s, .int .u8 r] 24)).alloc (.cells #[.string ⟨n.toArray⟩] 9))).drewN q = w')
    (C5 : b1 = true → 0 < l.length → b2 = true → b3 = true → b4 = true → ∀ q, Calls Tryd.prog 59 #[.int .u8 r, .int .i64 l.length] ((((w.alloc (.cells #[.string ⟨n.toArray⟩, .slice A l.length c, .int .i64 s, .int .u8 r] 24)).alloc (.cells #[.string ⟨n.toArray⟩] 9))).drewN q) fun e w' => e = .returned (.int .i64 m) ∧ (((w.alloc (.cells #[.string ⟨n.toArray⟩, .slice A l.length c, .int .i64 s, .int .u8 r] 24)).alloc (.cells #[.string ⟨n.toArray⟩] 9))).drewN q = w')
    : Calls Tryd.prog 49 #[.agg #[.string ⟨n.toArray⟩, .slice A l.length c, .int .i64 s, .int .u8 r]] w fun e w' => e = .returned (.bool (b1 && (decide (0 < l.length) && (b2 && (b3 && (b4 && (decide (1 ≤ s) && decide (s ≤ m)))))))) ∧ Below w.heap.size w w' := by
  have hbw : Below w.heap.size w (((w.alloc (.cells #[.string ⟨n.toArray⟩, .slice A l.length c, .int .i64 s, .int .u8 r] 24)).alloc (.cells #[.string ⟨n.toArray⟩] 9))) := ((below_new w _).trans ((below_new (w.alloc (.cells #[.string ⟨n.toArray⟩, .slice A l.length c, .int .i64 s, .int .u8 r] 24)) _).mono (by simp)))
  have HBW := Lib.hid (fun q => hbw.trans (below_drewN w.heap.size (((w.alloc (.cells #[.string ⟨n.toArray⟩, .slice A l.length c, .int .i64 s, .int .u8 r] 24)).alloc (.cells #[.string ⟨n.toArray⟩] 9))) q))
  clear hbw
  cases b1 with
  | false =>
    have D1 := Lib.hid C1
    clear C1 C2 C3 C4 C5
    go_enter Tryd.func49, Tryd.ntmps49
    go_wp2_with fail
    refine wp_region_any (by kernel_rfl) ?_
    change wpAny _ _ _ _ _ _ _ (World.drew _)
    refine wpAny_ready (rs := [0]) (by kernel_rfl) (by simp) (AllReady.cons rfl (fun K hK => ?_) AllReady.nil)
    go_simp
    refine hK _ _ ?_
    clear hK K
    refine wpAny_ready (rs := [1]) (by kernel_rfl) (by simp) (AllReady.cons rfl (fun K hK => ?_) AllReady.nil)
    go_simp
    refine hK _ _ ?_
    clear hK K
    refine wpAny_ready (rs := [2]) (by kernel_rfl) (by simp) (AllReady.cons rfl (fun K hK => ?_) AllReady.nil)
    go_simp
    refine hK _ _ ?_
    clear hK K
    refine wpAny_quiet_rest 3 (by kernel_rfl) (by kernel_rfl) (by kernel_rfl) ?_
    simp only [List.drop_succ_cons, List.drop_zero]
    repeat (go_big_quiet_step ((go_at_call 57; (with_reducible exact quiet_add7 (D1.out _)))))
    refine wpQuiet_nil ?_
    intro _ hw'
    obtain ⟨nq, hw''⟩ := hw'
    subst hw''
    go_wp2_with fail
    go_ret
    exact ⟨by simp, by first | exact HBW.out (1 + nq) | exact (HBW.out 1).trans (below_drewN _ _ nq)⟩
  | true =>
    have D1 := Lib.hid C1
    have C2 := C2 rfl
    have C3 := C3 rfl
    have C4 := C4 rfl
    have C5 := C5 rfl
    clear C1
    by_cases h0 : 0 < l.length
    case neg =>
      have h0d : decide ((0 : Int) < (l.length : Int)) = false := decide_eq_false (by omega)
      have h0e : decide (0 < l.length) = false := decide_eq_false h0
      have HV := Lib.hid (show decide (0 < l.length) = false from decide_eq_false h0)
      clear C2 C3 C4 C5 h0
      go_enter Tryd.func49, Tryd.ntmps49
      go_wp2_with fail
      refine wp_region_any (by kernel_rfl) ?_
      change wpAny _ _ _ _ _ _ _ (World.drew _)
      refine wpAny_ready (rs := [0]) (by kernel_rfl) (by simp) (AllReady.cons rfl (fun K hK => ?_) AllReady.nil)
      go_simp
      refine hK _ _ ?_
      clear hK K
      refine wpAny_ready (rs := [1]) (by kernel_rfl) (by simp) (AllReady.cons rfl (fun K hK => ?_) AllReady.nil)
      go_simp
      refine hK _ _ ?_
      clear hK K
      refine wpAny_ready (rs := [2]) (by kernel_rfl) (by simp) (AllReady.cons rfl (fun K hK => ?_) AllReady.nil)
      go_simp
      refine hK _ _ ?_
      clear hK K
      refine wpAny_quiet_rest 3 (by kernel_rfl) (by kernel_rfl) (by kernel_rfl) ?_
      simp only [List.drop_succ_cons, List.drop_zero]
      repeat (go_big_quiet_step ((go_at_call 57; (with_reducible exact quiet_add7 (D1.out _)))))
      refine wpQuiet_nil ?_
      intro _ hw'
      obtain ⟨nq, hw''⟩ := hw'
      subst hw''
      go_wp2_with fail
      go_ret
      exact ⟨by simp [HV.out] <;> rfl, by first | exact HBW.out (1 + nq) | exact (HBW.out 1).trans (below_drewN _ _ nq)⟩
    have h0d : decide ((0 : Int) < (l.length : Int)) = true := decide_eq_true (by omega)
    have h0e : decide (0 < l.length) = true := decide_eq_true h0
    have HV0 := Lib.hid (show decide (0 < l.length) = true from decide_eq_true h0)
    have C2 := C2 h0
    have C3 := C3 h0
    have C4 := C4 h0
    have C5 := C5 h0
    clear h0
    have D2 := Lib.hid C2
    clear C2
    cases b2 with
    | false =>
      clear C3 C4 C5
      have HV := HV0
      go_enter Tryd.func49, Tryd.ntmps49
      go_wp2_with fail
      refine wp_region_any (by kernel_rfl) ?_
      change wpAny _ _ _ _ _ _ _ (World.drew _)
      refine wpAny_ready (rs := [0]) (by kernel_rfl) (by simp) (AllReady.cons rfl (fun K hK => ?_) AllReady.nil)
      go_simp
      refine hK _ _ ?_
      clear hK K
      refine wpAny_ready (rs := [1]) (by kernel_rfl) (by simp) (AllReady.cons rfl (fun K hK => ?_) AllReady.nil)
      go_simp
      refine hK _ _ ?_
      clear hK K
      refine wpAny_ready (rs := [2]) (by kernel_rfl) (by simp) (AllReady.cons rfl (fun K hK => ?_) AllReady.nil)
      go_simp
      refine hK _ _ ?_
      clear hK K
      refine wpAny_quiet_rest 3 (by kernel_rfl) (by kernel_rfl) (by kernel_rfl) ?_
      simp only [List.drop_succ_cons, List.drop_zero]
      repeat (go_big_quiet_step (first | (go_at_call 57; (with_reducible exact quiet_add7 (D1.out _))) | (go_at_call 57; (with_reducible exact quiet_add7 (D2.out _)))))
      refine wpQuiet_nil ?_
      intro _ hw'
      obtain ⟨nq, hw''⟩ := hw'
      subst hw''
      go_wp2_with fail
      go_ret
      exact ⟨by simp [HV.out] <;> rfl, by first | exact HBW.out (1 + nq) | exact (HBW.out 1).trans (below_drewN _ _ nq)⟩
    | true =>
      have C3 := C3 rfl
      have C4 := C4 rfl
      have C5 := C5 rfl
      have D3 := Lib.hid C3
      clear C3
      cases b3 with
      | false =>
        clear C4 C5
        have HV := HV0
        go_enter Tryd.func49, Tryd.ntmps49
        go_wp2_with fail
        refine wp_region_any (by kernel_rfl) ?_
        change wpAny _ _ _ _ _ _ _ (World.drew _)
        refine wpAny_ready (rs := [0]) (by kernel_rfl) (by simp) (AllReady.cons rfl (fun K hK => ?_) AllReady.nil)
        go_simp
        refine hK _ _ ?_
        clear hK K
        refine wpAny_ready (rs := [1]) (by kernel_rfl) (by simp) (AllReady.cons rfl (fun K hK => ?_) AllReady.nil)
        go_simp
        refine hK _ _ ?_
        clear hK K
        refine wpAny_ready (rs := [2]) (by kernel_rfl) (by simp) (AllReady.cons rfl (fun K hK => ?_) AllReady.nil)
        go_simp
        refine hK _ _ ?_
        clear hK K
        refine wpAny_quiet_rest 3 (by kernel_rfl) (by kernel_rfl) (by kernel_rfl) ?_
        simp only [List.drop_succ_cons, List.drop_zero]
        repeat (go_big_quiet_step (first | (go_at_call 57; (with_reducible exact quiet_add7 (D1.out _))) | (go_at_call 57; (with_reducible exact quiet_add7 (D2.out _))) | (go_at_call 58; (with_reducible exact quiet_add7 (D3.out _)))))
        refine wpQuiet_nil ?_
        intro _ hw'
        obtain ⟨nq, hw''⟩ := hw'
        subst hw''
        go_wp2_with fail
        go_ret
        exact ⟨by simp [HV.out] <;> rfl, by first | exact HBW.out (1 + nq) | exact (HBW.out 1).trans (below_drewN _ _ nq)⟩
      | true =>
        have C4 := C4 rfl
        have C5 := C5 rfl
        have D4 := Lib.hid C4
        clear C4
        cases b4 with
        | false =>
          clear C5
          have HV := HV0
          go_enter Tryd.func49, Tryd.ntmps49
          go_wp2_with fail
          refine wp_region_any (by kernel_rfl) ?_
          change wpAny _ _ _ _ _ _ _ (World.drew _)
          refine wpAny_ready (rs := [0]) (by kernel_rfl) (by simp) (AllReady.cons rfl (fun K hK => ?_) AllReady.nil)
          go_simp
          refine hK _ _ ?_
          clear hK K
          refine wpAny_ready (rs := [1]) (by kernel_rfl) (by simp) (AllReady.cons rfl (fun K hK => ?_) AllReady.nil)
          go_simp
          refine hK _ _ ?_
          clear hK K
          refine wpAny_ready (rs := [2]) (by kernel_rfl) (by simp) (AllReady.cons rfl (fun K hK => ?_) AllReady.nil)
          go_simp
          refine hK _ _ ?_
          clear hK K
          refine wpAny_quiet_rest 3 (by kernel_rfl) (by kernel_rfl) (by kernel_rfl) ?_
          simp only [List.drop_succ_cons, List.drop_zero]
          repeat (go_big_quiet_step (first | (go_at_call 57; (with_reducible exact quiet_add7 (D1.out _))) | (go_at_call 57; (with_reducible exact quiet_add7 (D2.out _))) | (go_at_call 58; (with_reducible exact quiet_add7 (D3.out _))) | (go_at_call 50; (with_reducible exact quiet_add7 (D4.out _)))))
          refine wpQuiet_nil ?_
          intro _ hw'
          obtain ⟨nq, hw''⟩ := hw'
          subst hw''
          go_wp2_with fail
          go_ret
          exact ⟨by simp [HV.out] <;> rfl, by first | exact HBW.out (1 + nq) | exact (HBW.out 1).trans (below_drewN _ _ nq)⟩
        | true =>
          have C5 := C5 rfl
          have D5 := Lib.hid C5
          clear C5
          by_cases h1 : 1 ≤ s
          case neg =>
            have h1d : decide ((1 : Int) ≤ s) = false := decide_eq_false h1
            have HV := Lib.hid (show decide (0 < l.length) = true ∧ decide (1 ≤ s) = false from ⟨HV0.out, decide_eq_false h1⟩)
            clear h1
            go_enter Tryd.func49, Tryd.ntmps49
            go_wp2_with fail
            refine wp_region_any (by kernel_rfl) ?_
            change wpAny _ _ _ _ _ _ _ (World.drew _)
            refine wpAny_ready (rs := [0]) (by kernel_rfl) (by simp) (AllReady.cons rfl (fun K hK => ?_) AllReady.nil)
            go_simp
            refine hK _ _ ?_
            clear hK K
            refine wpAny_ready (rs := [1]) (by kernel_rfl) (by simp) (AllReady.cons rfl (fun K hK => ?_) AllReady.nil)
            go_simp
            refine hK _ _ ?_
            clear hK K
            refine wpAny_ready (rs := [2]) (by kernel_rfl) (by simp) (AllReady.cons rfl (fun K hK => ?_) AllReady.nil)
            go_simp
            refine hK _ _ ?_
            clear hK K
            refine wpAny_quiet_rest 3 (by kernel_rfl) (by kernel_rfl) (by kernel_rfl) ?_
            simp only [List.drop_succ_cons, List.drop_zero]
            repeat (go_big_quiet_step (first | (go_at_call 57; (with_reducible exact quiet_add7 (D1.out _))) | (go_at_call 57; (with_reducible exact quiet_add7 (D2.out _))) | (go_at_call 58; (with_reducible exact quiet_add7 (D3.out _))) | (go_at_call 50; (with_reducible exact quiet_add7 (D4.out _)))))
            refine wpQuiet_nil ?_
            intro _ hw'
            obtain ⟨nq, hw''⟩ := hw'
            subst hw''
            go_wp2_with fail
            go_ret
            exact ⟨by simp [HV.out] <;> rfl, by first | exact HBW.out (1 + nq) | exact (HBW.out 1).trans (below_drewN _ _ nq)⟩
          have h1d : decide ((1 : Int) ≤ s) = true := decide_eq_true h1
          have HV := Lib.hid (show decide (0 < l.length) = true ∧ decide (1 ≤ s) = true from ⟨HV0.out, decide_eq_true h1⟩)
          clear h1
          go_enter Tryd.func49, Tryd.ntmps49
          go_wp2_with fail
          refine wp_region_any (by kernel_rfl) ?_
          change wpAny _ _ _ _ _ _ _ (World.drew _)
          refine wpAny_ready (rs := [0]) (by kernel_rfl) (by simp) (AllReady.cons rfl (fun K hK => ?_) AllReady.nil)
          go_simp
          refine hK _ _ ?_
          clear hK K
          refine wpAny_ready (rs := [1]) (by kernel_rfl) (by simp) (AllReady.cons rfl (fun K hK => ?_) AllReady.nil)
          go_simp
          refine hK _ _ ?_
          clear hK K
          refine wpAny_ready (rs := [2]) (by kernel_rfl) (by simp) (AllReady.cons rfl (fun K hK => ?_) AllReady.nil)
          go_simp
          refine hK _ _ ?_
          clear hK K
          refine wpAny_quiet_rest 3 (by kernel_rfl) (by kernel_rfl) (by kernel_rfl) ?_
          simp only [List.drop_succ_cons, List.drop_zero]
          repeat (go_big_quiet_step (first | (go_at_call 57; (with_reducible exact quiet_add7 (D1.out _))) | (go_at_call 57; (with_reducible exact quiet_add7 (D2.out _))) | (go_at_call 58; (with_reducible exact quiet_add7 (D3.out _))) | (go_at_call 50; (with_reducible exact quiet_add7 (D4.out _))) | (go_at_call 59; (with_reducible exact quiet_add7 (D5.out _)))))
          refine wpQuiet_nil ?_
          intro _ hw'
          obtain ⟨nq, hw''⟩ := hw'
          subst hw''
          go_wp2_with fail
          go_ret
          exact ⟨by simp [HV.out] <;> rfl, by first | exact HBW.out (1 + nq) | exact (HBW.out 1).trans (below_drewN _ _ nq)⟩

set_option maxRecDepth 100000 in
set_option maxHeartbeats 1000000 in
theorem isValid_any (x : Ct) (A : Option Addr) (c : Nat) (w : World) (hc : CtOk w A c x) (h10 : x.cands.length ≤ 10) (hT : Tab w) :
    Calls Tryd.prog 49 #[cv A c x] w fun e w' => e = .returned (.bool (mayB x)) ∧ Below w.heap.size w w' := by
  have hb0 : Below w.heap.size w (((w.alloc (.cells (cvs A c x) 24)).alloc (.cells #[.string ⟨x.name.toArray⟩] 9))) := ((below_new w _).trans ((below_new (w.alloc (.cells (cvs A c x) 24)) _).mono (by simp)))
  have hrd := fun q => (hc.below (hb0.trans (below_drewN w.heap.size _ q))).rd
  have hT2 := fun q => hT.below (Nat.le_refl _) (hb0.trans (below_drewN w.heap.size _ q))
  have h1 := fun q => (Rf.one_drew (n := x.name) (w.alloc (.cells (cvs A c x) 24)) 9 (w.heap.size + 1) (by rw [World.size_alloc])).drewN q
  have key := isValid_walk x.name x.cands x.seats x.rule A c w (nameB x.name) (x.cands.all nameB) (distinctB x.cands) (ruleB x.rule) (mostSeatsM x.rule x.cands.length) hc.rule hc.seats h10
    (fun q => by
      have h := areNames_any [x.name] (some ⟨w.heap.size + 1, 0, none⟩) 1 _ (h1 q)
      rw [show [x.name].all nameB = nameB x.name by simp] at h
      exact h)
    (fun _ _ q => areNames_any x.cands A c _ (hrd q)) (fun _ _ _ q => areDistinct_any x.cands A c _ (hrd q)) (fun _ _ _ _ q => isRule_any x.rule _ hc.rule)
    (fun _ _ _ _ hr q => mostSeats_any x.rule x.cands.length _ hr (WalkArith.wf_i64 (by omega)) (hT2 q))
  refine key.mono ?_
  rintro e w' ⟨rfl, hb⟩
  refine ⟨?_, hb⟩
  congr 2
  cases hn : nameB x.name with
  | false => unfold mayB; rw [hn]; rfl
  | true =>
    by_cases h0 : 1 ≤ x.cands.length
    case neg => unfold mayB; rw [hn, decide_eq_false h0, decide_eq_false (show ¬ 0 < x.cands.length by omega)]; rfl
    rw [decide_eq_true (show 0 < x.cands.length by omega)]
    cases ha : x.cands.all nameB with
    | false => unfold mayB; rw [ha]; simp
    | true =>
      cases hd : distinctB x.cands with
      | false => unfold mayB; rw [hd]; simp
      | true =>
        cases hr : ruleB x.rule with
        | false => unfold mayB; rw [hr]; simp
        | true =>
          by_cases h1 : 1 ≤ x.seats
          case neg => unfold mayB; rw [decide_eq_false h1]; simp
          rw [valid_most h10 hn h0 ha hd hr h1, decide_eq_true h1]
          simp
end Go.Proofs.YtejphpcngbjgjaaDoor
namespace Go.Proofs.YtejphpcngbjgjaaDoor
open Go.RowKit
set_option linter.unusedVariables false

set_option maxRecDepth 100000 in
set_option maxHeartbeats 400000 in
theorem check_any (x : Ct) (A : Option Addr) (c : Nat) (w : World) (hc : CtOk w A c x) (hT : Tab w) :
    Calls Tryd.prog 37 #[cv A c x] w fun e w' => e = .returned (.int .i64 (checkM x)) ∧ Below w.heap.size w w' := by
  have HM := Lib.hid (fun (h10 : x.cands.length ≤ 10) wx (hb : Below w.heap.size w wx) => isValid_any x A c wx (hc.below hb) h10 (hT.below (Nat.le_refl _) hb))
  have hbw := fun (o : Obj) => below_new w o
  clear hc hT
  by_cases h1 : 10 < x.cands.length
  · have h1d : decide ((10 : Int) < (x.cands.length : Int)) = true := by simp; omega
    have HC := Lib.hid (show checkM x = 4 by unfold checkM; rw [if_pos h1])
    clear h1
    unfold cv cvs
    go_enter Tryd.func37, Tryd.ntmps37
    go_wp2_with fail
    go_ret
    exact ⟨by rw [HC.out] <;> rfl, hbw _⟩
  · have h1d : decide ((10 : Int) < (x.cands.length : Int)) = false := by simp; omega
    have HM := Lib.hid (HM.out (by omega))
    cases hm : mayB x with
    | true =>
      have HB := Lib.hid hm
      have HC := Lib.hid (show checkM x = 0 by unfold checkM; rw [if_neg h1, if_pos hm])
      clear h1 hm
      unfold cv cvs
      go_enter Tryd.func37, Tryd.ntmps37
      go_wp2_with fail
      refine (HM.out _ (hbw _)).mono ?_
      rintro e w1 ⟨rfl, hb⟩
      rw [HB.out]
      go_wp2_with fail
      go_ret
      exact ⟨by rw [HC.out] <;> rfl, (hbw _).trans (hb.mono (hbw _).size)⟩
    | false =>
      have HB := Lib.hid hm
      have HC := Lib.hid (show checkM x = 8 by unfold checkM; rw [if_neg h1, hm]; rfl)
      clear h1 hm
      unfold cv cvs
      go_enter Tryd.func37, Tryd.ntmps37
      go_wp2_with fail
      refine (HM.out _ (hbw _)).mono ?_
      rintro e w1 ⟨rfl, hb⟩
      rw [HB.out]
      go_wp2_with fail
      go_ret
      exact ⟨by rw [HC.out] <;> rfl, (hbw _).trans (hb.mono (hbw _).size)⟩

end Go.Proofs.YtejphpcngbjgjaaDoor
