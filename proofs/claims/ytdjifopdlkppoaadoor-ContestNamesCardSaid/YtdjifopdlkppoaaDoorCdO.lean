/- contest's contestOf. -/
import Derived.Test.YtdjifopdlkppoaaDoorCdC
import Derived.Test.YtdjifopdlkppoaaDoorRefB
import Derived.Test.YtdjifopdlkppoaaDoorOcSplit2
import Derived.Deep.RegionHeld
namespace Go.Proofs.YtdjifopdlkppoaaDoor
open Go.RowKit
set_option linter.unusedVariables false

theorem ct_ret2 {fn : Func} {p q : Tmp} (h : fn.results = #[.cell p 26, .tmp q]) {a : Act} {w : World} {g : Nat} {A : Option Addr} {c : Nat} {x : Ct} {Q : Ending → World → Prop}
    (hp : a.tmps.getD p undef = .pointer (some ⟨g, 0, none⟩)) (hB : Blk w g 26 (cvs A c x)) (hd : a.defers = []) (hQ : Q (.returned (.tuple #[cv A c x, a.tmps.getD q undef])) w) : bodyPost Tryd.prog fn Q .ret a w := by
  refine bodyPost_ret (v := .tuple #[cv A c x, a.tmps.getD q undef]) ?_ hd hQ
  have hld := run_loadVar_row w g 26 26 _ _ _ hB Tryd.underlying26 rfl size_ct
  have hp' : a.tmps[p]?.getD undef = .pointer (some ⟨g, 0, none⟩) := by simpa using hp
  simp [results, h, hp', asAddr, hld, Result.andThen, cv]

/-- A contest and a flag, as contestOf answers. -/
def OfErr (w : World) (L : List (List UInt8)) (e : Ending) (w' : World) : Prop :=
  ∃ (A : Option Addr) (c : Nat) (x : Ct) (b : Bool), e = .returned (.tuple #[cv A c x, .bool b]) ∧ ((b = true ∧ partsOf L = some x) ∨ (b = false ∧ partsOf L = none)) ∧ Rf sv w' w'.heap.size A c x.cands ∧ (∀ k, blk A = some k → w.heap.size ≤ k) ∧ Below w.heap.size w w'

theorem partsOf_short {L : List (List UInt8)} (h : L.length < 2) : partsOf L = none := by
  match L, h with
  | [], _ => rfl
  | [_], _ => rfl
theorem partsOf_bad {L : List (List UInt8)} (h : 1 < L.length) (h2 : L[1].length ≠ 2) : partsOf L = none := by
  match L, h with
  | a :: b :: l, _ =>
    simp at h2
    match b with
    | [] => rfl
    | [_] => rfl
    | [_, _] => simp at h2
    | _ :: _ :: _ :: _ => rfl
theorem partsOf_good {L : List (List UInt8)} {n : List UInt8} {s r : UInt8} {cs : List (List UInt8)} (h : L = n :: [s, r] :: cs) : partsOf L = some (ofParts n s r cs) := by subst h; rfl

set_option maxRecDepth 100000 in
set_option maxHeartbeats 1000000 in
theorem contestOf_any (A : Option Addr) (c : Nat) (xs : List Oc.El) (w : World) (hr : Oc.RdL w w.heap.size A c xs) (hl : xs.length ≤ 1000000) (hel : ∀ x ∈ xs, x.l.length ≤ 1000000) :
    Calls Tryd.prog 46 #[.slice A xs.length c] w (OfErr w (Oc.byts xs)) := by
  have HB0 := Lib.hid (show Blk (w.alloc (.cells #[.string ⟨#[]⟩, .slice none 0 0, .int .i64 0, .int .u8 0] 26)) w.heap.size 26 #[.string ⟨#[]⟩, .slice none 0 0, .int .i64 0, .int .u8 0] from Blk.new w _ _)
  have B0 := Lib.hid (below_new w (.cells #[.string ⟨#[]⟩, .slice none 0 0, .int .i64 0, .int .u8 0] 26))
  by_cases h2 : xs.length < 2
  · have h2d : decide ((xs.length : Int) < 2) = true := by simp; omega
    have HP := Lib.hid (partsOf_short (L := Oc.byts xs) (by rw [Oc.byts_len]; exact h2))
    clear h2
    go_enter Tryd.func46, Tryd.ntmps46
    go_wp2_with ((with_reducible refine wpList_store_ct rfl (.tmp 2) (.tmp 17) rfl w.heap.size rfl HB0.out rfl (A := none) (c := 0) (x := zeroCt) rfl ?_); intro w1 hb1 hg1)
    refine ct_ret2 (g := w.heap.size) rfl rfl hb1 rfl ⟨none, 0, zeroCt, false, rfl, .inr ⟨rfl, HP.out⟩, Rf.empty _ _, (fun _ e => by cases e), B0.out.grown hg1 B0.out.size (fun k e => by cases e; exact Nat.le_refl _)⟩
  have h2d : decide ((xs.length : Int) < 2) = false := by simp; omega
  obtain ⟨x0, x1, zs, rfl⟩ : ∃ x0 x1 zs, xs = x0 :: x1 :: zs := by
    match xs, h2 with
    | [], h => simp at h
    | [_], h => simp at h
    | a :: b :: l, _ => exact ⟨a, b, l, rfl⟩
  obtain ⟨b, o, rfl, hbb, hcc⟩ := hr.at_ (k := 0) (by simp)
  have hc0 := hcc 0 (by simp)
  have hc1 := hcc 1 (by simp)
  have hr0 := hr.el x0 (by simp)
  have hr1 := hr.el x1 (by simp)
  have hl0 := hel x0 (by simp)
  simp only [List.getElem_cons_zero, List.getElem_cons_succ, Nat.add_zero] at hc0 hc1
  obtain ⟨A0, c0, l0⟩ := x0
  obtain ⟨A1, c1, l1⟩ := x1
  unfold Oc.El.v at hc0 hc1
  simp only at hc0 hc1 hr0 hr1 hl0
  obtain ⟨n, hn⟩ : ∃ n, n = (⟨A0, c0, l0⟩ :: ⟨A1, c1, l1⟩ :: zs : List Oc.El).length := ⟨_, rfl⟩
  have HN := Lib.hid (show n = zs.length + 2 by rw [hn]; simp)
  rw [← hn] at h2d hl ⊢
  have hn2 : 1 < n := by have := HN.out; omega
  have hn1 : 0 < n := by omega
  have hn3 : (1 : Int) < (n : Int) := by omega
  have hcz := hcc
  clear hn h2 hcc
  by_cases h3 : l1.length = 2
  case neg =>
    have h3d : ((l1.length : Int) != 2) = true := by rw [bne_iff_ne]; omega
    have h3p : ¬ (l1.length : Int) = 2 := by omega
    have HP := Lib.hid (partsOf_bad (L := Oc.byts (⟨A0, c0, l0⟩ :: ⟨A1, c1, l1⟩ :: zs)) (by rw [Oc.byts_len]; simp) (by simpa [Oc.byts] using h3))
    have hbe : b ≠ w.heap.size := by omega
    clear h3
    go_enter Tryd.func46, Tryd.ntmps46
    go_wp2_with ((with_reducible refine wpList_store_ct rfl (.tmp 2) (.tmp 17) rfl w.heap.size rfl HB0.out rfl (A := none) (c := 0) (x := zeroCt) rfl ?_); intro w1 hb1 hg1)
    refine ct_ret2 (g := w.heap.size) rfl rfl hb1 rfl ⟨none, 0, zeroCt, false, rfl, .inr ⟨rfl, HP.out⟩, Rf.empty _ _, (fun _ e => by cases e), B0.out.grown hg1 B0.out.size (fun k e => by cases e; exact Nat.le_refl _)⟩
  obtain ⟨s, r, rfl⟩ : ∃ s r, l1 = [s, r] := by
    match l1, h3 with
    | [s, r], _ => exact ⟨s, r, rfl⟩
  clear h3
  obtain ⟨b1, o1, rfl, hb1b, hd⟩ := hr1.at_ (k := 0) (by simp)
  have hd0 := hd 0 (by simp)
  have hd1 := hd 1 (by simp)
  simp only [List.getElem_cons_zero, List.getElem_cons_succ, Nat.add_zero] at hd0 hd1
  have HSTR := Lib.hid (fun wx (hb : Below w.heap.size w wx) => run_string_f (P := Tryd.prog) wx 37 9 5 Tryd.underlying37 Tryd.underlying5 Tryd.underlying9 ((Rd.toRf hr0).below hb))
  go_enter Tryd.func46, Tryd.ntmps46
  have hk0 := HSTR.out _ B0.out.drew
  go_wp2_with fail
  -- REGION
  obtain ⟨Inv, hInv⟩ : ∃ Inv : World → Prop, Inv = fun w' => Below w.heap.size w w' ∧ Blk w' w.heap.size 26 #[.string ⟨#[]⟩, .slice none 0 0, .int .i64 0, .int .u8 0] := ⟨_, rfl⟩
  have HS0 := Lib.hid (show Inv (w.alloc (.cells #[.string ⟨#[]⟩, .slice none 0 0, .int .i64 0, .int .u8 0] 26)).drew by rw [hInv]; exact ⟨B0.out.drew, HB0.out⟩)
  have HRG := Lib.hid (show ∀ w', Inv w' → (w'.cell? ⟨b, o, none⟩ = some (.slice A0 l0.length c0) ∧ w'.cell? ⟨b, o + 1, none⟩ = some (.slice (some ⟨b1, o1, none⟩) 2 c1) ∧ w'.cell? ⟨b1, o1, none⟩ = some (.int .u8 (s.toNat : Int)) ∧ w'.cell? ⟨b1, o1 + 1, none⟩ = some (.int .u8 (r.toNat : Int))) ∧ Inv w' from fun w' h => by
    have h2 := h
    rw [hInv] at h2
    exact ⟨⟨(h2.1.cell hbb).trans hc0, (h2.1.cell hbb).trans hc1, (h2.1.cell hb1b).trans hd0, (h2.1.cell hb1b).trans hd1⟩, h⟩)
  have HSW := Lib.hid (show ∀ w', Inv w' → Below w.heap.size w w' ∧ Blk w' w.heap.size 26 #[.string ⟨#[]⟩, .slice none 0 0, .int .i64 0, .int .u8 0] from fun w' h => by rw [hInv] at h; exact h)
  have HSB := Lib.hid (show ∀ wa wb, Inv wa → Below wa.heap.size wa wb → Inv wb from fun wa wb h hb => by
    rw [hInv] at h ⊢
    exact ⟨h.1.trans (hb.mono h.1.size), h.2.below hb h.2.lt⟩)
  have HSG := Lib.hid (show ∀ wa wb, Inv wa → wa.grownBy wb (some (w.heap.size + 1)) → Inv wb from fun wa wb h hg => by
    rw [hInv] at h ⊢
    exact ⟨h.1.grown hg h.1.size (fun k e => by cases e; omega), h.2.grown hg (by simp)⟩)
  have hws : IntKind.i64.wrap (s.toNat : Int) = (s.toNat : Int) := by have := UInt8.toNat_lt s; rw [IntKind.wrap_i64]; omega
  have HSZ0 := Lib.hid (show (w.alloc (.cells #[.string ⟨#[]⟩, .slice none 0 0, .int .i64 0, .int .u8 0] 26)).drew.heap.size = w.heap.size + 1 from World.size_alloc _ _)
  clear hInv
  refine wp_region_held_drew (S := (fun w' => (w'.cell? ⟨b, o, none⟩ = some (.slice A0 l0.length c0) ∧ w'.cell? ⟨b, o + 1, none⟩ = some (.slice (some ⟨b1, o1, none⟩) 2 c1) ∧ w'.cell? ⟨b1, o1, none⟩ = some (.int .u8 (s.toNat : Int)) ∧ w'.cell? ⟨b1, o1 + 1, none⟩ = some (.int .u8 (r.toNat : Int))) ∧ Inv w')) (by kernel_rfl) (HRG.out _ HS0.out) ?_
  intro hHeld
  try simp only [Act.put, List.setIfInBounds_toArray, List.set_cons_zero, List.set_cons_succ]
  refine wpAnyH_take (i := 0) (oi := { dst := some 18, op := Op.move (Operand.tmp 0), type := 70, pos := "contest.go:102", after := #[], guard := none }) (v := ?v0) rfl (by kernel_rfl) (by kernel_rfl) (by kernel_rfl) (fun _ _ _ h => h) (Or.inl ⟨by rfl, ?y0⟩) hHeld ?r0
  case y0 => intro wq hSw; obtain ⟨⟨q0, q1, q2, q3⟩, qi⟩ := hSw; go_simp; try (with_reducible rfl)
  try simp only [Act.put, List.setIfInBounds_toArray, List.set_cons_zero, List.set_cons_succ]
  refine wpAnyH_take (i := 1) (oi := { dst := some 19, op := Op.indexAddr 70 (Operand.tmp 18) (Operand.const (Value.int IntKind.i64 0)), type := 0, pos := "contest.go:102", after := #[{ on := 0, ground := Ground.data }], guard := none }) (v := ?v1) rfl (by kernel_rfl) (by kernel_rfl) (by kernel_rfl) (fun _ _ _ h => h) (Or.inl ⟨by rfl, ?y1⟩) hHeld ?r1
  case y1 => intro wq hSw; obtain ⟨⟨q0, q1, q2, q3⟩, qi⟩ := hSw; go_simp; try (with_reducible rfl)
  try simp only [Act.put, List.setIfInBounds_toArray, List.set_cons_zero, List.set_cons_succ]
  refine wpAnyH_take (i := 2) (oi := { dst := some 20, op := Op.load 37 (Operand.tmp 19), type := 37, pos := "contest.go:102", after := #[{ on := 1, ground := Ground.data }], guard := none }) (v := ?v2) rfl (by kernel_rfl) (by kernel_rfl) (by kernel_rfl) (fun _ _ _ h => h) (Or.inl ⟨by rfl, ?y2⟩) hHeld ?r2
  case y2 => intro wq hSw; obtain ⟨⟨q0, q1, q2, q3⟩, qi⟩ := hSw; go_simp; try (with_reducible rfl)
  try simp only [Act.put, List.setIfInBounds_toArray, List.set_cons_zero, List.set_cons_succ]
  refine wpAnyH_take (i := 3) (oi := { dst := some 21, op := Op.convert 37 9 (Operand.tmp 20), type := 9, pos := "contest.go:102", after := #[{ on := 2, ground := Ground.data }], guard := none }) (v := ?v3) rfl (by kernel_rfl) (by kernel_rfl) (by kernel_rfl) (fun _ _ _ h => h) (Or.inl ⟨by rfl, ?y3⟩) hHeld ?r3
  case y3 => intro wq hSw; obtain ⟨⟨q0, q1, q2, q3⟩, qi⟩ := hSw; have hk := HSTR.out wq (HSW.out _ qi).1; go_simp; try (with_reducible rfl)
  try simp only [Act.put, List.setIfInBounds_toArray, List.set_cons_zero, List.set_cons_succ]
  refine wpAnyH_take (i := 4) (oi := { dst := some 22, op := Op.move (Operand.tmp 0), type := 70, pos := "contest.go:102", after := #[], guard := none }) (v := ?v4) rfl (by kernel_rfl) (by kernel_rfl) (by kernel_rfl) (fun _ _ _ h => h) (Or.inl ⟨by rfl, ?y4⟩) hHeld ?r4
  case y4 => intro wq hSw; obtain ⟨⟨q0, q1, q2, q3⟩, qi⟩ := hSw; go_simp; try (with_reducible rfl)
  try simp only [Act.put, List.setIfInBounds_toArray, List.set_cons_zero, List.set_cons_succ]
  refine wpAnyH_take (i := 5) (oi := { dst := some 23, op := Op.indexAddr 70 (Operand.tmp 22) (Operand.const (Value.int IntKind.i64 1)), type := 0, pos := "contest.go:102", after := #[{ on := 4, ground := Ground.data }], guard := none }) (v := ?v5) rfl (by kernel_rfl) (by kernel_rfl) (by kernel_rfl) (fun _ _ _ h => h) (Or.inl ⟨by rfl, ?y5⟩) hHeld ?r5
  case y5 => intro wq hSw; obtain ⟨⟨q0, q1, q2, q3⟩, qi⟩ := hSw; go_simp; try (with_reducible rfl)
  try simp only [Act.put, List.setIfInBounds_toArray, List.set_cons_zero, List.set_cons_succ]
  refine wpAnyH_take (i := 6) (oi := { dst := some 24, op := Op.load 37 (Operand.tmp 23), type := 37, pos := "contest.go:102", after := #[{ on := 5, ground := Ground.data }], guard := none }) (v := ?v6) rfl (by kernel_rfl) (by kernel_rfl) (by kernel_rfl) (fun _ _ _ h => h) (Or.inl ⟨by rfl, ?y6⟩) hHeld ?r6
  case y6 => intro wq hSw; obtain ⟨⟨q0, q1, q2, q3⟩, qi⟩ := hSw; go_simp; try (with_reducible rfl)
  try simp only [Act.put, List.setIfInBounds_toArray, List.set_cons_zero, List.set_cons_succ]
  refine wpAnyH_take (i := 7) (oi := { dst := some 25, op := Op.indexAddr 37 (Operand.tmp 24) (Operand.const (Value.int IntKind.i64 0)), type := 0, pos := "contest.go:102", after := #[{ on := 6, ground := Ground.data }], guard := none }) (v := ?v7) rfl (by kernel_rfl) (by kernel_rfl) (by kernel_rfl) (fun _ _ _ h => h) (Or.inl ⟨by rfl, ?y7⟩) hHeld ?r7
  case y7 => intro wq hSw; obtain ⟨⟨q0, q1, q2, q3⟩, qi⟩ := hSw; go_simp; try (with_reducible rfl)
  try simp only [Act.put, List.setIfInBounds_toArray, List.set_cons_zero, List.set_cons_succ]
  refine wpAnyH_take (i := 8) (oi := { dst := some 26, op := Op.load 5 (Operand.tmp 25), type := 5, pos := "contest.go:102", after := #[{ on := 7, ground := Ground.data }], guard := none }) (v := ?v8) rfl (by kernel_rfl) (by kernel_rfl) (by kernel_rfl) (fun _ _ _ h => h) (Or.inl ⟨by rfl, ?y8⟩) hHeld ?r8
  case y8 => intro wq hSw; obtain ⟨⟨q0, q1, q2, q3⟩, qi⟩ := hSw; go_simp; try (with_reducible rfl)
  try simp only [Act.put, List.setIfInBounds_toArray, List.set_cons_zero, List.set_cons_succ]
  refine wpAnyH_take (i := 9) (oi := { dst := some 27, op := Op.convert 5 3 (Operand.tmp 26), type := 3, pos := "contest.go:102", after := #[{ on := 8, ground := Ground.data }], guard := none }) (v := ?v9) rfl (by kernel_rfl) (by kernel_rfl) (by kernel_rfl) (fun _ _ _ h => h) (Or.inl ⟨by rfl, ?y9⟩) hHeld ?r9
  case y9 => intro wq hSw; obtain ⟨⟨q0, q1, q2, q3⟩, qi⟩ := hSw; go_simp; try (with_reducible rfl)
  try simp only [Act.put, List.setIfInBounds_toArray, List.set_cons_zero, List.set_cons_succ]
  refine wpAnyH_take (i := 10) (oi := { dst := some 28, op := Op.move (Operand.tmp 0), type := 70, pos := "contest.go:102", after := #[], guard := none }) (v := ?v10) rfl (by kernel_rfl) (by kernel_rfl) (by kernel_rfl) (fun _ _ _ h => h) (Or.inl ⟨by rfl, ?y10⟩) hHeld ?r10
  case y10 => intro wq hSw; obtain ⟨⟨q0, q1, q2, q3⟩, qi⟩ := hSw; go_simp; try (with_reducible rfl)
  try simp only [Act.put, List.setIfInBounds_toArray, List.set_cons_zero, List.set_cons_succ]
  refine wpAnyH_take (i := 11) (oi := { dst := some 29, op := Op.indexAddr 70 (Operand.tmp 28) (Operand.const (Value.int IntKind.i64 1)), type := 0, pos := "contest.go:102", after := #[{ on := 10, ground := Ground.data }], guard := none }) (v := ?v11) rfl (by kernel_rfl) (by kernel_rfl) (by kernel_rfl) (fun _ _ _ h => h) (Or.inl ⟨by rfl, ?y11⟩) hHeld ?r11
  case y11 => intro wq hSw; obtain ⟨⟨q0, q1, q2, q3⟩, qi⟩ := hSw; go_simp; try (with_reducible rfl)
  try simp only [Act.put, List.setIfInBounds_toArray, List.set_cons_zero, List.set_cons_succ]
  refine wpAnyH_take (i := 12) (oi := { dst := some 30, op := Op.load 37 (Operand.tmp 29), type := 37, pos := "contest.go:102", after := #[{ on := 11, ground := Ground.data }], guard := none }) (v := ?v12) rfl (by kernel_rfl) (by kernel_rfl) (by kernel_rfl) (fun _ _ _ h => h) (Or.inl ⟨by rfl, ?y12⟩) hHeld ?r12
  case y12 => intro wq hSw; obtain ⟨⟨q0, q1, q2, q3⟩, qi⟩ := hSw; go_simp; try (with_reducible rfl)
  try simp only [Act.put, List.setIfInBounds_toArray, List.set_cons_zero, List.set_cons_succ]
  refine wpAnyH_take (i := 13) (oi := { dst := some 31, op := Op.indexAddr 37 (Operand.tmp 30) (Operand.const (Value.int IntKind.i64 1)), type := 0, pos := "contest.go:102", after := #[{ on := 12, ground := Ground.data }], guard := none }) (v := ?v13) rfl (by kernel_rfl) (by kernel_rfl) (by kernel_rfl) (fun _ _ _ h => h) (Or.inl ⟨by rfl, ?y13⟩) hHeld ?r13
  case y13 => intro wq hSw; obtain ⟨⟨q0, q1, q2, q3⟩, qi⟩ := hSw; go_simp; try (with_reducible rfl)
  try simp only [Act.put, List.setIfInBounds_toArray, List.set_cons_zero, List.set_cons_succ]
  refine wpAnyH_take (i := 14) (oi := { dst := some 32, op := Op.load 5 (Operand.tmp 31), type := 5, pos := "contest.go:102", after := #[{ on := 13, ground := Ground.data }], guard := none }) (v := ?v14) rfl (by kernel_rfl) (by kernel_rfl) (by kernel_rfl) (fun _ _ _ h => h) (Or.inl ⟨by rfl, ?y14⟩) hHeld ?r14
  case y14 => intro wq hSw; obtain ⟨⟨q0, q1, q2, q3⟩, qi⟩ := hSw; go_simp; try (with_reducible rfl)
  try simp only [Act.put, List.setIfInBounds_toArray, List.set_cons_zero, List.set_cons_succ]
  refine wpAnyH_take (i := 15) (oi := { dst := some 33, op := Op.build 26 #[(0, Operand.tmp 21), (2, Operand.tmp 27), (3, Operand.tmp 32)], type := 26, pos := "contest.go:102", after := #[{ on := 3, ground := Ground.data }, { on := 9, ground := Ground.data }, { on := 14, ground := Ground.data }], guard := none }) (v := ?v15) rfl (by kernel_rfl) (by kernel_rfl) (by kernel_rfl) (fun _ _ _ h => h) (Or.inl ⟨by rfl, ?y15⟩) hHeld ?r15
  case y15 => intro wq hSw; obtain ⟨⟨q0, q1, q2, q3⟩, qi⟩ := hSw; go_simp; try (with_reducible rfl)
  try simp only [Act.put, List.setIfInBounds_toArray, List.set_cons_zero, List.set_cons_succ]
  refine wpAnyH_ready (rs := [16]) (by kernel_rfl) (by simp) ?_
  refine AllReadyH.cons (o := { dst := some 4, op := Op.alloc 26, type := 0, pos := "contest.go:102", after := #[], guard := none }) rfl (fun K hK => ?_) AllReadyH.nil
  go_simp
  have HS1 := Lib.hid (show Inv ((w.alloc (.cells #[.string ⟨#[]⟩, .slice none 0 0, .int .i64 0, .int .u8 0] 26)).alloc (.cells #[.string ⟨#[]⟩, .slice none 0 0, .int .i64 0, .int .u8 0] 26)).drew from HSB.out _ _ HS0.out (show Below (w.alloc (.cells #[.string ⟨#[]⟩, .slice none 0 0, .int .i64 0, .int .u8 0] 26)).drew.heap.size (w.alloc (.cells #[.string ⟨#[]⟩, .slice none 0 0, .int .i64 0, .int .u8 0] 26)).drew ((w.alloc (.cells #[.string ⟨#[]⟩, .slice none 0 0, .int .i64 0, .int .u8 0] 26)).alloc (.cells #[.string ⟨#[]⟩, .slice none 0 0, .int .i64 0, .int .u8 0] 26)).drew from below_new (w.alloc (.cells #[.string ⟨#[]⟩, .slice none 0 0, .int .i64 0, .int .u8 0] 26)).drew _))
  have HBN := Lib.hid (show Blk ((w.alloc (.cells #[.string ⟨#[]⟩, .slice none 0 0, .int .i64 0, .int .u8 0] 26)).alloc (.cells #[.string ⟨#[]⟩, .slice none 0 0, .int .i64 0, .int .u8 0] 26)).drew (w.heap.size + 1) 26 #[.string ⟨#[]⟩, .slice none 0 0, .int .i64 0, .int .u8 0] by have h := Blk.new (w.alloc (.cells #[.string ⟨#[]⟩, .slice none 0 0, .int .i64 0, .int .u8 0] 26)) 26 #[.string ⟨#[]⟩, .slice none 0 0, .int .i64 0, .int .u8 0]; rw [World.size_alloc] at h; exact h)
  have HSZ1 := Lib.hid (show ((w.alloc (.cells #[.string ⟨#[]⟩, .slice none 0 0, .int .i64 0, .int .u8 0] 26)).alloc (.cells #[.string ⟨#[]⟩, .slice none 0 0, .int .i64 0, .int .u8 0] 26)).drew.heap.size = w.heap.size + 1 + 1 from (World.size_alloc _ _).trans (by rw [World.size_alloc]))
  generalize ((w.alloc (.cells #[.string ⟨#[]⟩, .slice none 0 0, .int .i64 0, .int .u8 0] 26)).alloc (.cells #[.string ⟨#[]⟩, .slice none 0 0, .int .i64 0, .int .u8 0] 26)).drew = W2 at *
  refine hK.out _ _ (HRG.out _ HS1.out) (fun hHeld => ?_)
  try simp only [Act.put, List.setIfInBounds_toArray, List.set_cons_zero, List.set_cons_succ]
  refine wpAnyH_ready (rs := [17]) (by kernel_rfl) (by simp) ?_
  refine AllReadyH.cons (o := { dst := none, op := Op.store 26 (Operand.tmp 4) (Operand.tmp 33), type := 0, pos := "contest.go:102", after := #[{ on := 16, ground := Ground.data }, { on := 15, ground := Ground.data }, { on := 0, ground := Ground.phase }, { on := 1, ground := Ground.phase }, { on := 2, ground := Ground.phase }, { on := 3, ground := Ground.phase }, { on := 4, ground := Ground.phase }, { on := 5, ground := Ground.phase }, { on := 6, ground := Ground.phase }, { on := 7, ground := Ground.phase }, { on := 8, ground := Ground.phase }, { on := 9, ground := Ground.phase }, { on := 10, ground := Ground.phase }, { on := 11, ground := Ground.phase }, { on := 12, ground := Ground.phase }, { on := 13, ground := Ground.phase }, { on := 14, ground := Ground.phase }, { on := 15, ground := Ground.phase }, { on := 16, ground := Ground.phase }], guard := none }) rfl (fun K hK => ?_) AllReadyH.nil
  rw [if_pos (by rfl)]
  refine wp_store_row 26 (.tmp 4) (.tmp 33) rfl (w.heap.size + 1) (cvs none 0 ⟨l0, [], (s.toNat : Int), r.toNat⟩) rfl rfl 26 _ HBN.out size_ct rfl (by simp [cvs, Value.oneCell']) ?_
  have HB7 := Lib.hid (show Blk (W2.setRow (w.heap.size + 1) (cvs none 0 ⟨l0, [], (s.toNat : Int), r.toNat⟩)) (w.heap.size + 1) 26 (cvs none 0 ⟨l0, [], (s.toNat : Int), r.toNat⟩) from setRow_heap W2 (w.heap.size + 1) _ _ _ _ HBN.out)
  have HG7 := Lib.hid (grown_setRow' W2 (w.heap.size + 1) (cvs none 0 ⟨l0, [], (s.toNat : Int), r.toNat⟩))
  generalize W2.setRow (w.heap.size + 1) (cvs none 0 ⟨l0, [], (s.toNat : Int), r.toNat⟩) = w7 at *
  have HS7 := Lib.hid (HSG.out _ _ HS1.out HG7.out)
  have HSZ7 := Lib.hid (show w.heap.size + 1 + 1 ≤ w7.heap.size by have := HG7.out.size; have := HSZ1.out; omega)
  refine hK.out _ _ (HRG.out _ HS7.out) (fun hHeld => ?_)
  refine wpAnyH_done (by kernel_rfl) ?_ _
  clear hHeld hK K
  have HBW7 := Lib.hid (HSW.out _ HS7.out).1
  have HBZ7 := Lib.hid (HSW.out _ HS7.out).2
  clear HRG HSW HSB HS0 HS1 HSG HS7 HG7 HBN HSZ1 HSZ0
  have hcap2 : zs.length + 2 ≤ c := by have := hr.cap; simpa using this
  have hn4 : n - 2 = zs.length := by have := HN.out; omega
  have HZC := Lib.hid (show ∀ j (hj : j < zs.length), w.cell? ⟨b, o + 2 + j, none⟩ = some (zs[j].v) from fun j hj => by
    have h := hcz (j + 2) (by simpa using hj)
    rw [show o + 2 + j = o + (j + 2) by omega]
    simpa using h)
  have HZE := Lib.hid (show ∀ z ∈ zs, Oc.Rd w w.heap.size z.A z.c z.l from fun z hz => hr.el z (by simp [hz]))
  have HZL := Lib.hid (show ∀ z ∈ zs, z.l.length ≤ 1000000 from fun z hz => hel z (by simp [hz]))
  have HZN := Lib.hid (show zs.length ≤ 1000000 by have := HN.out; omega)
  have HPG := Lib.hid (partsOf_good (L := Oc.byts (⟨A0, c0, l0⟩ :: ⟨some ⟨b1, o1, none⟩, c1, [s, r]⟩ :: zs)) (n := l0) (s := s) (r := r) (cs := Oc.byts zs) rfl)
  obtain ⟨bi, hbi, hz0, hz1, hz2⟩ := sInfo_parts
  have HBI := Lib.hid hbi
  have HZ0 := Lib.hid hz0
  have HZ1 := Lib.hid hz1
  have HZ2 := Lib.hid hz2
  clear hbi hz0 hz1 hz2 hr hr0 hr1 hel hd hk0 HSTR hcz hHeld
  by_cases hc2 : c = 2
  · go_wp2_with fail
    go_loopw [37] (fun i wr => ∃ (k : Nat) (A' : Option Addr) (c' : Nat) (q : List (List UInt8)), k ≤ zs.length ∧ i = .int .i64 k ∧ Hid (q = (Oc.byts zs).take k) ∧ Hid (Ow sv wr (w.heap.size + 1 + 1) 9 A' c' q) ∧ Hid (Blk wr (w.heap.size + 1) 26 #[.string ⟨l0.toArray⟩, .slice A' q.length c', .int .i64 (s.toNat : Int), .int .u8 (r.toNat : Int)]) ∧ Hid (Blk wr w.heap.size 26 #[.string ⟨#[]⟩, .slice none 0 0, .int .i64 0, .int .u8 0]) ∧ Hid (Below w.heap.size w wr) ∧ Hid (w.heap.size + 1 + 1 ≤ wr.heap.size)) (fun i _ => zs.length - (intOf i).toNat)
    case atStart => exact ⟨0, none, 0, [], Nat.zero_le _, rfl, rfl, Ow.nil _ _ _, HB7, HBZ7, HBW7, HSZ7⟩
    case round =>
      obtain ⟨k, A', c', q, hk, rfl, hq, ho, hb1, hb0, hbw, hsz⟩ := hrel
      rename_i wr
      by_cases hlt : k < zs.length
      · exfalso; omega
      · obtain rfl : k = zs.length := by omega
        have HQE := Lib.hid (show q = Oc.byts zs by rw [hq.out, List.take_of_length_le (by rw [Oc.byts_len]; exact Nat.le_refl _)])
        have HBX := Lib.hid (show Blk wr (w.heap.size + 1) 26 (cvs A' c' ⟨l0, q, (s.toNat : Int), r.toNat⟩) from hb1.out)
        go_wp2_with (first
          | (with_reducible refine wpList_load_ct (by kernel_rfl) (.tmp 4) rfl (w.heap.size + 1) rfl (A := A') (c := c') (x := ⟨l0, q, (s.toNat : Int), r.toNat⟩) HBX.out ?_)
          | ((with_reducible refine wpList_store_ct rfl (.tmp 2) (.tmp 49) rfl w.heap.size rfl hb0.out rfl (A := A') (c := c') (x := ⟨l0, q, (s.toNat : Int), r.toNat⟩) rfl ?_); intro w9 hb9 hg9))
        refine ct_ret2 (g := w.heap.size) rfl rfl hb9 rfl ⟨A', c', ⟨l0, q, (s.toNat : Int), r.toNat⟩, true, rfl, .inl ⟨rfl, ?_⟩, ?_, (fun j e => by have := (ho.out.blk_ge j e).1; omega), hbw.out.grown hg9 hbw.out.size (fun j e => by cases e; exact Nat.le_refl _)⟩
        · rw [HPG.out, HQE.out]
          rfl
        · exact (ho.out.kept hg9 (by
            cases hA : blk A' with
            | none => exact .inl rfl
            | some j => exact .inr (fun e => by have := (ho.out.blk_ge j hA).1; have := Option.some.inj e; omega))).rd
  · go_wp2_with fail
    go_loopw [37] (fun i wr => ∃ (k : Nat) (A' : Option Addr) (c' : Nat) (q : List (List UInt8)), k ≤ zs.length ∧ i = .int .i64 k ∧ Hid (q = (Oc.byts zs).take k) ∧ Hid (Ow sv wr (w.heap.size + 1 + 1) 9 A' c' q) ∧ Hid (Blk wr (w.heap.size + 1) 26 #[.string ⟨l0.toArray⟩, .slice A' q.length c', .int .i64 (s.toNat : Int), .int .u8 (r.toNat : Int)]) ∧ Hid (Blk wr w.heap.size 26 #[.string ⟨#[]⟩, .slice none 0 0, .int .i64 0, .int .u8 0]) ∧ Hid (Below w.heap.size w wr) ∧ Hid (w.heap.size + 1 + 1 ≤ wr.heap.size)) (fun i _ => zs.length - (intOf i).toNat)
    case atStart => exact ⟨0, none, 0, [], Nat.zero_le _, rfl, rfl, Ow.nil _ _ _, HB7, HBZ7, HBW7, HSZ7⟩
    case round =>
      obtain ⟨k, A', c', q, hk, rfl, hq, ho, hb1, hb0, hbw, hsz⟩ := hrel
      rename_i wr
      by_cases hlt : k < zs.length
      · have hcx := (hbw.out.cell (p := ⟨b, o + 2 + k, none⟩) hbb).trans (HZC.out k hlt)
        have hel := (HZE.out _ (List.getElem_mem hlt))
        have hll := (HZL.out _ (List.getElem_mem hlt))
        have htk : (Oc.byts zs).take (k + 1) = (Oc.byts zs).take k ++ [zs[k].l] := by
          rw [List.take_succ_eq_append_getElem (by rw [Oc.byts_len]; exact hlt)]
          simp [Oc.byts]
        obtain ⟨z, hz⟩ : ∃ z, z = zs[k] := ⟨_, rfl⟩
        rw [← hz] at hcx hel hll htk
        obtain ⟨zA, zc, zl⟩ := z
        unfold Oc.El.v at hcx
        simp only at hcx hel hll htk
        have hcv := run_string_f (P := Tryd.prog) wr 37 9 5 Tryd.underlying37 Tryd.underlying5 Tryd.underlying9 ((Rd.toRf hel).below hbw.out)
        have hg1 : wr.cell? ⟨w.heap.size + 1, 1, none⟩ = some (.slice A' q.length c') := hb1.out.cell 1
        have HTK := Lib.hid htk
        have HQL := Lib.hid (show q.length ≤ 1000000 by rw [hq.out, List.length_take, Oc.byts_len]; omega)
        have HRF := Lib.hid (rf_one (f := sv) (w := wr) zl 9)
        have HOA := Lib.hid (ho.out.alloc (.cells #[.string ⟨zl.toArray⟩] 9))
        have HSA := Lib.hid (show w.heap.size + 1 + 1 ≤ (wr.alloc (.cells #[.string ⟨zl.toArray⟩] 9)).heap.size by have := hsz.out; simp only [World.size_alloc]; omega)
        have HLE := Lib.hid (show q.length + [zl].length ≤ 4000000000 by have := HQL.out; simp only [List.length_cons, List.length_nil]; omega)
        clear hz hel hll htk
        unfold sv at HRF
        go_wp2_with (at_builtin; (refine wpList_append_f _ sv_one rfl (.tmp 42) (.tmp 45) 24 rfl (w.heap.size + 1 + 1) 9 16 bi _ Tryd.underlying24 HBI.out HZ0.out HZ1.out HZ2.out (by omega) rfl q [zl] rfl rfl HOA.out HRF.out HLE.out HSA.out ?_); intro A8 c8 w8 q8 hq8 hown8 hg8 hbl8; have HB8 := Lib.hid ((hb1.out.alloc (.cells #[.string ⟨zl.toArray⟩] 9)).grown hg8 (fun e => by have := (ho.out.blk_ge _ e.symm).1; omega)); have hc8 : w8.cell? ⟨w.heap.size + 1, 1, none⟩ = some (.slice A' q.length c') := HB8.out.cell 1; have hf8 : w8.frozen? ⟨w.heap.size + 1, 1, none⟩ = false := HB8.out.frozen 1)
        have hne : ∀ j, blk A8 = some j → w.heap.size + 1 + 1 ≤ j := fun j e => (hown8.blk_ge j e).1
        have hB8w : Below w.heap.size w w8 := (hbw.out.alloc hbw.out.size (.cells #[.string ⟨zl.toArray⟩] 9)).grown hg8 (by have := hbw.out.size; simp only [World.size_alloc]; omega) (fun j e => by have := (ho.out.blk_ge j e).1; omega)
        refine ⟨⟨k + 1, A8, c8, q8, by omega, by go_num, ?_, ?_, ?_, ?_, ?_, ?_⟩, by simp [intOf]; omega⟩
        · show _ = _
          rw [hq8.out, hq.out, HTK.out]
        · exact hown8.kept (grown_set w8 ⟨w.heap.size + 1, 1, none⟩ _) (by
            cases hA : blk A8 with
            | none => exact .inl rfl
            | some j => exact .inr (fun e => by have := hne j hA; have := Option.some.inj e; simp at this; omega))
        · exact HB8.out.set_ 1 _
        · exact (((hb0.out.alloc (.cells #[.string ⟨zl.toArray⟩] 9)).grown hg8 (fun e => by have := (ho.out.blk_ge _ e.symm).1; omega))).far (by simp) _
        · exact hB8w.setCell (p := ⟨w.heap.size + 1, 1, none⟩) (by show w.heap.size ≤ w.heap.size + 1; omega) _
        · show _ ≤ _
          have h1 := hg8.size
          have h2 := hsz.out
          simp only [World.size_alloc] at h1
          simp only [World.setCell, Array.size_modify]
          omega
      · obtain rfl : k = zs.length := by omega
        have HQE := Lib.hid (show q = Oc.byts zs by rw [hq.out, List.take_of_length_le (by rw [Oc.byts_len]; exact Nat.le_refl _)])
        have HBX := Lib.hid (show Blk wr (w.heap.size + 1) 26 (cvs A' c' ⟨l0, q, (s.toNat : Int), r.toNat⟩) from hb1.out)
        go_wp2_with (first
          | (with_reducible refine wpList_load_ct (by kernel_rfl) (.tmp 4) rfl (w.heap.size + 1) rfl (A := A') (c := c') (x := ⟨l0, q, (s.toNat : Int), r.toNat⟩) HBX.out ?_)
          | ((with_reducible refine wpList_store_ct rfl (.tmp 2) (.tmp 49) rfl w.heap.size rfl hb0.out rfl (A := A') (c := c') (x := ⟨l0, q, (s.toNat : Int), r.toNat⟩) rfl ?_); intro w9 hb9 hg9))
        refine ct_ret2 (g := w.heap.size) rfl rfl hb9 rfl ⟨A', c', ⟨l0, q, (s.toNat : Int), r.toNat⟩, true, rfl, .inl ⟨rfl, ?_⟩, ?_, (fun j e => by have := (ho.out.blk_ge j e).1; omega), hbw.out.grown hg9 hbw.out.size (fun j e => by cases e; exact Nat.le_refl _)⟩
        · rw [HPG.out, HQE.out]
          rfl
        · exact (ho.out.kept hg9 (by
            cases hA : blk A' with
            | none => exact .inl rfl
            | some j => exact .inr (fun e => by have := (ho.out.blk_ge j hA).1; have := Option.some.inj e; omega))).rd
end Go.Proofs.YtdjifopdlkppoaaDoor
