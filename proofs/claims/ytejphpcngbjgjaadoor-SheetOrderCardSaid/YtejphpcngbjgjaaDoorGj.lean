/- sheet's code: layouts. sheet's code: Boxes, Check, isPolicy. sheet's code: Check. States of boxes and decisions, pure. sheet's code: statesOf, decide. -/
import Derived.Test.YtejphpcngbjgjaaDoorGg
import Derived.Test.YtejphpcngbjgjaaDoorGi
namespace Go.Proofs.YtejphpcngbjgjaaDoor
open Go.RowKit
set_option linter.unusedVariables false

/-- A layout: its kind of ballots, how many marks, candidates, columns. -/
structure Ly where
  kind : Nat
  most : Int
  cands : Nat
  cols : Nat
def lys (l : Ly) : Array Value := #[.int .u8 (l.kind : Nat), .int .i64 l.most, .int .i64 (l.cands : Nat), .int .i64 (l.cols : Nat)]
def lyv (l : Ly) : Value := .agg (lys l)
def zeroLy : Ly := ⟨0, 0, 0, 0⟩
def layM (x : Ct) : Ly := ⟨kindM x.rule, marksM x.rule x.cands.length, x.cands.length, wideS x⟩
def layE (x : Ct) : Ly × Int := if checkM x = 0 then (layM x, 0) else (zeroLy, checkM x)
def colsM (k : Nat) (n : Nat) : Nat := if k = 1 then n else if k = 3 then 11 else 1
theorem colsM_wide (x : Ct) : colsM (kindM x.rule) x.cands.length = wideS x := rfl
theorem size_ly : (Tryd.prog.info? 57).map (·.size) = some 4 := by kernel_rfl
theorem wpList_store_ly {w : World} {ops : Array Oper} {rest : List Oper} {o : Oper} {a : Act} {Q : Exit → Act → World → Prop} (hgd : o.guard = none) (y z : Operand) (ho : o.op = .store 57 y z)
    (g : Nat) (hx : a.eval y = .pointer (some ⟨g, 0, none⟩)) {old : Array Value} (hB : Blk w g 57 old) (hold : old.size = 4) (x : Ly) (hy : a.eval z = lyv x)
    (h : ∀ w', Blk w' g 57 (lys x) → w.grownBy w' (some g) → wpList Tryd.prog ops Q rest (a.put o.dst undef) w') : wpList Tryd.prog ops Q (o :: rest) a w :=
  wpList_store_row hgd _ y z ho g (lys x) hx hy 57 old hB size_ly hold (by simp [lys, Value.oneCell']) (h _ (setRow_heap w g _ _ _ _ hB) ⟨rfl, rfl, rfl, by simp, fun k _ hk => setRow_other w g k _ (fun e => hk (by rw [e]))⟩)
theorem ly_ret2 {fn : Func} {p q : Tmp} (h : fn.results = #[.cell p 57, .tmp q]) {a : Act} {w : World} {g : Nat} {x : Ly} {Q : Ending → World → Prop}
    (hp : a.tmps.getD p undef = .pointer (some ⟨g, 0, none⟩)) (hB : Blk w g 57 (lys x)) (hd : a.defers = []) (hQ : Q (.returned (.tuple #[lyv x, a.tmps.getD q undef])) w) : bodyPost Tryd.prog fn Q .ret a w := by
  refine bodyPost_ret (v := .tuple #[lyv x, a.tmps.getD q undef]) ?_ hd hQ
  have hld := run_loadVar_row w g 57 57 _ _ _ hB Tryd.underlying57 rfl size_ly
  have hp' : a.tmps[p]?.getD undef = .pointer (some ⟨g, 0, none⟩) := by simpa using hp
  simp [results, h, hp', asAddr, hld, Result.andThen, lyv]

set_option maxRecDepth 100000 in
set_option maxHeartbeats 400000 in
theorem columnsOf_any (k n : Nat) (w : World) (hk : k ≤ 255) :
    Calls Tryd.prog 40 #[.int .u8 k, .int .i64 n] w fun e w' => e = .returned (.int .i64 (colsM k n : Nat)) ∧ w = w' := by
  by_cases h1 : k = 1
  · subst h1
    have HQ := Lib.hid (show colsM 1 n = n from rfl)
    go_enter Tryd.func40, Tryd.ntmps40
    go_wp2_with fail
    go_ret
    exact ⟨by rw [HQ.out] <;> rfl, rfl⟩
  by_cases h3 : k = 3
  · subst h3
    have HQ := Lib.hid (show colsM 3 n = 11 from rfl)
    go_enter Tryd.func40, Tryd.ntmps40
    go_wp2_with fail
    go_ret
    exact ⟨by rw [HQ.out] <;> rfl, rfl⟩
  · have HQ := Lib.hid (show colsM k n = 1 by unfold colsM; rw [if_neg h1, if_neg h3])
    have e1 : (((k : Nat) : Int) == 1) = false := by rw [beq_eq_false_iff_ne]; omega
    have e3 : (((k : Nat) : Int) == 3) = false := by rw [beq_eq_false_iff_ne]; omega
    have d1 : ¬ ((k : Nat) : Int) = 1 := by omega
    have d3 : ¬ ((k : Nat) : Int) = 3 := by omega
    clear h1 h3
    go_enter Tryd.func40, Tryd.ntmps40
    go_wp2_with fail
    go_ret
    exact ⟨by rw [HQ.out] <;> rfl, rfl⟩

theorem kindE_ok {x : Ct} (h : checkM x = 0) : kindE x.rule = (kindM x.rule, 0) := by
  have := checkM_few h
  have hb : ruleB x.rule = true := (ruleB_iff _).2 (by omega)
  unfold kindE; rw [hb]; rfl
theorem mostM_ok {x : Ct} (h : checkM x = 0) : mostM x.rule x.cands.length = (marksM x.rule x.cands.length, 0) := by
  have hf := checkM_few h
  have hb : ruleB x.rule = true := (ruleB_iff _).2 (by omega)
  unfold mostM
  rw [hb, if_pos]
  simp; omega

set_option maxRecDepth 100000 in
set_option maxHeartbeats 1000000 in
theorem layoutOf_any (x : Ct) (A : Option Addr) (c : Nat) (w : World) (hc : CtOk w A c x) (hT : Tab w) :
    Calls Tryd.prog 17 #[cv A c x] w fun e w' => e = .returned (.tuple #[lyv (layE x).1, .int .i64 (layE x).2]) ∧ Below w.heap.size w w' := by
  obtain ⟨wA, hwA⟩ : ∃ wA, wA = (w.alloc (.cells (cvs A c x) 24)).alloc (.cells (lys zeroLy) 57) := ⟨_, rfl⟩
  have B0 := Lib.hid (show Below w.heap.size w wA from by rw [hwA]; exact (below_new w _).alloc (by simp) _)
  have HC0 := Lib.hid (show Blk wA w.heap.size 24 (cvs A c x) from by rw [hwA]; exact (Blk.new w _ _).alloc _)
  have HL0 := Lib.hid (show Blk wA (w.heap.size + 1) 57 (lys zeroLy) from by
    have h := Blk.new (w.alloc (.cells (cvs A c x) 24)) 57 (lys zeroLy)
    rw [World.size_alloc] at h
    rw [hwA]; exact h)
  have HK := Lib.hid (check_any x A c wA (hc.below B0.out) (hT.below (Nat.le_refl _) B0.out))
  have HR := Lib.hid hc.rule
  have HT := Lib.hid hT
  clear hc hT
  unfold cv at HK
  unfold cvs at HC0 HK hwA
  unfold cv cvs
  by_cases h0 : checkM x = 0
  case neg =>
    have HQ := Lib.hid (show layE x = (zeroLy, checkM x) by unfold layE; rw [if_neg h0])
    rcases checkM_cases x with h4 | h4 | h4
    · exact absurd h4 h0
    all_goals
      have HE := Lib.hid h4
      rw [h4] at HQ
      clear h0 h4
      go_enter Tryd.func17, Tryd.ntmps17
      go_wp2_with fail
      rw [show lys zeroLy = #[.int .u8 0, .int .i64 0, .int .i64 0, .int .i64 0] from rfl] at hwA
      rw [← hwA]
      refine HK.out.mono ?_
      rintro e w1 ⟨rfl, hb⟩
      rw [HE.out]
      have B1 := Lib.hid (B0.out.trans (hb.mono B0.out.size))
      have HL1 := Lib.hid (HL0.out.below hb HL0.out.lt)
      clear hb hwA
      go_wp2_with ((with_reducible refine wpList_store_ly rfl (.tmp 2) (.tmp 14) rfl (w.heap.size + 1) rfl HL1.out rfl zeroLy rfl ?_); intro wE hbE hgE)
      refine ly_ret2 (g := w.heap.size + 1) rfl rfl hbE rfl ⟨by rw [HQ.out] <;> rfl, B1.out.grown hgE B1.out.size (fun k e => by cases e; omega)⟩
  have HE := Lib.hid h0
  have HQ := Lib.hid (show layE x = (layM x, 0) by unfold layE; rw [if_pos h0])
  have HKE := Lib.hid (kindE_ok h0)
  have HME := Lib.hid (mostM_ok h0)
  have hf := checkM_few h0
  have HCN := Lib.hid hf.2.1
  have hwf : (Lit.int .i64 (x.cands.length : Int)).wf = true := by simp [Lit.wf, IntKind.min, IntKind.max, IntKind.signed, IntKind.bits]; omega
  clear h0 hf
  go_enter Tryd.func17, Tryd.ntmps17
  go_wp2_with fail
  rw [show lys zeroLy = #[.int .u8 0, .int .i64 0, .int .i64 0, .int .i64 0] from rfl] at hwA
  rw [← hwA]
  refine HK.out.mono ?_
  rintro e w1 ⟨rfl, hb⟩
  rw [HE.out]
  have B1 := Lib.hid (B0.out.trans (hb.mono B0.out.size))
  have HL1 := Lib.hid (HL0.out.below hb HL0.out.lt)
  have c1 : w1.cell? ⟨w.heap.size, 1, none⟩ = some (.slice A x.cands.length c) := (HC0.out.below hb HC0.out.lt).cell 1
  have c3 : w1.cell? ⟨w.heap.size, 3, none⟩ = some (.int .u8 x.rule) := (HC0.out.below hb HC0.out.lt).cell 3
  have HT1 := Lib.hid (HT.out.below (Nat.le_refl _) B1.out)
  clear hb hwA
  go_wp2_with fail
  refine (kind_any x.rule w1 HR.out HT1.out).mono ?_
  rintro e w2 ⟨rfl, hw2⟩
  obtain rfl := hw2
  rw [HKE.out]
  go_wp2_with fail
  refine (most_any x.rule x.cands.length w1 HR.out hwf HT1.out).mono ?_
  rintro e w2 ⟨rfl, hw2⟩
  obtain rfl := hw2
  rw [HME.out]
  have hk3 := (kindM_range x.rule).2
  go_wp2_with fail
  refine (columnsOf_any (kindM x.rule) x.cands.length w1 (by omega)).mono ?_
  rintro e w2 ⟨rfl, hw2⟩
  obtain rfl := hw2
  rw [colsM_wide]
  go_wp2_with ((with_reducible refine wpList_store_ly rfl (.tmp 2) (.tmp 38) rfl (w.heap.size + 1) rfl HL1.out rfl (layM x) rfl ?_); intro wE hbE hgE)
  refine ly_ret2 (g := w.heap.size + 1) rfl rfl hbE rfl ⟨by rw [HQ.out] <;> rfl, B1.out.grown hgE B1.out.size (fun k e => by cases e; omega)⟩
end Go.Proofs.YtejphpcngbjgjaaDoor
namespace Go.Proofs.YtejphpcngbjgjaaDoor
open Go.RowKit
set_option linter.unusedVariables false

set_option maxRecDepth 100000 in
set_option maxHeartbeats 400000 in
theorem boxesL_any (l : Ly) (w : World) (h : l.cands * l.cols ≤ 1000000) :
    Calls Tryd.prog 18 #[lyv l] w fun e w' => e = .returned (.int .i64 ((l.cands * l.cols : Nat) : Int)) ∧ Below w.heap.size w w' := by
  obtain ⟨k, m, n, q⟩ := l
  simp only at h
  have B0 := Lib.hid (below_new w (.cells #[.int .u8 (k : Nat), .int .i64 m, .int .i64 (n : Nat), .int .i64 (q : Nat)] 57))
  have hmul : (n : Int) * (q : Int) = ((n * q : Nat) : Int) := by simp
  have hwr : IntKind.i64.wrap ((n : Int) * (q : Int)) = ((n * q : Nat) : Int) := by rw [hmul, IntKind.wrap_i64]; omega
  clear hmul h
  unfold lyv lys
  simp only
  go_enter Tryd.func18, Tryd.ntmps18
  go_wp2_with fail
  go_ret
  exact ⟨rfl, B0.out⟩

theorem boxesS_lay (x : Ct) : boxesS x = if checkM x = 0 then ((((layM x).cands * (layM x).cols : Nat) : Int), 0) else (0, checkM x) := by
  unfold boxesS manyS layM
  by_cases h : checkM x = 0
  · rw [if_pos h, if_neg (by omega)]
  · rw [if_neg h, if_pos h]
theorem layM_le {x : Ct} (h : checkM x = 0) : (layM x).cands * (layM x).cols ≤ 110 := by
  have h1 := checkM_few h
  have h2 := wideS_le h
  unfold layM
  exact Nat.le_trans (Nat.mul_le_mul h1.2.1 h2) (by decide)

set_option maxRecDepth 100000 in
set_option maxHeartbeats 1000000 in
theorem boxes_any (x : Ct) (A : Option Addr) (c : Nat) (w : World) (hc : CtOk w A c x) (hT : Tab w) :
    Calls Tryd.prog 8 #[cv A c x] w fun e w' => e = .returned (.tuple #[.int .i64 (boxesS x).1, .int .i64 (boxesS x).2]) ∧ Below w.heap.size w w' := by
  have B0 := Lib.hid (below_new w (.cells (cvs A c x) 24))
  have HK := Lib.hid (layoutOf_any x A c _ (hc.box (.cells (cvs A c x) 24)) (hT.below (Nat.le_refl _) B0.out))
  clear hc hT
  unfold cv at HK
  unfold cvs at HK B0
  unfold cv cvs
  by_cases h0 : checkM x = 0
  case neg =>
    have HQ := Lib.hid (show boxesS x = (0, checkM x) by rw [boxesS_lay, if_neg h0])
    have HE := Lib.hid (show layE x = (zeroLy, checkM x) by unfold layE; rw [if_neg h0])
    have HNZ := Lib.hid h0
    rcases checkM_cases x with h4 | h4 | h4
    · exact absurd h4 h0
    all_goals
      rw [h4] at HE HQ
      clear h0 h4 HNZ
      go_enter Tryd.func8, Tryd.ntmps8
      go_wp2_with fail
      refine HK.out.mono ?_
      rintro e w1 ⟨rfl, hb⟩
      rw [HE.out]
      unfold lyv lys
      have B1 := Lib.hid (B0.out.trans (hb.mono B0.out.size))
      clear hb
      go_wp2_with fail
      go_ret2
      exact ⟨by rw [HQ.out] <;> rfl, B1.out.alloc B1.out.size _⟩
  have HQ := Lib.hid (show boxesS x = ((((layM x).cands * (layM x).cols : Nat) : Int), 0) by rw [boxesS_lay, if_pos h0])
  have HE := Lib.hid (show layE x = (layM x, 0) by unfold layE; rw [if_pos h0])
  have HLE := Lib.hid (layM_le h0)
  obtain ⟨l, hl⟩ : ∃ l, l = layM x := ⟨_, rfl⟩
  rw [← hl] at HQ HE HLE
  clear h0 hl
  obtain ⟨k, m, n, q⟩ := l
  go_enter Tryd.func8, Tryd.ntmps8
  go_wp2_with fail
  refine HK.out.mono ?_
  rintro e w1 ⟨rfl, hb⟩
  rw [HE.out]
  unfold lyv lys
  simp only
  have B1 := Lib.hid (B0.out.trans (hb.mono B0.out.size))
  have HX := Lib.hid (fun wx => boxesL_any ⟨k, m, n, q⟩ wx (Nat.le_trans HLE.out (by decide)))
  unfold lyv lys at HX
  simp only at HX
  clear hb
  go_wp2_with fail
  refine (HX.out _).mono ?_
  rintro e w2 ⟨rfl, hb⟩
  go_wp2_with fail
  go_ret2
  exact ⟨by rw [HQ.out] <;> rfl, (B1.out.alloc B1.out.size _).trans (hb.mono (by have := B1.out.size; simp; omega))⟩

set_option maxHeartbeats 400000 in
theorem isTooDark_any (b : UInt8) (w : World) : Calls Tryd.prog 22 #[.int .u8 b.toNat] w fun e w' => e = .returned (.bool (decide (100 < b.toNat))) ∧ w' = w := by
  obtain ⟨n, hn⟩ : ∃ n, n = b.toNat := ⟨_, rfl⟩
  rw [← hn]
  clear hn
  by_cases h : 100 < n
  · have h1 : decide ((100 : Int) < (n : Int)) = true := by simp; omega
    have HQ := Lib.hid (show decide (100 < n) = true by simpa using h)
    clear h
    go_enter Tryd.func22, Tryd.ntmps22
    go_wp2_with fail
    go_ret
    exact ⟨by rw [HQ.out] <;> rfl, rfl⟩
  · have h1 : decide ((100 : Int) < (n : Int)) = false := by simp; omega
    have HQ := Lib.hid (show decide (100 < n) = false by simpa using h)
    clear h
    go_enter Tryd.func22, Tryd.ntmps22
    go_wp2_with fail
    go_ret
    exact ⟨by rw [HQ.out] <;> rfl, rfl⟩

theorem darkS_no {s : List UInt8} {k : Nat} (h : k < s.length) (hd : 100 < s[k].toNat) : darkS s = false := by
  rw [Bool.eq_false_iff]
  intro e
  unfold darkS at e
  rw [List.all_eq_true] at e
  have := e s[k] (List.getElem_mem h)
  simp at this
  omega
theorem darkS_yes {s : List UInt8} (h : ∀ j (h : j < s.length), (s[j]).toNat ≤ 100) : darkS s = true := by
  unfold darkS
  rw [List.all_eq_true]
  intro b hb
  obtain ⟨j, hj, rfl⟩ := List.getElem_of_mem hb
  simpa using h j hj

set_option maxRecDepth 100000 in
set_option maxHeartbeats 1000000 in
theorem indexDark_any (s : List UInt8) (A : Option Addr) (c : Nat) (w : World) (hs : Rf bv w w.heap.size A c s) (hl : s.length ≤ 1000000) :
    Calls Tryd.prog 42 #[.slice A s.length c, .func (.func 22) #[] #[]] w fun e w' => ∃ k : Int, e = .returned (.int .i64 k) ∧ decide (0 ≤ k) = !darkS s ∧ w' = w := by
  have HD := Lib.hid (fun (b : UInt8) => isTooDark_any b w)
  go_enter Tryd.func42, Tryd.ntmps42
  go_wp2_with fail
  go_loop [8] (fun i' => ∃ k : Nat, k ≤ s.length ∧ i' = .int .i64 k ∧ Hid (∀ j (h : j < s.length), j < k → (s[j]).toNat ≤ 100)) (fun i' => s.length - (intOf i').toNat)
  case atStart => exact ⟨0, Nat.zero_le _, rfl, fun j h hj => absurd hj (Nat.not_lt_zero j)⟩
  case round =>
    obtain ⟨k, hk, rfl, hpre⟩ := hrel
    by_cases hlt : k < s.length
    · obtain ⟨b, o, rfl, hbb, hc⟩ := hs.at_ hlt
      have f1 := hc k hlt
      obtain ⟨x, hx⟩ : ∃ x, x = s[k] := ⟨_, rfl⟩
      rw [← hx] at f1
      unfold bv at f1
      by_cases hd : 100 < x.toNat
      · have HX := Lib.hid (show decide (100 < x.toNat) = true by simpa using hd)
        have HA := Lib.hid (darkS_no hlt (by rw [← hx]; exact hd))
        clear hc hx hd
        go_wp2_with fail
        refine (HD.out x).mono ?_
        rintro e w1 ⟨rfl, hw⟩
        obtain rfl := hw.symm
        rw [HX.out]
        go_wp2_with fail
        go_ret
        exact ⟨_, rfl, by rw [HA.out]; simp, rfl⟩
      · have HX := Lib.hid (show decide (100 < x.toNat) = false by simpa using hd)
        have HN := Lib.hid (show ∀ j (h : j < s.length), j < k + 1 → (s[j]).toNat ≤ 100 from fun j h hj => by
          by_cases e : j = k
          · subst e; rw [← hx]; omega
          · exact hpre.out j h (by omega))
        clear hc hx hd
        go_wp2_with fail
        refine (HD.out x).mono ?_
        rintro e w1 ⟨rfl, hw⟩
        obtain rfl := hw.symm
        rw [HX.out]
        go_wp2_with fail
        go_round
        case rel => exact ⟨k + 1, by omega, by go_num, HN⟩
        case measure => simp [intOf]; omega
    · have HA := Lib.hid (darkS_yes (s := s) (fun j hj => hpre.out j hj (by omega)))
      obtain rfl : k = s.length := by omega
      go_wp2_with fail
      go_ret
      exact ⟨_, rfl, by rw [HA.out]; rfl, rfl⟩

set_option maxRecDepth 100000 in
set_option maxHeartbeats 400000 in
theorem containsDark_any (s : List UInt8) (A : Option Addr) (c : Nat) (w : World) (hs : Rf bv w w.heap.size A c s) (hl : s.length ≤ 1000000) :
    Calls Tryd.prog 21 #[.slice A s.length c, .func (.func 22) #[] #[]] w fun e w' => e = .returned (.bool (!darkS s)) ∧ w' = w := by
  have HI := Lib.hid (indexDark_any s A c w hs hl)
  clear hs
  go_enter Tryd.func21, Tryd.ntmps21
  go_wp2_with fail
  refine HI.out.mono ?_
  rintro e w1 ⟨k, rfl, hk, hw⟩
  obtain rfl := hw.symm
  have HK := Lib.hid hk
  clear hk
  by_cases h : 0 ≤ k
  · have d1 : decide ((0 : Int) ≤ k) = true := by simpa using h
    have HQ := Lib.hid (show (!darkS s) = true by rw [← HK.out]; exact d1)
    clear h
    go_wp2_with fail
    go_ret
    exact ⟨by rw [HQ.out] <;> rfl, rfl⟩
  · have d1 : decide ((0 : Int) ≤ k) = false := by simpa using h
    have HQ := Lib.hid (show (!darkS s) = false by rw [← HK.out]; exact d1)
    clear h
    go_wp2_with fail
    go_ret
    exact ⟨by rw [HQ.out] <;> rfl, rfl⟩

set_option maxRecDepth 100000 in
set_option maxHeartbeats 1000000 in
theorem isPolicy_any (p : Po) (w : World) : Calls Tryd.prog 23 #[pov p] w fun e w' => e = .returned (.bool (mayP p)) ∧ Below w.heap.size w w' := by
  obtain ⟨a, b, s⟩ := p
  have B0 := Lib.hid (below_new w (.cells #[.int .u8 (a : Nat), .int .u8 (b : Nat), .int .i64 s] 38))
  have hm : mayP ⟨a, b, s⟩ = (decide (1 ≤ a) && (decide (a ≤ b) && (decide (b ≤ 100) && (decide (0 ≤ s) && decide (s ≤ 10))))) := rfl
  unfold pov
  by_cases h1 : 1 ≤ a
  case neg =>
    have d1 : decide ((1 : Int) ≤ (a : Int)) = false := by simp; omega
    have HQ := Lib.hid (show mayP ⟨a, b, s⟩ = false by rw [hm, decide_eq_false h1]; rfl)
    clear hm h1
    go_enter Tryd.func23, Tryd.ntmps23
    go_wp2_with fail
    go_ret
    exact ⟨by rw [HQ.out] <;> rfl, B0.out⟩
  have d1 : decide ((1 : Int) ≤ (a : Int)) = true := by simp; omega
  by_cases h2 : a ≤ b
  case neg =>
    have d2 : decide ((a : Int) ≤ (b : Int)) = false := by simp; omega
    have HQ := Lib.hid (show mayP ⟨a, b, s⟩ = false by rw [hm, decide_eq_false h2]; simp)
    clear hm h1
    go_enter Tryd.func23, Tryd.ntmps23
    go_wp2_with fail
    go_ret
    exact ⟨by rw [HQ.out] <;> rfl, B0.out⟩
  have d2 : decide ((a : Int) ≤ (b : Int)) = true := by simp; omega
  by_cases h3 : b ≤ 100
  case neg =>
    have d3 : decide ((b : Int) ≤ 100) = false := by simp; omega
    have HQ := Lib.hid (show mayP ⟨a, b, s⟩ = false by rw [hm, decide_eq_false h3]; simp)
    clear hm h1 h3
    go_enter Tryd.func23, Tryd.ntmps23
    go_wp2_with fail
    go_ret
    exact ⟨by rw [HQ.out] <;> rfl, B0.out⟩
  have d3 : decide ((b : Int) ≤ 100) = true := by simp; omega
  by_cases h4 : 0 ≤ s
  case neg =>
    have d4 : decide ((0 : Int) ≤ s) = false := by simpa using h4
    have HQ := Lib.hid (show mayP ⟨a, b, s⟩ = false by rw [hm, decide_eq_false h4]; simp)
    clear hm h1 h3 h4
    go_enter Tryd.func23, Tryd.ntmps23
    go_wp2_with fail
    go_ret
    exact ⟨by rw [HQ.out] <;> rfl, B0.out⟩
  have d4 : decide ((0 : Int) ≤ s) = true := by simpa using h4
  have HQ := Lib.hid (show mayP ⟨a, b, s⟩ = decide (s ≤ 10) by rw [hm, decide_eq_true h1, decide_eq_true h2, decide_eq_true h3, decide_eq_true h4]; rfl)
  clear hm h1 h3 h4
  go_enter Tryd.func23, Tryd.ntmps23
  go_wp2_with fail
  go_ret
  exact ⟨by rw [HQ.out] <;> rfl, B0.out⟩
end Go.Proofs.YtejphpcngbjgjaaDoor
namespace Go.Proofs.YtejphpcngbjgjaaDoor
open Go.RowKit
set_option linter.unusedVariables false

theorem checkS_head {x : Ct} {s : List UInt8} (h : checkM x ≠ 0) : checkS x s = checkM x := by unfold checkS; rw [if_pos h]
theorem checkS_len {x : Ct} {s : List UInt8} (h : checkM x = 0) (hl : s.length ≠ manyS x) : checkS x s = 8 := by unfold checkS; rw [if_neg (by omega), if_pos hl]
theorem checkS_dark {x : Ct} {s : List UInt8} (h : checkM x = 0) (hl : s.length = manyS x) : checkS x s = if darkS s then 0 else 8 := by unfold checkS; rw [if_neg (by omega), if_neg (by omega)]

set_option maxRecDepth 100000 in
set_option maxHeartbeats 2000000 in
theorem checkSh_any (x : Ct) (A : Option Addr) (c : Nat) (s : List UInt8) (As : Option Addr) (cs : Nat) (w : World) (hc : CtOk w A c x) (hs : Rf bv w w.heap.size As cs s) (hsl : s.length ≤ 1000000) (hT : Tab w) :
    Calls Tryd.prog 10 #[cv A c x, shv As cs s] w fun e w' => e = .returned (.int .i64 (checkS x s)) ∧ Below w.heap.size w w' := by
  obtain ⟨wA, hwA⟩ : ∃ wA, wA = (w.alloc (.cells (cvs A c x) 24)).alloc (.cells #[.slice As s.length cs] 27) := ⟨_, rfl⟩
  have B0 := Lib.hid (show Below w.heap.size w wA from by rw [hwA]; exact (below_new w _).alloc (by simp) _)
  have HS0 := Lib.hid (show Blk wA (w.heap.size + 1) 27 #[.slice As s.length cs] from by
    have h := Blk.new (w.alloc (.cells (cvs A c x) 24)) 27 #[.slice As s.length cs]
    rw [World.size_alloc] at h
    rw [hwA]; exact h)
  have HK := Lib.hid (boxes_any x A c wA (hc.below B0.out) (hT.below (Nat.le_refl _) B0.out))
  have HD := Lib.hid (fun wx (hb : Below w.heap.size w wx) => containsDark_any s As cs wx ((hs.below hb).more hb.size) hsl)
  clear hc hT hs
  unfold cv at HK
  unfold cvs at HK hwA
  unfold cv cvs shv
  by_cases h0 : checkM x = 0
  case neg =>
    have HQ := Lib.hid (checkS_head (s := s) h0)
    have HE := Lib.hid (show boxesS x = (0, checkM x) by rw [boxesS_lay, if_neg h0])
    rcases checkM_cases x with h4 | h4 | h4
    · exact absurd h4 h0
    all_goals
      rw [h4] at HE HQ
      clear h0 h4
      go_enter Tryd.func10, Tryd.ntmps10
      go_wp2_with fail
      rw [← hwA]
      refine HK.out.mono ?_
      rintro e w1 ⟨rfl, hb⟩
      rw [HE.out]
      have B1 := Lib.hid (B0.out.trans (hb.mono B0.out.size))
      clear hb hwA
      go_wp2_with fail
      go_ret
      exact ⟨by rw [HQ.out] <;> rfl, B1.out⟩
  have HE := Lib.hid (show boxesS x = (((manyS x : Nat) : Int), 0) by unfold boxesS; rw [if_neg (by omega)])
  have HQL := Lib.hid (fun h => checkS_len (s := s) h0 h)
  have HQD := Lib.hid (fun h => checkS_dark (s := s) h0 h)
  obtain ⟨M, hM⟩ : ∃ M, M = manyS x := ⟨_, rfl⟩
  rw [← hM] at HE HQL HQD
  clear h0 hM
  by_cases hl : s.length = M
  case neg =>
    have HQ := Lib.hid (HQL.out hl)
    have e1 : ((s.length : Int) == (M : Int)) = false := by rw [beq_eq_false_iff_ne]; omega
    have d1 : ¬ (s.length : Int) = (M : Int) := by omega
    clear hl HQL HQD
    go_enter Tryd.func10, Tryd.ntmps10
    go_wp2_with fail
    rw [← hwA]
    refine HK.out.mono ?_
    rintro e w1 ⟨rfl, hb⟩
    rw [HE.out]
    have B1 := Lib.hid (B0.out.trans (hb.mono B0.out.size))
    have c1 : w1.cell? ⟨w.heap.size + 1, 0, none⟩ = some (.slice As s.length cs) := (HS0.out.below hb HS0.out.lt).cell 0
    clear hb hwA
    go_wp2_with fail
    go_ret
    exact ⟨by rw [HQ.out] <;> rfl, B1.out⟩
  have HQ := Lib.hid (HQD.out hl)
  subst hl
  clear HQL HQD
  cases hd : darkS s with
  | true =>
    rw [hd] at HQ HD
    have HQ := Lib.hid (show checkS x s = 0 from HQ.out)
    clear hd
    go_enter Tryd.func10, Tryd.ntmps10
    go_wp2_with fail
    rw [← hwA]
    refine HK.out.mono ?_
    rintro e w1 ⟨rfl, hb⟩
    rw [HE.out]
    have B1 := Lib.hid (B0.out.trans (hb.mono B0.out.size))
    have c1 : w1.cell? ⟨w.heap.size + 1, 0, none⟩ = some (.slice As s.length cs) := (HS0.out.below hb HS0.out.lt).cell 0
    clear hb hwA
    go_wp2_with fail
    refine (HD.out _ B1.out).mono ?_
    rintro e w2 ⟨rfl, hw⟩
    obtain rfl := hw.symm
    go_wp2_with fail
    go_ret
    exact ⟨by rw [HQ.out] <;> rfl, B1.out⟩
  | false =>
    rw [hd] at HQ HD
    have HQ := Lib.hid (show checkS x s = 8 from HQ.out)
    clear hd
    go_enter Tryd.func10, Tryd.ntmps10
    go_wp2_with fail
    rw [← hwA]
    refine HK.out.mono ?_
    rintro e w1 ⟨rfl, hb⟩
    rw [HE.out]
    have B1 := Lib.hid (B0.out.trans (hb.mono B0.out.size))
    have c1 : w1.cell? ⟨w.heap.size + 1, 0, none⟩ = some (.slice As s.length cs) := (HS0.out.below hb HS0.out.lt).cell 0
    clear hb hwA
    go_wp2_with fail
    refine (HD.out _ B1.out).mono ?_
    rintro e w2 ⟨rfl, hw⟩
    obtain rfl := hw.symm
    go_wp2_with fail
    go_ret
    exact ⟨by rw [HQ.out] <;> rfl, B1.out⟩

/-! ### States of boxes, pure: 0 empty, 1 doubtful, 2 marked -/
def stOf (p : Po) (b : UInt8) : Int := if p.high ≤ b.toNat then 2 else if p.low ≤ b.toNat then 1 else 0
def stS (p : Po) (s : List UInt8) : List Int := s.map (stOf p)
def stK (p : Po) (s : List UInt8) (k : Nat) : List Int := (s.take k).map (stOf p) ++ List.replicate (s.length - k) 0
theorem stK_len (p : Po) (s : List UInt8) {k : Nat} (h : k ≤ s.length) : (stK p s k).length = s.length := by unfold stK; simp; omega
theorem stK_zero (p : Po) (s : List UInt8) : stK p s 0 = List.replicate s.length 0 := by simp [stK]
theorem stK_end (p : Po) (s : List UInt8) : stK p s s.length = stS p s := by simp [stK, stS]
theorem stK_step (p : Po) (s : List UInt8) {k : Nat} (h : k < s.length) : (stK p s k).set k (stOf p s[k]) = stK p s (k + 1) := by
  unfold stK
  have h1 : ((s.take k).map (stOf p)).length = k := by simp; omega
  rw [List.set_append_right (h := by omega), h1, Nat.sub_self, List.take_succ_eq_append_getElem h, List.map_append, List.append_assoc]
  congr 1
  rw [show s.length - k = (s.length - (k + 1)) + 1 by omega, List.replicate_succ]
  rfl
theorem stK_same (p : Po) (s : List UInt8) {k : Nat} (h : k < s.length) (hz : stOf p s[k] = 0) : stK p s k = stK p s (k + 1) := by
  rw [← stK_step p s h, hz]
  have e : (stK p s k)[k]? = some 0 := by
    unfold stK
    have h1 : ((s.take k).map (stOf p)).length = k := by simp; omega
    rw [List.getElem?_append_right (by omega), h1, Nat.sub_self, List.getElem?_replicate, if_pos (by omega)]
  apply List.ext_getElem?
  intro j
  rw [List.getElem?_set]
  by_cases hj : k = j
  · subst hj
    rw [if_pos rfl, if_pos (by rw [stK_len p s (by omega)]; exact h)]
    exact e
  · rw [if_neg hj]

/-- One decision: the box's new state. -/
def apD (L : List Int) (d : De) : List Int := L.set d.box.toNat (if d.marked then 2 else 0)
def okD (L : List Int) (d : De) : Prop := 0 ≤ d.box ∧ d.box < L.length ∧ L.getD d.box.toNat 0 = 1
instance (L : List Int) (d : De) : Decidable (okD L d) := inferInstanceAs (Decidable (_ ∧ _ ∧ _))
def decC : List Int → List De → Option (List Int)
  | L, [] => some L
  | L, d :: l => if okD L d then decC (apD L d) l else none
theorem apD_len (L : List Int) (d : De) : (apD L d).length = L.length := by simp [apD]
theorem decC_len : ∀ {l : List De} {L M : List Int}, decC L l = some M → M.length = L.length
  | [], L, M, h => by rw [← Option.some.inj h]
  | d :: l, L, M, h => by
    rw [decC] at h
    split at h
    · rw [decC_len h, apD_len]
    · cases h
theorem decC_no {L : List Int} {l : List De} {k : Nat} (hk : k < l.length) (h : ¬ okD L l[k]) : decC L (l.drop k) = none := by
  rw [List.drop_eq_getElem_cons hk, decC, if_neg h]
theorem decC_yes {L : List Int} {l : List De} {k : Nat} (hk : k < l.length) (h : okD L l[k]) : decC L (l.drop k) = decC (apD L l[k]) (l.drop (k + 1)) := by
  rw [List.drop_eq_getElem_cons hk, decC, if_pos h]

/-- The states behind decisions. -/
def stD (p : Po) (m : List De) (i : Nat) (b : UInt8) : Int :=
  if doubtP p b then (match decidedS m i with | some true => 2 | some false => 0 | none => 1) else if p.high ≤ b.toNat then 2 else 0
def finS (p : Po) (s : List UInt8) (m : List De) : List Int := (List.range s.length).map fun i => stD p m i (s.getD i 0)
theorem finS_len (p : Po) (s : List UInt8) (m : List De) : (finS p s m).length = s.length := by simp [finS]
theorem finS_get (p : Po) (s : List UInt8) (m : List De) {i : Nat} (h : i < s.length) : (finS p s m).getD i 0 = stD p m i (s.getD i 0) := by
  have h2 : i < (finS p s m).length := by rw [finS_len]; exact h
  rw [List.getD_eq_getElem?_getD, List.getElem?_eq_getElem h2]
  simp [finS]
theorem stD_nil (p : Po) (i : Nat) (b : UInt8) : stD p [] i b = stOf p b := by
  unfold stD stOf decidedS
  cases hd : doubtP p b with
  | true =>
    have := (doubtP_iff p b).1 hd
    rw [if_pos rfl, if_neg (by omega), if_pos (by omega)]
  | false =>
    have hn : ¬ (p.low ≤ b.toNat ∧ b.toNat < p.high) := fun h => by rw [(doubtP_iff p b).2 h] at hd; cases hd
    rw [if_neg (by simp)]
    by_cases h1 : p.high ≤ b.toNat
    · rw [if_pos h1, if_pos h1]
    · rw [if_neg h1, if_neg h1, if_neg (by omega)]
theorem finS_nil (p : Po) (s : List UInt8) : finS p s [] = stS p s := by
  apply List.ext_getElem
  · rw [finS_len]; simp [stS]
  · intro i h1 h2
    have h3 : i < s.length := by rw [finS_len] at h1; exact h1
    simp only [finS, stS, List.getElem_map, List.getElem_range, stD_nil]
    simp [List.getD, h3]
theorem stD_one (p : Po) (m : List De) (i : Nat) (b : UInt8) : stD p m i b = 1 ↔ doubtP p b = true ∧ decidedS m i = none := by
  unfold stD
  cases hd : doubtP p b with
  | true =>
    rw [if_pos rfl]
    cases h : decidedS m (i : Int) with
    | none => simp
    | some v => cases v <;> simp
  | false =>
    rw [if_neg (by simp)]
    split <;> simp
theorem stD_two (p : Po) (m : List De) (i : Nat) (b : UInt8) : decide (stD p m i b = 2) = markAt p m i b := by
  unfold stD markAt
  cases hd : doubtP p b with
  | true =>
    rw [if_pos rfl, if_pos rfl]
    cases h : decidedS m (i : Int) with
    | none => simp
    | some v => cases v <;> simp
  | false =>
    simp only [Bool.false_eq_true, if_false]
    by_cases h1 : p.high ≤ b.toNat
    · rw [if_pos h1]; simp [h1]
    · rw [if_neg h1]; simp [h1]
theorem stD_open (p : Po) (m : List De) (i : Nat) (b : UInt8) : decide (stD p m i b = 1) = openAt p m i b := by
  rw [Bool.eq_iff_iff, decide_eq_true_iff, stD_one]
  unfold openAt
  simp
theorem okD_fin (p : Po) (s : List UInt8) (m : List De) (d : De) : okD (finS p s m) d ↔ namesD p s d = true ∧ ∀ e ∈ m, e.box ≠ d.box := by
  unfold okD
  rw [namesD_iff, finS_len]
  constructor
  · rintro ⟨h1, h2, h3⟩
    rw [finS_get p s m (by omega), stD_one, decidedS_none] at h3
    refine ⟨⟨h1, h2, h3.1⟩, fun e he => ?_⟩
    have := h3.2 e he
    omega
  · rintro ⟨⟨h1, h2, h3⟩, h4⟩
    refine ⟨h1, h2, ?_⟩
    rw [finS_get p s m (by omega), stD_one, decidedS_none]
    refine ⟨h3, fun e he => ?_⟩
    have := h4 e he
    omega
theorem apD_fin (p : Po) (s : List UInt8) (m : List De) (d : De) (h : okD (finS p s m) d) : apD (finS p s m) d = finS p s (m ++ [d]) := by
  have h' := (okD_fin p s m d).1 h
  have hn := (namesD_iff p s d).1 h'.1
  have hno : decidedS m d.box = none := decidedS_none.2 h'.2
  apply List.ext_getElem
  · rw [apD_len, finS_len, finS_len]
  · intro i h1 h2
    have h3 : i < s.length := by rw [finS_len] at h2; exact h2
    simp only [apD, List.getElem_set, finS, List.getElem_map, List.getElem_range]
    by_cases e : d.box.toNat = i
    · rw [if_pos e]
      have ei : (i : Int) = d.box := by omega
      rw [e] at hn
      unfold stD
      rw [if_pos hn.2.2, decidedS_snoc, ei, hno, if_pos rfl]
      cases d.marked <;> rfl
    · rw [if_neg e]
      unfold stD
      rw [decidedS_snoc, if_neg (show ¬ d.box = (i : Int) by have := hn.1; omega)]
      cases decidedS m (i : Int) <;> rfl
theorem nodupD_snoc {l : List De} {d : De} : ((l ++ [d]).map (·.box)).Nodup ↔ (l.map (·.box)).Nodup ∧ ∀ e ∈ l, e.box ≠ d.box := by
  unfold List.Nodup
  rw [List.map_append, List.pairwise_append]
  simp
theorem decC_fin (p : Po) (s : List UInt8) : ∀ (l m : List De), decsS p s m = true → decC (finS p s m) l = if decsS p s (m ++ l) then some (finS p s (m ++ l)) else none
  | [], m, h => by rw [List.append_nil, decC, if_pos h]
  | d :: l, m, h => by
    have hm := (decsS_iff p s m).1 h
    by_cases hd : okD (finS p s m) d
    · have hs : decsS p s (m ++ [d]) = true := by
        rw [decsS_iff]
        have h2 := (okD_fin p s m d).1 hd
        refine ⟨fun e he => ?_, nodupD_snoc.2 ⟨hm.2, h2.2⟩⟩
        rcases List.mem_append.1 he with he | he
        · exact hm.1 e he
        · rw [List.mem_singleton.1 he]; exact h2.1
      rw [decC, if_pos hd, apD_fin p s m d hd, decC_fin p s l _ hs, List.append_assoc]
      rfl
    · have hs : decsS p s (m ++ d :: l) = false := by
        rw [Bool.eq_false_iff]
        intro e
        have e2 := (decsS_iff p s _).1 e
        refine hd ((okD_fin p s m d).2 ⟨e2.1 d (by simp), fun x hx => ?_⟩)
        have h3 := e2.2
        rw [show m ++ d :: l = (m ++ [d]) ++ l by simp, List.map_append] at h3
        exact (nodupD_snoc.1 (List.Nodup.sublist (List.sublist_append_left _ _) h3)).2 x hx
      rw [decC, if_neg hd, hs]
      rfl
theorem decC_is (p : Po) (s : List UInt8) (l : List De) : decC (stS p s) l = if decsS p s l then some (finS p s l) else none := by
  have := decC_fin p s l [] (by simp [decsS])
  rwa [finS_nil, List.nil_append] at this
end Go.Proofs.YtejphpcngbjgjaaDoor
namespace Go.Proofs.YtejphpcngbjgjaaDoor
open Go.RowKit
set_option linter.unusedVariables false

theorem stInfo : (Tryd.prog.info? 88).map (fun i => (i.zero, i.size, i.bytes)) = some (some (.int .i64 0), 1, 8) := by kernel_rfl
theorem stInfo_parts : ∃ i, Tryd.prog.info? 88 = some i ∧ i.zero = some (.int .i64 0) ∧ i.size = 1 ∧ i.bytes = 8 := by
  have h := stInfo
  cases hi : Tryd.prog.info? 88 with
  | none => rw [hi] at h; cases h
  | some i => rw [hi] at h; simp at h; exact ⟨i, rfl, h.1, h.2.1, h.2.2⟩
theorem hb_made_z (w : World) (t n : Nat) : Hb zv (w.alloc (.cells (madeCells (Value.int .i64 0).cells (n * 1)) t)) w.heap.size t (List.replicate n 0) := by
  unfold Hb
  have e : (List.map zv (List.replicate n (0 : Int))).toArray = madeCells (Value.int .i64 0).cells (n * 1) := by
    apply Array.toList_inj.1
    rw [show (Value.int .i64 0).cells = #[Value.int .i64 0] from rfl]
    rw [toList_madeCells_one, List.map_replicate, Nat.mul_one]
    rfl
  rw [e]
  exact Blk.new w _ _
/-- make of a slice of whole numbers of any type. -/
theorem wpList_make_z (w : World) {ops : Array Oper} {rest : List Oper} {o : Oper} {a : Act} {Q : Exit → Act → World → Prop} (t e : TypeId) (i : TypeInfo) (hu : Tryd.prog.underlying t = some (.slice e)) (hi : Tryd.prog.info? e = some i) (hz0 : i.zero = some (.int .i64 0)) (hz1 : i.size = 1) (hz2 : i.bytes = 8)
    (hg : o.guard = none) (l c : Operand) (hop : o.op = Op.makeSlice t l c) (n : Nat) (hl : a.eval l = .int .i64 n) (hc : a.eval c = .int .i64 n) (hn : n ≤ 1000000)
    (hK : ∀ w', Hb zv w' w.heap.size e (List.replicate n 0) → Below w.heap.size w w' → w'.heap.size = w.heap.size + 1 → wpList Tryd.prog ops Q rest (a.put o.dst (.slice (some ⟨w.heap.size, 0, none⟩) n n)) w') :
    wpList Tryd.prog ops Q (o :: rest) a w := by
  refine wpList_plain hg fun K hK' => ?_
  have hrun := run_make (P := Tryd.prog) w t e i _ hu hi hz0 .i64 .i64 (n : Int) (n : Int) (by omega) (by omega) (by rw [hz2]; omega) (by omega)
  simp only [Int.toNat_natCast] at hrun
  rw [hz1] at hrun
  unfold Oper.wp
  simp [execOp, hop, hl, hc, hrun, Result.andThen]
  refine hK' _ _ (hK _ ?_ (below_new _ _) (by simp))
  have := hb_made_z w e n
  rwa [Nat.mul_one] at this

set_option maxRecDepth 100000 in
set_option maxHeartbeats 2000000 in
theorem statesOf_any (p : Po) (s : List UInt8) (As : Option Addr) (cs : Nat) (w : World) (hs : Rf bv w w.heap.size As cs s) (hsl : s.length ≤ 1000000) :
    Calls Tryd.prog 24 #[pov p, shv As cs s] w fun e w' => ∃ g, e = .returned (.slice (some ⟨g, 0, none⟩) s.length s.length) ∧ w.heap.size ≤ g ∧ Hb zv w' g 88 (stS p s) ∧ Below w.heap.size w w' := by
  obtain ⟨i0, hi0, hz0, hz1, hz2⟩ := stInfo_parts
  obtain ⟨wA, hwA⟩ : ∃ wA, wA = (w.alloc (.cells #[.int .u8 (p.low : Nat), .int .u8 (p.high : Nat), .int .i64 p.skips] 38)).alloc (.cells #[.slice As s.length cs] 27) := ⟨_, rfl⟩
  have B0 := Lib.hid (show Below w.heap.size w wA from by rw [hwA]; exact (below_new w _).alloc (by simp) _)
  have HP0 := Lib.hid (show Blk wA w.heap.size 38 #[.int .u8 (p.low : Nat), .int .u8 (p.high : Nat), .int .i64 p.skips] from by rw [hwA]; exact (Blk.new w _ _).alloc _)
  have HS0 := Lib.hid (show Blk wA (w.heap.size + 1) 27 #[.slice As s.length cs] from by
    have h := Blk.new (w.alloc (.cells #[.int .u8 (p.low : Nat), .int .u8 (p.high : Nat), .int .i64 p.skips] 38)) 27 #[.slice As s.length cs]
    rw [World.size_alloc] at h
    rw [hwA]; exact h)
  have HZ := Lib.hid (show wA.heap.size = w.heap.size + 1 + 1 by rw [hwA]; simp)
  have HSR := Lib.hid hs
  have HI := Lib.hid hi0
  have HZ0 := Lib.hid hz0
  have HZ1 := Lib.hid hz1
  have HZ2 := Lib.hid hz2
  have s0 : wA.cell? ⟨w.heap.size + 1, 0, none⟩ = some (.slice As s.length cs) := HS0.out.cell 0
  clear hs hi0 hz0 hz1 hz2
  unfold pov shv
  go_enter Tryd.func24, Tryd.ntmps24
  go_wp2_with (at_make; rw [← hwA]; refine wpList_make_z _ 65 88 i0 Tryd.underlying65 HI.out HZ0.out HZ1.out HZ2.out rfl _ _ rfl s.length rfl rfl hsl ?_; intro w3 hu3 hb3 hs3; have s3 : w3.cell? ⟨w.heap.size + 1, 0, none⟩ = some (.slice As s.length cs) := (hb3.cell (by have := HZ.out; simp; omega)).trans s0)
  have HP3 := Lib.hid (HP0.out.below hb3 HP0.out.lt)
  have HS3 := Lib.hid (HS0.out.below hb3 HS0.out.lt)
  have HB3 := Lib.hid (B0.out.trans (hb3.mono B0.out.size))
  have HU3 := Lib.hid (show Hb zv w3 (w.heap.size + 1 + 1) 88 (stK p s 0) by rw [stK_zero, ← HZ.out]; exact hu3)
  generalize hg : w.heap.size + 1 + 1 = g at *
  have HG := Lib.hid (show w.heap.size + 1 < g by omega)
  clear hwA hu3 hb3 hs3 s3 s0 hg
  go_loopw [15] (fun i wr => ∃ k : Nat, k ≤ s.length ∧ i = .int .i64 k ∧ Hid (Hb zv wr g 88 (stK p s k)) ∧ Hid (Blk wr w.heap.size 38 #[.int .u8 (p.low : Nat), .int .u8 (p.high : Nat), .int .i64 p.skips]) ∧ Hid (Below w.heap.size w wr)) (fun i _ => s.length - (intOf i).toNat)
  case atStart => exact ⟨0, Nat.zero_le _, rfl, HU3, HP3, HB3⟩
  case round =>
    obtain ⟨k, hk, rfl, hu, hp, hbw⟩ := hrel
    by_cases hlt : k < s.length
    · obtain ⟨b, o, rfl, hbb, hcc⟩ := (HSR.out.below hbw.out).at_ hlt
      have hcx := hcc k hlt
      have hst := stK_step p s hlt
      have hsm := stK_same p s hlt
      obtain ⟨z, hz⟩ : ∃ z, z = s[k] := ⟨_, rfl⟩
      rw [← hz] at hcx hst hsm
      unfold bv at hcx
      have p0 : wr.cell? ⟨w.heap.size, 0, none⟩ = some (.int .u8 (p.low : Nat)) := hp.out.cell 0
      have p1 : wr.cell? ⟨w.heap.size, 1, none⟩ = some (.int .u8 (p.high : Nat)) := hp.out.cell 1
      have hfr := hu.out.frozen k
      have hcg := hu.out.cell (i := k) (by rw [stK_len _ _ hk]; exact hlt)
      unfold zv at hcg
      have HST := Lib.hid hst
      have HSM := Lib.hid hsm
      obtain ⟨n, hn⟩ : ∃ n, n = z.toNat := ⟨_, rfl⟩
      have HV := Lib.hid (show stOf p z = if p.high ≤ n then 2 else if p.low ≤ n then 1 else 0 by rw [hn]; rfl)
      rw [← hn] at hcx
      clear hcc hz hst hsm hn
      by_cases h1 : p.high ≤ n
      · have d1 : decide ((p.high : Int) ≤ (n : Int)) = true := by simp; omega
        have HV := Lib.hid (show stOf p z = 2 by rw [HV.out, if_pos h1])
        go_wp2_with fail
        go_roundw
        case rel =>
          refine ⟨k + 1, by omega, by go_num, ?_, hp.out.far (by have := HG.out; simp; omega) _, hbw.out.setCell (by have := HG.out; simp; omega) _⟩
          have h := hu.out.set_ k (stOf p z) _ rfl
          rw [HST.out, HV.out] at h
          exact h
        case measure => simp [intOf]; omega
      · have d1 : decide ((p.high : Int) ≤ (n : Int)) = false := by simp; omega
        by_cases h2 : p.low ≤ n
        · have d2 : decide ((p.low : Int) ≤ (n : Int)) = true := by simp; omega
          have HV := Lib.hid (show stOf p z = 1 by rw [HV.out, if_neg h1, if_pos h2])
          go_wp2_with fail
          go_roundw
          case rel =>
            refine ⟨k + 1, by omega, by go_num, ?_, hp.out.far (by have := HG.out; simp; omega) _, hbw.out.setCell (by have := HG.out; simp; omega) _⟩
            have h := hu.out.set_ k (stOf p z) _ rfl
            rw [HST.out, HV.out] at h
            exact h
          case measure => simp [intOf]; omega
        · have d2 : decide ((p.low : Int) ≤ (n : Int)) = false := by simp; omega
          have HU := Lib.hid (show Hb zv wr g 88 (stK p s (k + 1)) by rw [← HSM.out (by rw [HV.out, if_neg h1, if_neg h2])]; exact hu.out)
          go_wp2_with fail
          go_roundw
          case rel => exact ⟨k + 1, by omega, by go_num, HU, hp, hbw⟩
          case measure => simp [intOf]; omega
    · obtain rfl : k = s.length := by omega
      have HU := Lib.hid (show Hb zv wr g 88 (stS p s) by rw [← stK_end]; exact hu.out)
      go_wp2_with fail
      go_ret
      exact ⟨g, rfl, by have := HG.out; omega, HU.out, hbw.out⟩

/-- A decision in a block of the call's own. -/
theorem size_de : (Tryd.prog.info? 52).map (·.size) = some 2 := by kernel_rfl
theorem wpList_store_de {w : World} {ops : Array Oper} {rest : List Oper} {o : Oper} {a : Act} {Q : Exit → Act → World → Prop} (hgd : o.guard = none) (y z : Operand) (ho : o.op = .store 52 y z)
    (g : Nat) (hx : a.eval y = .pointer (some ⟨g, 0, none⟩)) {old : Array Value} (hB : Blk w g 52 old) (hold : old.size = 2) (b : Int) (m : Bool) (hy : a.eval z = .agg #[.int .i64 b, .bool m])
    (h : ∀ w', Blk w' g 52 #[.int .i64 b, .bool m] → w.grownBy w' (some g) → wpList Tryd.prog ops Q rest (a.put o.dst undef) w') : wpList Tryd.prog ops Q (o :: rest) a w :=
  wpList_store_row hgd _ y z ho g #[.int .i64 b, .bool m] hx hy 52 old hB size_de hold (by simp [Value.oneCell']) (h _ (setRow_heap w g _ _ _ _ hB) ⟨rfl, rfl, rfl, by simp, fun k _ hk => setRow_other w g k _ (fun e => hk (by rw [e]))⟩)

set_option maxRecDepth 100000 in
set_option maxHeartbeats 4000000 in
theorem decide_any (L : List Int) (l : List De) (g n : Nat) (Al : Option Addr) (cl : Nat) (w : World) (hu : Hb zv w g 88 L) (hn : L.length = n) (hnl : n ≤ 1000000) (hl : Rde w g Al cl l) (hll : l.length ≤ 1000000) :
    Calls Tryd.prog 25 #[.slice (some ⟨g, 0, none⟩) n n, .slice Al l.length cl] w fun e w' => ∃ b, e = .returned (.bool b) ∧ Below g w w' ∧ ((decC L l = none ∧ b = false) ∨ ∃ M, decC L l = some M ∧ b = true ∧ Hb zv w' g 88 M) := by
  have HU0 := Lib.hid hu
  have HN0 := Lib.hid hn
  have HL := Lib.hid hl
  clear hu hn hl
  go_enter Tryd.func25, Tryd.ntmps25
  go_wp2_with fail
  go_loopw [9] (fun i wr => ∃ (k : Nat) (R : List Int), k ≤ l.length ∧ i = .int .i64 k ∧ Hid (R.length = n) ∧ Hid (decC L l = decC R (l.drop k)) ∧ Hid (Hb zv wr g 88 R) ∧ Hid (Below g w wr)) (fun i _ => l.length - (intOf i).toNat)
  case atStart => exact ⟨0, L, Nat.zero_le _, rfl, HN0.out, rfl, HU0, Below.refl _ _⟩
  case round =>
    obtain ⟨k, R, hk, rfl, hR, hq, hu, hbw⟩ := hrel
    have hglt := hu.out.lt
    by_cases hlt : k < l.length
    · obtain ⟨b, o, rfl, hbb, hcc⟩ := (HL.out.below hbw.out).de hlt
      obtain ⟨f0, f1⟩ := hcc k hlt
      have HNO := Lib.hid (decC_no (L := R) hlt)
      have HYE := Lib.hid (decC_yes (L := R) hlt)
      have HOK := Lib.hid (show okD R l[k] = (0 ≤ l[k].box ∧ l[k].box < R.length ∧ R.getD l[k].box.toNat 0 = 1) from rfl)
      have HAP := Lib.hid (show apD R l[k] = R.set l[k].box.toNat (if l[k].marked then 2 else 0) from rfl)
      obtain ⟨d, hd⟩ : ∃ d, d = l[k] := ⟨_, rfl⟩
      rw [← hd] at f0 f1 HNO HYE HOK HAP
      obtain ⟨x, m⟩ := d
      clear hcc hd
      have HD0 := Lib.hid (Blk.new wr 52 #[.int .i64 0, .bool false])
      have HB0 := Lib.hid (show Below g w (wr.alloc (.cells #[.int .i64 0, .bool false] 52)) from hbw.out.alloc (by omega) _)
      have HU1 := Lib.hid (hu.out.alloc (.cells #[.int .i64 0, .bool false] 52))
      simp only at HOK HAP f0 f1
      by_cases hx0 : x < 0
      · have d1 : decide (x < 0) = true := by simpa using hx0
        have HA := Lib.hid (show decC L l = none by rw [hq.out]; exact HNO.out (by rw [HOK.out]; omega))
        clear hx0
        go_wp2_with ((with_reducible refine wpList_store_de rfl (.tmp 6) (.tmp 12) rfl wr.heap.size rfl HD0.out rfl x m rfl ?_); intro wD hbD hgD; have k0 := hbD.cell 0; have k1 := hbD.cell 1; simp at k0 k1)
        go_ret
        exact ⟨_, rfl, HB0.out.grown hgD (by have := HB0.out.size; simp; omega) (fun j e => by cases e; omega), .inl ⟨HA.out, rfl⟩⟩
      have d1 : decide (x < 0) = false := by simpa using hx0
      obtain ⟨j, rfl⟩ := Int.eq_ofNat_of_zero_le (show 0 ≤ x by omega)
      clear hx0
      by_cases hjn : n ≤ j
      · have d2 : decide ((n : Int) ≤ (j : Int)) = true := by simp; omega
        have HA := Lib.hid (show decC L l = none by rw [hq.out]; exact HNO.out (by rw [HOK.out, hR.out]; omega))
        go_wp2_with ((with_reducible refine wpList_store_de rfl (.tmp 6) (.tmp 12) rfl wr.heap.size rfl HD0.out rfl (j : Int) m rfl ?_); intro wD hbD hgD; have k0 := hbD.cell 0; have k1 := hbD.cell 1; simp at k0 k1)
        go_ret
        exact ⟨_, rfl, HB0.out.grown hgD (by have := HB0.out.size; simp; omega) (fun j e => by cases e; omega), .inl ⟨HA.out, rfl⟩⟩
      have d2 : decide ((n : Int) ≤ (j : Int)) = false := by simp; omega
      have hjl : j < R.length := by rw [hR.out]; omega
      have hgd : R.getD j 0 = R[j] := by simp [List.getD, hjl]
      obtain ⟨v, hv⟩ : ∃ v, v = R[j] := ⟨_, rfl⟩
      rw [← hv] at hgd
      have HVC := Lib.hid (show zv R[j] = .int .i64 v by rw [← hv]; rfl)
      have HLT := Lib.hid hjl
      by_cases hv1 : v = 1
      · subst hv1
        have HOKD := Lib.hid (show okD R ⟨(j : Int), m⟩ by rw [HOK.out]; exact ⟨by omega, by omega, by rw [Int.toNat_natCast]; exact hgd⟩)
        have HA := Lib.hid (show decC L l = decC (R.set j (if m then 2 else 0)) (l.drop (k + 1)) by
          rw [hq.out, HYE.out HOKD.out, HAP.out, Int.toNat_natCast])
        clear hgd hv
        cases m with
        | false =>
          go_wp2_with (first
            | ((with_reducible refine wpList_store_de rfl (.tmp 6) (.tmp 12) rfl wr.heap.size rfl HD0.out rfl (j : Int) false rfl ?_); intro wD hbD hgD; have k0 : wD.cell? ⟨wr.heap.size, 0, none⟩ = some (.int .i64 (j : Int)) := hbD.cell 0; have k1 : wD.cell? ⟨wr.heap.size, 1, none⟩ = some (.bool false) := hbD.cell 1; have hUD := HU1.out.grown hgD (by simp; omega); have hcg := hUD.cell HLT.out; rw [HVC.out] at hcg; have hfg := hUD.frozen j; have hlD := hgD.size; have HUD := Lib.hid hUD; clear hUD))
          go_roundw
          case rel =>
            refine ⟨k + 1, R.set j 0, by omega, by go_num, by rw [List.length_set]; exact hR.out, HA.out, ?_, ?_⟩
            · exact HUD.out.set_ j 0 _ rfl
            · exact ((HB0.out.grown hgD (by have := HB0.out.size; simp; omega) (fun j e => by cases e; omega)).setCell (p := ⟨g, j, none⟩) (Nat.le_refl _) _)
          case measure => simp [intOf]; omega
        | true =>
          go_wp2_with (first
            | ((with_reducible refine wpList_store_de rfl (.tmp 6) (.tmp 12) rfl wr.heap.size rfl HD0.out rfl (j : Int) true rfl ?_); intro wD hbD hgD; have k0 : wD.cell? ⟨wr.heap.size, 0, none⟩ = some (.int .i64 (j : Int)) := hbD.cell 0; have k1 : wD.cell? ⟨wr.heap.size, 1, none⟩ = some (.bool true) := hbD.cell 1; have hUD := HU1.out.grown hgD (by simp; omega); have hcg := hUD.cell HLT.out; rw [HVC.out] at hcg; have hfg := hUD.frozen j; have hlD := hgD.size; have HUD := Lib.hid hUD; clear hUD))
          go_roundw
          case rel =>
            refine ⟨k + 1, R.set j 2, by omega, by go_num, by rw [List.length_set]; exact hR.out, HA.out, ?_, ?_⟩
            · have h := (HUD.out.set_ j 0 _ rfl).set_ j 2 _ rfl
              rw [List.set_set] at h
              exact h
            · exact ((HB0.out.grown hgD (by have := HB0.out.size; simp; omega) (fun j e => by cases e; omega)).setCell (p := ⟨g, j, none⟩) (Nat.le_refl _) _).setCell (p := ⟨g, j, none⟩) (Nat.le_refl _) _
          case measure => simp [intOf]; omega
      · have e1 : (v == 1) = false := by rw [beq_eq_false_iff_ne]; exact hv1
        have HA := Lib.hid (show decC L l = none by rw [hq.out]; exact HNO.out (by rw [HOK.out, Int.toNat_natCast, hgd]; exact fun h => hv1 h.2.2))
        clear hgd hv
        go_wp2_with ((with_reducible refine wpList_store_de rfl (.tmp 6) (.tmp 12) rfl wr.heap.size rfl HD0.out rfl (j : Int) m rfl ?_); intro wD hbD hgD; have k0 : wD.cell? ⟨wr.heap.size, 0, none⟩ = some (.int .i64 (j : Int)) := hbD.cell 0; have hUD := HU1.out.grown hgD (by simp; omega); have hcg := hUD.cell HLT.out; rw [HVC.out] at hcg; clear hUD)
        go_ret
        exact ⟨_, rfl, HB0.out.grown hgD (by have := HB0.out.size; simp; omega) (fun j e => by cases e; omega), .inl ⟨HA.out, rfl⟩⟩
    · obtain rfl : k = l.length := by omega
      have HA := Lib.hid (show decC L l = some R by rw [hq.out, List.drop_length]; rfl)
      go_wp2_with fail
      go_ret
      exact ⟨_, rfl, hbw.out, .inr ⟨R, HA.out, rfl, hu.out⟩⟩
end Go.Proofs.YtejphpcngbjgjaaDoor
