/- contest's isValid. -/
import Derived.Test.YtdjifopdlkppoaaDoorCdB
import Derived.Deep.RegionLaw
import Derived.Deep.QuietTactic
import Derived.BigQuiet
import Derived.WalkArith
namespace Go.Proofs.YtdjifopdlkppoaaDoor
open Go.RowKit
set_option linter.unusedVariables false

theorem valid_most {x : Ct} (h10 : x.cands.length ≤ 10) (hn : nameB x.name = true) (h1 : 1 ≤ x.cands.length) (ha : x.cands.all nameB = true) (hd : distinctB x.cands = true) (hr : ruleB x.rule = true) (hs : 1 ≤ x.seats) :
    mayB x = decide (x.seats ≤ mostSeatsM x.rule x.cands.length) := by
  unfold mayB
  rw [hn, ha, hd, hr, decide_eq_true h1, decide_eq_true h10, decide_eq_true hs]
  simp only [Bool.true_and]
  unfold seatsB mostSeatsM
  cases ho : oneB x.rule with
  | true => simp only [if_true]; rw [Bool.eq_iff_iff]; simp; omega
  | false =>
    cases hl : listsB x.rule with
    | true => simp
    | false => simp only [Bool.false_eq_true, if_false, Bool.false_or]; rw [Bool.eq_iff_iff]; simp; omega

/-- Behind the first k operations of a region that draws its order the rest only reads: one walk in the order of the text. -/
theorem wpAny_quiet_rest {P : Program} {L : List Oper} {Q : Exit → Act → World → Prop} {a : Act} {w : World} {listed : Array Bool} {fuel : Nat} (k : Nat) (hs : Region.noSelect L.toArray = true) (hf : fuel = (L.drop k).length)
    (hB : Region.lexFrom .any L.toArray (L.drop k).length k listed = true)
    (h : wpQuiet P L.toArray (fun w' => ∃ n, w' = w.drewN n) (fun a' => ∀ w', (∃ n, w' = w.drewN n) → Q .normal a' w') (L.drop k) a) : wpAny P .any L.toArray Q fuel listed a w := by
  subst hf
  refine wpAny_of_quiet (C := fun w' => ∃ n, w' = w.drewN n) (Q := fun a' => ∀ w', (∃ n, w' = w.drewN n) → Q .normal a' w') (fun _ w' hw' h => h w' hw') _ _ _ _ ⟨0, rfl⟩ ?_
  exact wpAnyQ_lex hs (L.drop k) k listed a (fun j => by simp [List.getElem?_drop]) hB h
theorem quiet_add7 {P : Program} {f : FuncId} {args : Array Value} {w : World} {n : Nat} {v : Value} (h : Calls P f args (w.drewN (1 + n)) fun e w' => e = .returned v ∧ w.drewN (1 + n) = w') : Calls P f args (w.drewN (1 + n)) fun e w'' => e = .returned v ∧ ∃ m, w'' = w.drewN (1 + m) :=
  h.mono fun _ _ ⟨he, hm⟩ => ⟨he, n, hm.symm⟩

theorem Rf.one_drew {n : List UInt8} (w : World) (e g : Nat) (hg : g = w.heap.size) : Rf sv (w.alloc (.cells #[sv n] e)) (w.alloc (.cells #[sv n] e)).heap.size (some ⟨g, 0, none⟩) 1 [n] := by
  subst hg
  exact (rf_one (f := sv) (w := w) n e).more (by simp)

set_option maxRecDepth 100000 in
set_option maxHeartbeats 4000000 in
theorem isValid_walk (n : List UInt8) (l : List (List UInt8)) (s : Int) (r : Nat) (A : Option Addr) (c : Nat) (w : World) (b1 b2 b3 b4 : Bool) (m : Int) (hrule : r ≤ 255) (hseats : -9223372036854775808 ≤ s ∧ s ≤ 9223372036854775807) (h10 : l.length ≤ 10)
    (C1 : ∀ q, Calls Tryd.prog 58 #[(.slice (some ⟨w.heap.size + 1, 0, none⟩) 1 1)] ((((w.alloc (.cells #[.string ⟨n.toArray⟩, .slice A l.length c, .int .i64 s, .int .u8 r] 26)).alloc (.cells #[.string ⟨n.toArray⟩] 9))).drewN q) fun e w' => e = .returned (.bool b1) ∧ (((w.alloc (.cells #[.string ⟨n.toArray⟩, .slice A l.length c, .int .i64 s, .int .u8 r] 26)).alloc (.cells #[.string ⟨n.toArray⟩] 9))).drewN q = w')
    (C2 : b1 = true → 0 < l.length → ∀ q, Calls Tryd.prog 58 #[.slice A l.length c] ((((w.alloc (.cells #[.string ⟨n.toArray⟩, .slice A l.length c, .int .i64 s, .int .u8 r] 26)).alloc (.cells #[.string ⟨n.toArray⟩] 9))).drewN q) fun e w' => e = .returned (.bool b2) ∧ (((w.alloc (.cells #[.string ⟨n.toArray⟩, .slice A l.length c, .int .i64 s, .int .u8 r] 26)).alloc (.cells #[.string ⟨n.toArray⟩] 9))).drewN q = w')
    (C3 : b1 = true → 0 < l.length → b2 = true → ∀ q, Calls Tryd.prog 59 #[.slice A l.length c] ((((w.alloc (.cells #[.string ⟨n.toArray⟩, .slice A l.length c, .int .i64 s, .int .u8 r] 26)).alloc (.cells #[.string ⟨n.toArray⟩] 9))).drewN q) fun e w' => e = .returned (.bool b3) ∧ (((w.alloc (.cells #[.string ⟨n.toArray⟩, .slice A l.length c, .int .i64 s, .int .u8 r] 26)).alloc (.cells #[.string ⟨n.toArray⟩] 9))).drewN q = w')
    (C4 : b1 = true → 0 < l.length → b2 = true → b3 = true → ∀ q, Calls Tryd.prog 50 #[.int .u8 r] ((((w.alloc (.cells #[.string ⟨n.toArray⟩, .slice A l.length c, .int .i64 s, .int .u8 r] 26)).alloc (.cells #[.string ⟨n.toArray⟩] 9))).drewN q) fun e w' => e = .returned (.bool b4) ∧ (((w.alloc (.cells #[.string ⟨n.toArray⟩, .slice A l.length c, .int .i64 s, .int .u8 r] 26)).alloc (.cells #[.string ⟨n.toArray⟩] 9))).drewN q = w')
    (C5 : b1 = true → 0 < l.length → b2 = true → b3 = true → b4 = true → ∀ q, Calls Tryd.prog 60 #[.int .u8 r, .int .i64 l.length] ((((w.alloc (.cells #[.string ⟨n.toArray⟩, .slice A l.length c, .int .i64 s, .int .u8 r] 26)).alloc (.cells #[.string ⟨n.toArray⟩] 9))).drewN q) fun e w' => e = .returned (.int .i64 m) ∧ (((w.alloc (.cells #[.string ⟨n.toArray⟩, .slice A l.length c, .int .i64 s, .int .u8 r] 26)).alloc (.cells #[.string ⟨n.toArray⟩] 9))).drewN q = w')
    : Calls Tryd.prog 43 #[.agg #[.string ⟨n.toArray⟩, .slice A l.length c, .int .i64 s, .int .u8 r]] w fun e w' => e = .returned (.bool (b1 && (decide (0 < l.length) && (b2 && (b3 && (b4 && (decide (1 ≤ s) && decide (s ≤ m)))))))) ∧ Below w.heap.size w w' := by
  have hbw : Below w.heap.size w (((w.alloc (.cells #[.string ⟨n.toArray⟩, .slice A l.length c, .int .i64 s, .int .u8 r] 26)).alloc (.cells #[.string ⟨n.toArray⟩] 9))) := ((below_new w _).trans ((below_new (w.alloc (.cells #[.string ⟨n.toArray⟩, .slice A l.length c, .int .i64 s, .int .u8 r] 26)) _).mono (by simp)))
  have HBW := Lib.hid (fun q => hbw.trans (below_drewN w.heap.size (((w.alloc (.cells #[.string ⟨n.toArray⟩, .slice A l.length c, .int .i64 s, .int .u8 r] 26)).alloc (.cells #[.string ⟨n.toArray⟩] 9))) q))
  clear hbw
  cases b1 with
  | false =>
    have D1 := Lib.hid C1
    clear C1 C2 C3 C4 C5
    go_enter Tryd.func43, Tryd.ntmps43
    go_wp2_with fail
    refine wp_region_any (by kernel_rfl) ?_
    change wpAny _ _ _ _ _ _ _ (World.drew _)
    refine wpAny_ready (rs := [0]) (by kernel_rfl) (by simp) (AllReady.cons rfl (fun K hK => ?_) AllReady.nil)
    go_simp
    refine hK _ _ ?_
    clear hK K
    refine wpAny_ready (rs := [1]) (by kernel_rfl) (by simp) (AllReady.cons rfl (fun K hK => ?_) AllReady.nil)
    go_simp
    refine hK _ _ ?_
    clear hK K
    refine wpAny_ready (rs := [2]) (by kernel_rfl) (by simp) (AllReady.cons rfl (fun K hK => ?_) AllReady.nil)
    go_simp
    refine hK _ _ ?_
    clear hK K
    refine wpAny_quiet_rest 3 (by kernel_rfl) (by kernel_rfl) (by kernel_rfl) ?_
    simp only [List.drop_succ_cons, List.drop_zero]
    repeat (go_big_quiet_step ((go_at_call 58; (with_reducible exact quiet_add7 (D1.out _)))))
    refine wpQuiet_nil ?_
    intro _ hw'
    obtain ⟨nq, hw''⟩ := hw'
    subst hw''
    go_wp2_with fail
    go_ret
    exact ⟨by simp, by first | exact HBW.out (1 + nq) | exact (HBW.out 1).trans (below_drewN _ _ nq)⟩
  | true =>
    have D1 := Lib.hid C1
    have C2 := C2 rfl
    have C3 := C3 rfl
    have C4 := C4 rfl
    have C5 := C5 rfl
    clear C1
    by_cases h0 : 0 < l.length
    case neg =>
      have h0d : decide ((0 : Int) < (l.length : Int)) = false := decide_eq_false (by omega)
      have h0e : decide (0 < l.length) = false := decide_eq_false h0
      have HV := Lib.hid (show decide (0 < l.length) = false from decide_eq_false h0)
      clear C2 C3 C4 C5 h0
      go_enter Tryd.func43, Tryd.ntmps43
      go_wp2_with fail
      refine wp_region_any (by kernel_rfl) ?_
      change wpAny _ _ _ _ _ _ _ (World.drew _)
      refine wpAny_ready (rs := [0]) (by kernel_rfl) (by simp) (AllReady.cons rfl (fun K hK => ?_) AllReady.nil)
      go_simp
      refine hK _ _ ?_
      clear hK K
      refine wpAny_ready (rs := [1]) (by kernel_rfl) (by simp) (AllReady.cons rfl (fun K hK => ?_) AllReady.nil)
      go_simp
      refine hK _ _ ?_
      clear hK K
      refine wpAny_ready (rs := [2]) (by kernel_rfl) (by simp) (AllReady.cons rfl (fun K hK => ?_) AllReady.nil)
      go_simp
      refine hK _ _ ?_
      clear hK K
      refine wpAny_quiet_rest 3 (by kernel_rfl) (by kernel_rfl) (by kernel_rfl) ?_
      simp only [List.drop_succ_cons, List.drop_zero]
      repeat (go_big_quiet_step ((go_at_call 58; (with_reducible exact quiet_add7 (D1.out _)))))
      refine wpQuiet_nil ?_
      intro _ hw'
      obtain ⟨nq, hw''⟩ := hw'
      subst hw''
      go_wp2_with fail
      go_ret
      exact ⟨by simp [HV.out] <;> rfl, by first | exact HBW.out (1 + nq) | exact (HBW.out 1).trans (below_drewN _ _ nq)⟩
    have h0d : decide ((0 : Int) < (l.length : Int)) = true := decide_eq_true (by omega)
    have h0e : decide (0 < l.length) = true := decide_eq_true h0
    have HV0 := Lib.hid (show decide (0 < l.length) = true from decide_eq_true h0)
    have C2 := C2 h0
    have C3 := C3 h0
    have C4 := C4 h0
    have C5 := C5 h0
    clear h0
    have D2 := Lib.hid C2
    clear C2
    cases b2 with
    | false =>
      clear C3 C4 C5
      have HV := HV0
      go_enter Tryd.func43, Tryd.ntmps43
      go_wp2_with fail
      refine wp_region_any (by kernel_rfl) ?_
      change wpAny _ _ _ _ _ _ _ (World.drew _)
      refine wpAny_ready (rs := [0]) (by kernel_rfl) (by simp) (AllReady.cons rfl (fun K hK => ?_) AllReady.nil)
      go_simp
      refine hK _ _ ?_
      clear hK K
      refine wpAny_ready (rs := [1]) (by kernel_rfl) (by simp) (AllReady.cons rfl (fun K hK => ?_) AllReady.nil)
      go_simp
      refine hK _ _ ?_
      clear hK K
      refine wpAny_ready (rs := [2]) (by kernel_rfl) (by simp) (AllReady.cons rfl (fun K hK => ?_) AllReady.nil)
      go_simp
      refine hK _ _ ?_
      clear hK K
      refine wpAny_quiet_rest 3 (by kernel_rfl) (by kernel_rfl) (by kernel_rfl) ?_
      simp only [List.drop_succ_cons, List.drop_zero]
      repeat (go_big_quiet_step (first | (go_at_call 58; (with_reducible exact quiet_add7 (D1.out _))) | (go_at_call 58; (with_reducible exact quiet_add7 (D2.out _)))))
      refine wpQuiet_nil ?_
      intro _ hw'
      obtain ⟨nq, hw''⟩ := hw'
      subst hw''
      go_wp2_with fail
      go_ret
      exact ⟨by simp [HV.out] <;> rfl, by first | exact HBW.out (1 + nq) | exact (HBW.out 1).trans (below_drewN _ _ nq)⟩
    | true =>
      have C3 := C3 rfl
      have C4 := C4 rfl
      have C5 := C5 rfl
      have D3 := Lib.hid C3
      clear C3
      cases b3 with
      | false =>
        clear C4 C5
        have HV := HV0
        go_enter Tryd.func43, Tryd.ntmps43
        go_wp2_with fail
        refine wp_region_any (by kernel_rfl) ?_
        change wpAny _ _ _ _ _ _ _ (World.drew _)
        refine wpAny_ready (rs := [0]) (by kernel_rfl) (by simp) (AllReady.cons rfl (fun K hK => ?_) AllReady.nil)
        go_simp
        refine hK _ _ ?_
        clear hK K
        refine wpAny_ready (rs := [1]) (by kernel_rfl) (by simp) (AllReady.cons rfl (fun K hK => ?_) AllReady.nil)
        go_simp
        refine hK _ _ ?_
        clear hK K
        refine wpAny_ready (rs := [2]) (by kernel_rfl) (by simp) (AllReady.cons rfl (fun K hK => ?_) AllReady.nil)
        go_simp
        refine hK _ _ ?_
        clear hK K
        refine wpAny_quiet_rest 3 (by kernel_rfl) (by kernel_rfl) (by kernel_rfl) ?_
        simp only [List.drop_succ_cons, List.drop_zero]
        repeat (go_big_quiet_step (first | (go_at_call 58; (with_reducible exact quiet_add7 (D1.out _))) | (go_at_call 58; (with_reducible exact quiet_add7 (D2.out _))) | (go_at_call 59; (with_reducible exact quiet_add7 (D3.out _)))))
        refine wpQuiet_nil ?_
        intro _ hw'
        obtain ⟨nq, hw''⟩ := hw'
        subst hw''
        go_wp2_with fail
        go_ret
        exact ⟨by simp [HV.out] <;> rfl, by first | exact HBW.out (1 + nq) | exact (HBW.out 1).trans (below_drewN _ _ nq)⟩
      | true =>
        have C4 := C4 rfl
        have C5 := C5 rfl
        have D4 := Lib.hid C4
        clear C4
        cases b4 with
        | false =>
          clear C5
          have HV := HV0
          go_enter Tryd.func43, Tryd.ntmps43
          go_wp2_with fail
          refine wp_region_any (by kernel_rfl) ?_
          change wpAny _ _ _ _ _ _ _ (World.drew _)
          refine wpAny_ready (rs := [0]) (by kernel_rfl) (by simp) (AllReady.cons rfl (fun K hK => ?_) AllReady.nil)
          go_simp
          refine hK _ _ ?_
          clear hK K
          refine wpAny_ready (rs := [1]) (by kernel_rfl) (by simp) (AllReady.cons rfl (fun K hK => ?_) AllReady.nil)
          go_simp
          refine hK _ _ ?_
          clear hK K
          refine wpAny_ready (rs := [2]) (by kernel_rfl) (by simp) (AllReady.cons rfl (fun K hK => ?_) AllReady.nil)
          go_simp
          refine hK _ _ ?_
          clear hK K
          refine wpAny_quiet_rest 3 (by kernel_rfl) (by kernel_rfl) (by kernel_rfl) ?_
          simp only [List.drop_succ_cons, List.drop_zero]
          repeat (go_big_quiet_step (first | (go_at_call 58; (with_reducible exact quiet_add7 (D1.out _))) | (go_at_call 58; (with_reducible exact quiet_add7 (D2.out _))) | (go_at_call 59; (with_reducible exact quiet_add7 (D3.out _))) | (go_at_call 50; (with_reducible exact quiet_add7 (D4.out _)))))
          refine wpQuiet_nil ?_
          intro _ hw'
          obtain ⟨nq, hw''⟩ := hw'
          subst hw''
          go_wp2_with fail
          go_ret
          exact ⟨by simp [HV.out] <;> rfl, by first | exact HBW.out (1 + nq) | exact (HBW.out 1).trans (below_drewN _ _ nq)⟩
        | true =>
          have C5 := C5 rfl
          have D5 := Lib.hid C5
          clear C5
          by_cases h1 : 1 ≤ s
          case neg =>
            have h1d : decide ((1 : Int) ≤ s) = false := decide_eq_false h1
            have HV := Lib.hid (show decide (0 < l.length) = true ∧ decide (1 ≤ s) = false from ⟨HV0.out, decide_eq_false h1⟩)
            clear h1
            go_enter Tryd.func43, Tryd.ntmps43
            go_wp2_with fail
            refine wp_region_any (by kernel_rfl) ?_
            change wpAny _ _ _ _ _ _ _ (World.drew _)
            refine wpAny_ready (rs := [0]) (by kernel_rfl) (by simp) (AllReady.cons rfl (fun K hK => ?_) AllReady.nil)
            go_simp
            refine hK _ _ ?_
            clear hK K
            refine wpAny_ready (rs := [1]) (by kernel_rfl) (by simp) (AllReady.cons rfl (fun K hK => ?_) AllReady.nil)
            go_simp
            refine hK _ _ ?_
            clear hK K
            refine wpAny_ready (rs := [2]) (by kernel_rfl) (by simp) (AllReady.cons rfl (fun K hK => ?_) AllReady.nil)
            go_simp
            refine hK _ _ ?_
            clear hK K
            refine wpAny_quiet_rest 3 (by kernel_rfl) (by kernel_rfl) (by kernel_rfl) ?_
            simp only [List.drop_succ_cons, List.drop_zero]
            repeat (go_big_quiet_step (first | (go_at_call 58; (with_reducible exact quiet_add7 (D1.out _))) | (go_at_call 58; (with_reducible exact quiet_add7 (D2.out _))) | (go_at_call 59; (with_reducible exact quiet_add7 (D3.out _))) | (go_at_call 50; (with_reducible exact quiet_add7 (D4.out _)))))
            refine wpQuiet_nil ?_
            intro _ hw'
            obtain ⟨nq, hw''⟩ := hw'
            subst hw''
            go_wp2_with fail
            go_ret
            exact ⟨by simp [HV.out] <;> rfl, by first | exact HBW.out (1 + nq) | exact (HBW.out 1).trans (below_drewN _ _ nq)⟩
          have h1d : decide ((1 : Int) ≤ s) = true := decide_eq_true h1
          have HV := Lib.hid (show decide (0 < l.length) = true ∧ decide (1 ≤ s) = true from ⟨HV0.out, decide_eq_true h1⟩)
          clear h1
          go_enter Tryd.func43, Tryd.ntmps43
          go_wp2_with fail
          refine wp_region_any (by kernel_rfl) ?_
          change wpAny _ _ _ _ _ _ _ (World.drew _)
          refine wpAny_ready (rs := [0]) (by kernel_rfl) (by simp) (AllReady.cons rfl (fun K hK => ?_) AllReady.nil)
          go_simp
          refine hK _ _ ?_
          clear hK K
          refine wpAny_ready (rs := [1]) (by kernel_rfl) (by simp) (AllReady.cons rfl (fun K hK => ?_) AllReady.nil)
          go_simp
          refine hK _ _ ?_
          clear hK K
          refine wpAny_ready (rs := [2]) (by kernel_rfl) (by simp) (AllReady.cons rfl (fun K hK => ?_) AllReady.nil)
          go_simp
          refine hK _ _ ?_
          clear hK K
          refine wpAny_quiet_rest 3 (by kernel_rfl) (by kernel_rfl) (by kernel_rfl) ?_
          simp only [List.drop_succ_cons, List.drop_zero]
          repeat (go_big_quiet_step (first | (go_at_call 58; (with_reducible exact quiet_add7 (D1.out _))) | (go_at_call 58; (with_reducible exact quiet_add7 (D2.out _))) | (go_at_call 59; (with_reducible exact quiet_add7 (D3.out _))) | (go_at_call 50; (with_reducible exact quiet_add7 (D4.out _))) | (go_at_call 60; (with_reducible exact quiet_add7 (D5.out _)))))
          refine wpQuiet_nil ?_
          intro _ hw'
          obtain ⟨nq, hw''⟩ := hw'
          subst hw''
          go_wp2_with fail
          go_ret
          exact ⟨by simp [HV.out] <;> rfl, by first | exact HBW.out (1 + nq) | exact (HBW.out 1).trans (below_drewN _ _ nq)⟩

set_option maxRecDepth 100000 in
set_option maxHeartbeats 1000000 in
theorem isValid_any (x : Ct) (A : Option Addr) (c : Nat) (w : World) (hc : CtOk w A c x) (h10 : x.cands.length ≤ 10) (hT : Tab w) :
    Calls Tryd.prog 43 #[cv A c x] w fun e w' => e = .returned (.bool (mayB x)) ∧ Below w.heap.size w w' := by
  have hb0 : Below w.heap.size w (((w.alloc (.cells (cvs A c x) 26)).alloc (.cells #[.string ⟨x.name.toArray⟩] 9))) := ((below_new w _).trans ((below_new (w.alloc (.cells (cvs A c x) 26)) _).mono (by simp)))
  have hrd := fun q => (hc.below (hb0.trans (below_drewN w.heap.size _ q))).rd
  have hT2 := fun q => hT.below (Nat.le_refl _) (hb0.trans (below_drewN w.heap.size _ q))
  have h1 := fun q => (Rf.one_drew (n := x.name) (w.alloc (.cells (cvs A c x) 26)) 9 (w.heap.size + 1) (by rw [World.size_alloc])).drewN q
  have key := isValid_walk x.name x.cands x.seats x.rule A c w (nameB x.name) (x.cands.all nameB) (distinctB x.cands) (ruleB x.rule) (mostSeatsM x.rule x.cands.length) hc.rule hc.seats h10
    (fun q => by
      have h := areNames_any [x.name] (some ⟨w.heap.size + 1, 0, none⟩) 1 _ (h1 q)
      rw [show [x.name].all nameB = nameB x.name by simp] at h
      exact h)
    (fun _ _ q => areNames_any x.cands A c _ (hrd q)) (fun _ _ _ q => areDistinct_any x.cands A c _ (hrd q)) (fun _ _ _ _ q => isRule_any x.rule _ hc.rule)
    (fun _ _ _ _ hr q => mostSeats_any x.rule x.cands.length _ hr (WalkArith.wf_i64 (by omega)) (hT2 q))
  refine key.mono ?_
  rintro e w' ⟨rfl, hb⟩
  refine ⟨?_, hb⟩
  congr 2
  cases hn : nameB x.name with
  | false => unfold mayB; rw [hn]; rfl
  | true =>
    by_cases h0 : 1 ≤ x.cands.length
    case neg => unfold mayB; rw [hn, decide_eq_false h0, decide_eq_false (show ¬ 0 < x.cands.length by omega)]; rfl
    rw [decide_eq_true (show 0 < x.cands.length by omega)]
    cases ha : x.cands.all nameB with
    | false => unfold mayB; rw [ha]; simp
    | true =>
      cases hd : distinctB x.cands with
      | false => unfold mayB; rw [hd]; simp
      | true =>
        cases hr : ruleB x.rule with
        | false => unfold mayB; rw [hr]; simp
        | true =>
          by_cases h1 : 1 ≤ x.seats
          case neg => unfold mayB; rw [decide_eq_false h1]; simp
          rw [valid_most h10 hn h0 ha hd hr h1, decide_eq_true h1]
          simp
end Go.Proofs.YtdjifopdlkppoaaDoor
