/- roll's twins, Find. A map of one entry; roll's operationBy and the function that it makes. roll's operations: on, Issue, Return, Vote, Strike, Restore. append of zeros, copy over slices of structs; slices.Insert of one voter. Names one function of the program, in the last theorem. -/
import Derived.Test.YtikhffdbjelanaaDoorGn
import Derived.Test.YtikhffdbjelanaaDoorGe
import Derived.Maps.OwnSet
import Derived.BigQuiet
import Derived.Lib.AppendZerosOnto
import Derived.Laws.IdiomCopy
import Derived.Laws.CopyRow
namespace Go.Proofs.YtikhffdbjelanaaDoor
open Go.RowKit
set_option linter.unusedVariables false

theorem fillV_step {l : List Vt} {k : Nat} (h : k < l.length) : (l.take k ++ List.replicate (l.length - k) zeroV).set k l[k] = l.take (k + 1) ++ List.replicate (l.length - (k + 1)) zeroV := by
  have h1 : (l.take k).length = k := by simp; omega
  rw [List.set_append_right (h := by omega), h1, Nat.sub_self, List.take_succ_eq_append_getElem h, List.append_assoc]
  congr 1
  rw [show l.length - k = (l.length - (k + 1)) + 1 by omega, List.replicate_succ]
  rfl
theorem fillV_len {l : List Vt} {k : Nat} (h : k ≤ l.length) : (l.take k ++ List.replicate (l.length - k) zeroV).length = l.length := by simp; omega

set_option maxRecDepth 100000 in
set_option maxHeartbeats 2000000 in
theorem twins_any (l : List Vt) (A : Option Addr) (c : Nat) (w : World) (hr : Rvt w w.heap.size A c l) (hl : l.length ≤ 1000000) (hn : ∀ v ∈ l, v.name.length ≤ 4000000000) :
    Calls Tryd.prog 39 #[.slice A l.length c] w fun e w' => e = .returned (.slice (some ⟨w.heap.size, 0, none⟩) l.length l.length) ∧ OwV w' w.heap.size (some ⟨w.heap.size, 0, none⟩) l.length l ∧ Below w.heap.size w w' := by
  have HR := Lib.hid hr
  have HN := Lib.hid hn
  clear hr hn
  obtain ⟨i0, hi0, hz0, hz1, hz2⟩ := info_parts vInfo
  go_enter Tryd.func39, Tryd.ntmps39
  go_wp2_with (at_make; refine wpList_make_k _ vl_len rfl _ _ 22 rfl 30 32 i0 _ Tryd.underlying22 hi0 hz0 hz1 hz2 (by omega) l.length rfl rfl hl zeroV (made_flat vl_len #[Value.string ⟨#[]⟩, .int .i64 0, .int .u8 0] zeroV rfl l.length) ?_; intro w1 ho1 hb1)
  have HO1 := Lib.hid (show OwV w1 w.heap.size (some ⟨w.heap.size, 0, none⟩) l.length (l.take 0 ++ List.replicate (l.length - 0) zeroV) from ho1)
  have B1 := Lib.hid hb1
  clear ho1 hb1
  go_loopw [11] (fun i wr => ∃ k : Nat, k ≤ l.length ∧ i = .int .i64 k ∧ Hid (OwV wr w.heap.size (some ⟨w.heap.size, 0, none⟩) l.length (l.take k ++ List.replicate (l.length - k) zeroV)) ∧ Hid (Below w.heap.size w wr)) (fun i _ => l.length - (intOf i).toNat)
  case atStart => exact ⟨0, Nat.zero_le _, rfl, HO1, B1⟩
  case round =>
    obtain ⟨k, hk, rfl, ho, hbw⟩ := hrel
    have hsz := hbw.out.size
    by_cases hlt : k < l.length
    · obtain ⟨b, o, rfl, hbb, hc⟩ := (HR.out.below hbw.out).vt hlt
      obtain ⟨f1, f2, f3⟩ := hc k hlt
      have hset := fillV_step hlt
      have HN1 := Lib.hid (HN.out l[k] (List.getElem_mem hlt))
      have hfl := fillV_len hk
      obtain ⟨x, hx⟩ : ∃ x, x = l[k] := ⟨_, rfl⟩
      rw [← hx] at f1 f2 f3 hset HN1
      obtain ⟨m, hm⟩ : ∃ m, m = l.take k ++ List.replicate (l.length - k) zeroV := ⟨_, rfl⟩
      rw [← hm] at ho hset hfl
      have HSET := Lib.hid hset
      have HML := Lib.hid (show k < m.length by omega)
      have HTW := Lib.hid (fun wx => rtwin_any x wx HN1.out)
      unfold vv vvs at HTW
      have HBN := Lib.hid (Blk.new wr 30 #[.string ⟨#[]⟩, .int .i64 0, .int .u8 0])
      clear hc hx hset hm hfl
      have B2 := Lib.hid (fun (w2 : World) (hg2 : (wr.alloc (.cells #[.string ⟨#[]⟩, .int .i64 0, .int .u8 0] 30)).grownBy w2 (some wr.heap.size)) => (hbw.out.alloc hsz (.cells #[.string ⟨#[]⟩, .int .i64 0, .int .u8 0] 30)).grown hg2 (by simp; omega) (fun k e => by cases e; exact hsz))
      have O2 := Lib.hid (fun (w2 : World) (hg2 : (wr.alloc (.cells #[.string ⟨#[]⟩, .int .i64 0, .int .u8 0] 30)).grownBy w2 (some wr.heap.size)) => OwK.kept (ho.out.alloc (.cells #[.string ⟨#[]⟩, .int .i64 0, .int .u8 0] 30)) hg2 (.inr (by simp [blk]; have := (ho.out.blk_ge w.heap.size rfl).2; omega)))
      go_wp2_with ((with_reducible refine wpList_store_vt rfl (.tmp 5) (.tmp 15) rfl wr.heap.size rfl HBN.out rfl (x := x) rfl ?_); intro w2 hb2 hg2; obtain ⟨c1, c2, c3⟩ := vt_cells hb2)
      have HO2 := Lib.hid (O2.out w2 hg2)
      have HB2 := Lib.hid (B2.out w2 hg2)
      clear hb2 hg2 O2 B2
      refine (HTW.out _).mono ?_
      rintro e w3 ⟨rfl, hb3⟩
      have HO3 := Lib.hid (HO2.out.below (Nat.le_refl _) hb3)
      have HB3 := Lib.hid (HB2.out.trans (hb3.mono HB2.out.size))
      clear hb3
      go_wp2_with ((with_reducible refine wpList_store_k vl_len vl_one rfl 30 (.tmp 20) (.tmp 19) rfl size_vt w.heap.size k (k * 3) rfl rfl HO3.out HML.out x rfl ?_); intro w4 r4 hr4 ho4 hg4)
      have B4 := Lib.hid (HB3.out.grown hg4 HB3.out.size (fun k e => by cases e; exact Nat.le_refl _))
      have HO4 := Lib.hid (show OwV w4 w.heap.size (some ⟨w.heap.size, 0, none⟩) l.length (l.take (k + 1) ++ List.replicate (l.length - (k + 1)) zeroV) by rw [← HSET.out, ← hr4.out]; exact ho4)
      go_wp2_with fail
      go_roundw
      case rel => exact ⟨k + 1, by omega, by go_num, HO4, B4⟩
      case measure => simp [intOf]; omega
    · obtain rfl : k = l.length := by omega
      have HO5 := Lib.hid (show OwV wr w.heap.size (some ⟨w.heap.size, 0, none⟩) l.length l by
        have h := ho.out
        rw [Nat.sub_self, List.take_of_length_le (Nat.le_refl _)] at h
        simpa using h)
      go_wp2_with fail
      go_ret
      exact ⟨rfl, HO5.out, hbw.out⟩

set_option maxRecDepth 100000 in
set_option maxHeartbeats 1000000 in
theorem findV_any (l : List Vt) (n : List UInt8) (A : Option Addr) (c : Nat) (w : World) (hr : Rvt w w.heap.size A c l) (hn : ∀ v ∈ l, v.name.length ≤ 4000000000) (hT : Tab w) :
    Calls Tryd.prog 17 #[.slice A l.length c, .string ⟨n.toArray⟩] w (VtErr w (findV l n)) := by
  have HB0 := Lib.hid (show Blk (w.alloc (.cells #[.string ⟨#[]⟩, .int .i64 0, .int .u8 0] 30)) w.heap.size 30 #[.string ⟨#[]⟩, .int .i64 0, .int .u8 0] from Blk.new w _ _)
  have B0 := Lib.hid (below_new w (.cells #[.string ⟨#[]⟩, .int .i64 0, .int .u8 0] 30))
  have HK := Lib.hid (fun wx (hb : Below w.heap.size w wx) => place_v l n A c wx ((hr.below hb).more hb.size) hn (hT.below (Nat.le_refl _) hb))
  by_cases h0 : checkV l = 0
  case neg =>
    rcases ne_zero_cases h0 with h4 | h4
    all_goals
      have HE := Lib.hid (show placeV l n = (0, checkV l) by unfold placeV; rw [if_pos h0])
      have HQ := Lib.hid (findV_bad (n := n) h0)
      rw [h4] at HQ HE
      clear h0 h4 hr hn hT
      go_enter Tryd.func17, Tryd.ntmps17
      go_wp2_with fail
      refine (HK.out _ B0.out).mono ?_
      rintro e w1 ⟨rfl, hb⟩
      rw [HE.out]
      have B1 := Lib.hid (B0.out.trans (hb.mono B0.out.size))
      have HB1 := Lib.hid (HB0.out.below hb HB0.out.lt)
      clear hb
      go_wp2_with ((with_reducible refine wpList_store_vt rfl (.tmp 4) (.tmp 16) rfl w.heap.size rfl HB1.out rfl (x := zeroV) rfl ?_); intro w2 hb2 hg2)
      refine vt_ret2 (g := w.heap.size) rfl rfl hb2 rfl ⟨zeroV, _, rfl, HQ.out.symm, B1.out.grown hg2 B1.out.size (fun k e => by cases e; exact Nat.le_refl _)⟩
  cases ha : atV l n with
  | none =>
    have HE := Lib.hid (show placeV l n = (0, 6) by unfold placeV; rw [if_neg (by omega), ha])
    have HQ := Lib.hid (findV_none h0 ha)
    clear h0 ha hr hn hT
    go_enter Tryd.func17, Tryd.ntmps17
    go_wp2_with fail
    refine (HK.out _ B0.out).mono ?_
    rintro e w1 ⟨rfl, hb⟩
    rw [HE.out]
    have B1 := Lib.hid (B0.out.trans (hb.mono B0.out.size))
    have HB1 := Lib.hid (HB0.out.below hb HB0.out.lt)
    clear hb
    go_wp2_with ((with_reducible refine wpList_store_vt rfl (.tmp 4) (.tmp 16) rfl w.heap.size rfl HB1.out rfl (x := zeroV) rfl ?_); intro w2 hb2 hg2)
    refine vt_ret2 (g := w.heap.size) rfl rfl hb2 rfl ⟨zeroV, _, rfl, HQ.out.symm, B1.out.grown hg2 B1.out.size (fun k e => by cases e; exact Nat.le_refl _)⟩
  | some i =>
    obtain ⟨hi, hnm, _⟩ := atV_some ha
    have HE := Lib.hid (show placeV l n = (((i : Nat) : Int), (0 : Int)) by unfold placeV; rw [if_neg (by omega), ha])
    have HQ := Lib.hid (findV_yes h0 hi ha)
    obtain ⟨x, hx⟩ : ∃ x, x = l[i] := ⟨_, rfl⟩
    rw [← hx] at HQ
    have HC := Lib.hid (fun (wx : World) (hb : Below w.heap.size w wx) => (hr.below hb).vt1 hi hx)
    have HTW := Lib.hid (fun wx => rtwin_any x wx (by rw [hx]; exact hn _ (List.getElem_mem hi)))
    unfold vv vvs at HTW
    clear h0 ha hnm hx hr hn hT
    go_enter Tryd.func17, Tryd.ntmps17
    go_wp2_with fail
    refine (HK.out _ B0.out).mono ?_
    rintro e w1 ⟨rfl, hb⟩
    rw [HE.out]
    have B1 := Lib.hid (B0.out.trans (hb.mono B0.out.size))
    have HB1 := Lib.hid (HB0.out.below hb HB0.out.lt)
    clear hb
    obtain ⟨b, q, hA, hbb, f1, f2, f3⟩ := HC.out _ B1.out
    subst hA
    go_wp2_with fail
    refine (HTW.out _).mono ?_
    rintro e w2 ⟨rfl, hb2⟩
    have B2 := Lib.hid (B1.out.trans (hb2.mono B1.out.size))
    have HB2 := Lib.hid (HB1.out.below hb2 HB1.out.lt)
    clear hb2
    go_wp2_with ((with_reducible refine wpList_store_vt rfl (.tmp 4) (.tmp 22) rfl w.heap.size rfl HB2.out rfl (x := x) rfl ?_); intro w3 hb3 hg3)
    refine vt_ret2 (g := w.heap.size) rfl rfl hb3 rfl ⟨x, _, rfl, HQ.out.symm, B2.out.grown hg3 B2.out.size (fun k e => by cases e; exact Nat.le_refl _)⟩
end Go.Proofs.YtikhffdbjelanaaDoor
namespace Go.Proofs.YtikhffdbjelanaaDoor
open Go.RowKit Go.Maps
set_option linter.unusedVariables false

/-- A map's literal: an entry is laid. -/
theorem wpList_insert_own {H : Type} {P : Program} (w : World) {ops : Array Oper} {rest : List Oper} {o : Oper} {a : Act} {Q : Exit → Act → World → Prop}
    (hg : o.guard = none) (m x v : Operand) (t : TypeId) (hop : o.op = Op.insert t m x v)
    (k e : TypeId) (K : Keyed P k) (ht : P.underlying t = some (.map k e)) (R : Value → Option (DataW H × List MemPlace)) (b n : Nat) (D : DataW H)
    (hm : a.eval m = .map (some b)) (hown : w.ownsMap P k R b n D) (hn : n < maxLen) (key val : Value) (kl : Lit) (hx : a.eval x = key) (hv : a.eval v = val) (hkey : keyOf P k key = some kl)
    (d : DataW H) (ps : List MemPlace) (hval : R val = some (d, ps))
    (hK : ∀ w', w'.ownsMap P k R b (n + 1) (D.put kl d) → w.grownBy w' (some b) → wpList P ops Q rest (a.put o.dst undef) w') :
    wpList P ops Q (o :: rest) a w := by
  refine wpList_plain hg fun K' hK' => ?_
  obtain ⟨w', hrun, r1, r2⟩ := hown.update K ht hn hkey hval
  unfold Oper.wp
  simp [execOp, hop, hm, hx, hv, hrun, Result.andThen]
  exact hK' _ _ (hK w' r1 r2)

theorem u8law : Keyed Tryd.prog 5 := int_keyed Tryd.underlying5
theorem u8zero (w : World) : (zeroValue 5).run Tryd.prog w = .ok (.int .u8 0) w := by kernel_rfl
/-- The map of one entry. -/
def oneM (s t : Nat) : DataW Unit := (DataW.map []).put (.int .u8 s) (.lit (.int .u8 t))
/-- Block b is the map that leads from state s to state t. -/
def MapIs (w : World) (b s t : Nat) : Prop := w.ownsMap Tryd.prog 5 (plainElem Tryd.prog 5) b 1 (oneM s t)
theorem isKey_u8 (s : Nat) : WideAt.IsKeyLit (.int .u8 (s : Nat)) := trivial
theorem has_one (s t k : Nat) : Maps.has (oneM s t) (.int .u8 (k : Nat)) = (k == s) := by
  by_cases h : k = s
  · subst h
    rw [oneM, has_put_same ⟨_, rfl⟩ (isKey_u8 _)]
    simp
  · rw [oneM, has_put_other (by intro e; injection e with _ e; omega)]
    rw [show (k == s) = false by simpa using h]
    rfl
theorem at_one (s t : Nat) (z : DataW Unit) : (oneM s t).atKey (.int .u8 (s : Nat)) z = .lit (.int .u8 (t : Nat)) := by
  rw [oneM, atKey_put_same ⟨_, rfl⟩ (isKey_u8 _)]
theorem at_other (s t k : Nat) (h : k ≠ s) (z : DataW Unit) : (oneM s t).atKey (.int .u8 (k : Nat)) z = z := atKey_of_not_has (by rw [has_one]; simpa using h) z
theorem MapIs.below {w w' : World} {b s t : Nat} (h : MapIs w b s t) (hb : Below w.heap.size w w') : MapIs w' b s t := by
  obtain ⟨es, clock, hh, r⟩ := h
  exact ⟨es, clock, (hb.block b (Array.getElem?_eq_some_iff.1 hh).1).trans hh, r⟩
theorem MapIs.lt {w : World} {b s t : Nat} (h : MapIs w b s t) : b < w.heap.size := by
  obtain ⟨es, clock, hh, r⟩ := h
  exact (Array.getElem?_eq_some_iff.1 hh).1

set_option maxRecDepth 100000 in
set_option maxHeartbeats 400000 in
/-- The function that operationBy makes. -/
theorem next_any (b s t k g : Nat) (w : World) (hm : MapIs w b s t) (hg : Blk w g 72 #[.map (some b)]) (hk : k ≤ 255) (r : Nat) (q : Bool) (hr : r = if k = s then t else 0) (hq : q = (k == s)) :
    Calls Tryd.prog 57 #[.int .u8 (k : Nat), .pointer (some ⟨g, 0, none⟩)] w fun e w' => e = .returned (.tuple #[.int .u8 (r : Nat), .bool q]) ∧ w' = w := by
  have hc := hg.cell 0
  have HM := Lib.hid hm
  have HK := Lib.hid (keyOf_int_mk Tryd.underlying5 (WalkArith.wf_u8 (n := (k : Nat)) (by omega)))
  have HH := Lib.hid ((has_one s t k).trans hq.symm)
  have HA := Lib.hid (show (oneM s t).atKey (.int .u8 (k : Nat)) (.lit (.int .u8 0)) = .lit (.int .u8 (r : Nat)) by
    rw [hr]
    by_cases h : k = s
    · subst h; rw [if_pos rfl]; exact at_one k t _
    · rw [if_neg h, at_other s t k h]; rfl)
  clear hg hm hr hq
  simp at hc
  go_enter Tryd.func57, Tryd.ntmps57
  go_wp2_with (at_lookup; refine wpList_lookup_own_ok_int _ rfl _ _ 72 rfl 5 5 .u8 u8law Tryd.underlying72 Tryd.underlying5 (u8zero _) b 1 _ rfl HM.out _ _ rfl HK.out ?_; intro c hat hwc)
  have HC := Lib.hid (show c = (r : Nat) by
    rw [HA.out] at hat
    injection hat with hat
    injection hat with _ hat
    exact hat.symm)
  rw [HH.out]
  go_wp2_with fail
  go_ret2
  exact ⟨by rw [HC.out] <;> rfl, rfl⟩

theorem size_op : (Tryd.prog.info? 70).map (·.size) = some 1 := by kernel_rfl
/-- A result that is an operation in a cell. -/
theorem op_ret {fn : Func} {p : Tmp} (h : fn.results = #[.cell p 70]) {a : Act} {w : World} {g : Nat} {v : Value} {Q : Ending → World → Prop}
    (hp : a.tmps.getD p undef = .pointer (some ⟨g, 0, none⟩)) (hB : Blk w g 70 #[v]) (hd : a.defers = []) (hQ : Q (.returned (.agg #[v])) w) : bodyPost Tryd.prog fn Q .ret a w := by
  refine bodyPost_ret (v := .agg #[v]) ?_ hd hQ
  have hld := run_loadVar_row w g 70 70 _ _ _ hB Tryd.underlying70 rfl size_op
  have hp' : a.tmps[p]?.getD undef = .pointer (some ⟨g, 0, none⟩) := by simpa using hp
  simp [results, h, hp', asAddr, hld]

set_option maxRecDepth 100000 in
set_option maxHeartbeats 400000 in
theorem operationBy_any (b : Nat) (w : World) :
    Calls Tryd.prog 41 #[.map (some b)] w fun e w' => e = .returned (.agg #[.func (.func 57) #[] #[.pointer (some ⟨w.heap.size, 0, none⟩)]]) ∧ Blk w' w.heap.size 72 #[.map (some b)] ∧ Below w.heap.size w w' := by
  have B0 := Lib.hid ((below_new w (.cells #[.map (some b)] 72)).alloc (by simp) (.cells #[.nilFunc] 70))
  have H0 := Lib.hid ((Blk.new w 72 #[.map (some b)]).alloc (.cells #[.nilFunc] 70))
  have H1 := Lib.hid (Blk.new (w.alloc (.cells #[.map (some b)] 72)) 70 #[.nilFunc])
  rw [World.size_alloc] at H1
  go_enter Tryd.func41, Tryd.ntmps41
  go_wp2_with (refine wpList_store_row rfl 70 (.tmp 2) (.tmp 4) rfl (w.heap.size + 1) #[.func (.func 57) #[] #[.pointer (some ⟨w.heap.size, 0, none⟩)]] rfl rfl 70 _ H1.out size_op rfl (by simp [Value.oneCell']) ?_)
  exact op_ret (g := w.heap.size + 1) rfl rfl (setRow_heap _ _ _ _ _ _ H1.out) rfl ⟨rfl, H0.out.grown (grown_setRow24 _ _ _) (by simp), B0.out.grown (grown_setRow24 _ _ _) B0.out.size (fun k e => by cases e; omega)⟩
end Go.Proofs.YtikhffdbjelanaaDoor
namespace Go.Proofs.YtikhffdbjelanaaDoor
open Go.RowKit Go.Maps
set_option linter.unusedVariables false

/-- The roll after an operation that leads from state s to state t. -/
def moveV (l : List Vt) (n : List UInt8) (s t : Nat) : List Vt × Int :=
  if checkV l ≠ 0 then ([], checkV l)
  else match atV l n with
    | none => ([], 6)
    | some i => match l[i]? with
      | none => ([], 6)
      | some v => if v.state ≠ s then ([], 241) else (l.set i { v with state := t }, 0)
theorem doneV_move (l : List Vt) (n : List UInt8) (o : Int) : doneV l n o = moveV l n (wasis o).1 (wasis o).2 := rfl

set_option maxRecDepth 100000 in
set_option maxHeartbeats 2000000 in
theorem on_any (l : List Vt) (n : List UInt8) (s t b g : Nat) (A : Option Addr) (c : Nat) (w : World) (hr : Rvt w w.heap.size A c l) (hn : VtOk l) (hT : Tab w) (hm : MapIs w b s t) (hg : Blk w g 72 #[.map (some b)]) (ht : t ≤ 255) :
    Calls Tryd.prog 42 #[.agg #[.func (.func 57) #[] #[.pointer (some ⟨g, 0, none⟩)]], .slice A l.length c, .string ⟨n.toArray⟩] w (VtsErr w (moveV l n s t)) := by
  have B0 := Lib.hid (below_new w (.cells #[(.func (.func 57) #[] #[.pointer (some ⟨g, 0, none⟩)])] 70))
  have H0 := Lib.hid (Blk.new w 70 #[(.func (.func 57) #[] #[.pointer (some ⟨g, 0, none⟩)])])
  have HK := Lib.hid (fun wx (hb : Below w.heap.size w wx) => place_v l n A c wx ((hr.below hb).more hb.size) hn.long (hT.below (Nat.le_refl _) hb))
  by_cases h0 : checkV l = 0
  case neg =>
    rcases ne_zero_cases h0 with h4 | h4
    all_goals
      have HE := Lib.hid (show placeV l n = (0, checkV l) by unfold placeV; rw [if_pos h0])
      have HQ := Lib.hid (show moveV l n s t = ([], checkV l) by unfold moveV; rw [if_pos h0])
      rw [h4] at HQ HE
      clear h0 h4 hr hn hT
      go_enter Tryd.func42, Tryd.ntmps42
      go_wp2_with fail
      refine (HK.out _ B0.out).mono ?_
      rintro e w1 ⟨rfl, hb⟩
      rw [HE.out]
      have B1 := Lib.hid (B0.out.trans (hb.mono B0.out.size))
      clear hb
      go_wp2_with fail
      go_ret2
      exact vtsErr_none HQ.out B1.out
  have hl : l.length ≤ 64 := (checkV_ok.1 h0).1
  cases ha : atV l n with
  | none =>
    have HE := Lib.hid (show placeV l n = (0, 6) by unfold placeV; rw [if_neg (by omega), ha])
    have HQ := Lib.hid (show moveV l n s t = ([], 6) by unfold moveV; rw [if_neg (by omega), ha])
    clear h0 ha hr hn hT
    go_enter Tryd.func42, Tryd.ntmps42
    go_wp2_with fail
    refine (HK.out _ B0.out).mono ?_
    rintro e w1 ⟨rfl, hb⟩
    rw [HE.out]
    have B1 := Lib.hid (B0.out.trans (hb.mono B0.out.size))
    clear hb
    go_wp2_with fail
    go_ret2
    exact vtsErr_none HQ.out B1.out
  | some i =>
    obtain ⟨hi, hnm, hpre⟩ := atV_some ha
    have HE := Lib.hid (show placeV l n = (((i : Nat) : Int), (0 : Int)) by unfold placeV; rw [if_neg (by omega), ha])
    have hq : moveV l n s t = if l[i].state ≠ s then ([], 241) else (l.set i { l[i] with state := t }, 0) := by unfold moveV; rw [if_neg (by omega), ha]; simp only [List.getElem?_eq_getElem hi]
    obtain ⟨x, hx⟩ : ∃ x, x = l[i] := ⟨_, rfl⟩
    rw [← hx] at hq
    have hxs : x.state ≤ 255 := by rw [hx]; exact hn.state _ (List.getElem_mem hi)
    have HC := Lib.hid (fun (wx : World) (hb : Below w.heap.size w wx) => (hr.below hb).vt1 hi hx)
    have HNX := Lib.hid (fun (wx : World) (hb : Below w.heap.size w wx) (r : Nat) (q : Bool) (hr : r = if x.state = s then t else 0) (hq : q = (x.state == s)) => next_any b s t x.state g wx (hm.below hb) (hg.below hb hg.lt) hxs r q hr hq)
    have HTW := Lib.hid (fun wx (hb : Below w.heap.size w wx) => twins_any l A c wx ((hr.below hb).more hb.size) (by omega) hn.long)
    have HI := Lib.hid hi
    by_cases hst : x.state = s
    · have HR := Lib.hid (show t = if x.state = s then t else 0 by rw [if_pos hst])
      have HB := Lib.hid (show true = (x.state == s) by simpa using hst)
      have HQ := Lib.hid (show moveV l n s t = (l.set i { l[i] with state := t }, 0) by rw [hq, if_neg (by simpa using hst), hx]; rfl)
      clear hpre h0 ha hnm hx hr hn hT hm hg hq hst
      go_enter Tryd.func42, Tryd.ntmps42
      go_wp2_with fail
      refine (HK.out _ B0.out).mono ?_
      rintro e w1 ⟨rfl, hb⟩
      rw [HE.out]
      have B1 := Lib.hid (B0.out.trans (hb.mono B0.out.size))
      have HB1 := Lib.hid (H0.out.below hb H0.out.lt)
      clear hb
      obtain ⟨b', q, hA, hbb, f1, f2, f3⟩ := HC.out _ B1.out
      subst hA
      have hfc : w1.cell? ⟨w.heap.size, 0, none⟩ = some (.func (.func 57) #[] #[.pointer (some ⟨g, 0, none⟩)]) := HB1.out.cell 0
      go_wp2_with fail
      have HN1 := Lib.hid (fun k => HNX.out (w1.drewN k) (B1.out.trans (below_drewN _ _ k)) t true HR.out HB.out)
      go_quiet ((go_at_call 57; exact Calls.quiet_of_same (HN1.out _)))
      have BQ := Lib.hid (B1.out.trans (below_drewN _ _ nq))
      go_wp2_with fail
      refine (HTW.out _ BQ.out).mono ?_
      rintro e w2 ⟨rfl, ho2, hb2⟩
      have hg0 := BQ.out.size
      generalize hgg : (w1.drewN nq).heap.size = g0 at ho2 hb2 hg0 ⊢
      have HB2 := Lib.hid (BQ.out.trans (hb2.mono hg0))
      have hc2 : w2.cell? ⟨g0, i * 3 + 2, none⟩ = some (.int .u8 (l[i].state : Nat)) := OwK.cell vl_len ho2 i hi 2 (by omega)
      have hz2 : w2.frozen? ⟨g0, i * 3 + 2, none⟩ = false := OwK.frozen ho2 (i * 3 + 2)
      have HO2 := Lib.hid (OwK.stored vl_len ho2 i hi 2 (by omega) { l[i] with state := t } (.int .u8 (t : Nat)) rfl).1
      have hib : (i : Int) < (l.length : Int) := by omega
      clear hb2 ho2 hgg
      go_wp2_with fail
      go_ret2
      exact ⟨some ⟨g0, 0, none⟩, l.length, _, 0, by rw [List.length_set] <;> rfl, HQ.out.symm, HO2.out.lower hg0, HB2.out.setCell (by simpa using hg0) _⟩
    · have HR := Lib.hid (show 0 = if x.state = s then t else 0 by rw [if_neg hst])
      have HB := Lib.hid (show false = (x.state == s) by rw [beq_eq_false_iff_ne.2 hst])
      have HQ := Lib.hid (show moveV l n s t = ([], 241) by rw [hq, if_pos (by simpa using hst)])
      clear hpre h0 ha hnm hx hr hn hT hm hg hq hst
      go_enter Tryd.func42, Tryd.ntmps42
      go_wp2_with fail
      refine (HK.out _ B0.out).mono ?_
      rintro e w1 ⟨rfl, hb⟩
      rw [HE.out]
      have B1 := Lib.hid (B0.out.trans (hb.mono B0.out.size))
      have HB1 := Lib.hid (H0.out.below hb H0.out.lt)
      clear hb
      obtain ⟨b', q, hA, hbb, f1, f2, f3⟩ := HC.out _ B1.out
      subst hA
      have hfc : w1.cell? ⟨w.heap.size, 0, none⟩ = some (.func (.func 57) #[] #[.pointer (some ⟨g, 0, none⟩)]) := HB1.out.cell 0
      go_wp2_with fail
      have HN1 := Lib.hid (fun k => HNX.out (w1.drewN k) (B1.out.trans (below_drewN _ _ k)) 0 false HR.out HB.out)
      go_quiet ((go_at_call 57; exact Calls.quiet_of_same (HN1.out _)))
      have BQ := Lib.hid (B1.out.trans (below_drewN _ _ nq))
      go_wp2_with fail
      go_ret2
      exact vtsErr_none HQ.out BQ.out

set_option maxRecDepth 100000 in
set_option maxHeartbeats 1000000 in
theorem MapIs.made (w w' : World) (b s t : Nat) (h : w'.ownsMap Tryd.prog 5 (plainElem (H := Unit) Tryd.prog 5) b (0 + 1) ((DataW.map []).put (.int .u8 (s : Nat)) (.lit (.int .u8 (t : Nat))))) : MapIs w' b s t := h

set_option maxRecDepth 100000 in
set_option maxHeartbeats 1000000 in
theorem issue_v (l : List Vt) (n : List UInt8) (A : Option Addr) (c : Nat) (w : World) (hr : Rvt w w.heap.size A c l) (hn : VtOk l) (hT : Tab w) :
    Calls Tryd.prog 34 #[.slice A l.length c, .string ⟨n.toArray⟩] w (VtsErr w (doneV l n 1)) := by
  have HON := Lib.hid (fun (g : Nat) wx (hb : Below w.heap.size w wx) (hm : MapIs wx w.heap.size 1 2) (hg : Blk wx g 72 #[.map (some w.heap.size)]) => on_any l n 1 2 w.heap.size g A c wx ((hr.below hb).more hb.size) hn (hT.below (Nat.le_refl _) hb) hm hg (by omega))
  have HM0 := Lib.hid (World.ownsMap_made (H := Unit) w Tryd.prog 5 (plainElem Tryd.prog 5))
  have B0 := Lib.hid (below_new w (.map #[] 0))
  have hmm := @run_makeMap Tryd.prog
  clear hr hn hT
  go_enter Tryd.func34, Tryd.ntmps34
  go_wp2_with (refine wpList_insert_own _ rfl _ _ _ 72 rfl 5 5 u8law Tryd.underlying72 _ w.heap.size _ _ rfl HM0.out (by unfold maxLen; omega) _ _ _ rfl rfl (keyOf_int_mk Tryd.underlying5 (WalkArith.wf_u8 (by omega))) _ [] (plainElem_int Tryd.underlying5 (WalkArith.wf_u8 (by omega))) ?_; intro w1 hown1 hgrow1)
  have HM1 := Lib.hid (show MapIs w1 w.heap.size 1 2 from hown1)
  have B1 := Lib.hid (B0.out.grown hgrow1 (by simp) (fun k e => by cases e; exact Nat.le_refl _))
  clear hown1 hgrow1 hmm
  refine (operationBy_any w.heap.size _).mono ?_
  rintro e w2 ⟨rfl, hg2, hb2⟩
  have HM2 := Lib.hid (HM1.out.below hb2)
  have B2 := Lib.hid (B1.out.trans (hb2.mono B1.out.size))
  have HG2 := Lib.hid hg2
  clear hb2 hg2
  go_wp2_with fail
  refine (HON.out _ _ B2.out HM2.out HG2.out).mono ?_
  rintro e w3 ⟨A3, c3, r3, er3, rfl, hq3, ho3, hb3⟩
  have HQ3 := Lib.hid hq3
  clear hq3
  go_wp2_with fail
  go_ret2
  exact ⟨A3, c3, r3, er3, rfl, HQ3.out, ho3.lower B2.out.size, B2.out.trans (hb3.mono B2.out.size)⟩

set_option maxRecDepth 100000 in
set_option maxHeartbeats 1000000 in
theorem ret_v (l : List Vt) (n : List UInt8) (A : Option Addr) (c : Nat) (w : World) (hr : Rvt w w.heap.size A c l) (hn : VtOk l) (hT : Tab w) :
    Calls Tryd.prog 14 #[.slice A l.length c, .string ⟨n.toArray⟩] w (VtsErr w (doneV l n 2)) := by
  have HON := Lib.hid (fun (g : Nat) wx (hb : Below w.heap.size w wx) (hm : MapIs wx w.heap.size 2 1) (hg : Blk wx g 72 #[.map (some w.heap.size)]) => on_any l n 2 1 w.heap.size g A c wx ((hr.below hb).more hb.size) hn (hT.below (Nat.le_refl _) hb) hm hg (by omega))
  have HM0 := Lib.hid (World.ownsMap_made (H := Unit) w Tryd.prog 5 (plainElem Tryd.prog 5))
  have B0 := Lib.hid (below_new w (.map #[] 0))
  have hmm := @run_makeMap Tryd.prog
  clear hr hn hT
  go_enter Tryd.func14, Tryd.ntmps14
  go_wp2_with (refine wpList_insert_own _ rfl _ _ _ 72 rfl 5 5 u8law Tryd.underlying72 _ w.heap.size _ _ rfl HM0.out (by unfold maxLen; omega) _ _ _ rfl rfl (keyOf_int_mk Tryd.underlying5 (WalkArith.wf_u8 (by omega))) _ [] (plainElem_int Tryd.underlying5 (WalkArith.wf_u8 (by omega))) ?_; intro w1 hown1 hgrow1)
  have HM1 := Lib.hid (show MapIs w1 w.heap.size 2 1 from hown1)
  have B1 := Lib.hid (B0.out.grown hgrow1 (by simp) (fun k e => by cases e; exact Nat.le_refl _))
  clear hown1 hgrow1 hmm
  refine (operationBy_any w.heap.size _).mono ?_
  rintro e w2 ⟨rfl, hg2, hb2⟩
  have HM2 := Lib.hid (HM1.out.below hb2)
  have B2 := Lib.hid (B1.out.trans (hb2.mono B1.out.size))
  have HG2 := Lib.hid hg2
  clear hb2 hg2
  go_wp2_with fail
  refine (HON.out _ _ B2.out HM2.out HG2.out).mono ?_
  rintro e w3 ⟨A3, c3, r3, er3, rfl, hq3, ho3, hb3⟩
  have HQ3 := Lib.hid hq3
  clear hq3
  go_wp2_with fail
  go_ret2
  exact ⟨A3, c3, r3, er3, rfl, HQ3.out, ho3.lower B2.out.size, B2.out.trans (hb3.mono B2.out.size)⟩

set_option maxRecDepth 100000 in
set_option maxHeartbeats 1000000 in
theorem vote_v (l : List Vt) (n : List UInt8) (A : Option Addr) (c : Nat) (w : World) (hr : Rvt w w.heap.size A c l) (hn : VtOk l) (hT : Tab w) :
    Calls Tryd.prog 13 #[.slice A l.length c, .string ⟨n.toArray⟩] w (VtsErr w (doneV l n 3)) := by
  have HON := Lib.hid (fun (g : Nat) wx (hb : Below w.heap.size w wx) (hm : MapIs wx w.heap.size 2 3) (hg : Blk wx g 72 #[.map (some w.heap.size)]) => on_any l n 2 3 w.heap.size g A c wx ((hr.below hb).more hb.size) hn (hT.below (Nat.le_refl _) hb) hm hg (by omega))
  have HM0 := Lib.hid (World.ownsMap_made (H := Unit) w Tryd.prog 5 (plainElem Tryd.prog 5))
  have B0 := Lib.hid (below_new w (.map #[] 0))
  have hmm := @run_makeMap Tryd.prog
  clear hr hn hT
  go_enter Tryd.func13, Tryd.ntmps13
  go_wp2_with (refine wpList_insert_own _ rfl _ _ _ 72 rfl 5 5 u8law Tryd.underlying72 _ w.heap.size _ _ rfl HM0.out (by unfold maxLen; omega) _ _ _ rfl rfl (keyOf_int_mk Tryd.underlying5 (WalkArith.wf_u8 (by omega))) _ [] (plainElem_int Tryd.underlying5 (WalkArith.wf_u8 (by omega))) ?_; intro w1 hown1 hgrow1)
  have HM1 := Lib.hid (show MapIs w1 w.heap.size 2 3 from hown1)
  have B1 := Lib.hid (B0.out.grown hgrow1 (by simp) (fun k e => by cases e; exact Nat.le_refl _))
  clear hown1 hgrow1 hmm
  refine (operationBy_any w.heap.size _).mono ?_
  rintro e w2 ⟨rfl, hg2, hb2⟩
  have HM2 := Lib.hid (HM1.out.below hb2)
  have B2 := Lib.hid (B1.out.trans (hb2.mono B1.out.size))
  have HG2 := Lib.hid hg2
  clear hb2 hg2
  go_wp2_with fail
  refine (HON.out _ _ B2.out HM2.out HG2.out).mono ?_
  rintro e w3 ⟨A3, c3, r3, er3, rfl, hq3, ho3, hb3⟩
  have HQ3 := Lib.hid hq3
  clear hq3
  go_wp2_with fail
  go_ret2
  exact ⟨A3, c3, r3, er3, rfl, HQ3.out, ho3.lower B2.out.size, B2.out.trans (hb3.mono B2.out.size)⟩

set_option maxRecDepth 100000 in
set_option maxHeartbeats 1000000 in
theorem strike_v (l : List Vt) (n : List UInt8) (A : Option Addr) (c : Nat) (w : World) (hr : Rvt w w.heap.size A c l) (hn : VtOk l) (hT : Tab w) :
    Calls Tryd.prog 15 #[.slice A l.length c, .string ⟨n.toArray⟩] w (VtsErr w (doneV l n 4)) := by
  have HON := Lib.hid (fun (g : Nat) wx (hb : Below w.heap.size w wx) (hm : MapIs wx w.heap.size 1 4) (hg : Blk wx g 72 #[.map (some w.heap.size)]) => on_any l n 1 4 w.heap.size g A c wx ((hr.below hb).more hb.size) hn (hT.below (Nat.le_refl _) hb) hm hg (by omega))
  have HM0 := Lib.hid (World.ownsMap_made (H := Unit) w Tryd.prog 5 (plainElem Tryd.prog 5))
  have B0 := Lib.hid (below_new w (.map #[] 0))
  have hmm := @run_makeMap Tryd.prog
  clear hr hn hT
  go_enter Tryd.func15, Tryd.ntmps15
  go_wp2_with (refine wpList_insert_own _ rfl _ _ _ 72 rfl 5 5 u8law Tryd.underlying72 _ w.heap.size _ _ rfl HM0.out (by unfold maxLen; omega) _ _ _ rfl rfl (keyOf_int_mk Tryd.underlying5 (WalkArith.wf_u8 (by omega))) _ [] (plainElem_int Tryd.underlying5 (WalkArith.wf_u8 (by omega))) ?_; intro w1 hown1 hgrow1)
  have HM1 := Lib.hid (show MapIs w1 w.heap.size 1 4 from hown1)
  have B1 := Lib.hid (B0.out.grown hgrow1 (by simp) (fun k e => by cases e; exact Nat.le_refl _))
  clear hown1 hgrow1 hmm
  refine (operationBy_any w.heap.size _).mono ?_
  rintro e w2 ⟨rfl, hg2, hb2⟩
  have HM2 := Lib.hid (HM1.out.below hb2)
  have B2 := Lib.hid (B1.out.trans (hb2.mono B1.out.size))
  have HG2 := Lib.hid hg2
  clear hb2 hg2
  go_wp2_with fail
  refine (HON.out _ _ B2.out HM2.out HG2.out).mono ?_
  rintro e w3 ⟨A3, c3, r3, er3, rfl, hq3, ho3, hb3⟩
  have HQ3 := Lib.hid hq3
  clear hq3
  go_wp2_with fail
  go_ret2
  exact ⟨A3, c3, r3, er3, rfl, HQ3.out, ho3.lower B2.out.size, B2.out.trans (hb3.mono B2.out.size)⟩

set_option maxRecDepth 100000 in
set_option maxHeartbeats 1000000 in
theorem restore_v (l : List Vt) (n : List UInt8) (A : Option Addr) (c : Nat) (w : World) (hr : Rvt w w.heap.size A c l) (hn : VtOk l) (hT : Tab w) :
    Calls Tryd.prog 16 #[.slice A l.length c, .string ⟨n.toArray⟩] w (VtsErr w (doneV l n 5)) := by
  have HON := Lib.hid (fun (g : Nat) wx (hb : Below w.heap.size w wx) (hm : MapIs wx w.heap.size 4 1) (hg : Blk wx g 72 #[.map (some w.heap.size)]) => on_any l n 4 1 w.heap.size g A c wx ((hr.below hb).more hb.size) hn (hT.below (Nat.le_refl _) hb) hm hg (by omega))
  have HM0 := Lib.hid (World.ownsMap_made (H := Unit) w Tryd.prog 5 (plainElem Tryd.prog 5))
  have B0 := Lib.hid (below_new w (.map #[] 0))
  have hmm := @run_makeMap Tryd.prog
  clear hr hn hT
  go_enter Tryd.func16, Tryd.ntmps16
  go_wp2_with (refine wpList_insert_own _ rfl _ _ _ 72 rfl 5 5 u8law Tryd.underlying72 _ w.heap.size _ _ rfl HM0.out (by unfold maxLen; omega) _ _ _ rfl rfl (keyOf_int_mk Tryd.underlying5 (WalkArith.wf_u8 (by omega))) _ [] (plainElem_int Tryd.underlying5 (WalkArith.wf_u8 (by omega))) ?_; intro w1 hown1 hgrow1)
  have HM1 := Lib.hid (show MapIs w1 w.heap.size 4 1 from hown1)
  have B1 := Lib.hid (B0.out.grown hgrow1 (by simp) (fun k e => by cases e; exact Nat.le_refl _))
  clear hown1 hgrow1 hmm
  refine (operationBy_any w.heap.size _).mono ?_
  rintro e w2 ⟨rfl, hg2, hb2⟩
  have HM2 := Lib.hid (HM1.out.below hb2)
  have B2 := Lib.hid (B1.out.trans (hb2.mono B1.out.size))
  have HG2 := Lib.hid hg2
  clear hb2 hg2
  go_wp2_with fail
  refine (HON.out _ _ B2.out HM2.out HG2.out).mono ?_
  rintro e w3 ⟨A3, c3, r3, er3, rfl, hq3, ho3, hb3⟩
  have HQ3 := Lib.hid hq3
  clear hq3
  go_wp2_with fail
  go_ret2
  exact ⟨A3, c3, r3, er3, rfl, HQ3.out, ho3.lower B2.out.size, B2.out.trans (hb3.mono B2.out.size)⟩
end Go.Proofs.YtikhffdbjelanaaDoor
namespace Go.Proofs.YtikhffdbjelanaaDoor
open Go.RowKit
set_option linter.unusedVariables false

theorem putL_splice : ∀ (vs xs : List Value) (o : Nat), o + vs.length ≤ xs.length → putL xs o vs = xs.take o ++ vs ++ xs.drop (o + vs.length)
  | [], xs, o, h => by simp [putL]
  | v :: vs, xs, o, h => by
    simp only [List.length_cons] at h
    unfold putL
    rw [putL_splice vs (xs.set o v) (o + 1) (by rw [List.length_set]; omega), list_seg_step xs o v vs h]
    rfl
section
variable {α : Type} {n : Nat} {f : α → List Value} (hf : ∀ x, (f x).length = n)
include hf in
theorem flatK_take (xs : List α) (j : Nat) (h : j ≤ xs.length) : (flatK f xs).take (j * n) = flatK f (xs.take j) := by
  have e : flatK f xs = flatK f (xs.take j) ++ flatK f (xs.drop j) := by rw [← flatK_append, List.take_append_drop]
  have hl : (flatK f (xs.take j)).length = j * n := by rw [flatK_len hf, List.length_take, Nat.min_eq_left h]
  rw [e, ← hl, List.take_left]
include hf in
theorem flatK_drop (xs : List α) (j : Nat) (h : j ≤ xs.length) : (flatK f xs).drop (j * n) = flatK f (xs.drop j) := by
  have e : flatK f xs = flatK f (xs.take j) ++ flatK f (xs.drop j) := by rw [← flatK_append, List.take_append_drop]
  have hl : (flatK f (xs.take j)).length = j * n := by rw [flatK_len hf, List.length_take, Nat.min_eq_left h]
  rw [e, ← hl, List.drop_left]
include hf in
theorem flatK_splice (xs m : List α) (j : Nat) (h : j + m.length ≤ xs.length) : putL (flatK f xs) (j * n) (flatK f m) = flatK f (xs.take j ++ m ++ xs.drop (j + m.length)) := by
  have hm : j * n + (flatK f m).length = (j + m.length) * n := by rw [flatK_len hf, Nat.add_mul]
  rw [putL_splice _ _ _ (by rw [hm, flatK_len hf]; exact Nat.mul_le_mul_right _ h), hm, flatK_take hf xs j (by omega), flatK_drop hf xs _ h, flatK_append, flatK_append]
variable {w : World} {base e c g : Nat} {xs : List α}
include hf in
/-- copy into a slice of structs of the call's own. -/
theorem run_copy_k {P : Program} (h1 : ∀ x, ∀ u ∈ f x, u.oneCell' = true) (h : OwK n f w base e (some ⟨g, 0, none⟩) c xs) (dT sT ty elem : TypeId) (hu : P.underlying dT = some (.slice elem)) (hs : (P.info? elem).map (·.size) = some n)
    (m : List α) (j dLen dCap sCap B : Nat) (ad : Addr) (hr : Rk n f w B (some ad) sCap m) (hd : m.length ≤ dLen) (hj : j + m.length ≤ xs.length) :
    ∃ w', (Builtin.copy_ #[dT, sT] ty #[.slice (some ⟨g, j * n, none⟩) dLen dCap, .slice (some ad) m.length sCap]).run P w = .ok (goInt m.length) w' ∧ OwK n f w' base e (some ⟨g, 0, none⟩) c (xs.take j ++ m ++ xs.drop (j + m.length)) ∧ w.grownBy w' (some g) := by
  have hml : (flatK f m).length = m.length * n := flatK_len hf m
  have hcells : ∀ i u, (flatK f m)[i]? = some u → w.cell? (ad.add i) = some u := by
    intro i u hu
    have hi := (List.getElem?_eq_some_iff.1 hu).1
    rw [hml] at hi
    have hn0 : 0 < n := Nat.pos_of_ne_zero (fun e => by rw [e] at hi; omega)
    have hd : i / n < m.length := Nat.div_lt_of_lt_mul (by rwa [Nat.mul_comm] at hi)
    have hm := Nat.mod_lt i hn0
    have e1 : i / n * n + i % n = i := by rw [Nat.mul_comm]; exact Nat.div_add_mod i n
    have h2 := flatK_get hf m (i / n) hd (i % n) hm
    rw [e1, hu] at h2
    have := (hr.cell ad rfl (i / n) hd).2 (i % n) u h2.symm
    rwa [e1] at this
  have hfit : j * n + (flatK f m).length ≤ (flatK f xs).length := by rw [hml, flatK_len hf, ← Nat.add_mul]; exact Nat.mul_le_mul_right _ hj
  have hl := run_loadCells_list (P := P) w ad (flatK f m) hcells
  have hst := run_storeCells_cells (P := P) g (j * n) (flatK f m) 0 w
    (fun i hi => by
      have hlt : j * n + 0 + i < xs.length * n := by simp only [flatK_len hf] at hfit hi; omega
      rw [World.ownsRow.cellAt h _ hlt, List.getElem?_eq_getElem (by rw [flatK_len hf]; exact hlt)]; rfl)
    (fun i hi => OwK.frozen h _) (flatK_one h1 m)
  obtain ⟨h3, h4⟩ := owns_setCells (flatK f m) (j * n) w _ h hfit
  refine ⟨w.setCells g (j * n) (flatK f m), ?_, ?_, h4⟩
  · cases hq : P.info? elem with
    | none => simp [hq] at hs
    | some i =>
      have hi : i.size = n := by simpa [hq] using hs
      rw [hml] at hl
      have hmin : Nat.min m.length dLen = m.length := Nat.min_eq_left hd
      simp [Builtin.copy_, run_underlying hu, Builtin.lenOf, Builtin.firstCells, sizeOf, typeInfo, hq, hi, hmin, hl, hst]
  · unfold OwK
    have hlen : (xs.take j ++ m ++ xs.drop (j + m.length)).length = xs.length := by simp; omega
    rw [hlen, ← flatK_splice hf xs m j hj]
    exact h3
include hf in
theorem wpList_copy_k {P : Program} (h1 : ∀ x, ∀ u ∈ f x, u.oneCell' = true) {ops : Array Oper} {rest : List Oper} {o : Oper} {a : Act} {Q : Exit → Act → World → Prop} (hgd : o.guard = none) (d s : Operand) (dT sT : TypeId)
    (ho : o.op = .call { callee := .builtin .copy, args := #[d, s], argTypes := #[dT, sT] }) (elem : TypeId) (hu : P.underlying dT = some (.slice elem)) (hs : (P.info? elem).map (·.size) = some n)
    (h : OwK n f w base e (some ⟨g, 0, none⟩) c xs) (m : List α) (j off dLen dCap sCap B : Nat) (ad : Addr) (hoff : off = j * n) (hdv : a.eval d = .slice (some ⟨g, off, none⟩) dLen dCap) (hsv : a.eval s = .slice (some ad) m.length sCap) (hr : Rk n f w B (some ad) sCap m) (hd : m.length ≤ dLen) (hj : j + m.length ≤ xs.length)
    (hK : ∀ w' r, Hid (r = xs.take j ++ m ++ xs.drop (j + m.length)) → OwK n f w' base e (some ⟨g, 0, none⟩) c r → w.grownBy w' (some g) → wpList P ops Q rest (a.put o.dst (goInt m.length)) w') : wpList P ops Q (o :: rest) a w := by
  subst hoff
  refine wpList_plain hgd fun K hK' => ?_
  obtain ⟨w', hrun, h2, h3⟩ := run_copy_k hf (P := P) h1 h dT sT o.type elem hu hs m j dLen dCap sCap B ad hr hd hj
  unfold Oper.wp execOp
  simp only [ho, resolve, invoke, builtin, Sem.run_bind, Sem.run_pure, Result.andThen_ok, List.map_toArray, List.map_cons, List.map_nil, hdv, hsv, hrun]
  exact hK' _ _ (hK w' _ rfl h2 h3)
include hf in
theorem step_copy_k {P : Program} (h1 : ∀ x, ∀ u ∈ f x, u.oneCell' = true) {ops : Array Oper} {o : Oper} {a : Act} {K : Act → World → Prop} {Q : Exit → Act → World → Prop} {E : Prop} (hgd : o.guard = none) (d s : Operand) (dT sT : TypeId)
    (ho : o.op = .call { callee := .builtin .copy, args := #[d, s], argTypes := #[dT, sT] }) (elem : TypeId) (hu : P.underlying dT = some (.slice elem)) (hs : (P.info? elem).map (·.size) = some n)
    (h : OwK n f w base e (some ⟨g, 0, none⟩) c xs) (m : List α) (j off dLen dCap sCap B : Nat) (ad : Addr) (hoff : off = j * n) (hdv : a.eval d = .slice (some ⟨g, off, none⟩) dLen dCap) (hsv : a.eval s = .slice (some ad) m.length sCap) (hr : Rk n f w B (some ad) sCap m) (hd : m.length ≤ dLen) (hj : j + m.length ≤ xs.length)
    (hK : ∀ w' r, Hid (r = xs.take j ++ m ++ xs.drop (j + m.length)) → OwK n f w' base e (some ⟨g, 0, none⟩) c r → w.grownBy w' (some g) → K (a.put o.dst (goInt m.length)) w') :
    if Region.wanted o (yielded ops a.tmps) = true then Oper.wp P o a w K Q else E := by
  have hw : Region.wanted o (yielded ops a.tmps) = true := by simp [Region.wanted, hgd]
  rw [if_pos hw]
  subst hoff
  obtain ⟨w', hrun, h2, h3⟩ := run_copy_k hf (P := P) h1 h dT sT o.type elem hu hs m j dLen dCap sCap B ad hr hd hj
  unfold Oper.wp execOp
  simp only [ho, resolve, invoke, builtin, Sem.run_bind, Sem.run_pure, Result.andThen_ok, List.map_toArray, List.map_cons, List.map_nil, hdv, hsv, hrun]
  exact hK w' _ rfl h2 h3
end

/-- 'append(s, make([]T, k)...)' where s has no room for k more. -/
theorem wpList_append_zeros_k {P : Program} (w : World) {α : Type} {n : Nat} {f : α → List Value} (hn : ∀ x, (f x).length = n) {ops : Array Oper} {rest : List Oper} {o : Oper} {a : Act} {Q : Exit → Act → World → Prop} (hgd : o.guard = none) (s x : Operand) (t tn : TypeId)
    (ho : o.op = .call { callee := .builtin .append, args := #[s, x], argTypes := #[t, tn] })
    (e bt : Nat) (i : TypeInfo) (z : Value) (ht : P.underlying t = some (.slice e)) (htn : P.underlying tn = some (.int .i64)) (hi : P.info? e = some i) (hz : i.zero = some z) (hsize : i.size = n) (hn0 : 0 < n) (hby : i.bytes = bt) (hbt : bt ≤ 400) (x0 : α) (hx0 : f x0 = z.cells.toList)
    {b : Addr} {c B : Nat} (l : List α) (k : Nat) (hs : a.eval s = .slice (some b) l.length c) (hx : a.eval x = .int .i64 k) (hrl : Rk n f w B (some b) c l) (hfull : c < l.length + k) (hk : 0 < k)
    (hle : l.length + k ≤ 1000000)
    (h : ∀ c' w' r, Hid (r = l ++ List.replicate k x0) → OwK n f w' w.heap.size e (some ⟨w.heap.size, 0, none⟩) c' r → Below w.heap.size w w' → wpList P ops Q rest (a.put o.dst (.slice (some ⟨w.heap.size, 0, none⟩) r.length c')) w') :
    wpList P ops Q (o :: rest) a w := by
  have hzs : z.cells.size = n := by rw [← hn x0, hx0]; simp
  have cells : ∀ j u, (flatK f l)[j]? = some u → w.drew.cell? (b.add j) = some u := by
    intro j u hu
    have hj := (List.getElem?_eq_some_iff.1 hu).1
    rw [flatK_len hn] at hj
    have hd : j / n < l.length := Nat.div_lt_of_lt_mul (by rwa [Nat.mul_comm] at hj)
    have hm := Nat.mod_lt j hn0
    have e1 : j / n * n + j % n = j := by rw [Nat.mul_comm]; exact Nat.div_add_mod j n
    have h2 := flatK_get hn l (j / n) hd (j % n) hm
    rw [e1, hu] at h2
    have := (hrl.cell b rfl (j / n) hd).2 (j % n) u h2.symm
    rwa [e1] at this
  have hold : (Builtin.firstCells i.size l.length (.slice (some b) l.length c)).run P w.drew = .ok (flatK f l).toArray w.drew :=
    run_firstCells_some w.drew i.size l.length b l.length c (flatK f l) (by rw [flatK_len hn, hsize]) cells
  have hb1 := Nat.mul_le_mul hle hbt
  have hb2 : k * bt ≤ 1000000 * 400 := Nat.mul_le_mul (by omega) hbt
  have hrun := Lib.run_append_grow_zeros (P := P) w t tn o.type e i z .i64 .i64 ht htn hi hz (some b) l.length c (flatK f l) hold k hk (by omega) hfull (by omega) (by rw [hby]; omega) (growslice_fits hfull (by rw [hby]; omega))
  have hge := grownCap_ge w (l.length + k) c e
  have hcm := grownCap_le_maxLen w (l.length + k) c e (by simp only [maxLen]; omega)
  generalize grownCap w (l.length + k) c e = cap at hrun hge hcm
  refine wpList_plain hgd fun K hK => ?_
  unfold Oper.wp execOp
  simp only [ho, resolve, invoke, builtin, Sem.run_bind, Sem.run_pure, Result.andThen_ok, List.map_toArray, List.map_cons, List.map_nil, hs, hx, hrun]
  have hzf : (Builtin.zeroCells z.cells k).toList = flatK f (List.replicate k x0) := by
    have := made_flat hn z.cells x0 hx0 k
    rw [← this, ← hzs]; rfl
  have hlen : (flatK f l ++ flatK f (List.replicate k x0)).length = (l ++ List.replicate k x0).length * n := by rw [← flatK_append, flatK_len hn]
  have key := h cap _ (l ++ List.replicate k x0) rfl (show OwK n f (w.drew.alloc (.cells ((flatK f l).toArray ++ Builtin.zeroCells z.cells k ++ Builtin.zeroCells z.cells (cap - (l.length + k))) e)) w.heap.size e (some ⟨w.heap.size, 0, none⟩) cap (l ++ List.replicate k x0) from by
    refine ⟨by rw [flatK_len hn], .inr ⟨w.heap.size, cap, _, rfl, Nat.le_refl _, heap_alloc_new w.drew _, by rw [List.length_append, List.length_replicate]; exact hge, hcm, ?_, ?_⟩⟩
    · simp only [Array.size_append, List.size_toArray, size_zeroCells, hzs, flatK_len hn, ← Nat.add_mul]
      congr 1
      omega
    · simp only [Array.toList_append, List.append_assoc, flatK_append, hzf]
      rw [← List.append_assoc, ← hlen]
      exact List.take_left) ((Below.refl _ w).drew.alloc (Nat.le_refl _) _)
  rw [List.length_append, List.length_replicate] at key
  exact hK _ _ key

set_option maxRecDepth 100000 in
set_option maxHeartbeats 2000000 in
/-- slices.Insert of one voter into a full slice. -/
theorem insert_any (l : List Vt) (x : Vt) (p g0 gv : Nat) (w : World) (hp : p ≤ l.length) (hl : l.length ≤ 100000) (hr : Rvt w w.heap.size (some ⟨g0, 0, none⟩) l.length l) (hv : Rvt w w.heap.size (some ⟨gv, 0, none⟩) 1 [x]) :
    Calls Tryd.prog 38 #[.slice (some ⟨g0, 0, none⟩) l.length l.length, .int .i64 (p : Nat), .slice (some ⟨gv, 0, none⟩) 1 1] w fun e w' =>
      ∃ (c' : Nat) (r : List Vt), e = .returned (.slice (some ⟨w.heap.size, 0, none⟩) r.length c') ∧ r = l.take p ++ x :: l.drop p ∧ OwV w' w.heap.size (some ⟨w.heap.size, 0, none⟩) c' r ∧ Below w.heap.size w w' := by
  obtain ⟨i0, hi0, hz0, hz1, hz2⟩ := info_parts vInfo
  have HR := Lib.hid hr
  have HV := Lib.hid hv
  clear hr hv
  have hpi : (p : Int) ≤ (l.length : Int) := by omega
  by_cases he : p = l.length
  · have hei : (p : Int) = (l.length : Int) := by omega
    have HT := Lib.hid (show l ++ [x] = l.take p ++ x :: l.drop p by rw [he, List.take_of_length_le (Nat.le_refl _), List.drop_eq_nil_of_le (Nat.le_refl _)])
    subst he
    clear hei hpi
    go_enter Tryd.func38, Tryd.ntmps38
    go_wp2_with (at_builtin; (refine wpList_append_full _ vl_len rfl _ _ 22 rfl 30 32 i0 _ Tryd.underlying22 hi0 hz0 hz1 (by omega) hz2 (by omega) rfl l [x] rfl rfl HR.out HV.out (by simp; omega) (by simp) ?_; intro c1 w1 r1 hr1 ho1 hb1))
    go_ret
    exact ⟨c1, r1, rfl, by rw [hr1.out]; exact HT.out, ho1, hb1⟩
  · have hei : ¬ (p : Int) = (l.length : Int) := by omega
    have hpl : p < l.length := by omega
    obtain ⟨l1, hl1⟩ : ∃ l1, l1 = l.take p := ⟨_, rfl⟩
    obtain ⟨l2, hl2⟩ : ∃ l2, l2 = l.drop p := ⟨_, rfl⟩
    have hn1 : l1.length = p := by rw [hl1, List.length_take]; omega
    have hn2 : l2.length = l.length - p := by rw [hl2, List.length_drop]
    obtain ⟨q, hq⟩ : ∃ q, q = l.length + 1 - p := ⟨_, rfl⟩
    have eq1 : (l.length : Int) + 1 - (p : Int) = (q : Int) := by omega
    have HN1 := Lib.hid hn1
    have HN2 := Lib.hid hn2
    have HQ := Lib.hid hq
    have HT := Lib.hid (show l1 ++ x :: l2 = l.take p ++ x :: l.drop p by rw [hl1, hl2])
    have HR1 := Lib.hid (show Rvt w w.heap.size (some ⟨g0, 0, none⟩) l.length l1 from by
      refine ⟨by rw [hn1]; omega, HR.out.capm, (fun e => by cases e), fun ad e j hj => ?_⟩
      have h := HR.out.cell ad e j (by omega)
      have e1 : l1[j] = l[j]'(by omega) := by simp [hl1]
      rw [e1]
      exact h)
    have HR2 := Lib.hid (show Rvt w w.heap.size (some ⟨g0, p * 3, none⟩) (l.length - p) l2 from by
      refine ⟨by rw [hn2]; exact Nat.le_refl _, by have := HR.out.capm; omega, (fun e => by cases e), fun ad e j hj => ?_⟩
      obtain rfl := Option.some.inj e
      have h := HR.out.cell _ rfl (p + j) (by omega)
      have e1 : l2[j] = l[p + j]'(by omega) := by simp [hl2]
      rw [e1]
      refine ⟨h.1, fun i u hu => ?_⟩
      have h2 := h.2 i u hu
      rw [add_plain] at h2 ⊢
      rw [← h2]
      congr 2
      omega)
    clear hl1 hl2 hn1 hn2 hq he
    have hci : ¬ (l.length = p) := by omega
    have hfull : ¬ (l.length + 1 ≤ l.length) := by omega
    go_enter Tryd.func38, Tryd.ntmps38
    go_wp2_with (first
      | (at_builtin; (refine wpList_append_zeros_k _ vl_len rfl (.tmp 34) (.tmp 39) 22 3 rfl 30 32 i0 _ Tryd.underlying22 Tryd.underlying3 hi0 hz0 hz1 (by omega) hz2 (by omega) zeroV rfl l1 q (by rw [HN1.out]; rfl) rfl HR1.out (by have := HN1.out; have := HQ.out; omega) (by have := HQ.out; omega) (by have := HN1.out; have := HQ.out; omega) ?_; intro c9 w9 r9 hr9 ho9 hb9; have HB9 := Lib.hid hb9; have HO9 := Lib.hid ho9; have HL9 := Lib.hid (show r9.length = l.length + 1 by rw [hr9.out, List.length_append, List.length_replicate, HN1.out, HQ.out]; omega); have hp9 : (p : Int) ≤ (r9.length : Int) := (by have := HL9.out; omega); have hq9 : (p : Int) + 1 ≤ (r9.length : Int) := (by have := HL9.out; omega); have hc9 : r9.length ≤ c9 := (HO9.out.rd vl_len).cap; have hci9 : (r9.length : Int) ≤ (c9 : Int) := (by omega); have hne9 : ¬ (c9 = p) := (by have := HL9.out; omega); have hne10 : ¬ (c9 = p + 1) := (by have := HL9.out; omega); have hcm9 := (HO9.out.rd vl_len).capm; clear hb9 ho9))
      | ((refine wpList_copy_k vl_len vl_one rfl (.tmp 43) (.tmp 44) 22 22 rfl 30 Tryd.underlying22 size_vt HO9.out [x] p (p * 3) (r9.length - p) (c9 - p) 1 w.heap.size ⟨gv, 0, none⟩ rfl rfl rfl (HV.out.below HB9.out) (by have := HL9.out; simp; omega) (by have := HL9.out; simp; omega) ?_); intro w10 r10 hr10 ho10 hg10; have HO10 := Lib.hid ho10; have HB10 := Lib.hid (HB9.out.grown hg10 HB9.out.size (fun k e => by cases e; exact Nat.le_refl _)); have HL10 := Lib.hid (show r10.length = l.length + 1 by rw [hr10.out]; have := HL9.out; simp; omega); clear ho10 hg10))
    have HA10 := Lib.hid (HR2.out.below HB10.out)
    have hw1 : IntKind.i64.wrap ((p : Int) + 1) = (p : Int) + 1 := by rw [IntKind.wrap_i64]; omega
    have hb1 : (0 : Int) ≤ (p : Int) + 1 := by omega
    have htn : ((p : Int) + 1).toNat = p + 1 := by omega
    have hb0 : (0 : Int) ≤ (p : Int) := by omega
    go_region_held3 (fun _ => True) (trivial) (first
      | (refine step_copy_k vl_len vl_one rfl (.tmp 50) (.tmp 53) 22 22 rfl 30 Tryd.underlying22 size_vt (OwK.drew HO10.out) l2 (p + 1) ((p + 1) * 3) (r9.length - (p + 1)) (c9 - (p + 1)) (l.length - p) w.heap.size ⟨g0, p * 3, none⟩ rfl rfl (by rw [HN2.out]; rfl) HA10.out.drew (by have := HL9.out; have := HN2.out; omega) (by have := HL10.out; have := HN2.out; omega) ?_; intro w11 r11 hr11 ho11 hg11))
    have HR11 := Lib.hid (show r11 = l1 ++ x :: l2 by
      have h1 : r9.take p = l1 := by rw [hr9.out, ← HN1.out, List.take_left]
      have h2 : r10.take (p + 1) = l1 ++ [x] := by
        have hl : (l1 ++ [x]).length = p + 1 := by rw [List.length_append, HN1.out]; rfl
        rw [hr10.out, h1, ← hl, List.take_left]
      have h3 : r10.drop (p + 1 + l2.length) = [] := List.drop_eq_nil_of_le (by have := HL10.out; have := HN2.out; omega)
      rw [hr11.out, h2, h3]
      simp)
    have HL11 := Lib.hid (show r11.length = r9.length by rw [HR11.out, HL9.out]; have := HN1.out; have := HN2.out; simp; omega)
    have B11 := Lib.hid (HB10.out.drew.grown hg11 HB10.out.size (fun k e => by cases e; exact Nat.le_refl _))
    have HO11 := Lib.hid ho11
    clear ho11 hg11
    go_wp2_with fail
    go_ret
    exact ⟨c9, r11, by rw [HL11.out] <;> rfl, by rw [HR11.out]; exact HT.out, HO11.out, B11.out⟩
end Go.Proofs.YtikhffdbjelanaaDoor
