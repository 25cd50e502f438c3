/- fair's lotRequests and Lot; draw's Lot. -/
import Derived.Test.YtipclieldokfnaaDoorLotP
import Derived.Test.YtipclieldokfnaaDoorNumber
namespace Go.Proofs.YtipclieldokfnaaDoor
open Go.RowKit
set_option linter.unusedVariables false

theorem rInfo : (Tryd.prog.info? 68).map (fun i => (i.zero, i.size, i.bytes)) = some (some (.agg #[.int .u32 0, .int .u64 0]), 2, 16) := by kernel_rfl
theorem iInfo : (Tryd.prog.info? 3).map (fun i => (i.zero, i.size, i.bytes)) = some (some (.int .i64 0), 1, 8) := by kernel_rfl

/-- 'append(requests, r)': r has just been laid. -/
theorem run_append_rq (w : World) (base : Nat) {A : Option Addr} {c : Nat} {rs : List (Nat × Nat)} (r : Nat × Nat) (ty : Nat) (hown : OwQ w base A c rs) (hle : rs.length ≤ 1000000) (hbase : base ≤ w.heap.size) :
    ∃ A' c' w', (Builtin.append_ #[69, 69] ty #[.slice A rs.length c, .slice (some ⟨w.heap.size, 0, none⟩) 1 1]).run Tryd.prog (w.alloc (.cells #[.int .u32 r.1, .int .u64 r.2] 68)) = .ok (.slice A' (rs ++ [r]).length c') w' ∧
      OwQ w' base A' c' (rs ++ [r]) ∧ (w.alloc (.cells #[.int .u32 r.1, .int .u64 r.2] 68)).grownBy w' (blk A) := by
  obtain ⟨i0, hi, hz0, hz1, hz2⟩ := info_parts rInfo
  have hbk : Blk (w.alloc (.cells #[.int .u32 r.1, .int .u64 r.2] 68)) w.heap.size 68 #[.int .u32 r.1, .int .u64 r.2] := Blk.new w _ _
  obtain ⟨v', w', hrun, h2, h3, _, h5⟩ := run_append_own_at (P := Tryd.prog) (w.alloc (.cells #[.int .u32 r.1, .int .u64 r.2] 68)) base 69 ty 68 i0 _ 2 16 Tryd.underlying69 hi hz0 hz1 hz2 rfl (by omega) _ _ _ (World.ownsRow.alloc hown _)
    ⟨w.heap.size, 0, none⟩ 1 1 (rq r) rfl (fun j u hu => by
      rw [add_plain, Nat.zero_add, hbk.cell j, ← hu]
      unfold rq
      simp) (by intro u hu; exact rqs_one [r] u (by simpa [rqs] using hu)) (by simp only [maxLen]; omega) (by omega) (by simp; omega)
  have e1 : rqs rs ++ rq r = rqs (rs ++ [r]) := by rw [rqs_append]; simp [rqs]
  have e2 : rs.length + 1 = (rs ++ [r]).length := by simp
  rw [e1, e2] at h2
  have hform : ∃ A' c', v' = .slice A' (rs ++ [r]).length c' := by
    rcases h2.2 with ⟨rfl, hn⟩ | ⟨g, cap, cur, rfl, _⟩
    · exact ⟨none, 0, by rw [hn]⟩
    · exact ⟨_, _, rfl⟩
  obtain ⟨A', c', rfl⟩ := hform
  exact ⟨A', c', w', hrun, h2, by rw [own_block] at h3; exact h3⟩
theorem wpList_append_rq (w : World) {ops : Array Oper} {rest : List Oper} {o : Oper} {a : Act} {Q : Exit → Act → World → Prop} (hgd : o.guard = none) (s y : Operand)
    (ho : o.op = .call { callee := .builtin .append, args := #[s, y], argTypes := #[69, 69] })
    (base : Nat) {A : Option Addr} {c : Nat} (rs : List (Nat × Nat)) (r : Nat × Nat) (u v : Value) (hu : u = .int .u32 r.1) (hv : v = .int .u64 r.2) (hs : a.eval s = .slice A rs.length c) (hy : a.eval y = .slice (some ⟨w.heap.size, 0, none⟩) 1 1) (hown : OwQ w base A c rs) (hle : rs.length ≤ 1000000) (hbase : base ≤ w.heap.size)
    (h : ∀ A' c' w' qs, Hid (qs = rs ++ [r]) → OwQ w' base A' c' qs → (w.alloc (.cells #[u, v] 68)).grownBy w' (blk A) → wpList Tryd.prog ops Q rest (a.put o.dst (.slice A' qs.length c')) w') :
    wpList Tryd.prog ops Q (o :: rest) a (w.alloc (.cells #[u, v] 68)) := by
  subst hu hv
  refine wpList_plain hgd fun K hK => ?_
  obtain ⟨A', c', w', hrun, h2, h3⟩ := run_append_rq w base r o.type hown hle hbase
  unfold Oper.wp execOp
  simp only [ho, resolve, invoke, builtin, Sem.run_bind, Sem.run_pure, Result.andThen_ok, List.map_toArray, List.map_cons, List.map_nil, hs, hy, hrun]
  exact hK _ _ (h A' c' w' _ rfl h2 h3)

set_option maxRecDepth 100000 in
set_option maxHeartbeats 1000000 in
theorem lotRequests_any (n : Nat) (w : World) (hn : n ≤ 64) :
    Calls Tryd.prog 47 #[.int .i64 n] w fun e w' => ∃ A' c' rs, e = .returned (.slice A' rs.length c') ∧ rs = lotReqs n ∧ OwQ w' w.heap.size A' c' rs ∧ Below w.heap.size w w' := by
  have hi0 : (n : Int) - 1 ≤ 63 := by omega
  go_enter Tryd.func47, Tryd.ntmps47
  go_wp2_with fail
  go_loopw [3, 4] (fun v i wr => ∃ (j : Nat) (A1 : Option Addr) (c1 : Nat) (rs : List (Nat × Nat)), j ≤ n - 1 ∧ i = .int .i64 ((n : Int) - 1 - (j : Int)) ∧ v = .slice A1 rs.length c1 ∧ rs.length ≤ 64 ∧ Hid (rs = (List.range j).map (reqAt n)) ∧ Hid (OwQ wr w.heap.size A1 c1 rs) ∧ Hid (Below w.heap.size w wr))
    (fun _ i _ => (intOf i).toNat)
  case atStart => exact ⟨0, none, 0, [], by omega, by simp, rfl, by simp, rfl, World.ownsRow_nil w _ _ 2, Below.refl _ _⟩
  case round =>
    obtain ⟨j, A1, c1, rs, hj, rfl, rfl, hrl, hrs, hown, hbw⟩ := hrel
    by_cases hlt : j < n - 1
    · have hd : decide ((1 : Int) ≤ (n : Int) - 1 - (j : Int)) = true := by simp; omega
      have i1 : (0 : Int) ≤ (n : Int) - 1 - (j : Int) := by omega
      have i2 : (n : Int) - 1 - (j : Int) ≤ 64 := by omega
      have hsz := hbw.out.size
      have HU := Lib.hid (show Value.int .u32 ((n : Int) - 1 - (j : Int)) = .int .u32 ((reqAt n j).1 : Nat) by unfold reqAt; congr 1; dsimp only; omega)
      have HV := Lib.hid (show Value.int .u64 ((n : Int) - 1 - (j : Int) + 1) = .int .u64 ((reqAt n j).2 : Nat) by unfold reqAt; congr 1; dsimp only; omega)
      go_wp2_with (at_builtin; refine wpList_append_rq _ rfl _ _ rfl w.heap.size rs (reqAt n j) _ _ HU.out HV.out rfl rfl hown.out (by omega) hsz ?_; intro A2 c2 w2 qs hqs hown2 hg2)
      have hbn : Below w.heap.size w w2 := (hbw.out.alloc hsz _).grown hg2 (by simp; omega) (fun g hg => (World.ownsRow.lt hown.out g (by rw [own_block]; exact hg)).1)
      go_roundw
      case rel =>
        refine ⟨j + 1, A2, c2, qs, by omega, by congr 1; omega, rfl, by rw [hqs.out]; simp; rw [hrs.out]; simp; omega, ?_, hown2, hbn⟩
        show qs = _
        rw [hqs.out, hrs.out, List.range_succ, List.map_append]; rfl
      case measure => simp [intOf]; omega
    · have hd : decide ((1 : Int) ≤ (n : Int) - 1 - (j : Int)) = false := by simp; omega
      have he : Hid (rs = lotReqs n) := by
        have := hrs.out
        rw [show j = n - 1 by omega] at this
        exact this
      go_wp2_with fail
      go_ret
      exact ⟨A1, c1, rs, rfl, he.out, hown.out, hbw.out⟩
end Go.Proofs.YtipclieldokfnaaDoor
