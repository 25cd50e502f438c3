/- digest's pad. -/
import Derived.Test.YtipclieldokfnaaDoorByte
import Derived.Laws.CopyOwn
import Derived.Laws.MakeOwn
import Derived.OwnWalk
namespace Go.Proofs.YtipclieldokfnaaDoor
open Go.RowKit
set_option linter.unusedVariables false

theorem bInfo : (Tryd.prog.info? 5).map (fun i => (i.zero, i.size, i.bytes)) = some (some (.int .u8 0), 1, 1) := by kernel_rfl
theorem bSize : (Tryd.prog.info? 5).map (·.size) = some 1 := by kernel_rfl
theorem hb_made (w : World) (n : Nat) : Hb bv (w.alloc (.cells (madeCells #[.int .u8 0] (n * 1)) 5)) w.heap.size 5 (List.replicate n 0) := by
  have e : ((List.replicate n (0 : UInt8)).map bv).toArray = madeCells #[.int .u8 0] (n * 1) := by
    apply Array.toList_inj.1
    rw [toList_madeCells_one, List.map_replicate, Nat.mul_one]
    rfl
  exact Hb.new bv w _ _ _ e
theorem wpList_make_hb (w : World) {ops : Array Oper} {rest : List Oper} {o : Oper} {a : Act} {Q : Exit → Act → World → Prop}
    (hg : o.guard = none) (l c : Operand) (hop : o.op = Op.makeSlice 36 l c) (C : Int) (n : Nat) (hl : a.eval l = .int .i64 C) (hc : a.eval c = .int .i64 C) (hC : C = (n : Int)) (hn : n ≤ 1000000)
    (hK : ∀ w', Hb bv w' w.heap.size 5 (List.replicate n 0) → Below w.heap.size w w' → w.heap.size < w'.heap.size → wpList Tryd.prog ops Q rest (a.put o.dst (.slice (some ⟨w.heap.size, 0, none⟩) n n)) w') :
    wpList Tryd.prog ops Q (o :: rest) a w := by
  obtain ⟨i, hi, hz0, hz1, hz2⟩ := info_parts bInfo
  refine wpList_plain hg fun K hK' => ?_
  have hrun := run_make (P := Tryd.prog) w 36 5 i _ Tryd.underlying36 hi hz0 .i64 .i64 (n : Int) (n : Int) (by omega) (by omega) (by rw [hz2]; omega) (by omega)
  subst hC
  simp only [Int.toNat_natCast] at hrun
  rw [hz1] at hrun
  unfold Oper.wp
  simp [execOp, hop, hl, hc, hrun, Result.andThen]
  refine hK' _ _ (hK _ ?_ (below_new _ _) (by simp))
  have := hb_made w n
  rwa [Nat.mul_one] at this
theorem bvs_one {L : List UInt8} : ∀ v ∈ L.map bv, v.oneCell' = true := by intro v hv; obtain ⟨x, _, rfl⟩ := List.mem_map.1 hv; rfl
theorem copy_pos {α : Type} {f : α → Value} {w : World} {B c g : Nat} {A : Option Addr} {L : List α} (hr : Rf f w B A c L) :
    0 < (L.map f).length → (some (⟨g, 0, none⟩ : Addr)) = some ⟨g, 0, none⟩ ∧ ∃ ad, A = some ad ∧ ∀ j v, (L.map f)[j]? = some v → w.cell? (ad.add j) = some v := by
  intro hp
  refine ⟨rfl, ?_⟩
  obtain ⟨b, o, rfl, hb, hc⟩ := hr.at_ (k := 0) (by simpa using hp)
  exact ⟨_, rfl, fun j v hv => hr.news j v hv⟩

theorem pad_list (l : List UInt8) (n : Nat) (hn : n = (l.length + 72) / 64 * 64) : put ((l ++ List.replicate (n - l.length) (0 : UInt8)).set l.length 128) (n - 8) (beN 8 (8 * l.length)) = padB l := by
  have e1 : (l ++ List.replicate (n - l.length) (0 : UInt8)).set l.length 128 = l ++ 128 :: List.replicate (n - l.length - 1) 0 := by
    rw [List.set_append_right (h := Nat.le_refl _), Nat.sub_self, show n - l.length = (n - l.length - 1) + 1 by omega, List.replicate_succ, List.set_cons_zero]
    rfl
  have e2 : zlen l.length = n - 8 - l.length - 1 := by unfold zlen; omega
  rw [e1]
  unfold put padB
  rw [e2, List.drop_of_length_le (by simp [beN_len]; omega), List.append_nil, List.take_append, List.take_of_length_le (by omega), List.append_assoc]
  congr 1
  rw [show n - 8 - l.length = (n - 8 - l.length - 1) + 1 by omega, List.take_succ_cons, List.take_replicate, List.cons_append]
  congr 3
  omega
set_option maxHeartbeats 1000000 in
theorem pad_any (A : Option Addr) (c B : Nat) (l : List UInt8) (w : World) (hr : Rf bv w B A c l) (hB : B ≤ w.heap.size) (hl : l.length ≤ 100000) :
    Calls Tryd.prog 61 #[.slice A l.length c] w fun e w' => ∃ n, e = .returned (.slice (some ⟨w.heap.size, 0, none⟩) n n) ∧ Hid (n = (padB l).length) ∧ Hb bv w' w.heap.size 5 (padB l) ∧ Below w.heap.size w w' ∧ w.heap.size < w'.heap.size := by
  obtain ⟨n, hn⟩ : ∃ n, n = (l.length + 72) / 64 * 64 := ⟨_, rfl⟩
  have hn1 : l.length + 9 ≤ n := by omega
  have hn2 : n ≤ l.length + 72 := by omega
  have HN := Lib.hid hn
  have hsz : ((l.length : Int) + 1 + 8 + 64 - 1) / 64 * 64 = (n : Int) := by omega
  clear hn
  go_enter Tryd.func61, Tryd.ntmps61
  go_wp2_with (first
    | (at_make; refine wpList_make_hb _ rfl _ _ rfl _ n rfl rfl rfl (by omega) ?_; intro w1 hu1 hb1 hs1)
    | ((with_reducible refine wpList_copy_splice rfl (.tmp 17) (.tmp 18) 36 36 rfl 5 Tryd.underlying36 bSize _ A n n l.length c rfl rfl w.heap.size 0 ((List.replicate n 0).map bv) 5 hu1.heap (l.map bv) (by rw [List.length_map]; exact (Nat.min_eq_left (by omega)).symm) (copy_pos (hr.below (hb1.mono hB))) (by simp; omega) bvs_one w.heap.size w hb1 (Nat.le_refl _) ?_); intro w2 hu2 hb2; have hu3 : Hid (Hb bv w2 w.heap.size 5 (l ++ List.replicate (n - l.length) 0)) := (by have e := hu2.out; unfold Hb Blk Hid; rw [e]; congr 3; unfold splice; simp); have hc3 := hu3.out.cell (i := l.length) (by rw [List.length_append, List.length_replicate]; omega); have hf3 := hu3.out.frozen l.length; have hlt3 := hu3.out.lt))
  have e8 : n - (n - 8) = 8 := by omega
  rw [e8, show (8 * (l.length : Int)) = ((8 * l.length : Nat) : Int) by omega]
  refine (putInteger_any w.heap.size 5 (n - 8) 8 8 (8 * l.length) _ _ (hu3.out.set_ l.length 128 _ rfl) (by rw [List.length_set, List.length_append, List.length_replicate]; omega) (by omega) (by omega) (by omega) (by omega) (by rw [List.length_set, List.length_append, List.length_replicate]; omega)).mono ?_
  rintro e w3 ⟨⟨v, rfl⟩, h3, hg3⟩
  rw [pad_list l n HN.out] at h3
  have H3 := Lib.hid h3
  clear h3 e8
  go_wp2_with fail
  go_ret
  refine ⟨n, rfl, ?_, H3.out, ?_, ?_⟩
  · show n = (padB l).length
    rw [padB_len]; exact HN.out
  · exact (hb2.setCell (p := ⟨w.heap.size, l.length, none⟩) (Nat.le_refl _) _).grown hg3 (hb2.setCell (p := ⟨w.heap.size, l.length, none⟩) (Nat.le_refl _) _).size (fun k e => by cases e; omega)
  · exact H3.out.lt
end Go.Proofs.YtipclieldokfnaaDoor
