/- nat's trim, twin, compare. -/
import Derived.Test.YtffbmkobholmhaaDoorOne
import Derived.Laws.CopyOwn
import Derived.Laws.MakeOwn
import Derived.OwnWalk
namespace Go.Proofs.YtffbmkobholmhaaDoor
open Go.RowKit
set_option linter.unusedVariables false

theorem uInfo : (Tryd.prog.info? 45).map (fun i => (i.zero, i.size, i.bytes)) = some (some (.int .u32 0), 1, 4) := by kernel_rfl
theorem uSize : (Tryd.prog.info? 45).map (·.size) = some 1 := by kernel_rfl
theorem ub_made (w : World) (n : Nat) : Ub (w.alloc (.cells (madeCells #[.int .u32 0] (n * 1)) 45)) w.heap.size 45 (List.replicate n 0) := by
  have e : ((List.replicate n (0 : UInt32)).map uv).toArray = madeCells #[.int .u32 0] (n * 1) := by
    apply Array.toList_inj.1
    rw [toList_madeCells_one, List.map_replicate, Nat.mul_one]
    rfl
  unfold Ub
  rw [e]
  exact Blk.new w _ _
theorem wpList_make_ub (w : World) {ops : Array Oper} {rest : List Oper} {o : Oper} {a : Act} {Q : Exit → Act → World → Prop}
    (hg : o.guard = none) (l c : Operand) (hop : o.op = Op.makeSlice 22 l c) (C : Int) (n : Nat) (hl : a.eval l = .int .i64 C) (hc : a.eval c = .int .i64 C) (hC : C = (n : Int)) (hn : n ≤ 1000000)
    (hK : ∀ w', Ub w' w.heap.size 45 (List.replicate n 0) → Below w.heap.size w w' → w.heap.size < w'.heap.size → wpList Tryd.prog ops Q rest (a.put o.dst (.slice (some ⟨w.heap.size, 0, none⟩) n n)) w') :
    wpList Tryd.prog ops Q (o :: rest) a w := by
  obtain ⟨i, hi, hz0, hz1, hz2⟩ := info_parts uInfo
  refine wpList_plain hg fun K hK' => ?_
  have hrun := run_make (P := Tryd.prog) w 22 45 i _ Tryd.underlying22 hi hz0 .i64 .i64 (n : Int) (n : Int) (by omega) (by omega) (by rw [hz2]; omega) (by omega)
  subst hC
  simp only [Int.toNat_natCast] at hrun
  rw [hz1] at hrun
  unfold Oper.wp
  simp [execOp, hop, hl, hc, hrun, Result.andThen]
  refine hK' _ _ (hK _ ?_ (below_new _ _) (by simp))
  have := ub_made w n
  rwa [Nat.mul_one] at this

set_option maxHeartbeats 400000 in
theorem trim_any (A : Option Addr) (c B : Nat) (L : List UInt32) (w : World) (hr : Rf uv w B A c L) (hl : L.length ≤ 1000000) :
    Calls Tryd.prog 45 #[.slice A L.length c] w fun e w' => e = .returned (.slice A (limbs (val L)).length (limbs (val L)).length) ∧ w = w' := by
  have hcap := hr.cap
  have hcm := hr.capm
  unfold maxLen at hcm
  go_enter Tryd.func45, Tryd.ntmps45
  go_wp2_with fail
  go_loop [3] (fun i => ∃ k : Nat, k ≤ L.length ∧ i = .int .i64 k ∧ Hid (val L = val (L.take k))) (fun i => (intOf i).toNat)
  case atStart => exact ⟨L.length, Nat.le_refl _, rfl, (val_take_len L).symm⟩
  case round =>
    obtain ⟨k, hk, rfl, hv⟩ := hrel
    by_cases h0 : k = 0
    · subst h0
      have HZ := Lib.hid (show limbs (val L) = [] by rw [hv.out]; exact limbs_zero)
      go_wp2_with fail
      go_ret
      refine ⟨?_, rfl⟩
      rw [HZ.out]; rfl
    · obtain ⟨j, rfl⟩ : ∃ j, k = j + 1 := ⟨k - 1, by omega⟩
      have hj : j < L.length := by omega
      obtain ⟨b, o, rfl, hb, hc⟩ := hr.at_ hj
      have hcj := hc j hj
      unfold uv at hcj
      have HV := val_take_succ hj
      have HS := Lib.hid (show (L.take (j + 1)).length = j + 1 by rw [List.length_take]; omega)
      have HL := @limbs_val_last (L.take (j + 1)) j
      have HG : (L.take (j + 1))[j]'(by rw [HS.out]; omega) = L[j] := by simp
      by_cases hx : L[j] = 0
      · have HN : Hid (val L = val (L.take j)) := by
          show val L = _
          rw [hv.out, HV, hx]; simp
        have HX : ((L[j]).toNat : Int) = 0 := by rw [hx]; rfl
        clear HV HL HG hx hc
        go_wp2_with fail
        go_round
        case rel => exact ⟨j, by omega, by go_num, HN⟩
        case measure => simp [intOf]
      · have hx2 : (L[j]).toNat ≠ 0 := fun e => hx (u32_eq (by rw [e]; rfl))
        have HZ := Lib.hid (show (limbs (val L)).length = j + 1 by rw [hv.out, HL HS.out (by rw [HG]; exact hx), HS.out])
        have HX : (((L[j]).toNat : Int) == 0) = false := by simp; omega
        clear HV HL HG hx hc
        go_wp2_with fail
        go_ret
        refine ⟨?_, rfl⟩
        rw [HZ.out]; rfl
theorem limbs_prefix (L : List UInt32) : ∀ k, val L = val (L.take k) → (k = 0 ∨ ∃ j, k = j + 1 ∧ ∃ h : j < L.length, L[j] ≠ 0) → limbs (val L) = L.take k := by
  intro k hv hk
  rcases hk with rfl | ⟨j, rfl, hj, hx⟩
  · rw [hv]; simp [val_nil, limbs_zero]
  · rw [hv]
    have hs : (L.take (j + 1)).length = j + 1 := by rw [List.length_take]; omega
    exact limbs_val_last hs (by simpa using hx)
theorem limbs_take (L : List UInt32) : limbs (val L) = L.take (limbs (val L)).length := by
  have h : ∀ k, k ≤ L.length → val L = val (L.take k) → ∃ m, limbs (val L) = L.take m := by
    intro k
    induction k with
    | zero => intro _ hv; exact ⟨0, limbs_prefix L 0 hv (.inl rfl)⟩
    | succ k ih =>
      intro hk hv
      by_cases hx : L[k] = 0
      · refine ih (by omega) ?_
        rw [hv, val_take_succ (by omega), hx]; simp
      · exact ⟨k + 1, limbs_prefix L (k + 1) hv (.inr ⟨k, rfl, by omega, hx⟩)⟩
  obtain ⟨m, hm⟩ := h L.length (Nat.le_refl _) (val_take_len L).symm
  by_cases hml : m ≤ L.length
  · have : (limbs (val L)).length = m := by rw [hm, List.length_take]; omega
    rw [this]; exact hm
  · have : (limbs (val L)).length = L.length := by rw [hm, List.length_take]; omega
    rw [this, hm, List.take_of_length_le (by omega), List.take_of_length_le (by omega)]
theorem limbs_val_le (L : List UInt32) : (limbs (val L)).length ≤ L.length := limbs_len_le.2 (val_lt L)
/-- What trim cuts off reads as the shortest list. -/
theorem Rf.trim {w : World} {B c : Nat} {A : Option Addr} {L : List UInt32} (h : Rf uv w B A c L) : Rf uv w B A (limbs (val L)).length (limbs (val L)) := by
  have hle := limbs_val_le L
  refine ⟨Nat.le_refl _, Nat.le_trans hle (Nat.le_trans h.cap h.capm), fun e => ?_, fun ad e j hj => ?_⟩
  · have := h.nil e
    have := h.cap
    omega
  · have hj2 : j < L.length := by omega
    obtain ⟨h1, h2⟩ := h.cell ad e j hj2
    refine ⟨h1, ?_⟩
    rw [h2]
    congr 1
    have e2 : (limbs (val L))[j]? = L[j]? := by
      rw [limbs_take L, List.getElem?_take_of_lt hj]
    rw [List.getElem?_eq_getElem hj, List.getElem?_eq_getElem hj2] at e2
    rw [Option.some.inj e2]
theorem Ub.heap {w : World} {g t : Nat} {L : List UInt32} (h : Ub w g t L) : w.heap[g]? = some (.cells (L.map uv).toArray t (0, 0)) := h
theorem uvs_one {L : List UInt32} : ∀ v ∈ L.map uv, v.oneCell' = true := by intro v hv; obtain ⟨x, _, rfl⟩ := List.mem_map.1 hv; rfl
theorem copy_pos {w : World} {B c g : Nat} {A : Option Addr} {L : List UInt32} (hr : Rf uv w B A c L) :
    0 < (L.map uv).length → (some (⟨g, 0, none⟩ : Addr)) = some ⟨g, 0, none⟩ ∧ ∃ ad, A = some ad ∧ ∀ j v, (L.map uv)[j]? = some v → w.cell? (ad.add j) = some v := by
  intro hp
  refine ⟨rfl, ?_⟩
  obtain ⟨b, o, rfl, hb, hc⟩ := hr.at_ (k := 0) (by simpa using hp)
  exact ⟨_, rfl, fun j v hv => hr.news j v hv⟩
set_option maxHeartbeats 400000 in
theorem twin_any (A : Option Addr) (c B n : Nat) (L : List UInt32) (w : World) (hr : Rf uv w B A c L) (hB : B ≤ w.heap.size) (hn : L.length ≤ n) (hl : n ≤ 1000000) :
    Calls Tryd.prog 46 #[.slice A L.length c, .int .i64 n] w fun e w' => e = .returned (.slice (some ⟨w.heap.size, 0, none⟩) n n) ∧ Ub w' w.heap.size 45 (L ++ List.replicate (n - L.length) 0) ∧ Below w.heap.size w w' ∧ w.heap.size < w'.heap.size := by
  go_enter Tryd.func46, Tryd.ntmps46
  go_wp2_with (first
    | (at_make; refine wpList_make_ub _ rfl _ _ rfl _ n rfl rfl rfl hl ?_; intro w1 hu1 hb1 hs1)
    | ((with_reducible refine wpList_copy_splice rfl (.tmp 8) (.tmp 9) 22 22 rfl 45 Tryd.underlying22 uSize _ A n n L.length c rfl rfl w.heap.size 0 ((List.replicate n 0).map uv) 45 hu1.heap (L.map uv) (by rw [List.length_map]; exact (Nat.min_eq_left hn).symm) (copy_pos (hr.below (hb1.mono hB))) (by simp; omega) uvs_one w.heap.size w hb1 (Nat.le_refl _) ?_); intro w2 hu2 hb2))
  go_ret
  refine ⟨rfl, ?_, hb2, ?_⟩
  · have e := hu2.out
    unfold Ub Blk
    rw [e]
    congr 3
    unfold splice
    simp
  · have e := hu2.out
    exact (Array.getElem?_eq_some_iff.1 e).1

set_option maxHeartbeats 1000000 in
theorem compare_any (A1 A2 : Option Addr) (c1 c2 B1 B2 : Nat) (m n : Nat) (w : World) (hr1 : Rf uv w B1 A1 c1 (limbs m)) (hr2 : Rf uv w B2 A2 c2 (limbs n)) (h1 : (limbs m).length ≤ 1000000) (h2 : (limbs n).length ≤ 1000000) :
    Calls Tryd.prog 41 #[.slice A1 (limbs m).length c1, .slice A2 (limbs n).length c2] w fun e w' => e = .returned (.int .i64 (cmpI m n)) ∧ ∃ q, w' = w.drewN q := by
  by_cases hlen : (limbs m).length = (limbs n).length
  · obtain ⟨L, hL⟩ : ∃ L, L = limbs m := ⟨_, rfl⟩
    obtain ⟨M, hM⟩ : ∃ M, M = limbs n := ⟨_, rfl⟩
    rw [← hL] at hr1 h1 hlen ⊢
    rw [← hM] at hr2 h2 hlen ⊢
    have hvm : val L = m := by rw [hL, val_limbs]
    have hvn : val M = n := by rw [hM, val_limbs]
    rw [← hvm, ← hvn]
    have HLen := Lib.hid hlen
    have hle1 : L.length ≤ M.length := Nat.le_of_eq hlen
    have hle2 : M.length ≤ L.length := Nat.le_of_eq hlen.symm
    rw [← hlen]
    have hcap := hr1.cap
    have hcap2 := hr2.cap
    have hcm := hr1.capm
    unfold maxLen at hcm
    clear hL hM hvm hvn hlen
    go_enter Tryd.func41, Tryd.ntmps41
    go_wp2_with fail
    go_loopw [5] (fun i wr => ∃ k q : Nat, k ≤ L.length ∧ i = .int .i64 ((k : Int) - 1) ∧ Hid (L.drop k = M.drop k) ∧ Hid (wr = w.drewN q)) (fun i _ => (intOf i + 1).toNat)
    case atStart => exact ⟨L.length, 0, Nat.le_refl _, rfl, (show L.drop L.length = M.drop L.length by rw [List.drop_of_length_le (Nat.le_refl _), List.drop_of_length_le (by omega)]), rfl⟩
    case round =>
      obtain ⟨k, q, hk, rfl, hd, hw⟩ := hrel
      by_cases h0 : k = 0
      · subst h0
        have HZ := Lib.hid (show cmpI (val L) (val M) = 0 by have e := hd.out; simp at e; rw [e]; unfold cmpI; simp)
        go_wp2_with fail
        go_ret
        exact ⟨by rw [HZ.out]; rfl, q, hw.out⟩
      · obtain ⟨j, rfl⟩ : ∃ j, k = j + 1 := ⟨k - 1, by omega⟩
        have hj : j < L.length := by omega
        have hj2 : j < M.length := by omega
        obtain ⟨b1, o1, rfl, hb1, hc1⟩ := hr1.at_ hj
        obtain ⟨b2, o2, rfl, hb2, hc2⟩ := hr2.at_ hj2
        have hcj1 := hc1 j hj
        have hcj2 := hc2 j hj2
        unfold uv at hcj1 hcj2
        obtain rfl := hw.out
        have hi0 : (0 : Int) ≤ (j : Int) := by omega
        have hi1 : (j : Int) < (L.length : Int) := by omega
        have hi2 : (j : Int) < (M.length : Int) := by omega
        clear hc1 hc2
        by_cases hx : L[j] = M[j]
        · have HN : Hid (L.drop j = M.drop j) := by
            show L.drop j = M.drop j
            rw [List.drop_eq_getElem_cons hj, List.drop_eq_getElem_cons hj2, hd.out, hx]
          have HX : ((((L[j]).toNat : Int)) != ((M[j]).toNat : Int)) = false := by rw [hx]; simp
          clear hx
          go_wp2_with fail
          go_quiet (fail)
          go_wp2_with fail
          go_roundw
          case rel => exact ⟨j, q + nq, by omega, by go_num, HN, by simp [Hid]⟩
          case measure => simp [intOf]
        · have hx2 : (L[j]).toNat ≠ (M[j]).toNat := fun e => hx (u32_eq e)
          have HC := Lib.hid (show cmpI (val L) (val M) = cmpI (L[j]).toNat (M[j]).toNat by
            unfold cmpI
            by_cases hlt : (L[j]).toNat < (M[j]).toNat
            · rw [if_pos hlt, if_pos (val_drop_lt hj HLen.out hd.out hlt)]
            · have := val_drop_lt hj2 HLen.out.symm hd.out.symm (show (M[j]).toNat < (L[j]).toNat by omega)
              rw [if_neg hlt, if_neg hx2, if_neg (by omega), if_neg (by omega)])
          have HX : ((((L[j]).toNat : Int)) != ((M[j]).toNat : Int)) = true := by simp; omega
          clear hx hx2
          go_wp2_with fail
          go_quiet (fail)
          go_wp2_with fail
          go_quiet ((go_at_call 63; (first | exact quiet_add_left (compare_u32 _ _ _) | exact quiet_left (compare_u32 _ _ _))))
          go_wp2_with fail
          go_ret
          rw [HC.out]
          exact ⟨rfl, _, by rw [World.drewN_drewN, World.drewN_drewN]⟩
  · have h3 : (((limbs m).length : Int) != ((limbs n).length : Int)) = true := by simp; omega
    have HC := Lib.hid (show cmpI (limbs m).length (limbs n).length = cmpI m n by
      unfold cmpI
      by_cases hlt : (limbs m).length < (limbs n).length
      · rw [if_pos hlt, if_pos (val_lt_of_len hlt)]
      · have := val_lt_of_len (show (limbs n).length < (limbs m).length by omega)
        rw [if_neg hlt, if_neg hlen, if_neg (by omega), if_neg (by omega)])
    clear hlen
    go_enter Tryd.func41, Tryd.ntmps41
    go_wp2_with (first | (go_at_call 62; refine (compare_int _ _ _).mono ?_; rintro e w' ⟨rfl, rfl⟩))
    go_ret
    exact ⟨by rw [← HC.out]; rfl, 0, rfl⟩
end Go.Proofs.YtffbmkobholmhaaDoor
