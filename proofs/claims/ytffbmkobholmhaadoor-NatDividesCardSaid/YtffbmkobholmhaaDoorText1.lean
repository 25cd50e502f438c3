/- nat's shorten, lengthen, appendDigits, isDecimal. -/
import Derived.Test.YtffbmkobholmhaaDoorNat3
import Derived.RegionTactic
import Derived.BigRegion
namespace Go.Proofs.YtffbmkobholmhaaDoor
open Go.RowKit
set_option linter.unusedVariables false
attribute [local go_sem] mk_get

theorem short_step {M L : List UInt32} {n i r z q r2 : Nat} (hM : M.length = L.length) (hn : n ≤ L.length) (hi : i < n) (hlow : M[i]? = L[i]?) (h : val (seg M (i + 1) (n - (i + 1))) * 1000000000 + r = val (seg L (i + 1) (n - (i + 1)))) (hr : r < 1000000000)
    (hz : z = 4294967296 * r + (L[i]'(by omega)).toNat) (hq : q = z / 1000000000) (hr2 : r2 = z % 1000000000) :
    val (seg (M.set i (UInt32.ofNat q)) i (n - i)) * 1000000000 + r2 = val (seg L i (n - i)) ∧ q < 4294967296 := by
  have hx := u32_lt (L[i]'(by omega))
  have hlt : q < 4294967296 := by rw [hq, hz]; exact short_lt (by decide) hx hr
  refine ⟨?_, hlt⟩
  have e1 : n - i = (n - (i + 1)) + 1 := by omega
  rw [e1, val_seg_cons (by rw [List.length_set]; omega), val_seg_cons (by omega), List.getElem_set_self, u32_of _ hlt]
  have e2 : seg (M.set i (UInt32.ofNat q)) (i + 1) (n - (i + 1)) = seg M (i + 1) (n - (i + 1)) := seg_congr (by rw [List.length_set]; omega) (by omega) fun j h1 h2 => by rw [List.getElem_set_ne (by omega)]
  rw [e2, hq, hr2, hz]
  exact short_round (by decide) h hr
theorem r_int (z : Nat) : (z : Int) % 1000000000 = ((z % 1000000000 : Nat) : Int) := by omega
theorem q_int (z : Nat) (h : z / 1000000000 < 4294967296) : (z : Int) / 1000000000 % 4294967296 = ((z / 1000000000 : Nat) : Int) := by omega
def ShortP (g n : Nat) (L : List UInt32) (w w' : World) (e : Ending) : Prop :=
  ∃ M : List UInt32, e = .returned (.int .u32 ((val (L.take n) % 1000000000 : Nat) : Int)) ∧ far M L 0 n ∧ val (M.take n) = val (L.take n) / 1000000000 ∧ Ub w' g 45 M ∧ w.grownBy w' (some g)

set_option maxRecDepth 100000 in
set_option maxHeartbeats 1000000 in
theorem shorten_any (g n c : Nat) (L : List UInt32) (w : World) (hu : Ub w g 45 L) (hn : n ≤ L.length) (hnc : n ≤ c) (hl : L.length ≤ 1000000) :
    Calls Tryd.prog 56 #[.slice (some ⟨g, 0, none⟩) n c, .int .u32 1000000000] w fun e w' => ShortP g n L w w' e := by
  go_enter Tryd.func56, Tryd.ntmps56
  go_wp2_with fail
  go_loopw [5, 6] (fun x i wr => ∃ k r : Nat, ∃ M : List UInt32, k ≤ n ∧ r < 1000000000 ∧ i = .int .i64 ((k : Int) - 1) ∧ x = .int .u32 r ∧ Hid (∀ j, j < k → M[j]? = L[j]?) ∧ Hid (far M L 0 n) ∧ Hid (val (seg M k (n - k)) * 1000000000 + r = val (seg L k (n - k))) ∧ Hid (Ub wr g 45 M) ∧ Hid (w.grownBy wr (some g))) (fun _ i _ => (intOf i + 1).toNat)
  case atStart => exact ⟨n, 0, L, Nat.le_refl _, by decide, rfl, rfl, (fun _ _ => rfl), far_refl _ _ _, (by simp [seg_zero, val_nil, Hid]), hu, grown_refl _ _⟩
  case round =>
    obtain ⟨k, r, M, hk, hr, rfl, rfl, hlo, hf, hv, hub, hg⟩ := hrel
    by_cases h0 : k = 0
    · subst h0
      have HE := Lib.hid (show val (M.take n) = val (L.take n) / 1000000000 ∧ r = val (L.take n) % 1000000000 by
        have e := hv.out
        rw [Nat.sub_zero, seg_take, seg_take] at e
        omega)
      go_wp2_with fail
      go_ret
      exact ⟨M, by rw [← HE.out.2]; rfl, hf.out, HE.out.1, hub.out, hg.out⟩
    · obtain ⟨i, rfl⟩ : ∃ i, k = i + 1 := ⟨k - 1, by omega⟩
      have hlm := hf.out.1
      have hil : i < L.length := by omega
      have hcell : wr.cell? ⟨g, i, none⟩ = some (.int .u32 ((L[i]).toNat : Int)) := by
        have e := hlo.out i (by omega)
        rw [List.getElem?_eq_getElem hil, List.getElem?_eq_getElem (by omega)] at e
        rw [hub.out.cell (by omega), Option.some.inj e]
      have hfz := Ub.frozen hub.out i
      have hxlt := u32_lt L[i]
      obtain ⟨x, hx⟩ : ∃ x, x = (L[i]).toNat := ⟨_, rfl⟩
      obtain ⟨z, hz⟩ : ∃ z, z = 4294967296 * r + x := ⟨_, rfl⟩
      obtain ⟨qd, hqd⟩ : ∃ qd, qd = z / 1000000000 := ⟨_, rfl⟩
      obtain ⟨rd, hrd⟩ : ∃ rd, rd = z % 1000000000 := ⟨_, rfl⟩
      have hrdl : rd < 1000000000 := by omega
      have HQD := Lib.hid (show (z : Int) / 1000000000 % 4294967296 = (qd : Int) by rw [hqd]; exact q_int z (by rw [hz, hx]; exact short_lt (by decide) (u32_lt _) hr))
      have HRD := Lib.hid (show (z : Int) % 1000000000 = (rd : Int) by rw [hrd]; exact r_int z)
      have HST := Lib.hid (short_step hlm hn (by omega) (hlo.out i (by omega)) hv.out hr (by rw [hz, hx]) hqd hrd)
      rw [← hx] at hcell hxlt
      have hzl : z < 18446744073709551616 := by omega
      have hzq := HST.out.2
      have HW := Lib.hid (fun W => word_n r x z W (by omega) hxlt hz)
      have hi0 : (0 : Int) ≤ (i : Int) := by omega
      have hi1 : (i : Int) < (n : Int) := by omega
      have HLM := Lib.hid hlm
      clear hx hz hlm h0 hqd hrd
      go_wp2_with fail
      (with_reducible refine (HW.out wr).mono ?_)
      rintro e w' ⟨rfl, rfl⟩
      go_wp2_with fail
      go_region
      go_wp2_with fail
      rw [HQD.out, HRD.out]
      have HF2 := Lib.hid (far_set_in hf.out (p := i) ⟨by omega, by omega⟩ (UInt32.ofNat qd))
      have HLO2 : Hid (∀ j, j < i → (M.set i (UInt32.ofNat qd))[j]? = L[j]?) := fun j hj => by
        rw [List.getElem?_set_ne (by omega)]; exact hlo.out j (by omega)
      have HU2 := Lib.hid (Ub.drew (Ub.set_ hub.out i (UInt32.ofNat qd) (qd : Int) (by rw [u32_of _ HST.out.2])))
      go_roundw
      case rel => exact ⟨i, rd, M.set i (UInt32.ofNat qd), by omega, hrdl, by go_num, rfl, HLO2, HF2, HST.out.1, HU2, grown_drew (grown_setCell hg.out _ _)⟩
      case measure => simp [intOf]

/-- What lengthen makes of a number. -/
def lenM (n t more : Nat) : Nat := n * t + more
theorem len_step {M L : List UInt32} {k t x p mo m0 : Nat} (hM : M.length = L.length) (hk : k < L.length) (hx : x = (L[k]).toNat) (hp : p = x * t) (h : val (M.take k) + bp k * mo = m0 + val (L.take k) * t) :
    val ((M.set k (UInt32.ofNat ((p + mo) % 4294967296))).take (k + 1)) + bp (k + 1) * ((p + mo) / 4294967296) = m0 + val (L.take (k + 1)) * t := by
  subst hx
  have e : (M.set k (UInt32.ofNat ((p + mo) % 4294967296))).take k = M.take k := by rw [List.take_set_of_le (Nat.le_refl _)]
  have hlt : (p + mo) % 4294967296 < 4294967296 := Nat.mod_lt _ (by decide)
  rw [val_take_succ (by rw [List.length_set]; omega), List.getElem_set_self, u32_of _ hlt, e, val_take_succ hk, bp_succ]
  have e3 := prod_round (v := val (M.take k)) (b1 := m0) (b2 := val (L.take k)) (p := bp k) (l := 0) (m := (L[k]).toNat) (t := t) (s := (p + mo) % 4294967296) (c := mo) (c' := (p + mo) / 4294967296) h (by rw [← hp]; omega)
  rw [Nat.mul_zero, Nat.add_zero] at e3
  exact e3

def LenP (l : List UInt32) (t more : Nat) (w w' : World) (base : Nat) (A : Option Addr) (e : Ending) : Prop :=
  ∃ A' c' r, e = .returned (.slice A' r.length c') ∧ val r = val l * t + more ∧ l.length ≤ r.length ∧ r.length ≤ l.length + 1 ∧ (r.length = l.length + 1 → limbs (val r) = r) ∧ Ow uv w' base 45 A' c' r ∧ w.grownBy w' (blk A) ∧ (∀ g, blk A' = some g → blk A = some g ∨ w.heap.size ≤ g)
theorem Ow.set_ {w : World} {base g c : Nat} {l : List UInt32} (h : Ow uv w base 45 (some ⟨g, 0, none⟩) c l) (k : Nat) (x : UInt32) (v : Int) (hv : v = (x.toNat : Int)) (hk : k < l.length) : Ow uv (w.setCell ⟨g, k, none⟩ (.int .u32 v)) base 45 (some ⟨g, 0, none⟩) c (l.set k x) := by
  subst hv
  have e := (World.ownsRow.stored h k (uv x)).1
  unfold Ow
  rw [List.length_set, List.map_set]
  exact e
theorem Ow.cell_ {w : World} {base g c : Nat} {l : List UInt32} (h : Ow uv w base 45 (some ⟨g, 0, none⟩) c l) {k : Nat} (hk : k < l.length) : w.cell? ⟨g, k, none⟩ = some (.int .u32 ((l[k]).toNat : Int)) := by
  rw [World.ownsRow.cellAt h k (by omega)]
  simp [hk, uv]
theorem Ow.frozen_ {w : World} {base g c : Nat} {l : List UInt32} (h : Ow uv w base 45 (some ⟨g, 0, none⟩) c l) (k : Nat) : w.frozen? ⟨g, k, none⟩ = false := World.ownsRow.frozenAt h k
/-- Two steps: the second wrote to the same row, or to a block that the first made. -/
theorem grown_step' {a b c : World} {r s : Option Nat} (h : a.grownBy b r) (k : b.grownBy c s) (hs : ∀ g, s = some g → r = some g ∨ a.heap.size ≤ g) : a.grownBy c r :=
  ⟨k.os.trans h.os, k.tape.trans h.tape, k.output.trans h.output, Nat.le_trans h.size k.size, fun i hi hne => (k.block i (Nat.lt_of_lt_of_le hi h.size) (fun e => by
    rcases hs i e.symm with h1 | h1
    · exact hne h1.symm
    · omega)).trans (h.block i hi hne)⟩
/-- How the loop of lengthen and what stands behind it end, over any slice of the call's own. -/
def LenRel (L : List UInt32) (t more base : Nat) (A : Option Addr) (c : Nat) (w wr : World) (k mo : Nat) (M : List UInt32) : Prop :=
  M.length = L.length ∧ (∀ j, k ≤ j → M[j]? = L[j]?) ∧ val (M.take k) + bp k * mo = more + val (L.take k) * t ∧ Ow uv wr base 45 A c M ∧ w.grownBy wr (blk A)

set_option maxRecDepth 100000 in
set_option maxHeartbeats 1000000 in
theorem lengthen_any (A : Option Addr) (c n base more : Nat) (L : List UInt32) (w : World) (how : Ow uv w base 45 A c L) (hn : L.length = n) (hl : n ≤ 1000) (hbase : base ≤ w.heap.size) (hm : more < 10) :
    Calls Tryd.prog 60 #[.slice A n c, .int .u32 10, .int .u32 more] w fun e w' => LenP L 10 more w w' base A e := by
  obtain ⟨i0, hi, hz0, hz1, hz2⟩ := info_parts uInfo
  have HN := Lib.hid hn
  have hln : L.length ≤ n := Nat.le_of_eq hn
  have hln2 : n ≤ L.length := Nat.le_of_eq hn.symm
  clear hn
  have hcap := how.rd.cap
  go_enter Tryd.func60, Tryd.ntmps60
  go_wp2_with fail
  go_loopw [2, 12] (fun x i wr => ∃ k mo : Nat, ∃ M : List UInt32, k ≤ n ∧ mo < 10 ∧ i = .int .i64 k ∧ x = .int .u32 mo ∧ Hid (LenRel L 10 more base A c w wr k mo M)) (fun _ i _ => n - (intOf i).toNat)
  case atStart => exact ⟨0, more, L, Nat.zero_le _, hm, rfl, rfl, rfl, fun _ _ => rfl, by simp [val_nil, bp_zero], how, grown_refl _ _⟩
  case round =>
    obtain ⟨k, mo, M, hk, hmo, rfl, rfl, hrel⟩ := hrel
    by_cases hlt : k < n
    · have hr := hrel.out
      have hkl : k < L.length := by omega
      obtain ⟨hM, hhi, hv, hown, hg⟩ := hr
      have hA : ∃ g, A = some ⟨g, 0, none⟩ := by
        rcases hown.form with ⟨_, _, e⟩ | ⟨g, e, _⟩
        · rw [e] at hM; simp at hM; omega
        · exact ⟨g, e⟩
      obtain ⟨g, rfl⟩ := hA
      have hcell : wr.cell? ⟨g, k, none⟩ = some (.int .u32 ((L[k]).toNat : Int)) := by
        have e := hhi k (Nat.le_refl _)
        rw [List.getElem?_eq_getElem hkl, List.getElem?_eq_getElem (by omega)] at e
        rw [hown.cell_ (by omega), Option.some.inj e]
      have hfz := hown.frozen_ k
      have hxlt := u32_lt L[k]
      obtain ⟨x, hx⟩ : ∃ x, x = (L[k]).toNat := ⟨_, rfl⟩
      have HS := Lib.hid (len_step (t := 10) (p := x * 10) (m0 := more) hM hkl hx rfl hv)
      rw [← hx] at hcell hxlt
      have HO := Lib.hid (fun (v : Int) hv2 => hown.set_ k (UInt32.ofNat ((x * 10 + mo) % 4294967296)) v hv2 (by omega))
      have HH := Lib.hid hhi
      have HG := Lib.hid hg
      have HM := Lib.hid hM
      have hi0 : (0 : Int) ≤ (k : Int) := by omega
      have hi1 : (k : Int) < (n : Int) := by omega
      clear hx hhi hv hown hg hM
      have HREL : Hid (LenRel L 10 more base (some ⟨g, 0, none⟩) c w (wr.setCell ⟨g, k, none⟩ (.int .u32 (((x : Int) * 10 + (mo : Int)) % 4294967296))) (k + 1) ((x * 10 + mo) / 4294967296) (M.set k (UInt32.ofNat ((x * 10 + mo) % 4294967296)))) := by
        refine ⟨by rw [List.length_set]; exact HM.out, fun j hj => by rw [List.getElem?_set_ne (by omega)]; exact HH.out j (by omega), HS.out, HO.out _ (by rw [u32_of _ (by omega)]; omega), grown_setCell HG.out _ _⟩
      go_wp2_with fail
      go_roundw
      case rel => exact ⟨k + 1, (x * 10 + mo) / 4294967296, _, by omega, by omega, by go_num, by go_num, HREL⟩
      case measure => simp [intOf]; omega
    · obtain rfl : k = n := by omega
      obtain ⟨hM, hhi, hv, hown, hg⟩ := hrel.out
      have hMk : M.length = k := by rw [hM, HN.out]
      have hval : val M + bp k * mo = val L * 10 + more := by
        rw [List.take_of_length_le (by omega), List.take_of_length_le (by omega)] at hv
        omega
      have HV := Lib.hid hval
      have HM := Lib.hid hMk
      have HO := Lib.hid hown
      have HG := Lib.hid hg
      have hbz := hg.size
      clear hM hhi hv hown hg hval hMk hrel
      by_cases hm0 : mo = 0
      · subst hm0
        go_wp2_with fail
        go_ret
        refine ⟨A, c, M, by rw [HM.out]; rfl, ?_, by rw [HM.out]; omega, by rw [HM.out]; omega, fun h => by rw [HM.out] at h; omega, HO.out, HG.out, fun g h => .inl h⟩
        have := HV.out
        omega
      · have hmi : (0 : Int) < (mo : Int) := by omega
        have hown1 := HO.out.alloc (.cells #[.int .u32 mo] 45)
        have hM2 := HM.out
        obtain ⟨xm, hxm⟩ : ∃ xm, xm = UInt32.ofNat mo := ⟨_, rfl⟩
        have hxv : ((xm.toNat : Nat) : Int) = (mo : Int) := by rw [hxm, u32_of _ (by omega)]
        have hro : Rf uv (wr.alloc (.cells #[.int .u32 mo] 45)) (wr.heap.size + 1) (some ⟨wr.heap.size, 0, none⟩) 1 [xm] := by
          have := rf_one (f := uv) wr xm 45
          unfold uv at this
          rw [hxv] at this
          exact this
        have hml : M.length ≤ 1000 := by omega
        have HRO := Lib.hid hro
        have HO1 := Lib.hid hown1
        have HX := Lib.hid hxv
        have HMM := Lib.hid hM2
        rw [← hM2]
        clear hown1 hM2 hxm hxv hro
        go_wp2_with (at_builtin; refine wpList_append_f _ uv_one rfl _ _ 22 rfl base 45 4 i0 _ Tryd.underlying22 hi hz0 hz1 hz2 (by decide) rfl M [xm] rfl rfl HO1.out HRO.out (by simp; omega) (by simp; omega) ?_; intro A2 c2 w2 r2 hr2 hown2 hg2 hb2)
        have hb1 : wr.heap.size < (wr.alloc (.cells #[.int .u32 mo] 45)).heap.size := by simp
        go_ret
        have hr3 : r2 = M ++ [xm] := hr2.out
        have hbase2 : base ≤ wr.heap.size := Nat.le_trans hbase HG.out.size
        have hxm0 : xm ≠ 0 := fun e => by
          have := HX.out
          rw [e] at this
          simp at this
          omega
        have hxn : xm.toNat = mo := by have := HX.out; omega
        refine ⟨A2, c2, r2, rfl, ?_, by rw [hr3]; simp; have := HN.out; have := HMM.out; omega, by rw [hr3]; simp; have := HN.out; have := HMM.out; omega, fun _ => by rw [hr3]; exact limbs_val_snoc _ _ hxm0, hown2, ?_, ?_⟩
        · rw [hr3, val_snoc, hxn, HMM.out]
          have := HV.out
          omega
        · exact grown_step' (HG.out.trans (World.grownBy_alloc _ _ _)) hg2 (fun g hg => .inl hg)
        · intro g hgg
          rcases hb2 with e | e
          · left; rw [← e]; exact hgg
          · right
            rw [e] at hgg
            have := Option.some.inj hgg
            have := HG.out.size
            omega
end Go.Proofs.YtffbmkobholmhaaDoor
