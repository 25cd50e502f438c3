/- nat's shiftedUp, shiftDown. -/
import Derived.Test.YtffbmkobholmhaaDoorProd
namespace Go.Proofs.YtffbmkobholmhaaDoor
open Go.RowKit
set_option linter.unusedVariables false

theorem pow_31 {n : Nat} (h : n ≤ 31) : 2 ^ n ≤ 2147483648 := Nat.pow_le_pow_right (by decide) h
set_option maxRecDepth 100000 in
set_option maxHeartbeats 1000000 in
theorem shiftedUp_any (A : Option Addr) (c n : Nat) (a : List UInt32) (w : World) (hr : Rf uv w w.heap.size A c a) (ha : a.length ≤ 400000) (hn : n ≤ 31) :
    Calls Tryd.prog 69 #[.slice A a.length c, .int .i64 n] w fun e w' => MulP w w' (a.length + 1) (val a * 2 ^ n) e := by
  have hcap := hr.cap
  have hp := pow_31 hn
  have hpp : 0 < 2 ^ n := Nat.pow_pos (by decide)
  obtain ⟨t, ht⟩ : ∃ t, t = 2 ^ n := ⟨_, rfl⟩
  rw [← ht] at hp hpp
  have HT := Lib.hid ht
  have h0 : Hid ((List.replicate (a.length + 1) (0 : UInt32))[0 + a.length]? = some 0) := zeros_get (by omega)
  have hl1 : 0 + (a.length + 1) ≤ (List.replicate (a.length + 1) (0 : UInt32)).length := by simp
  have hl2 : (List.replicate (a.length + 1) (0 : UInt32)).length ≤ 1000000 := by simp; omega
  clear ht
  go_enter Tryd.func69, Tryd.ntmps69
  go_wp2_with (at_make; refine wpList_make_ub _ rfl _ _ rfl _ (a.length + 1) rfl rfl (by omega) (by omega) ?_; intro w1 hu1 hb1 hs1)
  have hra := hr.below hb1
  have et : (2 : Int) ^ n % 4294967296 = (t : Int) := by
    have e := HT.out
    have e2 : (t : Int) = (2 : Int) ^ n := by rw [e]; simp
    rw [← e2]; omega
  rw [et]
  clear et
  (with_reducible refine (addProduct_any w.heap.size 0 a.length (a.length + 1) c w.heap.size t A (List.replicate (a.length + 1) 0) a w1 hu1 rfl hl1 h0 (Nat.le_refl _) hl2 hra hb1.size (hra.ne (Nat.le_refl _)) (by omega)).mono ?_)
  rintro e w3 ⟨M3, rfl, hf3, hv3, hub3, hg3⟩
  have hlen3 := hf3.1
  have HL := Lib.hid (show M3.length = a.length + 1 by rw [hlen3]; simp)
  have HV := Lib.hid (show val M3 = val a * 2 ^ n by
    have e1 : seg M3 0 (a.length + 1) = M3 := by rw [← HL.out, seg_all]
    have e2 : seg (List.replicate (a.length + 1) (0 : UInt32)) 0 (a.length + 1) = List.replicate (a.length + 1) 0 := by rw [seg_take, List.take_of_length_le (by simp)]
    rw [e1, e2, val_zeros, HT.out] at hv3
    omega)
  have HU := Lib.hid hub3
  have hb3 := Lib.hid (hb1.trans (below_of_grown hg3 hb1.size (by intro g e; injection e with e; omega)))
  clear hf3 hv3 hub3 hg3 hlen3
  go_wp2_with fail
  go_ret
  exact ⟨M3, rfl, HL.out, HV.out, HU.out, hb3.out, HU.out.lt⟩

/-- The limbs of the number V, n of them. -/
def lmb (n V : Nat) : List UInt32 := (List.range n).map fun j => UInt32.ofNat (V / bp j % 4294967296)
theorem lmb_len (n V : Nat) : (lmb n V).length = n := by simp [lmb]
theorem lmb_get {n V j : Nat} (h : j < n) : (lmb n V)[j]'(by rw [lmb_len]; exact h) = UInt32.ofNat (V / bp j % 4294967296) := by simp [lmb]
theorem val_lmb (n V : Nat) : val (lmb n V) = V % bp n := by
  induction n with
  | zero => simp [lmb, val_nil, bp_zero, Nat.mod_one]
  | succ n ih =>
    have e : lmb (n + 1) V = lmb n V ++ [UInt32.ofNat (V / bp n % 4294967296)] := by simp [lmb, List.range_succ]
    rw [e, val_snoc, ih, lmb_len, u32_of _ (by omega), bp_succ, Nat.mul_comm 4294967296 (bp n), Nat.mod_mul]
theorem limb_of_val : ∀ (L : List UInt32) (j : Nat) (h : j < L.length), val L / bp j % 4294967296 = (L[j]).toNat
  | x :: L, 0, _ => by
    have := u32_lt x
    rw [val_cons, bp_zero, Nat.div_one]
    show _ = x.toNat
    omega
  | x :: L, j + 1, h => by
    have hx := u32_lt x
    have ih := limb_of_val L j (by simpa using h)
    rw [bp_succ, ← Nat.div_div_eq_div_mul, val_cons]
    have e : (x.toNat + 4294967296 * val L) / 4294967296 = val L := by omega
    rw [e, ih]
    rfl
theorem val_div (L : List UInt32) : ∀ j, val L / bp j = val (L.drop j) := by
  intro j
  induction j generalizing L with
  | zero => simp [bp_zero]
  | succ j ih =>
    cases L with
    | nil => simp [val_nil]
    | cons x L =>
      have hx := u32_lt x
      rw [bp_succ, ← Nat.div_div_eq_div_mul, val_cons]
      have e : (x.toNat + 4294967296 * val L) / 4294967296 = val L := by omega
      rw [e, ih, List.drop_succ_cons]
/-- The limb of a number shifted down. -/
theorem shift_limb (L : List UInt32) (s i : Nat) (hs : s ≤ 31) (hi : i < L.length) : val L / 2 ^ s / bp i % 4294967296 = (4294967296 * lat L (i + 1) + (L[i]).toNat) / 2 ^ s % 4294967296 := by
  have hpos : 0 < 2 ^ s := Nat.pow_pos (by decide)
  rw [Nat.div_div_eq_div_mul, Nat.mul_comm, ← Nat.div_div_eq_div_mul, val_div, val_drop_cons hi]
  have e2 : val (L.drop (i + 1)) = lat L (i + 1) + 4294967296 * val (L.drop (i + 2)) := by
    by_cases h : i + 1 < L.length
    · rw [val_drop_cons h, lat_in h]
    · rw [lat_out (by omega), List.drop_of_length_le (by omega), List.drop_of_length_le (by omega)]; rfl
  rw [e2]
  have e3 : 4294967296 = 2 ^ s * 2 ^ (32 - s) := by rw [← Nat.pow_add, show s + (32 - s) = 32 by omega]
  have e4 : (L[i]).toNat + 4294967296 * (lat L (i + 1) + 4294967296 * val (L.drop (i + 2))) = (4294967296 * lat L (i + 1) + (L[i]).toNat) + 2 ^ s * (2 ^ (32 - s) * 4294967296 * val (L.drop (i + 2))) := by
    rw [Nat.mul_add, ← Nat.mul_assoc (2 ^ s), ← Nat.mul_assoc (2 ^ s), ← e3, Nat.mul_assoc]; omega
  rw [e4, Nat.add_mul_div_left _ _ hpos]
  have e5 : 2 ^ (32 - s) * 4294967296 * val (L.drop (i + 2)) = 4294967296 * (2 ^ (32 - s) * val (L.drop (i + 2))) := by
    rw [Nat.mul_comm (2 ^ (32 - s)) 4294967296, Nat.mul_assoc]
  rw [e5, Nat.add_mul_mod_self_left]

theorem limbAt_n (A : Option Addr) (n c B : Nat) (xs : List UInt32) (i : Nat) (v : Int) (w : World) (hr : Rf uv w B A c xs) (hn : n = xs.length) (hi : i ≤ 4000000000) (hv : v = (i : Int)) : Calls Tryd.prog 39 #[.slice A n c, .int .i64 v] w fun e w' => e = .returned (.int .u32 (lat xs i)) ∧ w = w' := by
  subst hn hv
  exact limbAt_any A c B xs i w hr hi
theorem word_n (h l z : Nat) (w : World) (hh : h < 4294967296) (hl : l < 4294967296) (hz : z = 4294967296 * h + l) : Calls Tryd.prog 38 #[.int .u32 h, .int .u32 l] w fun e w' => e = .returned (.int .u64 z) ∧ w = w' := by
  subst hz
  exact word_any h l w hh hl
theorem down_step {L M : List UInt32} {k s V : Nat} (hM : M = lmb k V ++ L.drop k) (hk : k < L.length) (hs : s ≤ 31) (hV : V = val L / 2 ^ s) :
    M.length = L.length ∧ M[k]? = some (L[k]) ∧ lat M (k + 1) = lat L (k + 1) ∧ M.set k (UInt32.ofNat ((4294967296 * lat L (k + 1) + (L[k]).toNat) / 2 ^ s % 4294967296)) = lmb (k + 1) V ++ L.drop (k + 1) := by
  have hl : M.length = L.length := by rw [hM]; simp [lmb_len]; omega
  have hg : ∀ j, k ≤ j → M[j]? = L[j]? := by
    intro j hj
    rw [hM, List.getElem?_append_right (by rw [lmb_len]; exact hj), lmb_len, List.getElem?_drop]
    congr 1; omega
  refine ⟨hl, by rw [hg k (Nat.le_refl _), List.getElem?_eq_getElem hk], ?_, ?_⟩
  · unfold lat
    by_cases h : k + 1 < L.length
    · rw [dif_pos (by omega), dif_pos h]
      have := hg (k + 1) (by omega)
      rw [List.getElem?_eq_getElem h, List.getElem?_eq_getElem (by omega)] at this
      rw [Option.some.inj this]
    · rw [dif_neg (by omega), dif_neg h]
  · rw [← shift_limb L s k hs hk, ← hV, hM, List.set_append_right _ _ (by rw [lmb_len]; exact Nat.le_refl _), lmb_len, Nat.sub_self, List.drop_eq_getElem_cons hk, List.set_cons_zero]
    have e : lmb (k + 1) V = lmb k V ++ [UInt32.ofNat (V / bp k % 4294967296)] := by simp [lmb, List.range_succ]
    rw [e, List.append_assoc]
    rfl
set_option maxRecDepth 100000 in
set_option maxHeartbeats 1000000 in
theorem shiftDown_any (g n c s : Nat) (L : List UInt32) (w : World) (hu : Ub w g 45 L) (hn : n = L.length) (hnc : n ≤ c) (hcm : c ≤ 1000000) (hs : s ≤ 31) :
    Calls Tryd.prog 71 #[.slice (some ⟨g, 0, none⟩) n c, .int .i64 s] w fun e w' => e = .returned (.tuple #[]) ∧ Ub w' g 45 (lmb n (val L / 2 ^ s)) ∧ w.grownBy w' (some g) := by
  obtain ⟨V, hV⟩ : ∃ V, V = val L / 2 ^ s := ⟨_, rfl⟩
  rw [← hV]
  have HN := Lib.hid hn
  have HVV := Lib.hid hV
  have hnl : n ≤ L.length := Nat.le_of_eq hn
  have hnl2 : L.length ≤ n := Nat.le_of_eq hn.symm
  clear hn hV
  go_enter Tryd.func71, Tryd.ntmps71
  go_wp2_with fail
  go_loopw [7] (fun i wr => ∃ k : Nat, ∃ M : List UInt32, k ≤ n ∧ i = .int .i64 k ∧ Hid (M = lmb k V ++ L.drop k) ∧ Hid (Ub wr g 45 M) ∧ Hid (w.grownBy wr (some g))) (fun i _ => n - (intOf i).toNat)
  case atStart => exact ⟨0, L, Nat.zero_le _, rfl, (by simp [lmb, Hid]), hu, grown_refl _ _⟩
  case round =>
    obtain ⟨k, M, hk, rfl, hM, hub, hg⟩ := hrel
    by_cases hlt : k < n
    · have hkl : k < L.length := by omega
      have hxlt := u32_lt L[k]
      have HD := down_step hM.out hkl hs HVV.out
      have hcell : wr.cell? ⟨g, k, none⟩ = some (.int .u32 ((L[k]).toNat : Int)) := by
        have h1 := HD.1
        have h2 := HD.2.1
        rw [List.getElem?_eq_getElem (by omega)] at h2
        rw [hub.out.cell (by omega), Option.some.inj h2]
      have hfz := Ub.frozen hub.out k
      obtain ⟨x, hx⟩ : ∃ x, x = (L[k]).toNat := ⟨_, rfl⟩
      rw [← hx] at hcell hxlt HD
      have hrr : Rf uv wr wr.heap.size (some ⟨g, 0, none⟩) c M := hub.out.rf_all (by have := HD.1; omega) (by unfold maxLen; omega)
      have hylt := lat_lt L (k + 1)
      obtain ⟨y, hy⟩ : ∃ y, y = lat L (k + 1) := ⟨_, rfl⟩
      rw [← hy] at HD hylt
      obtain ⟨z, hz⟩ : ∃ z, z = 4294967296 * y + x := ⟨_, rfl⟩
      rw [← hz] at HD
      have hzl : z < 18446744073709551616 := by omega
      have hlat : ∀ W, Rf uv W wr.heap.size (some ⟨g, 0, none⟩) c M → Calls Tryd.prog 39 #[.slice (some ⟨g, 0, none⟩) n c, .int .i64 ((k : Int) + 1)] W fun e w' => e = .returned (.int .u32 y) ∧ W = w' := by
        intro W hW
        have := limbAt_n (some ⟨g, 0, none⟩) n c wr.heap.size M (k + 1) ((k : Int) + 1) W hW (by have := HD.1; have := HN.out; omega) (by omega) (by omega)
        rwa [HD.2.2.1] at this
      have HLAT := Lib.hid hlat
      have hwd := fun W => word_n y x z W hylt hxlt hz
      have HW := Lib.hid hwd
      have HS := Lib.hid HD
      have hk0 : (0 : Int) ≤ (k : Int) := by omega
      have hk1 : (k : Int) < (n : Int) := by omega
      clear hx hy hz HD hlat hwd
      have hwrap : IntKind.i64.wrap ((k : Int) + 1) = (k : Int) + 1 := IntWalk.i64_in _ (by omega)
      go_wp2_with fail
      go_region_law (first | (go_simp; go_at_call 39; (with_reducible refine (HLAT.out _ hrr.drew).mono ?_); rintro e w' ⟨rfl, rfl⟩) | (go_simp; go_at_call 38; (with_reducible refine (HW.out _).mono ?_); rintro e w' ⟨rfl, rfl⟩))
      all_goals
        clear hwrap
        go_wp2_with fail
        go_roundw
        case rel => exact ⟨k + 1, _, by omega, by go_num, HS.out.2.2.2, Ub.set_ (Ub.drew hub.out) _ _ _ (by rw [u32_of _ (by omega)]; simp), grown_setCell (grown_drew hg.out) _ _⟩
        case measure => simp [intOf]; omega
    · obtain rfl : k = n := by omega
      go_wp2_with fail
      go_end0
      refine ⟨rfl, ?_, hg.out⟩
      have e := hub.out
      rw [hM.out, List.drop_of_length_le (by omega), List.append_nil] at e
      exact e
end Go.Proofs.YtffbmkobholmhaaDoor
