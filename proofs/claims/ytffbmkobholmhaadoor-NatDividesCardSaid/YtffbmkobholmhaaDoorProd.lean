/- nat's addProduct, multiply, shiftedUp. -/
import Derived.Test.YtffbmkobholmhaaDoorSub
namespace Go.Proofs.YtffbmkobholmhaaDoor
open Go.RowKit
set_option linter.unusedVariables false

def ProdP (g o n t : Nat) (L m : List UInt32) (w w' : World) (e : Ending) : Prop :=
  ∃ (M : List UInt32), e = .returned (.tuple #[]) ∧ far M L o (n + 1) ∧ val (seg M o (n + 1)) = val (seg L o (n + 1)) + val m * t ∧ Ub w' g 45 M ∧ w.grownBy w' (some g)
theorem prod_step {M L m : List UInt32} {o k cr t x y p : Nat} (hf : far M L o k) (hv : val (seg M o k) + bp k * cr = val (seg L o k) + val (m.take k) * t) (hkl : o + k < L.length) (hk : k < m.length) (hx : x = (L[o + k]).toNat) (hy : y = (m[k]).toNat) (hp : p = y * t) :
    far (M.set (o + k) (UInt32.ofNat ((cr + (p + x)) % 4294967296))) L o (k + 1) ∧
    val (seg (M.set (o + k) (UInt32.ofNat ((cr + (p + x)) % 4294967296))) o (k + 1)) + bp (k + 1) * ((cr + (p + x)) / 4294967296) = val (seg L o (k + 1)) + val (m.take (k + 1)) * t := by
  refine ⟨far_set hf _, ?_⟩
  rw [val_seg_set (by rw [hf.1]; exact hkl), val_seg_snoc hkl, val_take_succ hk, u32_of _ (by omega), ← hx, ← hy, bp_succ]
  refine prod_round hv ?_
  rw [← hp]
  omega
theorem prod_end {M L m : List UInt32} {o cr t : Nat} (hf : far M L o m.length) (hv : val (seg M o m.length) + bp m.length * cr = val (seg L o m.length) + val (m.take m.length) * t) (hkl : o + m.length < L.length) (h0 : L[o + m.length] = 0) (hc : cr < 4294967296) :
    far (M.set (o + m.length) (UInt32.ofNat cr)) L o (m.length + 1) ∧ val (seg (M.set (o + m.length) (UInt32.ofNat cr)) o (m.length + 1)) = val (seg L o (m.length + 1)) + val m * t := by
  refine ⟨far_set hf _, ?_⟩
  rw [val_seg_set (by rw [hf.1]; exact hkl), val_seg_snoc hkl, h0, u32_of _ hc, hv, val_take_len, u32_zero]
  omega

set_option maxRecDepth 100000 in
set_option maxHeartbeats 1000000 in
theorem addProduct_any (g o n c cb B t : Nat) (A : Option Addr) (L m : List UInt32) (w : World) (hu : Ub w g 45 L) (hn : n = m.length) (hon : o + (n + 1) ≤ L.length) (h0 : Hid (L[o + n]? = some 0)) (hnc : n + 1 ≤ c) (hl : L.length ≤ 1000000) (hr : Rf uv w B A cb m) (hB : B ≤ w.heap.size) (hne : 0 < m.length → blk A ≠ some g) (ht : t < 4294967296) :
    Calls Tryd.prog 67 #[.slice (some ⟨g, o, none⟩) (n + 1) c, .slice A m.length cb, .int .u32 t] w fun e w' => ProdP g o n t L m w w' e := by
  subst hn
  have hcb := hr.cap
  have hcm := hr.capm
  unfold maxLen at hcm
  go_enter Tryd.func67, Tryd.ntmps67
  go_wp2_with fail
  go_loopw [6, 11] (fun x i wr => ∃ k cr : Nat, ∃ M : List UInt32, k ≤ m.length ∧ cr < 4294967296 ∧ i = .int .i64 k ∧ x = .int .u64 cr ∧ Hid (far M L o k) ∧ Hid (val (seg M o k) + bp k * cr = val (seg L o k) + val (m.take k) * t) ∧ Hid (Ub wr g 45 M) ∧ Hid (w.grownBy wr (some g))) (fun _ i _ => m.length - (intOf i).toNat)
  case atStart => exact ⟨0, 0, L, Nat.zero_le _, by omega, rfl, rfl, far_refl _ _ _, (by simp [seg_zero, val_nil, Hid]), hu, grown_refl _ _⟩
  case round =>
    obtain ⟨k, cr, M, hk, hcr, rfl, rfl, hf, hv, hub, hg⟩ := hrel
    by_cases hlt : k < m.length
    · have hkl : o + k < L.length := by omega
      have hcell := Ub.cell_far hub.out hf.out hkl (.inr (Nat.le_refl _))
      have hxlt := u32_lt L[o + k]
      have hfz := Ub.frozen hub.out (o + k)
      have hrr := hr.grown hg.out hB hne
      obtain ⟨b, o1, rfl, hb, hc⟩ := hrr.at_ hlt
      have hcj := hc k hlt
      unfold uv at hcj
      have hylt := u32_lt m[k]
      obtain ⟨x, hx⟩ : ∃ x, x = (L[o + k]).toNat := ⟨_, rfl⟩
      rw [← hx] at hcell hxlt
      obtain ⟨y, hy⟩ : ∃ y, y = (m[k]).toNat := ⟨_, rfl⟩
      rw [← hy] at hcj hylt
      have hpl := mul_le_max hylt ht
      obtain ⟨p, hp⟩ : ∃ p, p = y * t := ⟨_, rfl⟩
      rw [← hp] at hpl
      have HS := Lib.hid (prod_step (m := m) hf.out hv.out hkl hlt hx hy hp)
      have HP : (y : Int) * (t : Int) = (p : Int) := by rw [hp]; simp
      have hk0 : (0 : Int) ≤ (k : Int) := by omega
      have hk1 : (k : Int) < (m.length : Int) := by omega
      clear hx hy hp hc
      go_wp2_with fail
      go_roundw
      case rel => exact ⟨k + 1, (cr + (p + x)) / 4294967296, _, by omega, by omega, by go_num, by go_num, HS.out.1, HS.out.2, Ub.set_ hub.out _ _ _ (by rw [u32_of _ (by omega)]; simp), grown_setCell hg.out _ _⟩
      case measure => simp [intOf]; omega
    · obtain rfl : k = m.length := by omega
      have hkl : o + m.length < L.length := by omega
      have hcell := Ub.cell_far hub.out hf.out hkl (.inr (Nat.le_refl _))
      have hfz := Ub.frozen hub.out (o + m.length)
      have h00 : L[o + m.length] = 0 := by have := h0.out; rw [List.getElem?_eq_getElem hkl] at this; exact Option.some.inj this
      have HE := Lib.hid (prod_end hf.out hv.out hkl h00 hcr)
      clear h00
      have hk1 : (m.length : Int) < (m.length : Int) + 1 := by omega
      go_wp2_with fail
      go_end0
      exact ⟨_, rfl, HE.out.1, HE.out.2, Ub.set_ hub.out _ _ _ (by rw [u32_of _ hcr]), grown_setCell hg.out _ _⟩

theorem zeros_get {n j : Nat} (h : j < n) : (List.replicate n (0 : UInt32))[j]? = some 0 := by rw [List.getElem?_replicate, if_pos h]
theorem far_zero {M : List UInt32} {n k j : Nat} (hf : far M (List.replicate n 0) 0 k) (hj : k ≤ j) (hn : j < n) : M[j]? = some 0 := by
  rw [hf.2 j (by omega), zeros_get hn]
theorem mul_step {M M' a b : List UInt32} {k : Nat} (hl : M.length = a.length + b.length) (hk : k < a.length) (hf : far M (List.replicate (a.length + b.length) 0) 0 (k + b.length)) (hv : val M = val (a.take k) * val b) (hf2 : far M' M k (b.length + 1))
    (hv2 : val (seg M' k (b.length + 1)) = val (seg M k (b.length + 1)) + val b * (a[k]).toNat) : M'.length = a.length + b.length ∧ far M' (List.replicate (a.length + b.length) 0) 0 (k + 1 + b.length) ∧ val M' = val (a.take (k + 1)) * val b := by
  have h1 := far_val hf2 (by omega)
  refine ⟨by rw [hf2.1, hl], far_trans (far_more hf2 (by omega) (by omega)) (far_more hf (by omega) (by omega)), ?_⟩
  rw [hv2, hv, Nat.mul_add] at h1
  rw [val_take_succ hk, Nat.add_mul]
  have e : bp k * (a[k]).toNat * val b = bp k * (val b * (a[k]).toNat) := by rw [Nat.mul_assoc, Nat.mul_comm (a[k]).toNat]
  omega

def MulP (w w' : World) (n v : Nat) (e : Ending) : Prop :=
  ∃ M, e = .returned (.slice (some ⟨w.heap.size, 0, none⟩) n n) ∧ M.length = n ∧ val M = v ∧ Ub w' w.heap.size 45 M ∧ Below w.heap.size w w' ∧ w.heap.size < w'.heap.size

set_option maxRecDepth 100000 in
set_option maxHeartbeats 1000000 in
theorem multiply_any (A1 A2 : Option Addr) (c1 c2 : Nat) (a b : List UInt32) (w : World) (hr1 : Rf uv w w.heap.size A1 c1 a) (hr2 : Rf uv w w.heap.size A2 c2 b) (ha : a.length ≤ 400000) (hb : b.length ≤ 400000) :
    Calls Tryd.prog 52 #[.slice A1 a.length c1, .slice A2 b.length c2] w fun e w' => MulP w w' (a.length + b.length) (val a * val b) e := by
  have hcap1 := hr1.cap
  have hcap2 := hr2.cap
  go_enter Tryd.func52, Tryd.ntmps52
  go_wp2_with (at_make; refine wpList_make_ub _ rfl _ _ rfl _ (a.length + b.length) rfl rfl (by omega) (by omega) ?_; intro w1 hu1 hb1 hs1)
  go_loopw [16] (fun i wr => ∃ k : Nat, ∃ M : List UInt32, k ≤ a.length ∧ i = .int .i64 k ∧ Hid (M.length = a.length + b.length) ∧ Hid (far M (List.replicate (a.length + b.length) 0) 0 (k + b.length)) ∧ Hid (val M = val (a.take k) * val b) ∧ Hid (Ub wr w.heap.size 45 M) ∧ Hid (Below w.heap.size w wr)) (fun i _ => a.length - (intOf i).toNat)
  case atStart => exact ⟨0, List.replicate (a.length + b.length) 0, Nat.zero_le _, rfl, (by simp [Hid]), far_refl _ _ _, (by simp [val_zeros, val_nil, Hid]), hu1, hb1⟩
  case round =>
    obtain ⟨k, M, hk, rfl, hl, hf, hv, hub, hbl⟩ := hrel
    by_cases hlt : k < a.length
    · have hra := hr1.below hbl.out
      have hrb := hr2.below hbl.out
      obtain ⟨b1, o1, rfl, hbb, hc⟩ := hra.at_ hlt
      have hcj := hc k hlt
      unfold uv at hcj
      have hylt := u32_lt a[k]
      obtain ⟨y, hy⟩ : ∃ y, y = (a[k]).toNat := ⟨_, rfl⟩
      rw [← hy] at hcj hylt
      have HY := Lib.hid hy
      have hk0 : (0 : Int) ≤ (k : Int) := by omega
      have hk1 : (k : Int) < (a.length : Int) := by omega
      have hl0 := hl.out
      have h0 : Hid (M[k + b.length]? = some 0) := far_zero hf.out (Nat.le_refl _) (by omega)
      have HL := Lib.hid hl0
      have hl1 : k + (b.length + 1) ≤ M.length := by omega
      have hl2 : M.length ≤ 1000000 := by omega
      clear hl0
      clear hy hc
      go_wp2_with fail
      have es : k + b.length + 1 - k = b.length + 1 := by omega
      rw [es]
      clear es
      (with_reducible refine (addProduct_any w.heap.size k b.length (b.length + 1) c2 w.heap.size y A2 M b wr hub.out rfl hl1 h0 (Nat.le_refl _) hl2 hrb hbl.out.size (hrb.ne (Nat.le_refl _)) hylt).mono ?_)
      rintro e w3 ⟨M3, rfl, hf3, hv3, hub3, hg3⟩
      have HS := Lib.hid (mul_step HL.out hlt hf.out hv.out hf3 (by rw [hv3, HY.out]))
      have HU := Lib.hid hub3
      have hb3 := Lib.hid (hbl.out.trans (below_of_grown hg3 hbl.out.size (by intro g e; injection e with e; omega)))
      clear hf3 hv3 hub3 hg3
      go_wp2_with fail
      go_roundw
      case rel => exact ⟨k + 1, M3, by omega, by go_num, HS.out.1, HS.out.2.1, HS.out.2.2, HU, hb3⟩
      case measure => simp [intOf]; omega
    · obtain rfl : k = a.length := by omega
      go_wp2_with fail
      go_ret
      exact ⟨M, rfl, hl.out, (by have := hv.out; rwa [val_take_len] at this), hub.out, hbl.out, hub.out.lt⟩
end Go.Proofs.YtffbmkobholmhaaDoor
