/- nat's appendDigits, isDecimal; the library's TrimRight at one byte. -/
import Derived.Test.YtffbmkobholmhaaDoorText1
import Derived.Test.YtffbmkobholmhaaDoorDec2
namespace Go.Proofs.YtffbmkobholmhaaDoor
open Go.RowKit
set_option linter.unusedVariables false
attribute [local go_sem] mk_get

theorem bInfo : (Tryd.prog.info? 5).map (fun i => (i.zero, i.size, i.bytes)) = some (some (.int .u8 0), 1, 1) := by kernel_rfl
def DigP (l : List UInt8) (n : Nat) (w w' : World) (base : Nat) (A : Option Addr) (e : Ending) : Prop :=
  ∃ A' c' r, e = .returned (.slice A' r.length c') ∧ r = l ++ led 9 n ∧ Ow bv w' base 5 A' c' r ∧ w.grownBy w' (blk A) ∧ (∀ g, blk A' = some g → blk A = some g ∨ w.heap.size ≤ g)
theorem natB_bad {l : List UInt8} {b : UInt8} (hb : b ∈ l) (h : b.toNat < 48 ∨ 57 < b.toNat) : isNatB l = false := by
  refine isNatB_not (fun e => ?_) (.inl (isOfB_bad hb h))
  subst e
  simp at hb
  subst hb
  have e48 : (48 : UInt8).toNat = 48 := rfl
  omega
theorem natB_form {b : UInt8} {t : List UInt8} (h : ∀ x ∈ b :: t, 48 ≤ x.toNat ∧ x.toNat ≤ 57) : (b == 48 && t.isEmpty || ((b.toNat : Nat) : Int) != 48) = isNatB (b :: t) := by
  have ho : isOfB 48 57 (b :: t) = true := (isOfB_iff 48 57 _).2 ⟨by simp, h⟩
  rw [Bool.eq_iff_iff, isNatB_iff, ho]
  have eb : b = 48 ↔ b.toNat = 48 := ⟨fun e => by rw [e]; rfl, fun e => UInt8.toNat_inj.1 e⟩
  by_cases h1 : b = 48
  · have h2 := eb.1 h1
    cases t <;> simp [h1]
  · have h2 : b.toNat ≠ 48 := fun e => h1 (eb.2 e)
    simp [h1]
    omega
theorem dig_val (m : Nat) : (48 : Int) + (m : Int) % 10 = ((UInt8.ofNat (48 + m % 10)).toNat : Int) := by
  rw [UInt8.toNat_ofNat']; omega

set_option maxRecDepth 100000 in
set_option maxHeartbeats 1000000 in
theorem appendDigits_any (A : Option Addr) (c n base k0 : Nat) (l : List UInt8) (w : World) (hown : Ow bv w base 5 A c l) (hk0 : l.length = k0) (hl : k0 ≤ 4000) (hbase : base ≤ w.heap.size) (hn : n < 4294967296) :
    Calls Tryd.prog 55 #[.slice A k0 c, .int .u32 n] w fun e w' => DigP l n w w' base A e := by
  obtain ⟨i0, hi, hz0, hz1, hz2⟩ := info_parts bInfo
  subst hk0
  go_enter Tryd.func55, Tryd.ntmps55
  go_wp2_with fail
  go_loopw [0, 1, 5] (fun v x i wr => ∃ k m : Nat, ∃ A' c' r, k ≤ 9 ∧ i = .int .i64 k ∧ x = .int .u32 m ∧ m < 4294967296 ∧ v = .slice A' r.length c' ∧ Hid (m = n / 10 ^ k) ∧ Hid (r = l ++ led k n) ∧ r.length ≤ 4000 + k ∧ Ow bv wr base 5 A' c' r ∧ w.grownBy wr (blk A) ∧ (∀ g, blk A' = some g → blk A = some g ∨ w.heap.size ≤ g))
    (fun _ _ i _ => 9 - (intOf i).toNat)
  case atStart => exact ⟨0, n, A, c, l, Nat.zero_le _, rfl, rfl, hn, rfl, (by simp [Hid]), (by simp [led_zero, Hid]), by omega, hown, World.grownBy.refl _ _, fun g h => .inl h⟩
  case round =>
    obtain ⟨k, m, A1, c1, r, hk, rfl, rfl, hm, rfl, hmv, hr, hrl, hown1, hg1, hb1⟩ := hrel
    by_cases hlt : k < 9
    · obtain ⟨x, hx⟩ : ∃ x : UInt8, x = UInt8.ofNat (48 + m % 10) := ⟨_, rfl⟩
      have hv : 48 + (m : Int) % 10 = (x.toNat : Int) := by rw [hx]; exact dig_val m
      have HT := Lib.hid (led_succ k n)
      have HX := Lib.hid hx
      have hb0 := hg1.size
      have hro : Rf bv (wr.alloc (.cells #[.int .u8 (48 + (m : Int) % 10)] 5)) (wr.heap.size + 1) (some ⟨wr.heap.size, 0, none⟩) 1 [x] := by
        rw [hv]
        exact rf_one (f := bv) wr x 5
      have HRO := Lib.hid hro
      clear hx hv hro
      go_wp2_with (at_builtin; refine wpList_append_f _ bv_one rfl _ _ 61 rfl base 5 1 i0 _ Tryd.underlying61 hi hz0 hz1 hz2 (by decide) rfl r [x] rfl rfl (hown1.alloc _) HRO.out (by simp; omega) (by simp; omega) ?_; intro A2 c2 w2 r2 hr2 hown2 hg2 hb2)
      have hgn : w.grownBy w2 (blk A) := grown_step' (hg1.trans (World.grownBy_alloc _ _ _)) hg2 (fun g hg => (hb1 g hg).imp id id)
      have hr3 : Hid (r2 = l ++ led (k + 1) n) := by
        show r2 = _
        rw [hr2.out, HT.out, hr.out, HX.out, hmv.out, List.append_assoc]
      have hlen : r2.length ≤ 4000 + (k + 1) := by rw [hr2.out]; simp; omega
      have hbn : ∀ g, blk A2 = some g → blk A = some g ∨ w.heap.size ≤ g := fun g hg => by
        rcases hb2 with e | e
        · exact hb1 g (e ▸ hg)
        · rw [e] at hg
          right
          have h1 := Option.some.inj hg
          simp at h1
          omega
      have HM : Hid (m / 10 = n / 10 ^ (k + 1)) := by
        show m / 10 = _
        rw [hmv.out, Nat.div_div_eq_div_mul, Nat.pow_succ]
      go_roundw
      case rel => exact ⟨k + 1, m / 10, A2, c2, r2, by omega, by go_num, by go_num, by omega, rfl, HM, hr3, hlen, hown2, hgn, hbn⟩
      case measure => simp [intOf]; omega
    · obtain rfl : k = 9 := by omega
      go_wp2_with fail
      go_ret
      exact ⟨A1, c1, r, rfl, hr.out, hown1, hg1, hb1⟩

set_option maxRecDepth 100000 in
set_option maxHeartbeats 1000000 in
theorem isDecimal_any (l : List UInt8) (w : World) (hl : l.length ≤ 4000000000) :
    Calls Tryd.prog 59 #[.string ⟨l.toArray⟩] w fun e w' => e = .returned (.bool (isNatB l)) ∧ w = w' := by
  go_enter Tryd.func59, Tryd.ntmps59
  go_wp2_with fail
  go_loop [6] (fun i => ∃ k : Nat, k ≤ l.length ∧ i = .int .i64 k ∧ Hid (∀ b ∈ l.take k, 48 ≤ b.toNat ∧ b.toNat ≤ 57)) (fun i => l.length - (intOf i).toNat)
  case atStart => exact ⟨0, Nat.zero_le _, rfl, by simp [Hid]⟩
  case round =>
    obtain ⟨k, hk, rfl, hpre⟩ := hrel
    by_cases hlt : k < l.length
    · by_cases h1 : l[k].toNat < 48
      · have HB : Hid (isNatB l = false) := natB_bad (List.getElem_mem hlt) (.inl h1)
        have h1i : ((l[k].toNat : Nat) : Int) < 48 := by omega
        have h1d : decide (((l[k].toNat : Nat) : Int) < 48) = true := by simpa using h1i
        go_wp2_with fail
        go_ret
        exact ⟨by rw [HB.out]; rfl, rfl⟩
      · have h1i : ¬ ((l[k].toNat : Nat) : Int) < 48 := by omega
        have h1d : decide (((l[k].toNat : Nat) : Int) < 48) = false := by simpa using h1i
        by_cases h2 : 57 < l[k].toNat
        · have HB : Hid (isNatB l = false) := natB_bad (List.getElem_mem hlt) (.inr h2)
          have h2i : (57 : Int) < ((l[k].toNat : Nat) : Int) := by omega
          have h2d : decide ((57 : Int) < ((l[k].toNat : Nat) : Int)) = true := by simpa using h2i
          go_wp2_with fail
          go_ret
          exact ⟨by rw [HB.out]; rfl, rfl⟩
        · have h2i : ¬ (57 : Int) < ((l[k].toNat : Nat) : Int) := by omega
          have h2d : decide ((57 : Int) < ((l[k].toNat : Nat) : Int)) = false := by simpa using h2i
          have HN : Hid (∀ b ∈ l.take (k + 1), 48 ≤ b.toNat ∧ b.toNat ≤ 57) := by
            intro b hb
            rw [List.take_succ_eq_append_getElem hlt] at hb
            rcases List.mem_append.1 hb with h | h
            · exact hpre.out b h
            · simp at h; rw [h]; omega
          go_wp2_with fail
          go_round
          case rel => exact ⟨k + 1, by omega, by go_num, HN⟩
          case measure => simp [intOf]; omega
    · obtain rfl : k = l.length := by omega
      have hall : ∀ b ∈ l, 48 ≤ b.toNat ∧ b.toNat ≤ 57 := by have := hpre.out; rwa [List.take_of_length_le (Nat.le_refl _)] at this
      have HALL := Lib.hid hall
      clear hpre hall
      cases l with
      | nil =>
        go_wp2_with fail
        go_ret
        exact ⟨rfl, rfl⟩
      | cons b t =>
        by_cases hz : b = 48 ∧ t = []
        · obtain ⟨rfl, rfl⟩ := hz
          go_wp2_with fail
          go_ret
          exact ⟨by rw [isNatB_zero]; rfl, rfl⟩
        · have hzb : (b == 48 && t.isEmpty) = false := by
            cases e : (b == 48 && t.isEmpty) with
            | false => rfl
            | true =>
              simp at e
              exact absurd e hz
          have HF := Lib.hid (natB_form HALL.out)
          rw [hzb] at HF
          clear hz
          go_wp2_with fail
          go_ret
          exact ⟨by rw [← HF.out]; rfl, rfl⟩

set_option maxRecDepth 100000 in
set_option maxHeartbeats 1000000 in
theorem trimRightByte_any (A : Option Addr) (c B : Nat) (l : List UInt8) (w : World) (hr : Rf bv w B A c l) (hl : l.length ≤ 1000000) :
    Calls Tryd.prog 72 #[.slice A l.length c, .int .u8 48] w fun e w' => e = .returned (.slice A (trimR l).length c) ∧ w = w' := by
  have hcap := hr.cap
  have hcm := hr.capm
  unfold maxLen at hcm
  go_enter Tryd.func72, Tryd.ntmps72
  go_wp2_with fail
  go_loop [0] (fun v => ∃ k : Nat, k ≤ l.length ∧ v = .slice A k c ∧ Hid (trimR l = trimR (l.take k))) (fun v => match v with | .slice _ n _ => n | _ => 0)
  case atStart => exact ⟨l.length, Nat.le_refl _, rfl, (by rw [List.take_of_length_le (Nat.le_refl _)]; rfl)⟩
  case round =>
    obtain ⟨k, hk, rfl, hv⟩ := hrel
    by_cases h0 : k = 0
    · subst h0
      have HZ := Lib.hid (show (trimR l).length = 0 by rw [hv.out]; rfl)
      go_wp2_with fail
      go_ret
      refine ⟨?_, rfl⟩
      rw [HZ.out]; rfl
    · obtain ⟨j, rfl⟩ : ∃ j, k = j + 1 := ⟨k - 1, by omega⟩
      have hj : j < l.length := by omega
      obtain ⟨b, o, rfl, hb, hc⟩ := hr.at_ hj
      have hcj := hc j hj
      unfold bv at hcj
      have HT : trimR (l.take (j + 1)) = if l[j] = 48 then trimR (l.take j) else l.take (j + 1) := by
        rw [List.take_succ_eq_append_getElem hj, trimR_snoc]
      by_cases hx : l[j] = 48
      · rw [if_pos hx] at HT
        have HN := Lib.hid (hv.out.trans HT)
        have HX : ((l[j]).toNat : Int) = 48 := by rw [hx]; rfl
        rw [HX] at hcj
        clear HT hx hc HX
        go_wp2_with fail
        go_round
        case rel => exact ⟨j, by omega, by simp, HN⟩
        case measure => simp
      · rw [if_neg hx] at HT
        have HZ := Lib.hid (show (trimR l).length = j + 1 by rw [hv.out, HT, List.length_take]; omega)
        have hx2 : (l[j]).toNat ≠ 48 := fun e => hx (UInt8.toNat_inj.1 e)
        have HX : (((l[j]).toNat : Int) == 48) = false := by rw [beq_eq_false_iff_ne]; omega
        clear HT hx hc hx2
        go_wp2_with fail
        go_ret
        refine ⟨?_, rfl⟩
        rw [HZ.out]; rfl
set_option maxRecDepth 100000 in
set_option maxHeartbeats 1000000 in
theorem trimRight_any (A : Option Addr) (c B : Nat) (l : List UInt8) (w : World) (hr : Rf bv w B A c l) (hl : l.length ≤ 1000000) (hp : 0 < l.length) :
    Calls Tryd.prog 57 #[.slice A l.length c, .string ⟨#[48]⟩] w fun e w' => e = .returned (.slice A (trimR l).length c) ∧ w = w' := by
  have hpi : ((l.length : Int) == 0) = false := by rw [beq_eq_false_iff_ne]; omega
  go_enter Tryd.func57, Tryd.ntmps57
  go_wp2_with fail
  refine (trimRightByte_any A c B l w hr hl).mono ?_
  rintro e w' ⟨rfl, rfl⟩
  go_wp2_with fail
  go_ret
  exact ⟨rfl, rfl⟩
end Go.Proofs.YtffbmkobholmhaaDoor
