/- The reference's Text. -/
import Derived.Test.YtffbmkobholmhaaDoorRefU
namespace Go.Proofs.YtffbmkobholmhaaDoor
open Go.RowKit
set_option linter.unusedVariables false
attribute [local go_sem] mk_get

theorem Ow.takeu {w : World} {base c : Nat} {A : Option Addr} {l : List UInt32} (h : Ow uv w base 45 A c l) {k : Nat} (hk : k ≤ l.length) : Ow uv w base 45 A c (l.take k) := by
  rcases h.form with ⟨rfl, rfl, rfl⟩ | ⟨g, rfl, _⟩
  · rw [List.take_nil]; exact h
  · have hlk : (l.take k).length = k := by rw [List.length_take]; omega
    refine ⟨by simp, ?_⟩
    rcases h.2 with ⟨hv, _⟩ | ⟨g2, cap, cur, hv, hb, hg, hnc, hcm, hcs, ht⟩
    · cases hv
    · refine .inr ⟨g2, cap, cur, ?_, hb, hg, by omega, hcm, hcs, ?_⟩
      · simp only [Value.slice.injEq] at hv ⊢
        exact ⟨hv.1, trivial, hv.2.2⟩
      · rw [hlk, Nat.mul_one, List.map_take, ← ht, Nat.mul_one, List.take_take, Nat.min_eq_left hk]
def NumOw (w w' : World) (l : List UInt32) (e : Ending) : Prop := ∃ A c, e = .returned (.slice A l.length c) ∧ Ow uv w' w.heap.size 45 A c l ∧ Below w.heap.size w w'
set_option maxRecDepth 100000 in
set_option maxHeartbeats 1000000 in
theorem rtrim_ow (A : Option Addr) (c n : Nat) (L : List UInt32) (w : World) (hr : Rf uv w w.heap.size A c L) (hl : L.length ≤ 1000000) (hn : L.length = n) :
    Calls Tryd.prog 54 #[.slice A n c] w fun e w' => NumOw w w' (limbs (val L)) e := by
  subst hn
  obtain ⟨i0, hi, hz0, hz1, hz2⟩ := info_parts uInfo
  have hro := (hr.alloc (Nat.le_refl _) (.cells #[] 45))
  have hoz := ow_zero (f := uv) w 45 w.heap.size (Nat.le_refl _)
  go_enter Tryd.func54, Tryd.ntmps54
  go_wp2_with (at_builtin; refine wpList_append_f _ uv_one rfl _ _ 22 rfl w.heap.size 45 4 i0 _ Tryd.underlying22 hi hz0 hz1 hz2 (by decide) rfl [] L rfl rfl hoz hro (by simp; omega) (by simp) ?_; intro A2 c2 w2 r2 hr2 hown2 hg2 hb2)
  have e2 : r2 = L := by have := hr2.out; simpa using this
  subst e2
  have hBL : Below w.heap.size w w2 := (below_new w _).trans (below_of_grown hg2 (by simp) (by simp [blk]))
  have HBL := Lib.hid hBL
  have hrd := hown2.rd
  have HOW := Lib.hid hown2
  have hcap := hrd.cap
  have hcm := hrd.capm
  unfold maxLen at hcm
  have HRD := Lib.hid hrd
  clear hr2 hg2 hb2 hBL hro hoz
  go_loop [3] (fun v => ∃ k : Nat, k ≤ r2.length ∧ v = .slice A2 k c2 ∧ Hid (val r2 = val (r2.take k))) (fun v => match v with | .slice _ n _ => n | _ => 0)
  case atStart => exact ⟨r2.length, Nat.le_refl _, rfl, (val_take_len r2).symm⟩
  case round =>
    obtain ⟨k, hk, rfl, hv⟩ := hrel
    by_cases h0 : k = 0
    · subst h0
      have HZ := Lib.hid (show limbs (val r2) = [] by rw [hv.out]; exact limbs_zero)
      go_wp2_with fail
      go_ret
      rw [HZ.out]
      exact ⟨A2, c2, rfl, by have := HOW.out.takeu (Nat.zero_le _); simpa using this, HBL.out⟩
    · obtain ⟨j, rfl⟩ : ∃ j, k = j + 1 := ⟨k - 1, by omega⟩
      have hj : j < r2.length := by omega
      obtain ⟨b, o, rfl, hb, hc⟩ := HRD.out.at_ hj
      have hcj := hc j hj
      unfold uv at hcj
      have HV := val_take_succ hj
      by_cases hx : r2[j] = 0
      · have HN : Hid (val r2 = val (r2.take j)) := by
          show val r2 = _
          rw [hv.out, HV, hx]; simp
        have HX : ((r2[j]).toNat : Int) = 0 := by rw [hx]; rfl
        rw [HX] at hcj
        clear HV hx hc HX
        go_wp2_with fail
        go_round
        case rel => exact ⟨j, by omega, by simp, HN⟩
        case measure => simp
      · have hx2 : (r2[j]).toNat ≠ 0 := fun e => hx (u32_eq (by rw [e]; rfl))
        have HP := Lib.hid (limbs_prefix r2 (j + 1) hv.out (.inr ⟨j, rfl, hj, hx⟩))
        have HX : (((r2[j]).toNat : Int) == 0) = false := by rw [beq_eq_false_iff_ne]; omega
        clear HV hx hc hx2
        go_wp2_with fail
        go_ret
        rw [HP.out]
        have hlen : (r2.take (j + 1)).length = j + 1 := by rw [List.length_take]; omega
        refine ⟨some ⟨b, o, none⟩, c2, by rw [hlen]; rfl, ?_, HBL.out⟩
        exact HOW.out.takeu (by omega)


/-- Digits; none for 0. -/
def dd (n : Nat) : List UInt8 := if n = 0 then [] else Lib.decDigits n
theorem dd_zero : dd 0 = [] := rfl
theorem dd_pos {n : Nat} (h : n ≠ 0) : dd n = Lib.decDigits n := by unfold dd; rw [if_neg h]
theorem dd_step {n : Nat} (h : n ≠ 0) : dd n = dd (n / 10) ++ [UInt8.ofNat (48 + n % 10)] := by
  rw [dd_pos h]
  by_cases h10 : n < 10
  · rw [decDigits_small h10, Nat.div_eq_of_lt h10, dd_zero, Nat.mod_eq_of_lt h10]; rfl
  · rw [decDigits_big h10, dd_pos (by omega)]
theorem dec_len : ∀ (k u : Nat), u < 10 ^ (k + 1) → (Lib.decDigits u).length ≤ k + 1
  | 0, u, h => by rw [decDigits_small (by simpa using h)]; simp
  | k + 1, u, h => by
    by_cases h10 : u < 10
    · rw [decDigits_small h10]; simp
    · rw [decDigits_big h10, List.length_append]
      have := dec_len k (u / 10) (by rw [Nat.pow_succ] at h; omega)
      simp; omega
theorem dd_len {V : Nat} (h : V < bp 96) : (dd V).length ≤ 3072 := by
  unfold dd
  split
  · simp
  · obtain ⟨k, hk⟩ : ∃ k, k + 1 = 3072 := ⟨3071, rfl⟩
    rw [bp_two, show 32 * 96 = 3072 from rfl, ← hk] at h
    rw [← hk]
    exact dec_len k V (Nat.lt_of_lt_of_le h (Nat.pow_le_pow_left (by decide) _))
theorem ten_step {M L : List UInt32} {i r x z : Nat} (hM : M.length = L.length) (hi : i < L.length) (hv : val (M.drop (i + 1)) * 10 + r = val (L.drop (i + 1))) (hr : r < 10) (hx : x = (L[i]).toNat) (hz : z = 4294967296 * r + x) :
    val ((M.set i (UInt32.ofNat (z / 10))).drop i) * 10 + z % 10 = val (L.drop i) ∧ z / 10 < 4294967296 := by
  have hxl := u32_lt L[i]
  have hq : z / 10 < 4294967296 := by omega
  refine ⟨?_, hq⟩
  rw [val_drop_set (by omega), u32_of _ hq, val_drop_cons hi, ← hv, ← hx]
  omega

theorem dig_ext {r : Nat} (h : r < 10) (o : List UInt8) : Value.string (({ data := #[48, 49, 50, 51, 52, 53, 54, 55, 56, 57] } : ByteArray).extract r (r + 1) ++ { data := o.toArray }) = .string ⟨(UInt8.ofNat (48 + r) :: o).toArray⟩ := by
  have e1 : ∀ r, r < 10 → ((([48, 49, 50, 51, 52, 53, 54, 55, 56, 57] : List UInt8).drop r).take (r + 1 - r)) = [UInt8.ofNat (48 + r)] := by decide
  have e2 : ({ data := #[48, 49, 50, 51, 52, 53, 54, 55, 56, 57] } : ByteArray).extract r (r + 1) = ⟨[UInt8.ofNat (48 + r)].toArray⟩ := by
    have e3 := mk_extract [48, 49, 50, 51, 52, 53, 54, 55, 56, 57] r (r + 1)
    rw [e1 r h] at e3
    exact e3
  rw [e2, mk_append]
  rfl
/-- What stands at a round's start: v is what is left of V, o the digits written. -/
def TxI (V v n c : Nat) (A : Option Addr) (o : List UInt8) (w wr : World) : Prop :=
  (limbs v).length = n ∧ Ow uv wr w.heap.size 45 A c (limbs v) ∧ Below w.heap.size w wr ∧ dd V = dd v ++ o

set_option maxRecDepth 100000 in
set_option maxHeartbeats 4000000 in
theorem rtext_any (A : Option Addr) (c n : Nat) (a : List UInt32) (w : World) (hr : Rf uv w w.heap.size A c a) (hn : a.length = n) :
    Calls Tryd.prog 31 #[.slice A n c] w fun e w' => TextP (textM a) w w' e := by
  have hck := rcheck_any A c _ a w hr
  rw [hn] at hck
  by_cases h : chk a = 0
  · rw [h] at hck
    have HCK := Lib.hid hck
    obtain ⟨V, rfl, hm⟩ := limbs_of_chk h
    have HQ := Lib.hid (show textM (limbs V) = (Lib.decDigits V, 0) by rw [textM_ok h, val_limbs])
    have HN := Lib.hid hn
    have hVb : V < bp 96 := limbs_len_le.1 hm
    have HDL := Lib.hid (dd_len hVb)
    have hn96 : n ≤ 96 := by omega
    clear h hck hn hVb
    go_enter Tryd.func31, Tryd.ntmps31
    go_wp2_with fail
    (with_reducible refine HCK.out.mono ?_)
    rintro e w' ⟨rfl, rfl⟩
    go_wp2_with fail
    (with_reducible refine (rtrim_ow A c n (limbs V) w hr (by have := HN.out; omega) HN.out).mono ?_)
    rw [val_limbs]
    rintro e w1 ⟨A3, c3, rfl, h3, hb3⟩
    have HI : Hid (TxI V V n c3 A3 [] w w1) := ⟨HN.out, h3, hb3, by simp⟩
    rw [HN.out]
    clear h3 hb3
    go_wp2_with fail
    go_loopg [5, 7] V (fun v x out wr => ∃ (n c : Nat) (A : Option Addr) (o : List UInt8), x = .slice A n c ∧ out = .string ⟨o.toArray⟩ ∧ n ≤ 96 ∧ Hid (TxI V v n c A o w wr))
    case atStart => exact ⟨n, c3, A3, [], rfl, rfl, hn96, HI⟩
    case round =>
      obtain ⟨n, c, A, o, rfl, rfl, hn, hI⟩ := hrel
      have HI2 := hI.out
      unfold TxI at HI2
      by_cases hg0 : gk = 0
      · subst hg0
        have hn0 : n = 0 := by rw [← HI2.1, limbs_zero]; rfl
        subst hn0
        have hdo : dd V = o := by have := HI2.2.2.2; rwa [dd_zero, List.nil_append] at this
        have HB := Lib.hid HI2.2.2.1
        clear HI2 hI
        by_cases hV : V = 0
        · have ho : o = [] := by rw [← hdo, hV]; rfl
          have HEQ := Lib.hid (show textM (limbs V) = ([48], 0) by rw [HQ.out, hV, decDigits_small (by decide)]; rfl)
          subst ho
          clear hdo hV
          go_wp2_with fail
          go_ret2
          rw [HEQ.out]
          exact ⟨rfl, HB.out⟩
        · have HEQ := Lib.hid (show textM (limbs V) = (o, 0) by rw [HQ.out, ← hdo, dd_pos hV])
          have hne : o ≠ [] := by rw [← hdo, dd_pos hV]; exact decDigits_ne V
          obtain ⟨b, o', rfl⟩ : ∃ b o', o = b :: o' := by
            cases o with
            | nil => exact absurd rfl hne
            | cons b o' => exact ⟨b, o', rfl⟩
          clear hdo hV hne
          go_wp2_with fail
          go_ret2
          rw [HEQ.out]
          exact ⟨rfl, HB.out⟩
      · have hn0 : 0 < n := by
          rw [← HI2.1]
          have : (limbs gk).length ≠ 0 := fun e => hg0 (limbs_len_eq_zero.1 e)
          omega
        obtain ⟨L, hL⟩ : ∃ L, L = limbs gk := ⟨_, rfl⟩
        rw [← hL] at HI2
        have HL := Lib.hid hL
        have hLn : L.length = n := HI2.1
        have HLN := Lib.hid hLn
        have HOW := Lib.hid HI2.2.1
        have HB := Lib.hid HI2.2.2.1
        have HDD := Lib.hid HI2.2.2.2
        have hn0i : (0 : Int) < (n : Int) := by omega
        obtain ⟨g, rfl⟩ : ∃ g, A = some ⟨g, 0, none⟩ := by
          rcases HI2.2.1.form with ⟨_, _, e⟩ | ⟨g, e, _⟩
          · rw [e] at hLn; simp at hLn; omega
          · exact ⟨g, e⟩
        have hgw : w.heap.size ≤ g := (HI2.2.1.blk_ge g rfl).1
        clear HI2 hI hL hLn
        obtain ⟨wo, rfl⟩ : ∃ wo, wo = wr := ⟨_, rfl⟩
        go_wp2_with fail
        go_loopw [8, 9] (fun r i wx => ∃ (k rm : Nat) (M : List UInt32), r = .int .u64 rm ∧ i = .int .i64 ((k : Int) - 1) ∧ k ≤ n ∧ rm < 10 ∧ Hid (M.length = n) ∧ Hid (∀ j, j < k → M[j]? = L[j]?) ∧ Hid (val (M.drop k) * 10 + rm = val (L.drop k)) ∧ Hid (Ow uv wx w.heap.size 45 (some ⟨g, 0, none⟩) c M) ∧ Hid (Below w.heap.size w wx)) (fun _ i _ => (intOf i + 1).toNat)
        case atStart => exact ⟨n, 0, L, rfl, by go_num, Nat.le_refl _, by omega, HLN, fun _ _ => rfl, (by rw [Hid, List.drop_of_length_le (by have := HLN.out; omega), val_nil]), HOW, HB⟩
        case round =>
          obtain ⟨k, rm, M, rfl, rfl, hk, hrm, hM, hlo, hv, ho, hb⟩ := hrel
          by_cases hk0 : k = 0
          · subst hk0
            have hval : val M * 10 + rm = gk := by
              have e := hv.out
              rw [List.drop_zero, List.drop_zero, HL.out, val_limbs] at e
              exact e
            have hq : val M = gk / 10 := by omega
            have hrm2 : rm = gk % 10 := by omega
            have HQV := Lib.hid hq
            have HDS := Lib.hid (show dd V = dd (gk / 10) ++ (UInt8.ofNat (48 + rm) :: o) by rw [HDD.out, dd_step hg0, hrm2]; simp)
            have hol : o.length ≤ 3072 := by
              have e1 := congrArg List.length HDD.out
              rw [List.length_append] at e1
              have := HDL.out
              omega
            have HRD := Lib.hid ho.out.rd
            have hbz := hb.out.size
            clear hval hq hrm2 hv
            go_wp2_with fail
            (with_reducible refine (rtrim_ow _ c n M wr HRD.out (by have := hM.out; omega) hM.out).mono ?_)
            rw [HQV.out]
            rintro e w5 ⟨A5, c5, rfl, h5, hb5⟩
            obtain ⟨n5, hn5⟩ : ∃ n5, n5 = (limbs (gk / 10)).length := ⟨_, rfl⟩
            rw [← hn5]
            have hn5l : n5 ≤ 96 := by
              have h1 := limbs_mono (Nat.div_le_self gk 10)
              have h2 := HLN.out
              rw [HL.out] at h2
              omega
            have HI5 : Hid (TxI V (gk / 10) n5 c5 A5 (UInt8.ofNat (48 + rm) :: o) w w5) := ⟨hn5.symm, h5.lower hbz, hb.out.trans (hb5.mono hbz), HDS.out⟩
            have hgl : gk / 10 < gk := by omega
            clear hn5 h5 hb5
            go_wp2_with fail
            go_roundg (gk / 10)
            case measure => exact hgl
            case rel => exact ⟨n5, c5, A5, _, rfl, dig_ext hrm o, hn5l, HI5⟩
          · obtain ⟨i, rfl⟩ : ∃ i, k = i + 1 := ⟨k - 1, by omega⟩
            have hlm := hM.out
            have hil : i < L.length := by have := HLN.out; omega
            have hcell : wr.cell? ⟨g, i, none⟩ = some (.int .u32 ((L[i]).toNat : Int)) := by
              have e := hlo.out i (by omega)
              rw [List.getElem?_eq_getElem hil, List.getElem?_eq_getElem (by omega)] at e
              rw [ho.out.cell_ (by omega), Option.some.inj e]
            have hfz := ho.out.frozen_ i
            have hxlt := u32_lt L[i]
            obtain ⟨x, hx⟩ : ∃ x, x = (L[i]).toNat := ⟨_, rfl⟩
            obtain ⟨z, hz⟩ : ∃ z, z = 4294967296 * rm + x := ⟨_, rfl⟩
            have HST := Lib.hid (ten_step (M := M) (L := L) (by have := HLN.out; omega) hil hv.out hrm hx hz)
            rw [← hx] at hcell hxlt
            have hzi : 4294967296 * (rm : Int) + (x : Int) = (z : Int) := by omega
            have hzl : z < 42949672960 := by omega
            have HO2 := Lib.hid (ho.out.set_ i (UInt32.ofNat (z / 10)) ((z / 10 : Nat) : Int) (by rw [u32_of _ HST.out.2]) (by omega))
            have HM2 := Lib.hid (show (M.set i (UInt32.ofNat (z / 10))).length = n by rw [List.length_set]; exact hlm)
            have HLO2 : Hid (∀ j, j < i → (M.set i (UInt32.ofNat (z / 10)))[j]? = L[j]?) := fun j hj => by
              rw [List.getElem?_set_ne (by omega)]; exact hlo.out j (by omega)
            have hi0 : (0 : Int) ≤ (i : Int) := by omega
            have hi1 : (i : Int) < (n : Int) := by omega
            clear hx hz hlm hk0
            go_wp2_with fail
            go_roundw
            case rel => exact ⟨i, z % 10, M.set i (UInt32.ofNat (z / 10)), by go_num, by go_num, by omega, by omega, HM2, HLO2, HST.out.1, HO2, hb.out.setCell hgw _⟩
            case measure => simp [intOf]
  · have HQ := Lib.hid (textM_err h)
    have hb : (chk a != 0) = true := by simpa using h
    have HCK := Lib.hid hck
    clear h hck hn
    go_enter Tryd.func31, Tryd.ntmps31
    go_wp2_with fail
    (with_reducible refine HCK.out.mono ?_)
    rintro e w' ⟨rfl, rfl⟩
    go_wp2_with fail
    go_ret2
    rw [HQ.out]
    exact ⟨rfl, Below.refl _ _⟩
end Go.Proofs.YtffbmkobholmhaaDoor
