/- The reference's Text, Bytes. The reference's Read. What roll's calls answer, as one premise: T stands for 'the package's own tables hold what their text says'. Each law is proved from it. twin, does. -/
import Derived.Test.YtikhffdbjelanaaDoorGg
import Derived.Test.YtikhffdbjelanaaDoorGe
import Derived.Test.YtikhffdbjelanaaDoorGb
namespace Go.Proofs.YtikhffdbjelanaaDoor
open Go.RowKit
set_option linter.unusedVariables false

theorem Rf.rd24 {w : World} {B : Nat} {A : Option Addr} {c : Nat} {l : List UInt8} (h : Rf bv w B A c l) : Oc.Rd w B A c l := ⟨h.cap, h.capm, h.nil, h.cell⟩
theorem rf24 {w : World} {B : Nat} {A : Option Addr} {c : Nat} {l : List UInt8} (h : Oc.Rd w B A c l) : Rf bv w B A c l := ⟨h.cap, h.capm, h.nil, h.cell⟩
theorem ow24 {w : World} {base e : Nat} {A : Option Addr} {c : Nat} {l : List UInt8} (h : Oc.Own w base e A c l) : Ow bv w base e A c l := h
theorem bInfo24 : (Tryd.prog.info? 5).map (fun i => (i.zero, i.size, i.bytes)) = some (some (.int .u8 0), 1, 1) := by kernel_rfl
theorem byte24 {n : Int} (h : 0 ≤ n ∧ n ≤ 255) : n = ((UInt8.ofNat n.toNat).toNat : Int) := by
  rw [UInt8.toNat_ofNat']
  have : n.toNat % 2 ^ 8 = n.toNat := Nat.mod_eq_of_lt (by omega)
  omega
theorem textV_take (l : List Vt) (k : Nat) (h : k < l.length) : Oc.flat ((l.take (k + 1)).map fieldV) = Oc.flat ((l.take k).map fieldV) ++ Oc.fld (fieldV l[k]) := by
  rw [List.take_succ_eq_append_getElem h, List.map_append, List.map_singleton, Oc.flat_snoc]
/-- A literal of two bytes. -/
theorem ow_two (w : World) (p s : Nat) (a b : Int) (e base : Nat) (ha : a = ((UInt8.ofNat p).toNat : Int)) (hb : b = ((UInt8.ofNat s).toNat : Int)) (hbase : base ≤ w.heap.size) :
    Ow bv (w.alloc (.cells #[.int .u8 a, .int .u8 b] e)) base e (some ⟨w.heap.size, 0, none⟩) 2 [UInt8.ofNat p, UInt8.ofNat s] := by
  subst ha hb
  have := World.ownsRow_lit (base := base) (e := e) (size := 1) w #[.int .u8 ((UInt8.ofNat p).toNat : Int), .int .u8 ((UInt8.ofNat s).toNat : Int)] 2 hbase (by simp [maxLen]) (by simp)
  exact this

set_option maxRecDepth 100000 in
set_option maxHeartbeats 4000000 in
theorem refTextV_any (l : List Vt) (A : Option Addr) (c : Nat) (w : World) (hr : Rvt w w.heap.size A c l) (hl : l.length ≤ 64) (hm : ∀ v ∈ l, mayV v = true) :
    Calls Tryd.prog 50 #[.slice A l.length c] w fun e w' => ∃ A' c' r, e = .returned (.slice A' r.length c') ∧ r = textV l ∧ Ow bv w' w.heap.size 5 A' c' r ∧ Below w.heap.size w w' := by
  have HR := Lib.hid hr
  have HM := Lib.hid hm
  clear hr hm
  obtain ⟨i0, hi0, hz0, hz1, hz2⟩ := info_parts bInfo24
  go_enter Tryd.func50, Tryd.ntmps50
  go_wp2_with fail
  go_loopw [3, 4] (fun s3 s4 wr => ∃ (k : Nat) (A1 : Option Addr) (c1 : Nat) (out : List UInt8), k ≤ l.length ∧ s4 = .int .i64 k ∧ s3 = .slice A1 out.length c1 ∧ out.length ≤ 44 * k ∧ Hid (out = Oc.flat ((l.take k).map fieldV)) ∧ Hid (Ow bv wr w.heap.size 5 A1 c1 out) ∧ Hid (Below w.heap.size w wr)) (fun _ s4 _ => l.length - (intOf s4).toNat)
  case atStart => exact ⟨0, none, 0, [], Nat.zero_le _, rfl, rfl, by simp, rfl, Ow.nil _ _ _, Below.refl _ _⟩
  case round =>
    obtain ⟨k, A1, c1, out, hk, rfl, rfl, hol, hout, ho, hbw⟩ := hrel
    have hsz := hbw.out.size
    by_cases hlt : k < l.length
    · obtain ⟨x, hx⟩ : ∃ x, x = l[k] := ⟨_, rfl⟩
      obtain ⟨b, q, hA, hbb, f1, f2, f3⟩ := (HR.out.below hbw.out).vt1 hlt hx
      subst hA
      obtain ⟨hnb, hp0, hp8, hs1, hs4⟩ := (mayV_iff x).1 (HM.out x (by rw [hx]; exact List.getElem_mem hlt))
      have hnl := ((nameB_iff _).1 hnb).2.1
      have HT := Lib.hid (show out ++ Oc.fld (fieldV x) = Oc.flat ((l.take (k + 1)).map fieldV) by rw [textV_take l k hlt, hout.out, hx])
      have hfl : (Oc.fld (fieldV x)).length ≤ 44 := by rw [Oc.fld_len]; simp [fieldV]; omega
      have hwp : IntKind.u8.wrap x.pre = x.pre := by rw [IntKind.wrap_u8]; omega
      have HBP := Lib.hid (byte24 (n := x.pre) ⟨by omega, by omega⟩)
      have HBS := Lib.hid (byte24 (n := (x.state : Int)) ⟨by omega, by omega⟩)
      have HF := Lib.hid (show fieldV x = [UInt8.ofNat x.pre.toNat, UInt8.ofNat x.state] ++ x.name from rfl)
      clear hx hnb
      have HCELL := Lib.hid (show ∀ wx : World, Below w.heap.size wr wx → (wx.cell? ⟨b, q + k * 3, none⟩ = some (.string ⟨x.name.toArray⟩) ∧ wx.cell? ⟨b, q + k * 3 + 1, none⟩ = some (.int .i64 x.pre) ∧ wx.cell? ⟨b, q + k * 3 + 2, none⟩ = some (.int .u8 (x.state : Nat))) from fun wx hb => ⟨(hb.cell hbb).trans f1, (hb.cell hbb).trans f2, (hb.cell hbb).trans f3⟩)
      have hS0 : (wr.drew.cell? ⟨b, q + k * 3, none⟩ = some (.string ⟨x.name.toArray⟩) ∧ wr.drew.cell? ⟨b, q + k * 3 + 1, none⟩ = some (.int .i64 x.pre) ∧ wr.drew.cell? ⟨b, q + k * 3 + 2, none⟩ = some (.int .u8 (x.state : Nat))) := ⟨f1, f2, f3⟩
      have BW1 := Lib.hid (show Below w.heap.size wr (wr.drew.alloc (.cells #[.int .u8 x.pre, .int .u8 (x.state : Nat)] 5)) from (Below.refl _ wr).drew.alloc (by simpa using hsz) _)
      have hS1 : ((wr.drew.alloc (.cells #[.int .u8 x.pre, .int .u8 (x.state : Nat)] 5)).cell? ⟨b, q + k * 3, none⟩ = some (.string ⟨x.name.toArray⟩) ∧ (wr.drew.alloc (.cells #[.int .u8 x.pre, .int .u8 (x.state : Nat)] 5)).cell? ⟨b, q + k * 3 + 1, none⟩ = some (.int .i64 x.pre) ∧ (wr.drew.alloc (.cells #[.int .u8 x.pre, .int .u8 (x.state : Nat)] 5)).cell? ⟨b, q + k * 3 + 2, none⟩ = some (.int .u8 (x.state : Nat))) := HCELL.out _ BW1.out
      have HO1 := Lib.hid (ow_two wr.drew x.pre.toNat x.state x.pre (x.state : Int) 5 w.heap.size HBP.out (by have := HBS.out; simpa using this) (by simpa using hsz))
      have HOA := Lib.hid (ho.out.drew.alloc (.cells #[.int .u8 x.pre, .int .u8 (x.state : Nat)] 5))
      have HAK := Lib.hid (show blk A1 = none ∨ blk A1 ≠ blk (some ⟨wr.drew.heap.size, 0, none⟩) from by
        cases hb : blk A1 with
        | none => exact .inl rfl
        | some j => exact .inr (fun e => by have := (ho.out.blk_ge j hb).2; simp [blk] at e; omega))
      have HO1F := Lib.hid (show ∀ j, blk (some (⟨wr.drew.heap.size, 0, none⟩ : Addr)) = some j → w.heap.size ≤ j from fun j hj => by simp [blk] at hj; omega)
      go_wp2_with fail
      go_region_held3 (fun w' => (w'.cell? ⟨b, q + k * 3, none⟩ = some (.string ⟨x.name.toArray⟩) ∧ w'.cell? ⟨b, q + k * 3 + 1, none⟩ = some (.int .i64 x.pre) ∧ w'.cell? ⟨b, q + k * 3 + 2, none⟩ = some (.int .u8 (x.state : Nat)))) (first | exact hS0 | exact hS1 | exact hS3 | exact hS4 | exact hS5) (first
        | (refine step_append_s rfl (.tmp 23) (.tmp 28) 37 9 rfl w.heap.size 5 i0 Tryd.underlying37 Tryd.underlying9 hi0 hz0 hz1 hz2 [UInt8.ofNat x.pre.toNat, UInt8.ofNat x.state] x.name rfl rfl HO1.out (by simp; omega) (by simp; omega) ?_; intro A3 c3 w3 r3 hr3 ho3 hg3; have BW3 := Lib.hid (BW1.out.grown hg3 (Nat.le_trans hsz BW1.out.size) HO1F.out); have hS3 := HCELL.out _ BW3.out; have hrl3 : r3.length ≤ 50 := by rw [hr3.out]; simp; omega)
        | (go_simp; go_at_call 62; refine (Oc.refField_any A3 c3 r3 _ ho3.rd.rd24 (by omega)).mono ?_; rintro e w4 ⟨A4, c4, r4, rfl, hr4, ho4, hb4⟩; have BW4 := Lib.hid (BW3.out.trans (hb4.mono (Nat.le_trans hsz BW3.out.size))); have hS4 := HCELL.out _ BW4.out; have HO4 := Lib.hid (((HOA.out.kept hg3 HAK.out)).below (Nat.le_refl _) hb4); have hrl4 : r4.length ≤ 60 := (by rw [hr4, Oc.fld_len]; omega); have HR4 := Lib.hid hr4; clear hr4)
        | (refine step_append_v bv_one rfl (.tmp 11) (.tmp 30) 37 rfl w.heap.size 5 1 i0 _ Tryd.underlying37 hi0 hz0 hz1 hz2 (by omega) rfl out r4 rfl rfl HO4.out (ow24 ho4).rd (by omega) (Nat.le_trans hsz (by have := BW4.out.size; omega)) ?_; intro A5 c5 w5 r5 hr5 ho5 hg5 hb5; have BW5 := Lib.hid (BW4.out.grown hg5 (Nat.le_trans hsz BW4.out.size) (fun j hj => (HO4.out.blk_ge j hj).1)); have hS5 := HCELL.out _ BW5.out))
      have HR5 := Lib.hid (show r5 = Oc.flat ((l.take (k + 1)).map fieldV) by rw [hr5.out, HR4.out, hr3.out, ← HF.out]; exact HT.out)
      have hl5 : r5.length ≤ 44 * (k + 1) := by
        rw [hr5.out, List.length_append, HR4.out, hr3.out, ← HF.out]; omega
      have B5 := Lib.hid (hbw.out.trans BW5.out)
      go_wp2_with fail
      go_roundw
      case rel => exact ⟨k + 1, A5, c5, r5, by omega, by go_num, rfl, hl5, HR5, ho5, B5⟩
      case measure => simp [intOf]; omega
    · have HB := Lib.hid (show out = textV l by
        rw [hout.out, show k = l.length by omega, List.take_of_length_le (Nat.le_refl _)]; rfl)
      obtain rfl : k = l.length := by omega
      go_wp2_with fail
      go_ret
      exact ⟨A1, c1, out, rfl, HB.out, ho.out, hbw.out⟩

/-- Bytes and an error. -/
def BytesErrV (w : World) (q : List UInt8 × Int) (e : Ending) (w' : World) : Prop :=
  ∃ (A : Option Addr) (c : Nat) (r : List UInt8) (er : Int), e = .returned (.tuple #[.slice A r.length c, .int .i64 er]) ∧ (r, er) = q ∧ Ow bv w' w.heap.size 5 A c r ∧ Below w.heap.size w w'

set_option maxRecDepth 100000 in
set_option maxHeartbeats 1000000 in
theorem refBytesV_any (l : List Vt) (A : Option Addr) (c : Nat) (w : World) (hr : Rvt w w.heap.size A c l) (hn : ∀ v ∈ l, v.name.length ≤ 4000000000) :
    Calls Tryd.prog 32 #[.slice A l.length c] w (BytesErrV w (bytesV l)) := by
  have HK := Lib.hid (fun wx (hb : Below w.heap.size w wx) => refCheckV_any l A c wx ((hr.below hb).more hb.size) hn)
  by_cases h0 : checkV l = 0
  case neg =>
    rcases ne_zero_cases h0 with h4 | h4
    all_goals
      have HE := Lib.hid h4
      have HQ := Lib.hid (bytesV_err h0)
      rw [h4] at HQ
      clear h0 h4 hr hn
      go_enter Tryd.func32, Tryd.ntmps32
      go_wp2_with fail
      refine (HK.out _ (Below.refl _ _)).mono ?_
      rintro e w1 ⟨rfl, hb⟩
      rw [HE.out]
      go_wp2_with fail
      go_ret2
      exact ⟨none, 0, [], _, rfl, HQ.out.symm, Ow.nil _ _ _, hb⟩
  obtain ⟨h1, h2⟩ := checkV_ok.1 h0
  have HE := Lib.hid h0
  have HQ := Lib.hid (show bytesV l = (textV l, 0) by unfold bytesV; rw [if_neg (by omega)])
  have HT := Lib.hid (fun wx (hb : Below w.heap.size w wx) => refTextV_any l A c wx ((hr.below hb).more hb.size) h1 ((rowV_iff l).1 h2).1)
  clear h0 hr hn h1 h2
  go_enter Tryd.func32, Tryd.ntmps32
  go_wp2_with fail
  refine (HK.out _ (Below.refl _ _)).mono ?_
  rintro e w1 ⟨rfl, hb⟩
  rw [HE.out]
  have B1 := Lib.hid hb
  clear hb
  go_wp2_with fail
  refine (HT.out _ B1.out).mono ?_
  rintro e w2 ⟨A2, c2, r2, rfl, hr2, ho2, hb2⟩
  have HR2 := Lib.hid hr2
  clear hr2
  go_wp2_with fail
  go_ret2
  exact ⟨A2, c2, r2, 0, rfl, by rw [HQ.out, HR2.out], ho2.lower B1.out.size, B1.out.trans (hb2.mono B1.out.size)⟩
end Go.Proofs.YtikhffdbjelanaaDoor
namespace Go.Proofs.YtikhffdbjelanaaDoor
open Go.RowKit
set_option linter.unusedVariables false

theorem splitM_three (l : List UInt8) : (Oc.splitM l).2 = 0 ∨ (Oc.splitM l).2 = 4 ∨ (Oc.splitM l).2 = 10 := by
  by_cases h : 16384 < l.length
  · rw [Oc.splitM_big h]; exact .inr (.inl rfl)
  · by_cases h2 : ∃ L, Oc.Fit L ∧ l = Oc.flat L
    · obtain ⟨L, hf, rfl⟩ := h2
      rw [Oc.splitM_flat hf (by omega)]; exact .inl rfl
    · rw [Oc.splitM_no (by omega) (fun L hf e => h2 ⟨L, hf, e⟩)]; exact .inr (.inr rfl)
theorem readV_split {b : List UInt8} (h : (Oc.splitM b).2 ≠ 0) : readV b = ([], (Oc.splitM b).2) := by unfold readV; rw [if_pos h]
theorem readV_none {b : List UInt8} (h : (Oc.splitM b).2 = 0) (ho : ofFields (Oc.splitM b).1 = none) : readV b = ([], 11) := by unfold readV; rw [if_neg (by simp [h]), ho]
theorem readV_no {b : List UInt8} (h : (Oc.splitM b).2 = 0) {l : List Vt} (ho : ofFields (Oc.splitM b).1 = some l) (hc : checkV l ≠ 0) : readV b = ([], 11) := by unfold readV; rw [if_neg (by simp [h]), ho]; simp only; rw [if_neg hc]
theorem readV_yes {b : List UInt8} (h : (Oc.splitM b).2 = 0) {l : List Vt} (ho : ofFields (Oc.splitM b).1 = some l) (hc : checkV l = 0) : readV b = (l, 0) := by unfold readV; rw [if_neg (by simp [h]), ho]; simp only; rw [if_pos hc]
theorem ofFields_take {fs : List (List UInt8)} {k : Nat} (hk : k < fs.length) {out : List Vt} (h : ofFields (fs.take k) = some out) {p s : UInt8} {n : List UInt8} (hf : fs[k] = p :: s :: n) : ofFields (fs.take (k + 1)) = some (out ++ [⟨n, (p.toNat : Int), s.toNat⟩]) := by
  rw [List.take_succ_eq_append_getElem hk, ofFields_snoc, h, hf]
  rfl
theorem ofFields_len : ∀ {fs : List (List UInt8)} {l : List Vt}, ofFields fs = some l → l.length = fs.length := fun h => by
  have := congrArg List.length (fields_ofFields h)
  simpa using this

set_option maxRecDepth 100000 in
set_option maxHeartbeats 4000000 in
theorem refReadV_any (l : List UInt8) (A : Option Addr) (c : Nat) (w : World) (hr : Rf bv w w.heap.size A c l) (hl : l.length ≤ 100000) :
    Calls Tryd.prog 33 #[.slice A l.length c] w (VtsErr w (readV l)) := by
  have HSP := Lib.hid (Oc.refSplit_any A c l w hr.rd24 (by omega))
  go_enter Tryd.func33, Tryd.ntmps33
  go_wp2_with fail
  refine HSP.out.mono ?_
  rintro e w1 ⟨A1, cc1, xs, rfl, hby, how, hb⟩
  have B1 := Lib.hid hb
  have hr1l := how.rd
  clear hb how HSP
  rcases splitM_three l with h0 | h0
  case inr =>
    have HQ := Lib.hid (readV_split (b := l) (by rcases h0 with h | h <;> rw [h] <;> decide))
    obtain ⟨er, her⟩ : ∃ er, er = (Oc.splitM l).2 := ⟨_, rfl⟩
    rw [← her] at h0 HQ ⊢
    have hne : (er != 0) = true := by rw [bne_iff_ne]; rcases h0 with h | h <;> rw [h] <;> decide
    have hne2 : ¬ er = 0 := by rcases h0 with h | h <;> rw [h] <;> decide
    clear h0 her hby hr1l
    go_wp2_with fail
    go_ret2
    exact vtsErr_none HQ.out B1.out
  obtain ⟨hfit, hfl, hbl⟩ := Oc.splitM_ok h0
  have hcnt := Oc.flat_count (Oc.splitM l).1
  rw [← hfl] at hcnt
  have hxl : xs.length ≤ 1000000 := by rw [← Oc.byts_len, hby]; omega
  have HFIT := Lib.hid (show ∀ y ∈ Oc.byts xs, y.length ≤ 65535 by rw [hby]; exact hfit)
  have HBY := Lib.hid hby
  have H0 := Lib.hid h0
  have HRL := Lib.hid hr1l
  clear hby h0 hfit hfl hbl hcnt hr1l
  rw [H0.out]
  obtain ⟨i0, hi0, hz0, hz1, hz2⟩ := info_parts vInfo
  go_wp2_with fail
  go_loopw [6, 7] (fun s6 s7 wr => ∃ (k : Nat) (A2 : Option Addr) (c2 : Nat) (out : List Vt), k ≤ xs.length ∧ s7 = .int .i64 k ∧ s6 = .slice A2 out.length c2 ∧ out.length = k ∧ Hid (ofFields ((Oc.byts xs).take k) = some out) ∧ Hid (OwV wr w1.heap.size A2 c2 out) ∧ Hid (Below w1.heap.size w1 wr)) (fun _ s7 _ => xs.length - (intOf s7).toNat)
  case atStart => exact ⟨0, none, 0, [], Nat.zero_le _, rfl, rfl, rfl, rfl, OwK.nil _ _ _, Below.refl _ _⟩
  case round =>
    obtain ⟨k, A2, c2, out, hk, rfl, rfl, hol, hout, ho, hbw⟩ := hrel
    have hsz := hbw.out.size
    have HOL := Lib.hid hol
    have hol2 : out.length ≤ 1000000 := by omega
    clear hol
    by_cases hlt : k < xs.length
    · obtain ⟨b, o, rfl, hbb, hcc⟩ := (HRL.out.below hbw.out).at_ hlt
      have hcx := hcc k hlt
      have hel := (HRL.out.below hbw.out).el _ (List.getElem_mem hlt)
      have hbk : (Oc.byts xs)[k]'(by rw [Oc.byts_len]; exact hlt) = xs[k].l := by simp [Oc.byts]
      have hmem : xs[k].l ∈ Oc.byts xs := List.mem_map.2 ⟨_, List.getElem_mem hlt, rfl⟩
      obtain ⟨x, hx⟩ : ∃ x, x = xs[k] := ⟨_, rfl⟩
      rw [← hx] at hcx hel hbk hmem
      obtain ⟨xA, xc, xl⟩ := x
      unfold Oc.El.v at hcx
      simp only at hcx hel hbk hmem
      by_cases h2 : xl.length < 2
      · have h2d : decide ((xl.length : Int) < 2) = true := by simp; omega
        have HQ := Lib.hid (readV_none (b := l) H0.out (by rw [← HBY.out]; exact ofFields_none hmem (ofField_short h2)))
        clear h2 hbk hmem hx hel hcc
        go_wp2_with fail
        go_ret2
        exact vtsErr_none HQ.out (B1.out.trans (hbw.out.mono B1.out.size))
      have h2d : decide ((xl.length : Int) < 2) = false := by simp; omega
      obtain ⟨p, s, n, rfl⟩ : ∃ p s n, xl = p :: s :: n := by
        match xl, h2 with
        | [], h => simp at h
        | [_], h => simp at h
        | p :: s :: n, _ => exact ⟨p, s, n, rfl⟩
      obtain ⟨b1, o1, rfl, hb1b, hd⟩ := (rf24 hel).at_ (k := 0) (by simp)
      have hd0 := hd 0 (by simp)
      have hd1 := hd 1 (by simp)
      simp only [List.getElem_cons_zero, List.getElem_cons_succ, Nat.add_zero] at hd0 hd1
      unfold bv at hd0 hd1
      have hnl := HFIT.out _ hmem
      have HOF := Lib.hid (ofFields_take (by rw [Oc.byts_len]; exact hlt) hout.out hbk)
      obtain ⟨N, hN⟩ : ∃ N, N = (p :: s :: n).length := ⟨_, rfl⟩
      rw [← hN] at hcx h2d hnl
      have hN2 : 2 ≤ N := by rw [hN]; simp
      have hcap := (rf24 hel).cap
      have hcpm := (rf24 hel).capm
      rw [← hN] at hcap
      have HEL := Lib.hid (rf24 hel)
      have HNN := Lib.hid hN
      clear hcc hd hN hbk hx hmem h2 hel
      have hN0 : 0 < N := by omega
      have hN1 : 1 < N := by omega
      have hi1 : (1 : Int) < (N : Int) := by omega
      have hi2 : (2 : Int) ≤ (N : Int) := by omega
      have hi3 : (N : Int) ≤ (xc : Int) := by omega
      have hwp : IntKind.i64.wrap (p.toNat : Int) = (p.toNat : Int) := by have := UInt8.toNat_lt p; rw [IntKind.wrap_i64]; omega
      have BW1 := Lib.hid (show Below w1.heap.size wr (wr.drew.alloc (.cells #[.string ⟨n.toArray⟩, .int .i64 (p.toNat : Int), .int .u8 (s.toNat : Int)] 30)) from (Below.refl _ wr).drew.alloc (by simpa using hsz) _)
      have HOA := Lib.hid (ho.out.drew.alloc (.cells #[.string ⟨n.toArray⟩, .int .i64 (p.toNat : Int), .int .u8 (s.toNat : Int)] 30))
      have HRK := Lib.hid (show Rk 3 vl (wr.drew.alloc (.cells #[.string ⟨n.toArray⟩, .int .i64 (p.toNat : Int), .int .u8 (s.toNat : Int)] 30)) (wr.heap.size + 1) (some ⟨wr.heap.size, 0, none⟩) 1 [(⟨n, (p.toNat : Int), s.toNat⟩ : Vt)] from rk_one wr.drew vl_len (⟨n, (p.toNat : Int), s.toNat⟩ : Vt) #[.string ⟨n.toArray⟩, .int .i64 (p.toNat : Int), .int .u8 (s.toNat : Int)] rfl _)
      by_cases hx2 : xc = 2
      · subst hx2
        obtain rfl : N = 2 := by omega
        have hne : n = [] := by
          have := HNN.out
          simp at this
          exact this
        have HCELL := Lib.hid (show ∀ wx : World, Below w1.heap.size wr wx → (wx.cell? ⟨b, o + k, none⟩ = some (.slice (some ⟨b1, o1, none⟩) 2 2) ∧ wx.cell? ⟨b1, o1, none⟩ = some (.int .u8 (p.toNat : Int)) ∧ wx.cell? ⟨b1, o1 + 1, none⟩ = some (.int .u8 (s.toNat : Int)) ∧ (convert 37 9 (.slice (some ⟨b1, o1, none⟩) 0 0)).run Tryd.prog wx = .ok (.string ⟨n.toArray⟩) wx) from fun wx hb => ⟨(hb.cell hbb).trans hcx, (hb.cell hb1b).trans hd0, (hb.cell hb1b).trans hd1, by
          have h : Rf bv wx w1.heap.size (some ⟨b1, o1, none⟩) 0 ([] : List UInt8) := ⟨Nat.le_refl _, by simp [maxLen], (fun e => by cases e), fun _ _ j hj => by simp at hj⟩
          have h2 := run_string_f (P := Tryd.prog) wx 37 9 5 Tryd.underlying37 Tryd.underlying5 Tryd.underlying9 h
          rw [hne]
          exact h2⟩)
        clear hne
        have hS0 := HCELL.out wr.drew (Below.refl _ wr).drew
        have hS1 := HCELL.out _ BW1.out
        go_wp2_with fail
        go_region_held3 (fun w' => (w'.cell? ⟨b, o + k, none⟩ = some (.slice (some ⟨b1, o1, none⟩) 2 2) ∧ w'.cell? ⟨b1, o1, none⟩ = some (.int .u8 (p.toNat : Int)) ∧ w'.cell? ⟨b1, o1 + 1, none⟩ = some (.int .u8 (s.toNat : Int)) ∧ (convert 37 9 (.slice (some ⟨b1, o1, none⟩) 0 0)).run Tryd.prog w' = .ok (.string ⟨n.toArray⟩) w')) (first | exact hS0 | exact hS1 | exact hS3) (first
          | (refine step_append_k vl_len vl_one rfl (.tmp 28) (.tmp 49) 22 rfl w1.heap.size 30 32 i0 _ Tryd.underlying22 hi0 hz0 hz1 (by omega) hz2 (by omega) rfl out [⟨n, (p.toNat : Int), s.toNat⟩] rfl rfl HOA.out HRK.out (by simp; omega) (Nat.le_trans hsz (by simp)) ?_; intro A3 c3 w3 r3 hr3 ho3 hg3 hb3; have BW3 := Lib.hid (BW1.out.grown hg3 (Nat.le_trans hsz (by simp)) (fun j hj => (ho.out.blk_ge j hj).1)); have hS3 := HCELL.out _ BW3.out)
          | fail)
        have HO5 := Lib.hid (show ofFields ((Oc.byts xs).take (k + 1)) = some r3 by rw [hr3.out]; exact HOF.out)
        have HL5 := (show r3.length = k + 1 by rw [hr3.out, List.length_append, HOL.out]; rfl)
        have B5 := Lib.hid (hbw.out.trans BW3.out)
        go_wp2_with fail
        go_roundw
        case rel => exact ⟨k + 1, A3, c3, r3, by omega, by go_num, rfl, HL5, HO5, ho3, B5⟩
        case measure => simp [intOf]; omega
      have hx3 : ¬ (xc : Int) = 2 := by omega
      have hx4 : ¬ xc - 2 = 0 := by omega
      have HCELL := Lib.hid (show ∀ wx : World, Below w1.heap.size wr wx → (wx.cell? ⟨b, o + k, none⟩ = some (.slice (some ⟨b1, o1, none⟩) N xc) ∧ wx.cell? ⟨b1, o1, none⟩ = some (.int .u8 (p.toNat : Int)) ∧ wx.cell? ⟨b1, o1 + 1, none⟩ = some (.int .u8 (s.toNat : Int)) ∧ (convert 37 9 (.slice (some ⟨b1, o1 + 2, none⟩) (N - 2) (xc - 2))).run Tryd.prog wx = .ok (.string ⟨n.toArray⟩) wx) from fun wx hb => ⟨(hb.cell hbb).trans hcx, (hb.cell hb1b).trans hd0, (hb.cell hb1b).trans hd1, by
        have h := (HEL.out.below hb).piece 2 n.length (by simp; omega)
        have e : seg (p :: s :: n) 2 n.length = n := by simp [seg]
        rw [e] at h
        have h2 := run_string_f (P := Tryd.prog) wx 37 9 5 Tryd.underlying37 Tryd.underlying5 Tryd.underlying9 h
        rw [show N - 2 = n.length by rw [HNN.out]; simp]
        exact h2⟩)
      have hS0 := HCELL.out wr.drew (Below.refl _ wr).drew
      have hS1 := HCELL.out _ BW1.out
      go_wp2_with fail
      go_region_held3 (fun w' => (w'.cell? ⟨b, o + k, none⟩ = some (.slice (some ⟨b1, o1, none⟩) N xc) ∧ w'.cell? ⟨b1, o1, none⟩ = some (.int .u8 (p.toNat : Int)) ∧ w'.cell? ⟨b1, o1 + 1, none⟩ = some (.int .u8 (s.toNat : Int)) ∧ (convert 37 9 (.slice (some ⟨b1, o1 + 2, none⟩) (N - 2) (xc - 2))).run Tryd.prog w' = .ok (.string ⟨n.toArray⟩) w')) (first | exact hS0 | exact hS1 | exact hS3) (first
        | (refine step_append_k vl_len vl_one rfl (.tmp 28) (.tmp 49) 22 rfl w1.heap.size 30 32 i0 _ Tryd.underlying22 hi0 hz0 hz1 (by omega) hz2 (by omega) rfl out [⟨n, (p.toNat : Int), s.toNat⟩] rfl rfl HOA.out HRK.out (by simp; omega) (Nat.le_trans hsz (by simp)) ?_; intro A3 c3 w3 r3 hr3 ho3 hg3 hb3; have BW3 := Lib.hid (BW1.out.grown hg3 (Nat.le_trans hsz (by simp)) (fun j hj => (ho.out.blk_ge j hj).1)); have hS3 := HCELL.out _ BW3.out)
        | fail)
      have HO5 := Lib.hid (show ofFields ((Oc.byts xs).take (k + 1)) = some r3 by rw [hr3.out]; exact HOF.out)
      have HL5 := (show r3.length = k + 1 by rw [hr3.out, List.length_append, HOL.out]; rfl)
      have B5 := Lib.hid (hbw.out.trans BW3.out)
      go_wp2_with fail
      go_roundw
      case rel => exact ⟨k + 1, A3, c3, r3, by omega, by go_num, rfl, HL5, HO5, ho3, B5⟩
      case measure => simp [intOf]; omega
    · obtain rfl : k = xs.length := by omega
      have HOF := Lib.hid (show ofFields (Oc.splitM l).1 = some out by
        have := hout.out
        rw [List.take_of_length_le (by rw [Oc.byts_len]; omega), HBY.out] at this
        exact this)
      have HNM := Lib.hid (show ∀ v ∈ out, v.name.length ≤ 4000000000 from fun v hv => by
        have h := fields_ofFields HOF.out
        have hm : fieldV v ∈ Oc.byts xs := by rw [HBY.out, ← h]; exact List.mem_map.2 ⟨v, hv, rfl⟩
        have := HFIT.out _ hm
        simp [fieldV] at this
        omega)
      have HKK := Lib.hid (fun wx (hb : Below wr.heap.size wr wx) => refCheckV_any out A2 c2 wx ((((ho.out.rd vl_len).below hb)).more hb.size) HNM.out)
      have B4 := Lib.hid (B1.out.trans (hbw.out.mono B1.out.size))
      by_cases h0 : checkV out = 0
      · have HE := Lib.hid h0
        have HQ := Lib.hid (readV_yes (b := l) H0.out HOF.out h0)
        clear h0
        go_wp2_with fail
        refine (HKK.out _ (Below.refl _ _)).mono ?_
        rintro e w5 ⟨rfl, hb⟩
        rw [HE.out]
        have HO5 := Lib.hid (ho.out.below (Nat.le_refl _) hb)
        have B5 := Lib.hid (B4.out.trans (hb.mono B4.out.size))
        clear hb
        go_wp2_with fail
        go_ret2
        exact ⟨A2, c2, out, 0, rfl, HQ.out.symm, HO5.out.lower B1.out.size, B5.out⟩
      · have HQ := Lib.hid (readV_no (b := l) H0.out HOF.out h0)
        rcases ne_zero_cases h0 with h4 | h4
        all_goals
          have HE := Lib.hid h4
          clear h0 h4
          go_wp2_with fail
          refine (HKK.out _ (Below.refl _ _)).mono ?_
          rintro e w5 ⟨rfl, hb⟩
          rw [HE.out]
          have B5 := Lib.hid (B4.out.trans (hb.mono B4.out.size))
          clear hb
          go_wp2_with fail
          go_ret2
          exact vtsErr_none HQ.out B5.out
end Go.Proofs.YtikhffdbjelanaaDoor
namespace Go.Proofs.YtikhffdbjelanaaDoor
open Go.RowKit
set_option linter.unusedVariables false

/-- What a list of voters that a call is given is known to be. -/
structure VtOk (l : List Vt) : Prop where
  len : l.length ≤ 100000
  name : ∀ v ∈ l, v.name.length ≤ 100000
  state : ∀ v ∈ l, v.state ≤ 255
  pre : ∀ v ∈ l, -9223372036854775808 ≤ v.pre ∧ v.pre ≤ 9223372036854775807
theorem VtOk.nil : VtOk [] := ⟨by simp, by simp, by simp, by simp⟩
theorem VtOk.long {l : List Vt} (h : VtOk l) : ∀ v ∈ l, v.name.length ≤ 4000000000 := fun v hv => Nat.le_trans (h.name v hv) (by decide)
/-- A roll is such. -/
theorem VtOk.roll {l : List Vt} (h : checkV l = 0) : VtOk l := by
  obtain ⟨h1, h2⟩ := checkV_ok.1 h
  have hm := ((rowV_iff l).1 h2).1
  refine ⟨by omega, fun v hv => ?_, fun v hv => ?_, fun v hv => ?_⟩
  · have := ((nameB_iff _).1 ((mayV_iff v).1 (hm v hv)).1).2.1; omega
  · have := (mayV_iff v).1 (hm v hv); omega
  · have := (mayV_iff v).1 (hm v hv); omega
theorem addV_fine (l : List Vt) (n : List UInt8) (p : Int) : VtOk (addV l n p).1 := by
  by_cases h : (addV l n p).2 = 0
  · exact VtOk.roll (addV_check h)
  · rw [addV_err h]; exact VtOk.nil
theorem doneV_fine (l : List Vt) (n : List UInt8) (o : Int) : VtOk (doneV l n o).1 := by
  by_cases h : (doneV l n o).2 = 0
  · exact VtOk.roll (doneV_check h).1
  · rw [doneV_err h]; exact VtOk.nil
theorem readV_fine (b : List UInt8) : VtOk (readV b).1 := by
  by_cases h : (readV b).2 = 0
  · exact VtOk.roll (bytesV_read h).2
  · rw [readV_err h]; exact VtOk.nil
theorem bytesV_short (l : List Vt) : (bytesV l).1.length ≤ 3000 := by
  by_cases h : checkV l = 0
  · have := textV_short h
    unfold bytesV
    rw [if_neg (by omega)]
    exact this
  · rw [bytesV_err h]; simp

structure Con24 (T : World → Prop) : Prop where
  keep : ∀ {w w' : World}, T w → Below w.heap.size w w' → T w'
  check : ∀ (l : List Vt) (A : Option Addr) (c : Nat) (w : World), Rvt w w.heap.size A c l → VtOk l → T w → Calls Tryd.prog 22 #[.slice A l.length c] w fun e w' => e = .returned (.int .i64 (checkV l)) ∧ Below w.heap.size w w'
  find : ∀ (l : List Vt) (n : List UInt8) (A : Option Addr) (c : Nat) (w : World), Rvt w w.heap.size A c l → VtOk l → n.length ≤ 100000 → T w → Calls Tryd.prog 17 #[.slice A l.length c, .string ⟨n.toArray⟩] w (VtErr w (findV l n))
  count : ∀ (l : List Vt) (p : Int) (A : Option Addr) (c : Nat) (w : World), Rvt w w.heap.size A c l → VtOk l → (-9223372036854775808 ≤ p ∧ p ≤ 9223372036854775807) → T w → Calls Tryd.prog 18 #[.slice A l.length c, .int .i64 p] w (ToErr w (countV l p))
  add : ∀ (l : List Vt) (n : List UInt8) (p : Int) (A : Option Addr) (c : Nat) (w : World), Rvt w w.heap.size A c l → VtOk l → n.length ≤ 100000 → (-9223372036854775808 ≤ p ∧ p ≤ 9223372036854775807) → T w → Calls Tryd.prog 12 #[.slice A l.length c, .string ⟨n.toArray⟩, .int .i64 p] w (VtsErr w (addV l n p))
  issue : ∀ (l : List Vt) (n : List UInt8) (A : Option Addr) (c : Nat) (w : World), Rvt w w.heap.size A c l → VtOk l → n.length ≤ 100000 → T w → Calls Tryd.prog 34 #[.slice A l.length c, .string ⟨n.toArray⟩] w (VtsErr w (doneV l n 1))
  ret : ∀ (l : List Vt) (n : List UInt8) (A : Option Addr) (c : Nat) (w : World), Rvt w w.heap.size A c l → VtOk l → n.length ≤ 100000 → T w → Calls Tryd.prog 14 #[.slice A l.length c, .string ⟨n.toArray⟩] w (VtsErr w (doneV l n 2))
  vote : ∀ (l : List Vt) (n : List UInt8) (A : Option Addr) (c : Nat) (w : World), Rvt w w.heap.size A c l → VtOk l → n.length ≤ 100000 → T w → Calls Tryd.prog 13 #[.slice A l.length c, .string ⟨n.toArray⟩] w (VtsErr w (doneV l n 3))
  strike : ∀ (l : List Vt) (n : List UInt8) (A : Option Addr) (c : Nat) (w : World), Rvt w w.heap.size A c l → VtOk l → n.length ≤ 100000 → T w → Calls Tryd.prog 15 #[.slice A l.length c, .string ⟨n.toArray⟩] w (VtsErr w (doneV l n 4))
  restore : ∀ (l : List Vt) (n : List UInt8) (A : Option Addr) (c : Nat) (w : World), Rvt w w.heap.size A c l → VtOk l → n.length ≤ 100000 → T w → Calls Tryd.prog 16 #[.slice A l.length c, .string ⟨n.toArray⟩] w (VtsErr w (doneV l n 5))
  bytes : ∀ (l : List Vt) (A : Option Addr) (c : Nat) (w : World), Rvt w w.heap.size A c l → VtOk l → T w → Calls Tryd.prog 31 #[.slice A l.length c] w (BytesErrV w (bytesV l))
  read : ∀ (l : List UInt8) (A : Option Addr) (c : Nat) (w : World), Rf bv w w.heap.size A c l → l.length ≤ 100000 → T w → Calls Tryd.prog 19 #[.slice A l.length c] w (VtsErr w (readV l))

set_option maxRecDepth 100000 in
set_option maxHeartbeats 1000000 in
/-- The law's copy of a list. -/
theorem twin_any (l : List Vt) (A : Option Addr) (c : Nat) (w : World) (hr : Rvt w w.heap.size A c l) (hl : l.length ≤ 100000) :
    Calls Tryd.prog 24 #[.slice A l.length c] w fun e w' => ∃ (A' : Option Addr) (c' : Nat), e = .returned (.slice A' l.length c') ∧ OwV w' w.heap.size A' c' l ∧ Below w.heap.size w w' := by
  obtain ⟨i0, hi0, hz0, hz1, hz2⟩ := info_parts vInfo
  have HR := Lib.hid hr
  clear hr
  go_enter Tryd.func24, Tryd.ntmps24
  go_wp2_with (at_builtin; refine wpList_append_k _ vl_len vl_one rfl _ _ 22 rfl w.heap.size 30 32 i0 _ Tryd.underlying22 hi0 hz0 hz1 (by omega) hz2 (by omega) rfl ([] : List Vt) l rfl rfl (owk_zero _ _ _ (Nat.le_refl _)) (HR.out.below (below_new w _)) (by simp; omega) (by simp) ?_; intro A3 c3 w3 r3 hr3 ho3 hg3 hb3)
  obtain rfl : r3 = l := by rw [hr3.out, List.nil_append]
  go_ret
  exact ⟨A3, c3, rfl, ho3, (below_new w _).trans (below_of_grown hg3 (by simp) (by intro k hk; simp [blk] at hk; omega))⟩

set_option maxRecDepth 100000 in
set_option maxHeartbeats 2000000 in
/-- The law's 'does'. -/
theorem does_any {T : World → Prop} (K : Con24 T) (l : List Vt) (n : List UInt8) (o : Int) (A : Option Addr) (c : Nat) (w : World) (hr : Rvt w w.heap.size A c l) (hl : VtOk l) (hn : n.length ≤ 100000) (hT : T w) :
    Calls Tryd.prog 29 #[.slice A l.length c, .string ⟨n.toArray⟩, .int .i64 o] w (VtsErr w (doneV l n o)) := by
  have H1 := Lib.hid (K.issue l n A c w hr hl hn hT)
  have H2 := Lib.hid (K.ret l n A c w hr hl hn hT)
  have H3 := Lib.hid (K.vote l n A c w hr hl hn hT)
  have H4 := Lib.hid (K.strike l n A c w hr hl hn hT)
  have H5 := Lib.hid (K.restore l n A c w hr hl hn hT)
  clear K hr hl hn hT
  have hw5 : o ≠ 1 → o ≠ 2 → o ≠ 3 → o ≠ 4 → doneV l n o = doneV l n 5 := fun h1 h2 h3 h4 => by
    have e : wasis o = wasis 5 := by unfold wasis; rw [if_neg h1, if_neg h2, if_neg h3, if_neg h4]; rfl
    unfold doneV
    rw [e]
  have HW := Lib.hid hw5
  clear hw5
  by_cases h1 : o = 1
  · subst h1
    go_enter Tryd.func29, Tryd.ntmps29
    go_wp2_with fail
    refine H1.out.mono ?_
    rintro e w1 ⟨A1, c1, r1, e1, rfl, hq, ho, hb⟩
    go_wp2_with fail
    go_ret2
    exact ⟨A1, c1, r1, e1, rfl, hq, ho, hb⟩
  by_cases h2 : o = 2
  · subst h2
    go_enter Tryd.func29, Tryd.ntmps29
    go_wp2_with fail
    refine H2.out.mono ?_
    rintro e w1 ⟨A1, c1, r1, e1, rfl, hq, ho, hb⟩
    go_wp2_with fail
    go_ret2
    exact ⟨A1, c1, r1, e1, rfl, hq, ho, hb⟩
  by_cases h3 : o = 3
  · subst h3
    go_enter Tryd.func29, Tryd.ntmps29
    go_wp2_with fail
    refine H3.out.mono ?_
    rintro e w1 ⟨A1, c1, r1, e1, rfl, hq, ho, hb⟩
    go_wp2_with fail
    go_ret2
    exact ⟨A1, c1, r1, e1, rfl, hq, ho, hb⟩
  by_cases h4 : o = 4
  · subst h4
    go_enter Tryd.func29, Tryd.ntmps29
    go_wp2_with fail
    refine H4.out.mono ?_
    rintro e w1 ⟨A1, c1, r1, e1, rfl, hq, ho, hb⟩
    go_wp2_with fail
    go_ret2
    exact ⟨A1, c1, r1, e1, rfl, hq, ho, hb⟩
  rw [HW.out h1 h2 h3 h4]
  go_enter Tryd.func29, Tryd.ntmps29
  go_wp2_with fail
  refine H5.out.mono ?_
  rintro e w1 ⟨A1, c1, r1, e1, rfl, hq, ho, hb⟩
  go_wp2_with fail
  go_ret2
  exact ⟨A1, c1, r1, e1, rfl, hq, ho, hb⟩
end Go.Proofs.YtikhffdbjelanaaDoor
