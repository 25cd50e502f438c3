/- draw's source: try; octet's Put and Take in the words of Mem. -/
import Derived.Test.YtipclieldokfnaaDoorOcTake
import Derived.Test.YtipclieldokfnaaDoorApi
namespace Go.Proofs.YtipclieldokfnaaDoor
open Go.RowKit
set_option linter.unusedVariables false

theorem Rf.ocRd {w : World} {B c : Nat} {A : Option Addr} {l : List UInt8} (h : Rf bv w B A c l) : Oc.Rd w B A c l := ⟨h.cap, h.capm, h.nil, fun ad e j hj => h.cell ad e j hj⟩
theorem ow_of_oc {w : World} {base e c : Nat} {A : Option Addr} {l : List UInt8} (h : Oc.Own w base e A c l) : Ow bv w base e A c l := h

/-- octet.Put of a number of four bytes, which there is room for. -/
theorem put4_any (A : Option Addr) (c B : Nat) (l : List UInt8) (n : Nat) (w : World) (hr : Rf bv w B A c l) (hB : B ≤ w.heap.size) (hl : l.length ≤ 16380) (hn : n < 4294967296) :
    Calls Tryd.prog 40 #[.slice A l.length c, .int .u64 n, .int .i64 4] w fun e w' => ∃ A' c' r, e = .returned (.tuple #[.slice A' r.length c', .int .i64 0]) ∧ r = l ++ beN 4 n ∧ Ow bv w' w.heap.size 5 A' c' r ∧ Below w.heap.size w w' := by
  refine (Oc.put_any A c l n 4 w (hr.more hB).ocRd (by omega) (by omega) (by omega) (by omega)).mono ?_
  have hq : Oc.putM l n 4 = (l ++ beN 4 n, 0) := by
    unfold Oc.putM
    rw [if_pos ⟨by omega, by omega, by show n < 2 ^ 32; omega⟩, if_pos (by show l.length + 4 ≤ 16384; omega)]
    rfl
  rw [hq]
  rintro e w' ⟨A', c', r, he, hr2, ho, hb⟩
  exact ⟨A', c', r, he, hr2, ho, hb⟩
/-- octet.Take of eight bytes at the start. -/
theorem take8_any (A : Option Addr) (c B : Nat) (l : List UInt8) (w : World) (hr : Rf bv w B A c l) (hB : B ≤ w.heap.size) (hl : 8 ≤ l.length) (hl2 : l.length ≤ 200000) :
    Calls Tryd.prog 41 #[.slice A l.length c, .int .i64 0, .int .i64 8] w fun e w' => e = .returned (.tuple #[.int .u64 (num (l.take 8) : Nat), .int .i64 8, .int .i64 0]) ∧ w = w' := by
  have := Oc.take_ok A c l 0 8 w (hr.more hB).ocRd hl2 (by omega) (by omega) (by omega)
  exact this

/-- Try number k. -/
def tryM (s : List UInt8) (i k : Nat) : Nat := num ((dig (s ++ beN 4 i ++ beN 4 k)).take 8)
theorem tryM_lt (s : List UInt8) (i k : Nat) : tryM s i k < 18446744073709551616 := by
  have h := num_lt ((dig (s ++ beN 4 i ++ beN 4 k)).take 8)
  have hl : ((dig (s ++ beN 4 i ++ beN 4 k)).take 8).length = 8 := by rw [List.length_take, dig_len]; rfl
  rw [hl] at h
  exact Nat.lt_of_lt_of_le h (by decide)

set_option maxRecDepth 100000 in
set_option maxHeartbeats 1000000 in
theorem try_any (s : List UInt8) (i k : Nat) (w : World) (hs : s.length = 32) (hi : i < 4294967296) (hk : k < 4294967296) (hT : Tab w) :
    Calls Tryd.prog 46 #[ab s, .int .u32 i, .int .u32 k] w fun e w' => e = .returned (.int .u64 (tryM s i k : Nat)) ∧ Below w.heap.size w w' := by
  have HT := Lib.hid hT
  have HS := Lib.hid hs
  clear hT hs
  unfold ab
  obtain ⟨cs, hcs⟩ : ∃ cs, (s.map bv).toArray = cs := ⟨_, rfl⟩
  have hbx := Hb.new bv w 66 s cs hcs
  rw [hcs]
  have HBX := Lib.hid hbx
  clear hcs hbx
  have hsl : ∀ (b : Nat) (wx : World), (Instr.sliceAt 66 (.pointer (some ⟨b, 0, none⟩)) none none none).run Tryd.prog wx = .ok (.slice (some ⟨b, 0, none⟩) 32 32) wx := fun b wx => slice_all (P := Tryd.prog) Tryd.underlying66 bSize (by omega) b wx
  have hsl2 : ∀ (b : Nat) (wx : World), (Instr.sliceAt 22 (.pointer (some ⟨b, 0, none⟩)) none none none).run Tryd.prog wx = .ok (.slice (some ⟨b, 0, none⟩) 32 32) wx := fun b wx => slice_all (P := Tryd.prog) Tryd.underlying22 bSize (by omega) b wx
  go_enter Tryd.func46, Tryd.ntmps46
  go_wp2_with fail
  have hr0 := (HBX.out.rf_all (c := 32) (by rw [HS.out]; exact Nat.le_refl _) (by unfold maxLen; omega))
  have p1 := put4_any _ 32 _ s i _ hr0 (Nat.le_refl _) (by rw [HS.out]; omega) hi
  rw [HS.out] at p1
  refine p1.mono ?_
  clear p1 hr0
  rintro e w1 ⟨A1, c1, r1, rfl, hr1, ho1, hb1⟩
  have HR1 := Lib.hid hr1
  have hl1 : r1.length ≤ 16380 := by rw [hr1, List.length_append, HS.out, beN_len]; omega
  clear hr1
  go_wp2_with fail
  refine (put4_any A1 c1 _ r1 k _ ho1.rd (Nat.le_refl _) hl1 hk).mono ?_
  rintro e w2 ⟨A2, c2, r2, rfl, hr2, ho2, hb2⟩
  have HR2 := Lib.hid hr2
  have hl2 : r2.length ≤ 16384 := by rw [hr2, List.length_append, beN_len]; omega
  have hl3 : r2.length ≤ 8192 := by rw [hr2, HR1.out]; simp only [List.length_append, HS.out, beN_len]; omega
  have hbw2 : Below w.heap.size w w2 := ((below_new w _).trans (hb1.mono (by simp))).trans (hb2.mono (by have := hb1.size; simp at this; omega))
  clear hr2 hl1 ho1 hb1 hb2
  go_wp2_with fail
  refine (sum_any A2 c2 _ r2 _ ho2.rd (Nat.le_refl _) (by omega) (HT.out.below hbw2)).mono ?_
  rintro e w3 ⟨rfl, hb3⟩
  have hM : sumM r2 = (dig r2, 0) := by unfold sumM; rw [if_neg (by omega)]
  rw [hM]
  have HTRY := Lib.hid (show num ((dig r2).take 8) = tryM s i k by rw [HR2.out, HR1.out]; rfl)
  have hbw3 := hbw2.trans (hb3.mono hbw2.size)
  clear hM hb3 hbw2 ho2 hl2 hl3
  obtain ⟨d, hd⟩ : ∃ d, d = dig r2 := ⟨_, rfl⟩
  rw [← hd] at HTRY
  dsimp only
  rw [← hd]
  have HDL := Lib.hid (show d.length = 32 by rw [hd]; exact dig_len _)
  clear hd
  unfold ab
  go_wp2_with ((with_reducible refine wpList_store_hb bv_one rfl _ (.tmp 9) (.tmp 31) rfl _ d rfl rfl (Hb.new bv w3 _ (List.replicate 32 0) _ z32) size32 (List.length_replicate ..) HDL.out ?_); intro w4 h4 hg4)
  have hbw4 : Below w.heap.size w w4 := (hbw3.alloc hbw3.size _).grown hg4 (hbw3.alloc hbw3.size _).size (fun k e => by cases e; exact hbw3.size)
  have t1 := take8_any _ 32 _ d w4 (h4.rf_all (c := 32) (by rw [HDL.out]; exact Nat.le_refl _) (by unfold maxLen; omega)) (Nat.le_refl _) (by rw [HDL.out]; omega) (by rw [HDL.out]; omega)
  rw [HDL.out] at t1
  refine t1.mono ?_
  clear t1
  rintro e w5 ⟨rfl, rfl⟩
  rw [HTRY.out]
  go_wp2_with fail
  go_ret
  exact ⟨rfl, hbw4⟩
end Go.Proofs.YtipclieldokfnaaDoor
