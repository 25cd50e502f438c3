/- digest's Node. -/
import Derived.Test.YtipclieldokfnaaDoorApi
import Derived.Deep.RegionLaw
namespace Go.Proofs.YtipclieldokfnaaDoor
open Go.RowKit
set_option linter.unusedVariables false

set_option maxRecDepth 100000 in
set_option maxHeartbeats 400000 in
theorem nodeX_any (x y : List UInt8) (w : World) (hx : x.length = 32) (hy : y.length = 32) (hT : Tab w) :
    Calls Tryd.prog 30 #[ab x, ab y] w fun e w' => e = .returned (ab (nodeM x y)) ∧ Below w.heap.size w w' := by
  have HT := Lib.hid hT
  obtain ⟨cx, hcx⟩ : ∃ cx, (x.map bv).toArray = cx := ⟨_, rfl⟩
  obtain ⟨cy, hcy⟩ : ∃ cy, (y.map bv).toArray = cy := ⟨_, rfl⟩
  have hcc := node_concat x y cx cy w hx hy hcx hcy
  obtain ⟨z, hz⟩ : ∃ z, z = 1 :: (x ++ y) := ⟨_, rfl⟩
  have HXY := Lib.hid (show z.length ≤ 100000 by rw [hz]; simp; omega)
  have HN := Lib.hid (show nodeM x y = dig z by rw [hz]; rfl)
  rw [← hz] at hcc
  have HCC := Lib.hid hcc
  rw [HN.out]
  clear hcc hz
  unfold ab
  rw [hcx, hcy]
  clear hcx hcy hT hx hy
  have hsl : ∀ (b : Nat) (wx : World), (Instr.sliceAt 22 (.pointer (some ⟨b, 0, none⟩)) none none none).run Tryd.prog wx = .ok (.slice (some ⟨b, 0, none⟩) 32 32) wx := fun b wx => slice_all (P := Tryd.prog) Tryd.underlying22 bSize (by omega) b wx
  go_enter Tryd.func30, Tryd.ntmps30
  go_wp2_with fail
  go_region_law (first
    | (go_simp; go_at_call 43; refine HCC.out.mono ?_; rintro e w1 ⟨A1, c1, rfl, hr1, hz1, hb1⟩)
    | (go_simp; go_at_call 42; refine (digest_any A1 c1 _ z w1 hr1 (Nat.le_refl _) HXY.out (HT.out.below hb1)).mono ?_; rintro e2 w2 ⟨rfl, hb2⟩; unfold ab; have hz2 := hz1.below hb2 hz1.lt; have hbw2 := hb1.trans (hb2.mono hb1.size); clear hz1 hb1 hb2 hr1; rename_i K0 hK0; refine hK0 _ _ ?_; refine wpAny_ready (rs := [6]) (by kernel_rfl) (by simp) ?_; refine AllReady.cons rfl (fun K hK => ?_) AllReady.nil; refine step_store_hb bv_one rfl _ (.tmp 4) (.tmp 10) rfl _ (dig z) rfl rfl hz2 size32 (List.length_replicate ..) (dig_len _) ?_; intro w3 h3 hg3; refine hK _ _ ?_))
  go_wp2_with fail
  refine bodyPost_cell (f := bv) (g := w.heap.size + 1 + 1) (t := 22) (L := dig z) rfl rfl h3 Tryd.underlying22 (by rw [dig_len]; exact size32) rfl ⟨rfl, ?_⟩
  exact hbw2.grown hg3 hbw2.size (fun k e => by cases e; omega)
end Go.Proofs.YtipclieldokfnaaDoor
