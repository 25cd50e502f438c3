/- The reference's Bytes. -/
import Derived.Test.YtdjifopdlkppoaaDoorRefB
import Derived.Test.YtdjifopdlkppoaaDoorCon
namespace Go.Proofs.YtdjifopdlkppoaaDoor
open Go.RowKit
set_option linter.unusedVariables false

set_option maxRecDepth 100000 in
set_option maxHeartbeats 1000000 in
theorem refBytes_any (x : Ct) (A : Option Addr) (c : Nat) (w : World) (hc : CtOk w A c x) (hn : x.name.length ≤ 4000000000) (hl : ∀ y ∈ x.cands, y.length ≤ 4000000000) :
    Calls Tryd.prog 41 #[cv A c x] w (BytesErr7 w (bytesM x)) := by
  have HK := Lib.hid (fun wx (hb : Below w.heap.size w wx) => refCheck_any x A c wx ((hc.below hb).rd) hn hl hc.rule hc.seats)
  have HR := Lib.hid (fun wx (hb : Below w.heap.size w wx) => (hc.below hb).rd)
  have B0 := Lib.hid (below_new w (.cells (cvs A c x) 26))
  have HB0 := Lib.hid (show Blk (w.alloc (.cells (cvs A c x) 26)) w.heap.size 26 (cvs A c x) from Blk.new w _ _)
  have hcs := checkM_cases x
  clear hc hn hl
  unfold cv
  unfold cvs at B0 ⊢
  rcases hcs with h0 | h0 | h0
  · have HM := Lib.hid (checkM_ok.1 h0)
    have HQ := Lib.hid (show bytesM x = (textM x, 0) by unfold bytesM; rw [if_neg (by omega)])
    have H0 := Lib.hid h0
    clear h0
    go_enter Tryd.func41, Tryd.ntmps41
    go_wp2_with fail
    refine (HK.out _ B0.out).mono ?_
    rintro e w1 ⟨rfl, hb⟩
    rw [H0.out]
    have B1 := Lib.hid (B0.out.trans (hb.mono B0.out.size))
    have HB1 := Lib.hid (HB0.out.below hb HB0.out.lt)
    clear hb
    go_wp2_with (with_reducible refine wpList_load_ct (by kernel_rfl) (.tmp 1) rfl w.heap.size rfl (A := A) (c := c) (x := x) HB1.out ?_)
    refine (refText_any x A c _ (HR.out _ B1.out) HM.out).mono ?_
    rintro e w2 ⟨A2, c2, r2, rfl, hr2, ho2, hb⟩
    have B2 := Lib.hid (B1.out.trans (hb.mono B1.out.size))
    have HO2 := Lib.hid (ho2.lower B1.out.size)
    have HR2 := Lib.hid hr2
    clear hb hr2 ho2
    go_wp2_with fail
    go_ret2
    exact ⟨A2, c2, r2, 0, rfl, by rw [HQ.out, HR2.out], HO2.out, B2.out⟩
  all_goals
    have HQ := Lib.hid (bytesM_err (c := x) (by rw [h0]; decide))
    have H0 := Lib.hid h0
    clear h0
    go_enter Tryd.func41, Tryd.ntmps41
    go_wp2_with fail
    refine (HK.out _ B0.out).mono ?_
    rintro e w1 ⟨rfl, hb⟩
    rw [H0.out]
    have B1 := Lib.hid (B0.out.trans (hb.mono B0.out.size))
    clear hb
    go_wp2_with fail
    go_ret2
    exact ⟨none, 0, [], _, rfl, by rw [HQ.out, H0.out] <;> rfl, Ow.nil _ _ _, B1.out⟩
end Go.Proofs.YtdjifopdlkppoaaDoor
