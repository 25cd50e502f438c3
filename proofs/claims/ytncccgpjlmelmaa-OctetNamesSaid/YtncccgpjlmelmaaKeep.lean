/- append onto bytes of the call's own: the slice that was appended to still reads as it did. No program is named here. -/
import Derived.Test.YtncccgpjlmelmaaMem
namespace Go.Proofs.Ytncccgpjlmelmaa
open Go.RowKit
set_option linter.unusedVariables false

theorem Own.prefix_rd {w : World} {base e g c : Nat} {l m : List UInt8} (h : Own w base e (some ⟨g, 0, none⟩) c (l ++ m)) : Rd w w.heap.size (some ⟨g, 0, none⟩) c l := by
  have hr := h.rd
  have hc := hr.cap
  rw [List.length_append] at hc
  refine ⟨by omega, hr.capm, hr.nil, fun ad e j hj => ?_⟩
  obtain ⟨h1, h2⟩ := hr.cell ad e j (by rw [List.length_append]; omega)
  exact ⟨h1, by rw [h2, List.getElem_append_left hj]⟩

section
variable {P : Program} (w : World)
theorem run_append_keep (base e : Nat) (t ty : TypeId) (i : TypeInfo) (z : Value) (ht : P.underlying t = some (.slice e)) (hi : P.info? e = some i) (hz : i.zero = some z) (hsize : i.size = 1) (hby : i.bytes = 1) (hzs : z.cells.size = 1)
    {A A2 : Option Addr} {c c2 B : Nat} {l m : List UInt8} (hown : Own w base e A c l) (hr : Rd w B A2 c2 m) (hle : l.length + m.length ≤ 140737488355328) (hbase : base ≤ w.heap.size) :
    ∃ A' c' w', (Builtin.append_ #[t, t] ty #[.slice A l.length c, .slice A2 m.length c2]).run P w = .ok (.slice A' (l ++ m).length c') w' ∧ Own w' base e A' c' (l ++ m) ∧ w.grownBy w' (blk A) ∧
      Rd w' w'.heap.size A c l := by
  obtain ⟨A', c', w', hrun, h2, h3, h4⟩ := run_append_bytes (P := P) w base e t ty i z ht hi hz hsize hby hzs hown hr hle hbase
  cases A2 with
  | none =>
    have hc2 := hr.nil rfl
    have hm : m = [] := List.eq_nil_of_length_eq_zero (by have := hr.cap; omega)
    subst hm
    subst hc2
    have := run_append_owned_none (P := P) w base t ty e i 1 ht hi _ _ _ hown
    rw [List.length_nil, this] at hrun
    injection hrun with _ hw
    subst hw
    exact ⟨A', c', w, by rw [List.length_nil, this]; congr 1, h2, h3, hown.rd⟩
  | some ad =>
    rcases hown.form with ⟨rfl, rfl, rfl⟩ | ⟨g, rfl, hb, hg, hlc, hcm⟩
    · exact ⟨A', c', w', hrun, h2, h3, Rd.empty _ _⟩
    · by_cases hroom : l.length + m.length ≤ c
      · obtain ⟨w2, hrun2, h5, h6⟩ := run_append_fits (P := P) w base t ty e i 1 ht hi hsize g l.length c (bv l) hown ad m.length c2 (bv m) (by rw [bv_len, Nat.mul_one]) hr.news (bv_one m) hroom
        rw [← bv_app, ← List.length_append] at h5
        rw [← List.length_append] at hrun2
        exact ⟨some ⟨g, 0, none⟩, c, w2, hrun2, h5, h6, Own.prefix_rd h5⟩
      · have hrun2 := run_append_grow (P := P) w t ty e i z ht hi hz ⟨g, 0, none⟩ l.length c (bv l) (by rw [bv_len, hsize, Nat.mul_one]) (World.ownsRow.cells hown (g := g) rfl) ad m.length c2 (bv m) (by rw [bv_len, hsize, Nat.mul_one]) hr.news (by omega) (by omega)
          (growslice_fits (by omega) (by rw [hby]; omega))
        rw [hrun2] at hrun
        injection hrun with hv hw
        refine ⟨A', c', w', by rw [hrun2, hv, hw], h2, h3, ?_⟩
        rw [← hw]
        exact ((hown.rd.drew).alloc (Nat.le_refl _) _).more (by simp)

theorem wpList_append_keep {ops : Array Oper} {rest : List Oper} {o : Oper} {a : Act} {Q : Exit → Act → World → Prop} (hgd : o.guard = none) (s x : Operand) (t : TypeId)
    (ho : o.op = .call { callee := .builtin .append, args := #[s, x], argTypes := #[t, t] })
    (base e : Nat) (i : TypeInfo) (z : Value) (ht : P.underlying t = some (.slice e)) (hi : P.info? e = some i) (hz : i.zero = some z) (hsize : i.size = 1) (hby : i.bytes = 1) (hzs : z.cells.size = 1)
    {A A2 : Option Addr} {c c2 B : Nat} (l m : List UInt8) (hs : a.eval s = .slice A l.length c) (hx : a.eval x = .slice A2 m.length c2) (hown : Own w base e A c l) (hr : Rd w B A2 c2 m)
    (hle : l.length + m.length ≤ 140737488355328) (hbase : base ≤ w.heap.size)
    (h : ∀ A' c' w' r, Hid (r = l ++ m) → Own w' base e A' c' r → w.grownBy w' (blk A) → Rd w' w'.heap.size A c l → wpList P ops Q rest (a.put o.dst (.slice A' r.length c')) w') :
    wpList P ops Q (o :: rest) a w := by
  refine wpList_plain hgd fun K hK => ?_
  obtain ⟨A', c', w', hrun, h2, h3, h4⟩ := run_append_keep (P := P) w base e t o.type i z ht hi hz hsize hby hzs hown hr hle hbase
  unfold Oper.wp execOp
  simp only [ho, resolve, invoke, builtin, Sem.run_bind, Sem.run_pure, Result.andThen_ok, List.map_toArray, List.map_cons, List.map_nil, hs, hx, hrun]
  exact hK _ _ (h A' c' w' _ rfl h2 h3 h4)
end
end Go.Proofs.Ytncccgpjlmelmaa
