/-
  A list of periods that lies in memory; whether two are the same.
-/
import Derived.Test.YtjaffmmocbplaabDoorJ11
import Derived.BigQuiet
namespace Go.Proofs.YtjaffmmocbplaabDoor
open Go.RowKit
set_option linter.unusedVariables false
attribute [local go_sem ↓] Go.wp_at_zero Go.wp_at_succ

/-- a slice of periods reads as the list l -/
def PRow (w : World) (v : Value) (l : List Per) : Prop :=
  ∃ a cap, v = .slice a l.length cap ∧ (l = [] ∨ ∃ b, a = some ⟨b, 0, none⟩ ∧ l.length ≤ cap ∧ b < w.heap.size ∧
    ∀ i x, l[i]? = some x → w.cell? ⟨b, i * 5, none⟩ = some (.int .i64 x.i0) ∧ w.cell? ⟨b, i * 5 + 1, none⟩ = some (.int .i64 x.i1) ∧ w.cell? ⟨b, i * 5 + 2, none⟩ = some (.int .i64 x.i2) ∧ w.cell? ⟨b, i * 5 + 3, none⟩ = some (.int .i64 x.o) ∧ w.cell? ⟨b, i * 5 + 4, none⟩ = some (.int .i64 x.pk))
theorem PRow.form {w : World} {v : Value} {l : List Per} (h : PRow w v l) : ∃ a cap, v = .slice a l.length cap := by
  obtain ⟨a, cap, hv, _⟩ := h; exact ⟨a, cap, hv⟩
theorem PRow.below {w w' : World} {v : Value} {l : List Per} (h : PRow w v l) (hb : Below w.heap.size w w') : PRow w' v l := by
  obtain ⟨a, cap, hv, h⟩ := h
  refine ⟨a, cap, hv, h.imp id ?_⟩
  rintro ⟨b, ha, hc, hlt, h⟩
  have := hb.size
  refine ⟨b, ha, hc, by omega, fun i x hx => ?_⟩
  obtain ⟨h1, h2, h3, h4, h5⟩ := h i x hx
  exact ⟨vcell_below hb hlt h1, vcell_below hb hlt h2, vcell_below hb hlt h3, vcell_below hb hlt h4, vcell_below hb hlt h5⟩
theorem PRow.at {w : World} {a : Option Addr} {n cap : Nat} {l : List Per} (h : PRow w (.slice a n cap) l) {k : Nat} {x : Per} (hx : l[k]? = some x) :
    ∃ b, a = some ⟨b, 0, none⟩ ∧ n ≤ cap ∧ b < w.heap.size ∧ w.cell? ⟨b, k * 5, none⟩ = some (.int .i64 x.i0) ∧ w.cell? ⟨b, k * 5 + 1, none⟩ = some (.int .i64 x.i1) ∧ w.cell? ⟨b, k * 5 + 2, none⟩ = some (.int .i64 x.i2) ∧ w.cell? ⟨b, k * 5 + 3, none⟩ = some (.int .i64 x.o) ∧ w.cell? ⟨b, k * 5 + 4, none⟩ = some (.int .i64 x.pk) := by
  obtain ⟨a', cap', hv, h⟩ := h
  cases hv
  rcases h with rfl | ⟨b, rfl, hc, hlt, h⟩
  · simp at hx
  · exact ⟨b, rfl, hc, hlt, h k x hx⟩
theorem PRow.of_own {w : World} {base : Nat} {e : TypeId} {v : Value} {n : Nat} {l : List Per} (h : w.ownsRow base e 5 v n (pcs l)) (hn : l.length = n) : PRow w v l := by
  subst hn
  by_cases h0 : l.length = 0
  · obtain ⟨a, cap, rfl⟩ := own_slice h
    have : l = [] := List.eq_nil_of_length_eq_zero h0
    subst this
    exact ⟨a, cap, rfl, .inl rfl⟩
  · obtain ⟨g, cap, rfl, hb, hlt⟩ := h.form (by omega)
    have hcap : l.length ≤ cap := by
      rcases h.2 with ⟨h1, _⟩ | ⟨g', cap', cur, hv, _, _, hc, _⟩
      · cases h1
      · cases hv; exact hc
    refine ⟨some ⟨g, 0, none⟩, cap, rfl, .inr ⟨g, rfl, hcap, hlt, fun i x hx => ?_⟩⟩
    have hi : i < l.length := by
      rcases Nat.lt_or_ge i l.length with q | q
      · exact q
      · rw [List.getElem?_eq_none q] at hx; cases hx
    obtain ⟨h1, h2, h3, h4, h5⟩ := pcs_get l i x hx
    exact ⟨by rw [h.cellAt _ (by omega)]; exact h1, by rw [h.cellAt _ (by omega)]; exact h2, by rw [h.cellAt _ (by omega)]; exact h3, by rw [h.cellAt _ (by omega)]; exact h4, by rw [h.cellAt _ (by omega)]; exact h5⟩

end Go.Proofs.YtjaffmmocbplaabDoor
