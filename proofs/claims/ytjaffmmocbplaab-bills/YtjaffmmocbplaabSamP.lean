/-
  A list of periods that lies in memory; whether two are the same.
-/
import Derived.Test.YtjaffmmocbplaabNotM
import Derived.BigQuiet
namespace Go.Proofs.Ytjaffmmocbplaab
open Go.RowKit
set_option linter.unusedVariables false
attribute [local go_sem ↓] Go.wp_at_zero Go.wp_at_succ

/-- a slice of periods reads as the list l -/
def PRow (w : World) (v : Value) (l : List Per) : Prop :=
  ∃ a cap, v = .slice a l.length cap ∧ (l = [] ∨ ∃ b, a = some ⟨b, 0, none⟩ ∧ l.length ≤ cap ∧ b < w.heap.size ∧
    ∀ i x, l[i]? = some x → w.cell? ⟨b, i * 5, none⟩ = some (.int .i64 x.i0) ∧ w.cell? ⟨b, i * 5 + 1, none⟩ = some (.int .i64 x.i1) ∧ w.cell? ⟨b, i * 5 + 2, none⟩ = some (.int .i64 x.i2) ∧ w.cell? ⟨b, i * 5 + 3, none⟩ = some (.int .i64 x.o) ∧ w.cell? ⟨b, i * 5 + 4, none⟩ = some (.int .i64 x.pk))
theorem PRow.form {w : World} {v : Value} {l : List Per} (h : PRow w v l) : ∃ a cap, v = .slice a l.length cap := by
  obtain ⟨a, cap, hv, _⟩ := h; exact ⟨a, cap, hv⟩
theorem PRow.below {w w' : World} {v : Value} {l : List Per} (h : PRow w v l) (hb : Below w.heap.size w w') : PRow w' v l := by
  obtain ⟨a, cap, hv, h⟩ := h
  refine ⟨a, cap, hv, h.imp id ?_⟩
  rintro ⟨b, ha, hc, hlt, h⟩
  have := hb.size
  refine ⟨b, ha, hc, by omega, fun i x hx => ?_⟩
  obtain ⟨h1, h2, h3, h4, h5⟩ := h i x hx
  exact ⟨vcell_below hb hlt h1, vcell_below hb hlt h2, vcell_below hb hlt h3, vcell_below hb hlt h4, vcell_below hb hlt h5⟩
theorem PRow.at {w : World} {a : Option Addr} {n cap : Nat} {l : List Per} (h : PRow w (.slice a n cap) l) {k : Nat} {x : Per} (hx : l[k]? = some x) :
    ∃ b, a = some ⟨b, 0, none⟩ ∧ n ≤ cap ∧ b < w.heap.size ∧ w.cell? ⟨b, k * 5, none⟩ = some (.int .i64 x.i0) ∧ w.cell? ⟨b, k * 5 + 1, none⟩ = some (.int .i64 x.i1) ∧ w.cell? ⟨b, k * 5 + 2, none⟩ = some (.int .i64 x.i2) ∧ w.cell? ⟨b, k * 5 + 3, none⟩ = some (.int .i64 x.o) ∧ w.cell? ⟨b, k * 5 + 4, none⟩ = some (.int .i64 x.pk) := by
  obtain ⟨a', cap', hv, h⟩ := h
  cases hv
  rcases h with rfl | ⟨b, rfl, hc, hlt, h⟩
  · simp at hx
  · exact ⟨b, rfl, hc, hlt, h k x hx⟩
theorem PRow.of_own {w : World} {base : Nat} {e : TypeId} {v : Value} {n : Nat} {l : List Per} (h : w.ownsRow base e 5 v n (pcs l)) (hn : l.length = n) : PRow w v l := by
  subst hn
  by_cases h0 : l.length = 0
  · obtain ⟨a, cap, rfl⟩ := own_slice h
    have : l = [] := List.eq_nil_of_length_eq_zero h0
    subst this
    exact ⟨a, cap, rfl, .inl rfl⟩
  · obtain ⟨g, cap, rfl, hb, hlt⟩ := h.form (by omega)
    have hcap : l.length ≤ cap := by
      rcases h.2 with ⟨h1, _⟩ | ⟨g', cap', cur, hv, _, _, hc, _⟩
      · cases h1
      · cases hv; exact hc
    refine ⟨some ⟨g, 0, none⟩, cap, rfl, .inr ⟨g, rfl, hcap, hlt, fun i x hx => ?_⟩⟩
    have hi : i < l.length := by
      rcases Nat.lt_or_ge i l.length with q | q
      · exact q
      · rw [List.getElem?_eq_none q] at hx; cases hx
    obtain ⟨h1, h2, h3, h4, h5⟩ := pcs_get l i x hx
    exact ⟨by rw [h.cellAt _ (by omega)]; exact h1, by rw [h.cellAt _ (by omega)]; exact h2, by rw [h.cellAt _ (by omega)]; exact h3, by rw [h.cellAt _ (by omega)]; exact h4, by rw [h.cellAt _ (by omega)]; exact h5⟩

set_option maxRecDepth 1000000 in
set_option maxHeartbeats 1000000 in
theorem samePeriods_any (v v' : Value) (l : List Per) (w : World) (h : PRow w v l) (h' : PRow w v' l) (hl : l.length ≤ 100000) :
    Calls Try.prog 15 #[v, v'] w fun e w' => e = .returned (.bool true) ∧ Below w.heap.size w w' := by
  obtain ⟨a, cap, rfl⟩ := h.form
  obtain ⟨a', cap', rfl⟩ := h'.form
  have HA := hideF h
  have HB := hideF h'
  clear h h'
  go_enter Try.func15, Try.ntmps15
  go_wp2_with fail
  go_loopw [5] (fun i wr => ∃ k : Nat, i = .int .i64 k ∧ k ≤ l.length ∧ Below w.heap.size w wr) (fun i _ => l.length - (intOf i).toNat)
  case atStart => exact ⟨0, rfl, by omega, Below.refl _ _⟩
  case round =>
    obtain ⟨k, rfl, hk, hb⟩ := hrel
    by_cases hlt : k < l.length
    · have hlt' : (k : Int) < (l.length : Int) := by omega
      have hk0 : (0 : Int) ≤ (k : Int) := by omega
      obtain ⟨x, hx⟩ : ∃ x, l[k]? = some x := ⟨l[k], List.getElem?_eq_getElem hlt⟩
      obtain ⟨b, rfl, hcap, hblt, c0, c1, c2, c3, c4⟩ := (HA.out.below hb).at hx
      obtain ⟨b', rfl, hcap2, hblt', d0, d1, d2, d3, d4⟩ := (HB.out.below hb).at hx
      have hcap' : (l.length : Int) ≤ (cap : Int) := by omega
      have hcap2' : (l.length : Int) ≤ (cap' : Int) := by omega
      have HXX := hideF hx
      clear hx
      go_wp2_with fail
      go_quiet (fail)
      go_wp2_with fail
      go_loopw [6] (fun i wi => ∃ c : Nat, i = .int .i64 c ∧ c ≤ 3 ∧ Below w.heap.size w wi) (fun i _ => 3 - (intOf i).toNat)
      case atStart => exact ⟨0, rfl, by omega, below_drewN hb _⟩
      case round =>
        clear c0 c1 c2 c3 c4 d0 d1 d2 d3 d4 hblt hblt'
        obtain ⟨c, rfl, hc, hb2⟩ := hrel
        obtain ⟨b2, e2, _, hblt, c0, c1, c2, c3, c4⟩ := (HA.out.below hb2).at HXX.out
        cases e2
        obtain ⟨b3, e3, _, hblt', d0, d1, d2, d3, d4⟩ := (HB.out.below hb2).at HXX.out
        cases e3
        rcases (by omega : c = 0 ∨ c = 1 ∨ c = 2 ∨ c = 3) with rfl | rfl | rfl | rfl
        · go_wp2_with fail
          go_quiet (fail)
          go_wp2_with fail
          go_roundw
          case rel => exact ⟨1, by go_num, by omega, below_drewN hb2 _⟩
          case measure => simp [intOf]
        · go_wp2_with fail
          go_quiet (fail)
          go_wp2_with fail
          go_roundw
          case rel => exact ⟨2, by go_num, by omega, below_drewN hb2 _⟩
          case measure => simp [intOf]
        · go_wp2_with fail
          go_quiet (fail)
          go_wp2_with fail
          go_roundw
          case rel => exact ⟨3, by go_num, by omega, below_drewN hb2 _⟩
          case measure => simp [intOf]
        · go_wp2_with fail
          go_roundw
          case rel => exact ⟨k + 1, by go_num, by omega, hb2⟩
          case measure => simp [intOf]; omega
    · have hlt' : ¬ (k : Int) < (l.length : Int) := by omega
      go_wp2_with fail
      go_ret
      exact ⟨rfl, hb⟩

end Go.Proofs.Ytjaffmmocbplaab
