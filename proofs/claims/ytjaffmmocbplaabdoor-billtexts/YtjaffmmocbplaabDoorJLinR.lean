/-
  A list of lines that lies in memory.
-/
import Derived.Test.YtjaffmmocbplaabDoorJBilX
import Derived.Test.YtjaffmmocbplaabDoorJBilL
namespace Go.Proofs.YtjaffmmocbplaabDoor
open Go.RowKit Bil
set_option linter.unusedVariables false

theorem lcs_get : ∀ (l : List Ln) (i : Nat) (x : Ln), l[i]? = some x → ∀ j, j < 15 → (lcs l)[i * 15 + j]? = (lcell x)[j]?
  | [], i, x, h, j, hj => by simp at h
  | y :: l, 0, x, h, j, hj => by
    simp at h; subst h
    show (lcell y ++ lcs l)[0 * 15 + j]? = _
    rw [Nat.zero_mul, Nat.zero_add, List.getElem?_append_left (by simp [lcell]; omega)]
  | y :: l, i + 1, x, h, j, hj => by
    have ih := lcs_get l i x (by simpa using h) j hj
    show (lcell y ++ lcs l)[(i + 1) * 15 + j]? = _
    rw [List.getElem?_append_right (by simp [lcell]; omega), ← ih]
    congr 1
    simp [lcell]; omega
/-- a slice of lines reads as the list l -/
def LRow (w : World) (v : Value) (l : List Ln) : Prop :=
  ∃ a cap, v = .slice a l.length cap ∧ (l = [] ∨ ∃ b, a = some ⟨b, 0, none⟩ ∧ l.length ≤ cap ∧ b < w.heap.size ∧
    ∀ i x, l[i]? = some x → ∀ j u, (lcell x)[j]? = some u → w.cell? ⟨b, i * 15 + j, none⟩ = some u)
theorem LRow.form {w : World} {v : Value} {l : List Ln} (h : LRow w v l) : ∃ a cap, v = .slice a l.length cap := by
  obtain ⟨a, cap, hv, _⟩ := h; exact ⟨a, cap, hv⟩
theorem LRow.below {w w' : World} {v : Value} {l : List Ln} (h : LRow w v l) (hb : Below w.heap.size w w') : LRow w' v l := by
  obtain ⟨a, cap, hv, h⟩ := h
  refine ⟨a, cap, hv, h.imp id ?_⟩
  rintro ⟨b, ha, hc, hlt, h⟩
  have := hb.size
  exact ⟨b, ha, hc, by omega, fun i x hx j u hu => vcell_below hb hlt (h i x hx j u hu)⟩
theorem LRow.at {w : World} {a : Option Addr} {n cap : Nat} {l : List Ln} (h : LRow w (.slice a n cap) l) {k : Nat} {x : Ln} (hx : l[k]? = some x) :
    ∃ b, a = some ⟨b, 0, none⟩ ∧ n ≤ cap ∧ b < w.heap.size ∧ ∀ j u, (lcell x)[j]? = some u → w.cell? ⟨b, k * 15 + j, none⟩ = some u := by
  obtain ⟨a', cap', hv, h⟩ := h
  cases hv
  rcases h with rfl | ⟨b, rfl, hc, hlt, h⟩
  · simp at hx
  · exact ⟨b, rfl, hc, hlt, h k x hx⟩
theorem LRow.of_own {w : World} {base : Nat} {e : TypeId} {v : Value} {n : Nat} {l : List Ln} (h : w.ownsRow base e 15 v n (lcs l)) (hn : l.length = n) : LRow w v l := by
  subst hn
  by_cases h0 : l.length = 0
  · obtain ⟨a, cap, rfl⟩ := own_slice h
    have : l = [] := List.eq_nil_of_length_eq_zero h0
    subst this
    exact ⟨a, cap, rfl, .inl rfl⟩
  · obtain ⟨g, cap, rfl, hb, hlt⟩ := h.form (by omega)
    have hcap : l.length ≤ cap := by
      rcases h.2 with ⟨h1, _⟩ | ⟨g', cap', cur, hv, _, _, hc, _⟩
      · cases h1
      · cases hv; exact hc
    refine ⟨some ⟨g, 0, none⟩, cap, rfl, .inr ⟨g, rfl, hcap, hlt, fun i x hx j u hu => ?_⟩⟩
    have hi : i < l.length := by
      rcases Nat.lt_or_ge i l.length with q | q
      · exact q
      · rw [List.getElem?_eq_none q] at hx; cases hx
    have hj : j < 15 := by
      rcases Nat.lt_or_ge j 15 with q | q
      · exact q
      · rw [List.getElem?_eq_none (by simp [lcell]; omega)] at hu; cases hu
    rw [h.cellAt _ (by omega), lcs_get l i x hx j hj, hu]

/-- what a good bill's periods and tariff are -/
structure BOk (t : Trf) (ps : List Per) : Prop where
  t : OkT t
  p : ∀ k, okP (pAt ps k) 200
  n : 1 ≤ ps.length ∧ ps.length ≤ 36556
theorem bok {t : Trf} {step start : Int} {l : List Txt.Val} (hz : spE t step start l = 0) : BOk t (spL t step start l) := by
  obtain ⟨hm, hb13, hfe, hokc, hsl⟩ := sp_ok hz
  obtain ⟨hst, hsa⟩ := meterB_step hm
  obtain ⟨len1, len2, hall⟩ := meterB_fit hm
  have hLn := (fL_len step start t.gap l).2
  have hLv : (fL step start t.gap l).all valB = true := by
    unfold fL; split
    · split
      · rename_i hr; exact fl_valB hall hr
      · rfl
    · rfl
  obtain ⟨PA, PL⟩ := perL_all hb13 hst hLv hLn hokc
  rw [hsl]
  exact ⟨okT hb13, pAt_ok PA, by unfold perL; simp, PL⟩
end Go.Proofs.YtjaffmmocbplaabDoor
