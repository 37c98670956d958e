/-
  BilL, LinR in one text.
-/
import Derived.Test.YtjaffmmocbplaabGreatDoorJ15
import Derived.Test.YtjaffmmocbplaabGreatDoorJ17
namespace Go.Proofs.YtjaffmmocbplaabGreatDoor
set_option linter.unusedVariables false
namespace Bil
def pdS (t : Trf) (ps : List Per) : Nat → Int
  | 0 => 0
  | k + 1 => pdS t ps k + (lnAt t ps k).pd
def gnS (t : Trf) (ps : List Per) : Nat → Int
  | 0 => 0
  | k + 1 => gnS t ps k + (lnAt t ps k).ap + (lnAt t ps k).ex
theorem bank_tot {t : Trf} (ps : List Per) (hn : 0 ≤ t.nn) : ∀ k, pdS t ps k = gnS t ps k + (crR t ps k).sum
  | 0 => by simp [pdS, gnS, crR]
  | k + 1 => by
    have ih := bank_tot ps hn k
    have := bank_step t ps (crR t ps k) hn k
    have e1 : (lnAt t ps k).ap = apOf t ps (crR t ps k) k := rfl
    have e2 : (lnAt t ps k).ex = exOf t (crR t ps k) := rfl
    have e3 : (lnAt t ps k).pd = pdOf t ps k := rfl
    have e4 : crR t ps (k + 1) = c3Of t ps (crR t ps k) k := rfl
    show pdS t ps k + (lnAt t ps k).pd = gnS t ps k + (lnAt t ps k).ap + (lnAt t ps k).ex + (crR t ps (k + 1)).sum
    rw [e1, e2, e3, e4]; omega
structure BkB (t : Trf) (ps : List Per) (k : Nat) : Prop where
  ap : 0 ≤ (lnAt t ps k).ap ∧ (lnAt t ps k).ap ≤ (lnAt t ps k).en
  ex : 0 ≤ (lnAt t ps k).ex
  bk : 0 ≤ (lnAt t ps k).bk
  pd : 0 ≤ (lnAt t ps k).pd ∧ (lnAt t ps k).pd ≤ 20000000000001
  pr : (lnAt t ps k).pd = ((lnAt t ps k).o * t.np + 500) / 1000 ∧ 0 ≤ (lnAt t ps k).o * t.np ∧ (lnAt t ps k).o * t.np ≤ 20000000000000000
  tot : pdS t ps (k + 1) = gnS t ps (k + 1) + (lnAt t ps k).bk
  bd : 0 ≤ pdS t ps k ∧ pdS t ps k ≤ k * 20000000000001
  gd : 0 ≤ gnS t ps k ∧ gnS t ps k ≤ pdS t ps k
  gd1 : 0 ≤ gnS t ps (k + 1) ∧ gnS t ps (k + 1) ≤ pdS t ps (k + 1)
theorem sum_nonneg {t : Trf} {ps : List Per} (ht : OkT t) (h : ∀ k, okP (pAt ps k) 200) (k : Nat) : 0 ≤ (crR t ps k).sum := by
  have := okL_sum (cr_ok ht h k) (crR t ps k).length (Nat.le_refl _)
  rw [List.take_of_length_le (Nat.le_refl _)] at this
  exact this.1
theorem ex_nonneg {t : Trf} {ps : List Per} (ht : OkT t) (h : ∀ k, okP (pAt ps k) 200) (k : Nat) : 0 ≤ exOf t (crR t ps k) :=
  (okL_sum (cr_ok ht h k) _ (by have := ht.n; unfold exN; omega)).1
theorem pd_bd {t : Trf} {ps : List Per} (ht : OkT t) (h : ∀ k, okP (pAt ps k) 200) : ∀ k, (0 ≤ pdS t ps k ∧ pdS t ps k ≤ k * 20000000000001) ∧ 0 ≤ gnS t ps k
  | 0 => by simp [pdS, gnS]
  | k + 1 => by
    obtain ⟨⟨a, b⟩, c⟩ := pd_bd ht h k
    have d := (lnB ht h k).pd
    have e := (lnC ht h (cr_ok ht h k) k).ap
    have f := ex_nonneg ht h k
    have e1 : (lnAt t ps k).ap = apOf t ps (crR t ps k) k := rfl
    have e2 : (lnAt t ps k).ex = exOf t (crR t ps k) := rfl
    have e3 : (lnAt t ps k).pd = pdOf t ps k := rfl
    show (0 ≤ pdS t ps k + (lnAt t ps k).pd ∧ pdS t ps k + (lnAt t ps k).pd ≤ ((k + 1 : Nat) : Int) * 20000000000001) ∧ 0 ≤ gnS t ps k + (lnAt t ps k).ap + (lnAt t ps k).ex
    rw [e1, e2, e3]; omega
theorem bkB {t : Trf} {ps : List Per} (ht : OkT t) (h : ∀ k, okP (pAt ps k) 200) (k : Nat) : BkB t ps k := by
  have hn := ht.n
  have s0 := sum_nonneg ht h k
  have s1 := sum_nonneg ht h (k + 1)
  have t0 := bank_tot ps hn.2.2.1 k
  have t1 := bank_tot ps hn.2.2.1 (k + 1)
  obtain ⟨b0, g0⟩ := pd_bd ht h k
  obtain ⟨b1, g1⟩ := pd_bd ht h (k + 1)
  have b := lnB ht h k
  have c := lnC ht h (cr_ok ht h k) k
  exact ⟨c.ap, ex_nonneg ht h k, s1, b.pd, ⟨rfl, b.om⟩, t1, b0, ⟨g0, by omega⟩, ⟨g1, by omega⟩⟩

/-! ### the ratchet -/
theorem pkR_ge (ps : List Per) (a : Nat) : ∀ n m, m < n → (pAt ps (a + m)).pk ≤ pkR ps a n
  | n + 1, m, h => by
    show _ ≤ mx (pkR ps a n) (pAt ps (a + n)).pk
    obtain ⟨x, y⟩ := mx_ge (pkR ps a n) (pAt ps (a + n)).pk
    by_cases e : m < n
    · have := pkR_ge ps a n m e; omega
    · have e' : m = n := by omega
      subst e'; omega
theorem pkR_le (ps : List Per) (a : Nat) (B : Int) (hB : 0 ≤ B) : ∀ n, (∀ m, m < n → (pAt ps (a + m)).pk ≤ B) → pkR ps a n ≤ B
  | 0, _ => hB
  | n + 1, h => by
    show mx (pkR ps a n) (pAt ps (a + n)).pk ≤ B
    have := pkR_le ps a B hB n (fun m hm => h m (by omega))
    have := h n (by omega)
    have := mx_or (pkR ps a n) (pAt ps (a + n)).pk
    omega
theorem pkA_ge {ps : List Per} {i j : Nat} {q : Int} (h1 : (i : Int) - j ≤ q) (h2 : j < i) : (pAt ps j).pk ≤ pkA ps i q := by
  have hf : from0 i q ≤ j := by unfold from0; omega
  have := pkR_ge ps (from0 i q) (i - from0 i q) (j - from0 i q) (by omega)
  rw [show from0 i q + (j - from0 i q) = j by omega] at this
  exact this
/-- the largest peak, from i downward -/
def tpR (ps : List Per) (i : Nat) : Nat → Int
  | 0 => (pAt ps i).pk
  | m + 1 => mx (tpR ps i m) (pAt ps (i - 1 - m)).pk
theorem tpR_own (ps : List Per) (i : Nat) : ∀ m, (pAt ps i).pk ≤ tpR ps i m
  | 0 => Int.le_refl _
  | m + 1 => by
    have := tpR_own ps i m
    have := mx_ge (tpR ps i m) (pAt ps (i - 1 - m)).pk
    show _ ≤ mx _ _
    omega
theorem tpR_ge (ps : List Per) (i : Nat) : ∀ m j, j < m → (pAt ps (i - 1 - j)).pk ≤ tpR ps i m
  | m + 1, j, h => by
    show _ ≤ mx (tpR ps i m) (pAt ps (i - 1 - m)).pk
    obtain ⟨x, y⟩ := mx_ge (tpR ps i m) (pAt ps (i - 1 - m)).pk
    by_cases e : j < m
    · have := tpR_ge ps i m j e; omega
    · have e' : j = m := by omega
      subst e'; exact y
theorem tpR_bd {ps : List Per} (h : ∀ k, okP (pAt ps k) 200) (i : Nat) : ∀ m, 0 ≤ tpR ps i m ∧ tpR ps i m ≤ 4000000000
  | 0 => by have := h i; simp only [okP] at this; exact this.2.2.2.2
  | m + 1 => by
    have a := tpR_bd h i m
    have b := h (i - 1 - m)
    simp only [okP] at b
    show 0 ≤ mx _ _ ∧ mx _ _ ≤ 4000000000
    unfold mx; split <;> omega
theorem pkA_le {ps : List Per} (h : ∀ k, okP (pAt ps k) 200) {i m : Nat} {q : Int} (hm : i - from0 i q ≤ m) : pkA ps i q ≤ tpR ps i m := by
  refine pkR_le ps _ _ (tpR_bd h i m).1 _ fun j hj => ?_
  have := tpR_ge ps i m (i - 1 - (from0 i q + j)) (by omega)
  rw [show i - 1 - (i - 1 - (from0 i q + j)) = from0 i q + j by omega] at this
  exact this
theorem div_mono {a b : Int} (h : a ≤ b) : a / 100 ≤ b / 100 := by omega
theorem bl_ge {t : Trf} {ps : List Per} (ht : OkT t) {i j : Nat} (h1 : (i : Int) - j ≤ t.d.z) (h2 : j < i) : (pAt ps j).pk * t.d.y / 100 ≤ blOf t ps i := by
  have a := Int.mul_le_mul_of_nonneg_right (pkA_ge (ps := ps) h1 h2) ht.d.2.2.1
  have b := mx_ge (pAt ps i).pk (pkA ps i t.d.z * t.d.y / 100)
  unfold blOf
  have := div_mono a
  omega
theorem bl_le {t : Trf} {ps : List Per} (ht : OkT t) (h : ∀ k, okP (pAt ps k) 200) {i m : Nat} (hm : i - from0 i t.d.z ≤ m) : blOf t ps i ≤ tpR ps i m := by
  have a := pkA_le h hm
  have b := tpR_own ps i m
  have c := (lnB ht h i).pk
  have d := Int.mul_le_mul_of_nonneg_left ht.d.2.2.2.1 c.1
  have e := mx_or (pAt ps i).pk (pkA ps i t.d.z * t.d.y / 100)
  unfold blOf
  rcases e with e | e <;> rw [e] <;> omega
end Bil
end Go.Proofs.YtjaffmmocbplaabGreatDoor

namespace Go.Proofs.YtjaffmmocbplaabGreatDoor
open Go.RowKit Bil
set_option linter.unusedVariables false

theorem lcs_get : ∀ (l : List Ln) (i : Nat) (x : Ln), l[i]? = some x → ∀ j, j < 15 → (lcs l)[i * 15 + j]? = (lcell x)[j]?
  | [], i, x, h, j, hj => by simp at h
  | y :: l, 0, x, h, j, hj => by
    simp at h; subst h
    show (lcell y ++ lcs l)[0 * 15 + j]? = _
    rw [Nat.zero_mul, Nat.zero_add, List.getElem?_append_left (by simp [lcell]; omega)]
  | y :: l, i + 1, x, h, j, hj => by
    have ih := lcs_get l i x (by simpa using h) j hj
    show (lcell y ++ lcs l)[(i + 1) * 15 + j]? = _
    rw [List.getElem?_append_right (by simp [lcell]; omega), ← ih]
    congr 1
    simp [lcell]; omega
/-- a slice of lines reads as the list l -/
def LRow (w : World) (v : Value) (l : List Ln) : Prop :=
  ∃ a cap, v = .slice a l.length cap ∧ (l = [] ∨ ∃ b, a = some ⟨b, 0, none⟩ ∧ l.length ≤ cap ∧ b < w.heap.size ∧
    ∀ i x, l[i]? = some x → ∀ j u, (lcell x)[j]? = some u → w.cell? ⟨b, i * 15 + j, none⟩ = some u)
theorem LRow.form {w : World} {v : Value} {l : List Ln} (h : LRow w v l) : ∃ a cap, v = .slice a l.length cap := by
  obtain ⟨a, cap, hv, _⟩ := h; exact ⟨a, cap, hv⟩
theorem LRow.below {w w' : World} {v : Value} {l : List Ln} (h : LRow w v l) (hb : Below w.heap.size w w') : LRow w' v l := by
  obtain ⟨a, cap, hv, h⟩ := h
  refine ⟨a, cap, hv, h.imp id ?_⟩
  rintro ⟨b, ha, hc, hlt, h⟩
  have := hb.size
  exact ⟨b, ha, hc, by omega, fun i x hx j u hu => vcell_below hb hlt (h i x hx j u hu)⟩
theorem LRow.at {w : World} {a : Option Addr} {n cap : Nat} {l : List Ln} (h : LRow w (.slice a n cap) l) {k : Nat} {x : Ln} (hx : l[k]? = some x) :
    ∃ b, a = some ⟨b, 0, none⟩ ∧ n ≤ cap ∧ b < w.heap.size ∧ ∀ j u, (lcell x)[j]? = some u → w.cell? ⟨b, k * 15 + j, none⟩ = some u := by
  obtain ⟨a', cap', hv, h⟩ := h
  cases hv
  rcases h with rfl | ⟨b, rfl, hc, hlt, h⟩
  · simp at hx
  · exact ⟨b, rfl, hc, hlt, h k x hx⟩
theorem LRow.of_own {w : World} {base : Nat} {e : TypeId} {v : Value} {n : Nat} {l : List Ln} (h : w.ownsRow base e 15 v n (lcs l)) (hn : l.length = n) : LRow w v l := by
  subst hn
  by_cases h0 : l.length = 0
  · obtain ⟨a, cap, rfl⟩ := own_slice h
    have : l = [] := List.eq_nil_of_length_eq_zero h0
    subst this
    exact ⟨a, cap, rfl, .inl rfl⟩
  · obtain ⟨g, cap, rfl, hb, hlt⟩ := h.form (by omega)
    have hcap : l.length ≤ cap := by
      rcases h.2 with ⟨h1, _⟩ | ⟨g', cap', cur, hv, _, _, hc, _⟩
      · cases h1
      · cases hv; exact hc
    refine ⟨some ⟨g, 0, none⟩, cap, rfl, .inr ⟨g, rfl, hcap, hlt, fun i x hx j u hu => ?_⟩⟩
    have hi : i < l.length := by
      rcases Nat.lt_or_ge i l.length with q | q
      · exact q
      · rw [List.getElem?_eq_none q] at hx; cases hx
    have hj : j < 15 := by
      rcases Nat.lt_or_ge j 15 with q | q
      · exact q
      · rw [List.getElem?_eq_none (by simp [lcell]; omega)] at hu; cases hu
    rw [h.cellAt _ (by omega), lcs_get l i x hx j hj, hu]

/-- what a good bill's periods and tariff are -/
structure BOk (t : Trf) (ps : List Per) : Prop where
  t : OkT t
  p : ∀ k, okP (pAt ps k) 200
  n : 1 ≤ ps.length ∧ ps.length ≤ 36556
theorem bok {t : Trf} {step start : Int} {l : List Txt.Val} (hz : spE t step start l = 0) : BOk t (spL t step start l) := by
  obtain ⟨hm, hb13, hfe, hokc, hsl⟩ := sp_ok hz
  obtain ⟨hst, hsa⟩ := meterB_step hm
  obtain ⟨len1, len2, hall⟩ := meterB_fit hm
  have hLn := (fL_len step start t.gap l).2
  have hLv : (fL step start t.gap l).all valB = true := by
    unfold fL; split
    · split
      · rename_i hr; exact fl_valB hall hr
      · rfl
    · rfl
  obtain ⟨PA, PL⟩ := perL_all hb13 hst hLv hLn hokc
  rw [hsl]
  exact ⟨okT hb13, pAt_ok PA, by unfold perL; simp, PL⟩
end Go.Proofs.YtjaffmmocbplaabGreatDoor
