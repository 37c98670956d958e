/-
  BilL, LinR, LnpX in one text.
-/
import Derived.Test.YtjaffmmocbplaabGreatDoorJ16
import Derived.Test.YtjaffmmocbplaabGreatDoorJBilX
import Derived.Test.YtjaffmmocbplaabGreatDoorJ17
namespace Go.Proofs.YtjaffmmocbplaabGreatDoor
set_option linter.unusedVariables false
namespace Bil
def pdS (t : Trf) (ps : List Per) : Nat → Int
  | 0 => 0
  | k + 1 => pdS t ps k + (lnAt t ps k).pd
def gnS (t : Trf) (ps : List Per) : Nat → Int
  | 0 => 0
  | k + 1 => gnS t ps k + (lnAt t ps k).ap + (lnAt t ps k).ex
theorem bank_tot {t : Trf} (ps : List Per) (hn : 0 ≤ t.nn) : ∀ k, pdS t ps k = gnS t ps k + (crR t ps k).sum
  | 0 => by simp [pdS, gnS, crR]
  | k + 1 => by
    have ih := bank_tot ps hn k
    have := bank_step t ps (crR t ps k) hn k
    have e1 : (lnAt t ps k).ap = apOf t ps (crR t ps k) k := rfl
    have e2 : (lnAt t ps k).ex = exOf t (crR t ps k) := rfl
    have e3 : (lnAt t ps k).pd = pdOf t ps k := rfl
    have e4 : crR t ps (k + 1) = c3Of t ps (crR t ps k) k := rfl
    show pdS t ps k + (lnAt t ps k).pd = gnS t ps k + (lnAt t ps k).ap + (lnAt t ps k).ex + (crR t ps (k + 1)).sum
    rw [e1, e2, e3, e4]; omega
structure BkB (t : Trf) (ps : List Per) (k : Nat) : Prop where
  ap : 0 ≤ (lnAt t ps k).ap ∧ (lnAt t ps k).ap ≤ (lnAt t ps k).en
  ex : 0 ≤ (lnAt t ps k).ex
  bk : 0 ≤ (lnAt t ps k).bk
  pd : 0 ≤ (lnAt t ps k).pd ∧ (lnAt t ps k).pd ≤ 20000000000001
  pr : (lnAt t ps k).pd = ((lnAt t ps k).o * t.np + 500) / 1000 ∧ 0 ≤ (lnAt t ps k).o * t.np ∧ (lnAt t ps k).o * t.np ≤ 20000000000000000
  tot : pdS t ps (k + 1) = gnS t ps (k + 1) + (lnAt t ps k).bk
  bd : 0 ≤ pdS t ps k ∧ pdS t ps k ≤ k * 20000000000001
  gd : 0 ≤ gnS t ps k ∧ gnS t ps k ≤ pdS t ps k
  gd1 : 0 ≤ gnS t ps (k + 1) ∧ gnS t ps (k + 1) ≤ pdS t ps (k + 1)
theorem sum_nonneg {t : Trf} {ps : List Per} (ht : OkT t) (h : ∀ k, okP (pAt ps k) 200) (k : Nat) : 0 ≤ (crR t ps k).sum := by
  have := okL_sum (cr_ok ht h k) (crR t ps k).length (Nat.le_refl _)
  rw [List.take_of_length_le (Nat.le_refl _)] at this
  exact this.1
theorem ex_nonneg {t : Trf} {ps : List Per} (ht : OkT t) (h : ∀ k, okP (pAt ps k) 200) (k : Nat) : 0 ≤ exOf t (crR t ps k) :=
  (okL_sum (cr_ok ht h k) _ (by have := ht.n; unfold exN; omega)).1
theorem pd_bd {t : Trf} {ps : List Per} (ht : OkT t) (h : ∀ k, okP (pAt ps k) 200) : ∀ k, (0 ≤ pdS t ps k ∧ pdS t ps k ≤ k * 20000000000001) ∧ 0 ≤ gnS t ps k
  | 0 => by simp [pdS, gnS]
  | k + 1 => by
    obtain ⟨⟨a, b⟩, c⟩ := pd_bd ht h k
    have d := (lnB ht h k).pd
    have e := (lnC ht h (cr_ok ht h k) k).ap
    have f := ex_nonneg ht h k
    have e1 : (lnAt t ps k).ap = apOf t ps (crR t ps k) k := rfl
    have e2 : (lnAt t ps k).ex = exOf t (crR t ps k) := rfl
    have e3 : (lnAt t ps k).pd = pdOf t ps k := rfl
    show (0 ≤ pdS t ps k + (lnAt t ps k).pd ∧ pdS t ps k + (lnAt t ps k).pd ≤ ((k + 1 : Nat) : Int) * 20000000000001) ∧ 0 ≤ gnS t ps k + (lnAt t ps k).ap + (lnAt t ps k).ex
    rw [e1, e2, e3]; omega
theorem bkB {t : Trf} {ps : List Per} (ht : OkT t) (h : ∀ k, okP (pAt ps k) 200) (k : Nat) : BkB t ps k := by
  have hn := ht.n
  have s0 := sum_nonneg ht h k
  have s1 := sum_nonneg ht h (k + 1)
  have t0 := bank_tot ps hn.2.2.1 k
  have t1 := bank_tot ps hn.2.2.1 (k + 1)
  obtain ⟨b0, g0⟩ := pd_bd ht h k
  obtain ⟨b1, g1⟩ := pd_bd ht h (k + 1)
  have b := lnB ht h k
  have c := lnC ht h (cr_ok ht h k) k
  exact ⟨c.ap, ex_nonneg ht h k, s1, b.pd, ⟨rfl, b.om⟩, t1, b0, ⟨g0, by omega⟩, ⟨g1, by omega⟩⟩

/-! ### the ratchet -/
theorem pkR_ge (ps : List Per) (a : Nat) : ∀ n m, m < n → (pAt ps (a + m)).pk ≤ pkR ps a n
  | n + 1, m, h => by
    show _ ≤ mx (pkR ps a n) (pAt ps (a + n)).pk
    obtain ⟨x, y⟩ := mx_ge (pkR ps a n) (pAt ps (a + n)).pk
    by_cases e : m < n
    · have := pkR_ge ps a n m e; omega
    · have e' : m = n := by omega
      subst e'; omega
theorem pkR_le (ps : List Per) (a : Nat) (B : Int) (hB : 0 ≤ B) : ∀ n, (∀ m, m < n → (pAt ps (a + m)).pk ≤ B) → pkR ps a n ≤ B
  | 0, _ => hB
  | n + 1, h => by
    show mx (pkR ps a n) (pAt ps (a + n)).pk ≤ B
    have := pkR_le ps a B hB n (fun m hm => h m (by omega))
    have := h n (by omega)
    have := mx_or (pkR ps a n) (pAt ps (a + n)).pk
    omega
theorem pkA_ge {ps : List Per} {i j : Nat} {q : Int} (h1 : (i : Int) - j ≤ q) (h2 : j < i) : (pAt ps j).pk ≤ pkA ps i q := by
  have hf : from0 i q ≤ j := by unfold from0; omega
  have := pkR_ge ps (from0 i q) (i - from0 i q) (j - from0 i q) (by omega)
  rw [show from0 i q + (j - from0 i q) = j by omega] at this
  exact this
/-- the largest peak, from i downward -/
def tpR (ps : List Per) (i : Nat) : Nat → Int
  | 0 => (pAt ps i).pk
  | m + 1 => mx (tpR ps i m) (pAt ps (i - 1 - m)).pk
theorem tpR_own (ps : List Per) (i : Nat) : ∀ m, (pAt ps i).pk ≤ tpR ps i m
  | 0 => Int.le_refl _
  | m + 1 => by
    have := tpR_own ps i m
    have := mx_ge (tpR ps i m) (pAt ps (i - 1 - m)).pk
    show _ ≤ mx _ _
    omega
theorem tpR_ge (ps : List Per) (i : Nat) : ∀ m j, j < m → (pAt ps (i - 1 - j)).pk ≤ tpR ps i m
  | m + 1, j, h => by
    show _ ≤ mx (tpR ps i m) (pAt ps (i - 1 - m)).pk
    obtain ⟨x, y⟩ := mx_ge (tpR ps i m) (pAt ps (i - 1 - m)).pk
    by_cases e : j < m
    · have := tpR_ge ps i m j e; omega
    · have e' : j = m := by omega
      subst e'; exact y
theorem tpR_bd {ps : List Per} (h : ∀ k, okP (pAt ps k) 200) (i : Nat) : ∀ m, 0 ≤ tpR ps i m ∧ tpR ps i m ≤ 4000000000
  | 0 => by have := h i; simp only [okP] at this; exact this.2.2.2.2
  | m + 1 => by
    have a := tpR_bd h i m
    have b := h (i - 1 - m)
    simp only [okP] at b
    show 0 ≤ mx _ _ ∧ mx _ _ ≤ 4000000000
    unfold mx; split <;> omega
theorem pkA_le {ps : List Per} (h : ∀ k, okP (pAt ps k) 200) {i m : Nat} {q : Int} (hm : i - from0 i q ≤ m) : pkA ps i q ≤ tpR ps i m := by
  refine pkR_le ps _ _ (tpR_bd h i m).1 _ fun j hj => ?_
  have := tpR_ge ps i m (i - 1 - (from0 i q + j)) (by omega)
  rw [show i - 1 - (i - 1 - (from0 i q + j)) = from0 i q + j by omega] at this
  exact this
theorem div_mono {a b : Int} (h : a ≤ b) : a / 100 ≤ b / 100 := by omega
theorem bl_ge {t : Trf} {ps : List Per} (ht : OkT t) {i j : Nat} (h1 : (i : Int) - j ≤ t.d.z) (h2 : j < i) : (pAt ps j).pk * t.d.y / 100 ≤ blOf t ps i := by
  have a := Int.mul_le_mul_of_nonneg_right (pkA_ge (ps := ps) h1 h2) ht.d.2.2.1
  have b := mx_ge (pAt ps i).pk (pkA ps i t.d.z * t.d.y / 100)
  unfold blOf
  have := div_mono a
  omega
theorem bl_le {t : Trf} {ps : List Per} (ht : OkT t) (h : ∀ k, okP (pAt ps k) 200) {i m : Nat} (hm : i - from0 i t.d.z ≤ m) : blOf t ps i ≤ tpR ps i m := by
  have a := pkA_le h hm
  have b := tpR_own ps i m
  have c := (lnB ht h i).pk
  have d := Int.mul_le_mul_of_nonneg_left ht.d.2.2.2.1 c.1
  have e := mx_or (pAt ps i).pk (pkA ps i t.d.z * t.d.y / 100)
  unfold blOf
  rcases e with e | e <;> rw [e] <;> omega
end Bil
end Go.Proofs.YtjaffmmocbplaabGreatDoor

namespace Go.Proofs.YtjaffmmocbplaabGreatDoor
open Go.RowKit Bil
set_option linter.unusedVariables false

theorem lcs_get : ∀ (l : List Ln) (i : Nat) (x : Ln), l[i]? = some x → ∀ j, j < 15 → (lcs l)[i * 15 + j]? = (lcell x)[j]?
  | [], i, x, h, j, hj => by simp at h
  | y :: l, 0, x, h, j, hj => by
    simp at h; subst h
    show (lcell y ++ lcs l)[0 * 15 + j]? = _
    rw [Nat.zero_mul, Nat.zero_add, List.getElem?_append_left (by simp [lcell]; omega)]
  | y :: l, i + 1, x, h, j, hj => by
    have ih := lcs_get l i x (by simpa using h) j hj
    show (lcell y ++ lcs l)[(i + 1) * 15 + j]? = _
    rw [List.getElem?_append_right (by simp [lcell]; omega), ← ih]
    congr 1
    simp [lcell]; omega
/-- a slice of lines reads as the list l -/
def LRow (w : World) (v : Value) (l : List Ln) : Prop :=
  ∃ a cap, v = .slice a l.length cap ∧ (l = [] ∨ ∃ b, a = some ⟨b, 0, none⟩ ∧ l.length ≤ cap ∧ b < w.heap.size ∧
    ∀ i x, l[i]? = some x → ∀ j u, (lcell x)[j]? = some u → w.cell? ⟨b, i * 15 + j, none⟩ = some u)
theorem LRow.form {w : World} {v : Value} {l : List Ln} (h : LRow w v l) : ∃ a cap, v = .slice a l.length cap := by
  obtain ⟨a, cap, hv, _⟩ := h; exact ⟨a, cap, hv⟩
theorem LRow.below {w w' : World} {v : Value} {l : List Ln} (h : LRow w v l) (hb : Below w.heap.size w w') : LRow w' v l := by
  obtain ⟨a, cap, hv, h⟩ := h
  refine ⟨a, cap, hv, h.imp id ?_⟩
  rintro ⟨b, ha, hc, hlt, h⟩
  have := hb.size
  exact ⟨b, ha, hc, by omega, fun i x hx j u hu => vcell_below hb hlt (h i x hx j u hu)⟩
theorem LRow.at {w : World} {a : Option Addr} {n cap : Nat} {l : List Ln} (h : LRow w (.slice a n cap) l) {k : Nat} {x : Ln} (hx : l[k]? = some x) :
    ∃ b, a = some ⟨b, 0, none⟩ ∧ n ≤ cap ∧ b < w.heap.size ∧ ∀ j u, (lcell x)[j]? = some u → w.cell? ⟨b, k * 15 + j, none⟩ = some u := by
  obtain ⟨a', cap', hv, h⟩ := h
  cases hv
  rcases h with rfl | ⟨b, rfl, hc, hlt, h⟩
  · simp at hx
  · exact ⟨b, rfl, hc, hlt, h k x hx⟩
theorem LRow.of_own {w : World} {base : Nat} {e : TypeId} {v : Value} {n : Nat} {l : List Ln} (h : w.ownsRow base e 15 v n (lcs l)) (hn : l.length = n) : LRow w v l := by
  subst hn
  by_cases h0 : l.length = 0
  · obtain ⟨a, cap, rfl⟩ := own_slice h
    have : l = [] := List.eq_nil_of_length_eq_zero h0
    subst this
    exact ⟨a, cap, rfl, .inl rfl⟩
  · obtain ⟨g, cap, rfl, hb, hlt⟩ := h.form (by omega)
    have hcap : l.length ≤ cap := by
      rcases h.2 with ⟨h1, _⟩ | ⟨g', cap', cur, hv, _, _, hc, _⟩
      · cases h1
      · cases hv; exact hc
    refine ⟨some ⟨g, 0, none⟩, cap, rfl, .inr ⟨g, rfl, hcap, hlt, fun i x hx j u hu => ?_⟩⟩
    have hi : i < l.length := by
      rcases Nat.lt_or_ge i l.length with q | q
      · exact q
      · rw [List.getElem?_eq_none q] at hx; cases hx
    have hj : j < 15 := by
      rcases Nat.lt_or_ge j 15 with q | q
      · exact q
      · rw [List.getElem?_eq_none (by simp [lcell]; omega)] at hu; cases hu
    rw [h.cellAt _ (by omega), lcs_get l i x hx j hj, hu]

/-- what a good bill's periods and tariff are -/
structure BOk (t : Trf) (ps : List Per) : Prop where
  t : OkT t
  p : ∀ k, okP (pAt ps k) 200
  n : 1 ≤ ps.length ∧ ps.length ≤ 36556
theorem bok {t : Trf} {step start : Int} {l : List Txt.Val} (hz : spE t step start l = 0) : BOk t (spL t step start l) := by
  obtain ⟨hm, hb13, hfe, hokc, hsl⟩ := sp_ok hz
  obtain ⟨hst, hsa⟩ := meterB_step hm
  obtain ⟨len1, len2, hall⟩ := meterB_fit hm
  have hLn := (fL_len step start t.gap l).2
  have hLv : (fL step start t.gap l).all valB = true := by
    unfold fL; split
    · split
      · rename_i hr; exact fl_valB hall hr
      · rfl
    · rfl
  obtain ⟨PA, PL⟩ := perL_all hb13 hst hLv hLn hokc
  rw [hsl]
  exact ⟨okT hb13, pAt_ok PA, by unfold perL; simp, PL⟩
end Go.Proofs.YtjaffmmocbplaabGreatDoor

namespace Go.Proofs.YtjaffmmocbplaabGreatDoor
open Go.RowKit Go.Shelf Bil
set_option linter.unusedVariables false
attribute [local go_sem ↓] Go.wp_at_zero Go.wp_at_succ

def ln0 : Ln := ⟨0, 0, 0, 0, 0, 0, 0, 0, 0, 0, 0, 0, 0, 0, 0⟩
def lAt (l : List Ln) (k : Nat) : Ln := l.getD k ln0
theorem lAt_get {l : List Ln} {k : Nat} (h : k < l.length) : l[k]? = some (lAt l k) := by
  unfold lAt; rw [List.getD_eq_getElem?_getD, List.getElem?_eq_getElem h]; rfl
/-- the text of the first k lines -/
def pbK (l : List Ln) : Nat → ByteArray
  | 0 => ⟨#[]⟩
  | k + 1 => pbK l k ++ lT k (lAt l k)
def pbB (l : List Ln) : Bool := decide (l.length ≤ 200) && l.all lvB
/-- what PrintBill answers -/
def pB (l : List Ln) : ByteArray := if pbB l then pbK l l.length else ⟨#[]⟩
theorem pbK_size {l : List Ln} : ∀ k, k ≤ 200 → (∀ j, j < k → lvB (lAt l j) = true) → (pbK l k).size ≤ 354 * k
  | 0, _, _ => Nat.le_refl _
  | k + 1, hk, h => by
    have := pbK_size k (by omega) (fun j hj => h j (by omega))
    have := lT_size (i := (k : Int)) (x := lAt l k) (by omega) (h k (by omega))
    show (pbK l k ++ lT k (lAt l k)).size ≤ _
    rw [app_size]; omega
theorem pbB_no {l : List Ln} {k : Nat} (hk : k < l.length) (h : lvB (lAt l k) = false) : pbB l = false := by
  cases q : pbB l
  · rfl
  · unfold pbB at q
    rw [Bool.and_eq_true] at q
    have := List.all_eq_true.mp q.2 _ (List.mem_of_getElem? (lAt_get hk))
    rw [this] at h; cases h
theorem pbB_yes {l : List Ln} (hl : l.length ≤ 200) (h : ∀ j, j < l.length → lvB (lAt l j) = true) : pbB l = true := by
  unfold pbB
  rw [Bool.and_eq_true, decide_eq_true_eq]
  refine ⟨hl, List.all_eq_true.mpr fun x hx => ?_⟩
  obtain ⟨i, hi, rfl⟩ := List.mem_iff_getElem.mp hx
  have := h i hi
  have e : lAt l i = l[i] := by unfold lAt; rw [List.getD_eq_getElem?_getD, List.getElem?_eq_getElem hi]; rfl
  rwa [e] at this

set_option maxRecDepth 1000000 in
set_option maxHeartbeats 2000000 in
theorem PrintBill_any (v : Value) (l : List Ln) (w : World) (h : LRow w v l) (ht : TB w) (hl : l.length ≤ maxLen) :
    Calls Tryz.prog 10 #[v] w fun e w' => e = .returned (.string (pB l)) ∧ Below w.heap.size w w' := by
  obtain ⟨a, cap, rfl⟩ := h.form
  unfold maxLen at hl
  by_cases h200 : 200 < l.length
  · have h2 : (200 : Int) < (l.length : Int) := by omega
    have HB : Hid (pB l = ⟨#[]⟩) := by
      show _ = _
      unfold pB pbB
      rw [decide_eq_false (by omega)]; rfl
    clear h ht
    go_enter Tryz.func10, Tryz.ntmps10
    go_wp2_with fail
    go_ret
    exact ⟨by rw [HB.out]; rfl, Below.refl _ _⟩
  have h2 : ¬ (200 : Int) < (l.length : Int) := by omega
  have HV := hideP h
  have HTB := hideP ht
  clear h ht
  go_enter Tryz.func10, Tryz.ntmps10
  go_wp2_with fail
  go_loopw [3, 4] (fun o p wr => ∃ k : Nat, p = .int .i64 k ∧ k ≤ l.length ∧ o = .string (pbK l k) ∧ (∀ j, j < k → lvB (lAt l j) = true) ∧ Below w.heap.size w wr) (fun _ p _ => l.length - (intOf p).toNat)
  case atStart => exact ⟨0, rfl, by omega, rfl, fun j hj => by omega, Below.refl _ _⟩
  case round =>
    obtain ⟨k, rfl, hk, rfl, hall, hb⟩ := hrel
    have HA := hideP hall
    clear hall
    have hsz := hb.size
    by_cases hlt : k < l.length
    · have hlt' : (k : Int) < (l.length : Int) := by omega
      have hk0 : (0 : Int) ≤ (k : Int) := by omega
      have hx := lAt_get hlt
      have HN := hideP (fun h => pbB_no (l := l) hlt h)
      have HS : Hid (∀ (h : lvB (lAt l k) = true), (pbK l k).size + (lT k (lAt l k)).size ≤ 9223372036854775807) := fun h => by
        have a1 := pbK_size (l := l) k (by omega) HA.out
        have a2 := lT_size (i := (k : Int)) (x := lAt l k) (by omega) h
        omega
      have HQ : Hid (lvB (lAt l k) = true → ∀ j, j < k + 1 → lvB (lAt l j) = true) := fun h j hj => by
        rcases Nat.lt_or_ge j k with q | q
        · exact HA.out j q
        · obtain rfl : j = k := by omega
          exact h
      have HE : Hid (pbK l (k + 1) = pbK l k ++ lT k (lAt l k)) := rfl
      obtain ⟨x, hxe⟩ : ∃ x, x = lAt l k := ⟨_, rfl⟩
      rw [← hxe] at hx HN HS HQ HE
      obtain ⟨b, rfl, hcap, hblt, cc⟩ := (HV.out.below hb).at hx
      have hcap' : (l.length : Int) ≤ (cap : Int) := by omega
      have c0 : wr.cell? ⟨b, k * 15, none⟩ = some (.int .i64 x.i0) := cc 0 _ rfl
      have c1 : wr.cell? ⟨b, k * 15 + 1, none⟩ = some (.int .i64 x.i1) := cc 1 _ rfl
      have c2 : wr.cell? ⟨b, k * 15 + 2, none⟩ = some (.int .i64 x.i2) := cc 2 _ rfl
      have c3 : wr.cell? ⟨b, k * 15 + 3, none⟩ = some (.int .i64 x.o) := cc 3 _ rfl
      have c4 : wr.cell? ⟨b, k * 15 + 4, none⟩ = some (.int .i64 x.pk) := cc 4 _ rfl
      have c5 : wr.cell? ⟨b, k * 15 + 5, none⟩ = some (.int .i64 x.bl) := cc 5 _ rfl
      have c6 : wr.cell? ⟨b, k * 15 + 6, none⟩ = some (.int .i64 x.en) := cc 6 _ rfl
      have c7 : wr.cell? ⟨b, k * 15 + 7, none⟩ = some (.int .i64 x.pw) := cc 7 _ rfl
      have c8 : wr.cell? ⟨b, k * 15 + 8, none⟩ = some (.int .i64 x.ap) := cc 8 _ rfl
      have c9 : wr.cell? ⟨b, k * 15 + 9, none⟩ = some (.int .i64 x.ex) := cc 9 _ rfl
      have c10 : wr.cell? ⟨b, k * 15 + 10, none⟩ = some (.int .i64 x.pd) := cc 10 _ rfl
      have c11 : wr.cell? ⟨b, k * 15 + 11, none⟩ = some (.int .i64 x.bk) := cc 11 _ rfl
      have c12 : wr.cell? ⟨b, k * 15 + 12, none⟩ = some (.int .i64 x.su) := cc 12 _ rfl
      have c13 : wr.cell? ⟨b, k * 15 + 13, none⟩ = some (.int .i64 x.tx) := cc 13 _ rfl
      have c14 : wr.cell? ⟨b, k * 15 + 14, none⟩ = some (.int .i64 x.to) := cc 14 _ rfl
      have vl := fun w1 => validLine_any x w1
      have TBr : TB wr := HTB.out.below hb
      clear cc hx hxe
      cases hv : lvB x
      · rw [hv] at vl
        have HF := hideP (HN.out hv)
        clear hv
        go_wp2_with (go_at_call 33; refine (vl _).mono ?_; rintro e w1 ⟨rfl, hb1⟩)
        go_ret
        refine ⟨?_, below_then hb hb1⟩
        unfold pB; rw [HF.out]; rfl
      · rw [hv] at vl
        have lt := fun w1 (h : TB w1) => lineText_any k x w1 h (by omega) hv
        have HF := hideP (HQ.out hv)
        have ad : ∀ w, (Op.stringOp .add (pbK l k) (lT k x)).run Tryz.prog w = .ok (.string (pbK l (k + 1))) w := by rw [HE.out]; exact sadd _ _ (HS.out hv)
        obtain ⟨A, hA⟩ : ∃ A, A = pbK l k := ⟨_, rfl⟩
        rw [← hA] at ad ⊢
        obtain ⟨A', hA'⟩ : ∃ A', A' = pbK l (k + 1) := ⟨_, rfl⟩
        rw [← hA'] at ad
        have HA' := hideP hA'
        obtain ⟨L, hL⟩ : ∃ L, L = lT k x := ⟨_, rfl⟩
        rw [← hL] at ad lt
        clear hA hA' hL hv
        go_wp2_with (first
          | (go_at_call 33; refine (vl _).mono ?_; rintro e w1 ⟨rfl, hb1⟩; have d0 := vcell_below hb1 hblt c0; have d1 := vcell_below hb1 hblt c1; have d2 := vcell_below hb1 hblt c2; have d3 := vcell_below hb1 hblt c3; have d4 := vcell_below hb1 hblt c4; have d5 := vcell_below hb1 hblt c5; have d6 := vcell_below hb1 hblt c6; have d7 := vcell_below hb1 hblt c7; have d8 := vcell_below hb1 hblt c8; have d9 := vcell_below hb1 hblt c9; have d10 := vcell_below hb1 hblt c10; have d11 := vcell_below hb1 hblt c11; have d12 := vcell_below hb1 hblt c12; have d13 := vcell_below hb1 hblt c13; have d14 := vcell_below hb1 hblt c14; have TB1 := TB.below TBr hb1)
          | (go_at_call 34; refine (lt _ TB1).mono ?_; rintro e w2 ⟨rfl, hb2⟩))
        go_roundw
        case rel => exact ⟨k + 1, by go_num, by omega, by rw [HA'.out], HF.out, below_then (below_then hb hb1) hb2⟩
        case measure => simp [intOf]; omega
    · have hlt' : ¬ (k : Int) < (l.length : Int) := by omega
      have hkn : k = l.length := by omega
      subst hkn
      have HF : Hid (pB l = pbK l l.length) := by
        show _ = _
        unfold pB; rw [pbB_yes (by omega) HA.out]; rfl
      obtain ⟨A, hA⟩ : ∃ A, A = pbK l l.length := ⟨_, rfl⟩
      rw [← hA] at HF ⊢
      clear hA
      go_wp2_with fail
      go_ret
      exact ⟨by rw [HF.out]; rfl, hb⟩
end Go.Proofs.YtjaffmmocbplaabGreatDoor
