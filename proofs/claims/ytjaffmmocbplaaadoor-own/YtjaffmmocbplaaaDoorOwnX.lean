/-
  BilL, LinR, LnpW, LnpX, LinW, SamL, PrtY, OwnC, OwnW, Own in one text (made by tools/merge.py).
-/
import Derived.Test.YtjaffmmocbplaaaDoorBilM
import Derived.Test.YtjaffmmocbplaaaDoorBilZ
import Derived.Test.YtjaffmmocbplaaaDoorPrtX
import Derived.Laws.CopyOwn
import Derived.BigQuiet
import Derived.Test.YtjaffmmocbplaaaDoorRowX
import Derived.Test.YtjaffmmocbplaaaDoorFilM
import Derived.Test.YtjaffmmocbplaaaDoorRowZ
import Derived.Test.YtjaffmmocbplaaaDoorFilT
import Derived.Test.YtjaffmmocbplaaaDoorRows
import Derived.Test.YtjaffmmocbplaaaDoorTie
import Derived.Test.YtjaffmmocbplaaaDoorCards
import Derived.Test.YtjaffmmocbplaaaDoorFormM
import Derived.Test.YtjaffmmocbplaaaDoorFormT
import Derived.ProofKit
import Derived.OpenShut
import Derived.LaidMore
import Derived.Stop.Joined
import Derived.Stop.LaidErr
import Derived.Lib.LaidTab
import Derived.SevenTiedAt
import Derived.ShutString
namespace Go.Proofs.YtjaffmmocbplaaaDoor
set_option linter.unusedVariables false
namespace Bil
def pdS (t : Trf) (ps : List Per) : Nat → Int
  | 0 => 0
  | k + 1 => pdS t ps k + (lnAt t ps k).pd
def gnS (t : Trf) (ps : List Per) : Nat → Int
  | 0 => 0
  | k + 1 => gnS t ps k + (lnAt t ps k).ap + (lnAt t ps k).ex
theorem bank_tot {t : Trf} (ps : List Per) (hn : 0 ≤ t.nn) : ∀ k, pdS t ps k = gnS t ps k + (crR t ps k).sum
  | 0 => by simp [pdS, gnS, crR]
  | k + 1 => by
    have ih := bank_tot ps hn k
    have := bank_step t ps (crR t ps k) hn k
    have e1 : (lnAt t ps k).ap = apOf t ps (crR t ps k) k := rfl
    have e2 : (lnAt t ps k).ex = exOf t (crR t ps k) := rfl
    have e3 : (lnAt t ps k).pd = pdOf t ps k := rfl
    have e4 : crR t ps (k + 1) = c3Of t ps (crR t ps k) k := rfl
    show pdS t ps k + (lnAt t ps k).pd = gnS t ps k + (lnAt t ps k).ap + (lnAt t ps k).ex + (crR t ps (k + 1)).sum
    rw [e1, e2, e3, e4]; omega
structure BkB (t : Trf) (ps : List Per) (k : Nat) : Prop where
  ap : 0 ≤ (lnAt t ps k).ap ∧ (lnAt t ps k).ap ≤ (lnAt t ps k).en
  ex : 0 ≤ (lnAt t ps k).ex
  bk : 0 ≤ (lnAt t ps k).bk
  pd : 0 ≤ (lnAt t ps k).pd ∧ (lnAt t ps k).pd ≤ 20000000000001
  pr : (lnAt t ps k).pd = ((lnAt t ps k).o * t.np + 500) / 1000 ∧ 0 ≤ (lnAt t ps k).o * t.np ∧ (lnAt t ps k).o * t.np ≤ 20000000000000000
  tot : pdS t ps (k + 1) = gnS t ps (k + 1) + (lnAt t ps k).bk
  bd : 0 ≤ pdS t ps k ∧ pdS t ps k ≤ k * 20000000000001
  gd : 0 ≤ gnS t ps k ∧ gnS t ps k ≤ pdS t ps k
  gd1 : 0 ≤ gnS t ps (k + 1) ∧ gnS t ps (k + 1) ≤ pdS t ps (k + 1)
theorem sum_nonneg {t : Trf} {ps : List Per} (ht : OkT t) (h : ∀ k, okP (pAt ps k) 200) (k : Nat) : 0 ≤ (crR t ps k).sum := by
  have := okL_sum (cr_ok ht h k) (crR t ps k).length (Nat.le_refl _)
  rw [List.take_of_length_le (Nat.le_refl _)] at this
  exact this.1
theorem ex_nonneg {t : Trf} {ps : List Per} (ht : OkT t) (h : ∀ k, okP (pAt ps k) 200) (k : Nat) : 0 ≤ exOf t (crR t ps k) :=
  (okL_sum (cr_ok ht h k) _ (by have := ht.n; unfold exN; omega)).1
theorem pd_bd {t : Trf} {ps : List Per} (ht : OkT t) (h : ∀ k, okP (pAt ps k) 200) : ∀ k, (0 ≤ pdS t ps k ∧ pdS t ps k ≤ k * 20000000000001) ∧ 0 ≤ gnS t ps k
  | 0 => by simp [pdS, gnS]
  | k + 1 => by
    obtain ⟨⟨a, b⟩, c⟩ := pd_bd ht h k
    have d := (lnB ht h k).pd
    have e := (lnC ht h (cr_ok ht h k) k).ap
    have f := ex_nonneg ht h k
    have e1 : (lnAt t ps k).ap = apOf t ps (crR t ps k) k := rfl
    have e2 : (lnAt t ps k).ex = exOf t (crR t ps k) := rfl
    have e3 : (lnAt t ps k).pd = pdOf t ps k := rfl
    show (0 ≤ pdS t ps k + (lnAt t ps k).pd ∧ pdS t ps k + (lnAt t ps k).pd ≤ ((k + 1 : Nat) : Int) * 20000000000001) ∧ 0 ≤ gnS t ps k + (lnAt t ps k).ap + (lnAt t ps k).ex
    rw [e1, e2, e3]; omega
theorem bkB {t : Trf} {ps : List Per} (ht : OkT t) (h : ∀ k, okP (pAt ps k) 200) (k : Nat) : BkB t ps k := by
  have hn := ht.n
  have s0 := sum_nonneg ht h k
  have s1 := sum_nonneg ht h (k + 1)
  have t0 := bank_tot ps hn.2.2.1 k
  have t1 := bank_tot ps hn.2.2.1 (k + 1)
  obtain ⟨b0, g0⟩ := pd_bd ht h k
  obtain ⟨b1, g1⟩ := pd_bd ht h (k + 1)
  have b := lnB ht h k
  have c := lnC ht h (cr_ok ht h k) k
  exact ⟨c.ap, ex_nonneg ht h k, s1, b.pd, ⟨rfl, b.om⟩, t1, b0, ⟨g0, by omega⟩, ⟨g1, by omega⟩⟩

/-! ### the ratchet -/
theorem pkR_ge (ps : List Per) (a : Nat) : ∀ n m, m < n → (pAt ps (a + m)).pk ≤ pkR ps a n
  | n + 1, m, h => by
    show _ ≤ mx (pkR ps a n) (pAt ps (a + n)).pk
    obtain ⟨x, y⟩ := mx_ge (pkR ps a n) (pAt ps (a + n)).pk
    by_cases e : m < n
    · have := pkR_ge ps a n m e; omega
    · have e' : m = n := by omega
      subst e'; omega
theorem pkR_le (ps : List Per) (a : Nat) (B : Int) (hB : 0 ≤ B) : ∀ n, (∀ m, m < n → (pAt ps (a + m)).pk ≤ B) → pkR ps a n ≤ B
  | 0, _ => hB
  | n + 1, h => by
    show mx (pkR ps a n) (pAt ps (a + n)).pk ≤ B
    have := pkR_le ps a B hB n (fun m hm => h m (by omega))
    have := h n (by omega)
    have := mx_or (pkR ps a n) (pAt ps (a + n)).pk
    omega
theorem pkA_ge {ps : List Per} {i j : Nat} {q : Int} (h1 : (i : Int) - j ≤ q) (h2 : j < i) : (pAt ps j).pk ≤ pkA ps i q := by
  have hf : from0 i q ≤ j := by unfold from0; omega
  have := pkR_ge ps (from0 i q) (i - from0 i q) (j - from0 i q) (by omega)
  rw [show from0 i q + (j - from0 i q) = j by omega] at this
  exact this
/-- the largest peak, from i downward -/
def tpR (ps : List Per) (i : Nat) : Nat → Int
  | 0 => (pAt ps i).pk
  | m + 1 => mx (tpR ps i m) (pAt ps (i - 1 - m)).pk
theorem tpR_own (ps : List Per) (i : Nat) : ∀ m, (pAt ps i).pk ≤ tpR ps i m
  | 0 => Int.le_refl _
  | m + 1 => by
    have := tpR_own ps i m
    have := mx_ge (tpR ps i m) (pAt ps (i - 1 - m)).pk
    show _ ≤ mx _ _
    omega
theorem tpR_ge (ps : List Per) (i : Nat) : ∀ m j, j < m → (pAt ps (i - 1 - j)).pk ≤ tpR ps i m
  | m + 1, j, h => by
    show _ ≤ mx (tpR ps i m) (pAt ps (i - 1 - m)).pk
    obtain ⟨x, y⟩ := mx_ge (tpR ps i m) (pAt ps (i - 1 - m)).pk
    by_cases e : j < m
    · have := tpR_ge ps i m j e; omega
    · have e' : j = m := by omega
      subst e'; exact y
theorem tpR_bd {ps : List Per} (h : ∀ k, okP (pAt ps k) 200) (i : Nat) : ∀ m, 0 ≤ tpR ps i m ∧ tpR ps i m ≤ 4000000000
  | 0 => by have := h i; simp only [okP] at this; exact this.2.2.2.2
  | m + 1 => by
    have a := tpR_bd h i m
    have b := h (i - 1 - m)
    simp only [okP] at b
    show 0 ≤ mx _ _ ∧ mx _ _ ≤ 4000000000
    unfold mx; split <;> omega
theorem pkA_le {ps : List Per} (h : ∀ k, okP (pAt ps k) 200) {i m : Nat} {q : Int} (hm : i - from0 i q ≤ m) : pkA ps i q ≤ tpR ps i m := by
  refine pkR_le ps _ _ (tpR_bd h i m).1 _ fun j hj => ?_
  have := tpR_ge ps i m (i - 1 - (from0 i q + j)) (by omega)
  rw [show i - 1 - (i - 1 - (from0 i q + j)) = from0 i q + j by omega] at this
  exact this
theorem div_mono {a b : Int} (h : a ≤ b) : a / 100 ≤ b / 100 := by omega
theorem bl_ge {t : Trf} {ps : List Per} (ht : OkT t) {i j : Nat} (h1 : (i : Int) - j ≤ t.d.z) (h2 : j < i) : (pAt ps j).pk * t.d.y / 100 ≤ blOf t ps i := by
  have a := Int.mul_le_mul_of_nonneg_right (pkA_ge (ps := ps) h1 h2) ht.d.2.2.1
  have b := mx_ge (pAt ps i).pk (pkA ps i t.d.z * t.d.y / 100)
  unfold blOf
  have := div_mono a
  omega
theorem bl_le {t : Trf} {ps : List Per} (ht : OkT t) (h : ∀ k, okP (pAt ps k) 200) {i m : Nat} (hm : i - from0 i t.d.z ≤ m) : blOf t ps i ≤ tpR ps i m := by
  have a := pkA_le h hm
  have b := tpR_own ps i m
  have c := (lnB ht h i).pk
  have d := Int.mul_le_mul_of_nonneg_left ht.d.2.2.2.1 c.1
  have e := mx_or (pAt ps i).pk (pkA ps i t.d.z * t.d.y / 100)
  unfold blOf
  rcases e with e | e <;> rw [e] <;> omega
end Bil
end Go.Proofs.YtjaffmmocbplaaaDoor

namespace Go.Proofs.YtjaffmmocbplaaaDoor
open Go.RowKit Bil
set_option linter.unusedVariables false

theorem lcs_get : ∀ (l : List Ln) (i : Nat) (x : Ln), l[i]? = some x → ∀ j, j < 15 → (lcs l)[i * 15 + j]? = (lcell x)[j]?
  | [], i, x, h, j, hj => by simp at h
  | y :: l, 0, x, h, j, hj => by
    simp at h; subst h
    show (lcell y ++ lcs l)[0 * 15 + j]? = _
    rw [Nat.zero_mul, Nat.zero_add, List.getElem?_append_left (by simp [lcell]; omega)]
  | y :: l, i + 1, x, h, j, hj => by
    have ih := lcs_get l i x (by simpa using h) j hj
    show (lcell y ++ lcs l)[(i + 1) * 15 + j]? = _
    rw [List.getElem?_append_right (by simp [lcell]; omega), ← ih]
    congr 1
    simp [lcell]; omega
/-- a slice of lines reads as the list l -/
def LRow (w : World) (v : Value) (l : List Ln) : Prop :=
  ∃ a cap, v = .slice a l.length cap ∧ (l = [] ∨ ∃ b, a = some ⟨b, 0, none⟩ ∧ l.length ≤ cap ∧ b < w.heap.size ∧
    ∀ i x, l[i]? = some x → ∀ j u, (lcell x)[j]? = some u → w.cell? ⟨b, i * 15 + j, none⟩ = some u)
theorem LRow.form {w : World} {v : Value} {l : List Ln} (h : LRow w v l) : ∃ a cap, v = .slice a l.length cap := by
  obtain ⟨a, cap, hv, _⟩ := h; exact ⟨a, cap, hv⟩
theorem LRow.below {w w' : World} {v : Value} {l : List Ln} (h : LRow w v l) (hb : Below w.heap.size w w') : LRow w' v l := by
  obtain ⟨a, cap, hv, h⟩ := h
  refine ⟨a, cap, hv, h.imp id ?_⟩
  rintro ⟨b, ha, hc, hlt, h⟩
  have := hb.size
  exact ⟨b, ha, hc, by omega, fun i x hx j u hu => vcell_below hb hlt (h i x hx j u hu)⟩
theorem LRow.at {w : World} {a : Option Addr} {n cap : Nat} {l : List Ln} (h : LRow w (.slice a n cap) l) {k : Nat} {x : Ln} (hx : l[k]? = some x) :
    ∃ b, a = some ⟨b, 0, none⟩ ∧ n ≤ cap ∧ b < w.heap.size ∧ ∀ j u, (lcell x)[j]? = some u → w.cell? ⟨b, k * 15 + j, none⟩ = some u := by
  obtain ⟨a', cap', hv, h⟩ := h
  cases hv
  rcases h with rfl | ⟨b, rfl, hc, hlt, h⟩
  · simp at hx
  · exact ⟨b, rfl, hc, hlt, h k x hx⟩
theorem LRow.of_own {w : World} {base : Nat} {e : TypeId} {v : Value} {n : Nat} {l : List Ln} (h : w.ownsRow base e 15 v n (lcs l)) (hn : l.length = n) : LRow w v l := by
  subst hn
  by_cases h0 : l.length = 0
  · obtain ⟨a, cap, rfl⟩ := own_slice h
    have : l = [] := List.eq_nil_of_length_eq_zero h0
    subst this
    exact ⟨a, cap, rfl, .inl rfl⟩
  · obtain ⟨g, cap, rfl, hb, hlt⟩ := h.form (by omega)
    have hcap : l.length ≤ cap := by
      rcases h.2 with ⟨h1, _⟩ | ⟨g', cap', cur, hv, _, _, hc, _⟩
      · cases h1
      · cases hv; exact hc
    refine ⟨some ⟨g, 0, none⟩, cap, rfl, .inr ⟨g, rfl, hcap, hlt, fun i x hx j u hu => ?_⟩⟩
    have hi : i < l.length := by
      rcases Nat.lt_or_ge i l.length with q | q
      · exact q
      · rw [List.getElem?_eq_none q] at hx; cases hx
    have hj : j < 15 := by
      rcases Nat.lt_or_ge j 15 with q | q
      · exact q
      · rw [List.getElem?_eq_none (by simp [lcell]; omega)] at hu; cases hu
    rw [h.cellAt _ (by omega), lcs_get l i x hx j hj, hu]

/-- what a good bill's periods and tariff are -/
structure BOk (t : Trf) (ps : List Per) : Prop where
  t : OkT t
  p : ∀ k, okP (pAt ps k) 200
  n : 1 ≤ ps.length ∧ ps.length ≤ 36556
theorem bok {t : Trf} {step start : Int} {l : List Txt.Val} (hz : spE t step start l = 0) : BOk t (spL t step start l) := by
  obtain ⟨hm, hb13, hfe, hokc, hsl⟩ := sp_ok hz
  obtain ⟨hst, hsa⟩ := meterB_step hm
  obtain ⟨len1, len2, hall⟩ := meterB_fit hm
  have hLn := (fL_len step start t.gap l).2
  have hLv : (fL step start t.gap l).all valB = true := by
    unfold fL; split
    · split
      · rename_i hr; exact fl_valB hall hr
      · rfl
    · rfl
  obtain ⟨PA, PL⟩ := perL_all hb13 hst hLv hLn hokc
  rw [hsl]
  exact ⟨okT hb13, pAt_ok PA, by unfold perL; simp, PL⟩
end Go.Proofs.YtjaffmmocbplaaaDoor

namespace Go.Proofs.YtjaffmmocbplaaaDoor
open Go.RowKit Go.Shelf Bil
set_option linter.unusedVariables false
attribute [local go_sem ↓] Go.wp_at_zero Go.wp_at_succ

/-- number j of a line -/
def lq (x : Ln) (j : Nat) : Int := [x.i0, x.i1, x.i2, x.o, x.pk, x.bl, x.en, x.pw, x.ap, x.ex, x.pd, x.bk, x.su, x.tx, x.to].getD j 0
theorem lq_at (x : Ln) (j : Nat) (hj : j < 15) : (#[.int .i64 x.i0, .int .i64 x.i1, .int .i64 x.i2, .int .i64 x.o, .int .i64 x.pk, .int .i64 x.bl, .int .i64 x.en, .int .i64 x.pw, .int .i64 x.ap, .int .i64 x.ex, .int .i64 x.pd, .int .i64 x.bk, .int .i64 x.su, .int .i64 x.tx, .int .i64 x.to] : Array Value)[j]? = some (.int .i64 (lq x j)) := by
  match j, hj with
  | 0, _ => rfl
  | 1, _ => rfl
  | 2, _ => rfl
  | 3, _ => rfl
  | 4, _ => rfl
  | 5, _ => rfl
  | 6, _ => rfl
  | 7, _ => rfl
  | 8, _ => rfl
  | 9, _ => rfl
  | 10, _ => rfl
  | 11, _ => rfl
  | 12, _ => rfl
  | 13, _ => rfl
  | 14, _ => rfl
  | k + 15, h => omega
theorem cell_in_row {w : World} {g j : Nat} {cs : Array Value} {t : TypeId} {q : Nat × Nat} {v : Value} (h : w.heap[g]? = some (.cells cs t q)) (hv : cs[j]? = some v) : w.cell? ⟨g, j, none⟩ = some v := by
  unfold World.cell?; simp [h, hv]
theorem wp_named {P : Program} {c : Code} {Q : Exit → Act → World → Prop} {a : Act} {w0 : World} (h : ∀ w', w' = w0 → Code.wp P c Q a w') : Code.wp P c Q a w0 := h w0 rfl
theorem results_row1 {P : Program} {fn : Func} {p : Tmp} {ty : TypeId} (h : fn.results = #[.cell p ty]) (tmps : Array Value) (w : World) (g : Nat) (t : TypeId) (cs : Array Value) (fr : Nat × Nat) (d : TypeDesc)
    (hp : tmps.getD p undef = .pointer (some ⟨g, 0, none⟩)) (hg : w.heap[g]? = some (.cells cs t fr))
    (hu : P.underlying ty = some d) (hd : (match d with | .struct _ | .array _ _ => true | _ => false) = true) (hi : (P.info? ty).map (·.size) = some cs.size) :
    (results fn tmps).run P w = .ok (.agg cs) w := by
  have hp' : tmps[p]?.getD undef = .pointer (some ⟨g, 0, none⟩) := by simpa using hp
  simp [results, h, hp', asAddr, run_loadVar_row w g t ty cs fr d hg hu hd hi]
theorem l_one (x : Ln) : (#[.int .i64 x.i0, .int .i64 x.i1, .int .i64 x.i2, .int .i64 x.o, .int .i64 x.pk, .int .i64 x.bl, .int .i64 x.en, .int .i64 x.pw, .int .i64 x.ap, .int .i64 x.ex, .int .i64 x.pd, .int .i64 x.bk, .int .i64 x.su, .int .i64 x.tx, .int .i64 x.to] : Array Value).all (fun v => v.oneCell') = true := by kernel_rfl
theorem l_info (x : Ln) : (Tryd.prog.info? 156).map (fun i => i.size) = some (#[.int .i64 x.i0, .int .i64 x.i1, .int .i64 x.i2, .int .i64 x.o, .int .i64 x.pk, .int .i64 x.bl, .int .i64 x.en, .int .i64 x.pw, .int .i64 x.ap, .int .i64 x.ex, .int .i64 x.pd, .int .i64 x.bk, .int .i64 x.su, .int .i64 x.tx, .int .i64 x.to] : Array Value).size := by
  show _ = some 15
  kernel_rfl

set_option maxRecDepth 1000000 in
set_option maxHeartbeats 2000000 in
theorem numbers_any (x : Ln) (w : World) :
    Calls Tryd.prog 92 #[.agg #[.int .i64 x.i0, .int .i64 x.i1, .int .i64 x.i2, .int .i64 x.o, .int .i64 x.pk, .int .i64 x.bl, .int .i64 x.en, .int .i64 x.pw, .int .i64 x.ap, .int .i64 x.ex, .int .i64 x.pd, .int .i64 x.bk, .int .i64 x.su, .int .i64 x.tx, .int .i64 x.to]] w fun e w' => e = .returned (.agg #[.int .i64 x.i0, .int .i64 x.i1, .int .i64 x.i2, .int .i64 x.o, .int .i64 x.pk, .int .i64 x.bl, .int .i64 x.en, .int .i64 x.pw, .int .i64 x.ap, .int .i64 x.ex, .int .i64 x.pd, .int .i64 x.bk, .int .i64 x.su, .int .i64 x.tx, .int .i64 x.to]) ∧ Below w.heap.size w w' := by
  have Z0 : ((w.alloc (.cells #[.int .i64 x.i0, .int .i64 x.i1, .int .i64 x.i2, .int .i64 x.o, .int .i64 x.pk, .int .i64 x.bl, .int .i64 x.en, .int .i64 x.pw, .int .i64 x.ap, .int .i64 x.ex, .int .i64 x.pd, .int .i64 x.bk, .int .i64 x.su, .int .i64 x.tx, .int .i64 x.to] 123)).alloc (.cells #[.int .i64 0, .int .i64 0, .int .i64 0, .int .i64 0, .int .i64 0, .int .i64 0, .int .i64 0, .int .i64 0, .int .i64 0, .int .i64 0, .int .i64 0, .int .i64 0, .int .i64 0, .int .i64 0, .int .i64 0] 156)).heap[w.heap.size + 1]? = some (.cells #[.int .i64 0, .int .i64 0, .int .i64 0, .int .i64 0, .int .i64 0, .int .i64 0, .int .i64 0, .int .i64 0, .int .i64 0, .int .i64 0, .int .i64 0, .int .i64 0, .int .i64 0, .int .i64 0, .int .i64 0] 156) := heap_alloc2_new _ _ _
  go_enter Tryd.func92, Tryd.ntmps92
  go_wp2_with (refine wpList_store_row rfl 156 _ _ rfl (w.heap.size + 1) #[.int .i64 x.i0, .int .i64 x.i1, .int .i64 x.i2, .int .i64 x.o, .int .i64 x.pk, .int .i64 x.bl, .int .i64 x.en, .int .i64 x.pw, .int .i64 x.ap, .int .i64 x.ex, .int .i64 x.pd, .int .i64 x.bk, .int .i64 x.su, .int .i64 x.tx, .int .i64 x.to] rfl rfl 156 _ Z0 (l_info x) rfl (l_one x) ?_)
  exact bodyPost_ret (results_row1 rfl _ _ (w.heap.size + 1) 156 _ (0, 0) _ rfl (setRow_heap _ _ _ _ _ _ Z0) Tryd.underlying156 rfl (l_info x)) rfl ⟨rfl, below_setRow (below_more (below_more (Below.refl _ _) _) _) (Nat.le_succ _) _⟩

/-- can the line be printed? -/
def lvB (x : Ln) : Bool := (List.range 15).all fun j => inB (lq x j) 0 999999999999999
theorem lvB_no {x : Ln} {j : Nat} (hj : j < 15) (h : inB (lq x j) 0 999999999999999 = false) : lvB x = false := by
  cases q : lvB x
  · rfl
  · have := List.all_eq_true.mp q j (List.mem_range.mpr hj)
    rw [this] at h; cases h
theorem lvB_yes {x : Ln} (h : ∀ j, j < 15 → inB (lq x j) 0 999999999999999 = true) : lvB x = true :=
  List.all_eq_true.mpr fun j hj => h j (List.mem_range.mp hj)
theorem lvB_bd {x : Ln} (h : lvB x = true) (j : Nat) (hj : j < 15) : 0 ≤ lq x j ∧ lq x j ≤ 999999999999999 := by
  have := List.all_eq_true.mp h j (List.mem_range.mpr hj)
  rw [inB_iff] at this; exact this

set_option maxRecDepth 1000000 in
set_option maxHeartbeats 2000000 in
theorem validLine_any (x : Ln) (w : World) :
    Calls Tryd.prog 66 #[.agg #[.int .i64 x.i0, .int .i64 x.i1, .int .i64 x.i2, .int .i64 x.o, .int .i64 x.pk, .int .i64 x.bl, .int .i64 x.en, .int .i64 x.pw, .int .i64 x.ap, .int .i64 x.ex, .int .i64 x.pd, .int .i64 x.bk, .int .i64 x.su, .int .i64 x.tx, .int .i64 x.to]] w fun e w' => e = .returned (.bool (lvB x)) ∧ Below w.heap.size w w' := by
  have nm := fun w1 => numbers_any x w1
  go_enter Tryd.func66, Tryd.ntmps66
  go_upto_region 2 with (first
    | (go_at_call 92; refine (nm _).mono ?_; rintro e w1 ⟨rfl, hb1⟩; have hs1 : w.heap.size < w1.heap.size := (by have := hb1.size; simp at this; omega); have B1 := below_then (below_more (Below.refl w.heap.size w) _) hb1)
    | (with_reducible show wpList _ _ _ _ _ (World.alloc w1 _); refine wpList_store_row rfl 156 _ _ rfl w1.heap.size #[.int .i64 x.i0, .int .i64 x.i1, .int .i64 x.i2, .int .i64 x.o, .int .i64 x.pk, .int .i64 x.bl, .int .i64 x.en, .int .i64 x.pw, .int .i64 x.ap, .int .i64 x.ex, .int .i64 x.pd, .int .i64 x.bk, .int .i64 x.su, .int .i64 x.tx, .int .i64 x.to] rfl rfl 156 _ (heap_alloc_new w1 _) (l_info x) rfl (l_one x) ?_))
  refine wp_named (fun w2 hw2 => ?_)
  have R2 : w2.heap[w1.heap.size]? = some (.cells #[.int .i64 x.i0, .int .i64 x.i1, .int .i64 x.i2, .int .i64 x.o, .int .i64 x.pk, .int .i64 x.bl, .int .i64 x.en, .int .i64 x.pw, .int .i64 x.ap, .int .i64 x.ex, .int .i64 x.pd, .int .i64 x.bk, .int .i64 x.su, .int .i64 x.tx, .int .i64 x.to] 156) := by rw [hw2]; exact setRow_heap _ _ _ _ _ _ (heap_alloc_new w1 _)
  have B2 : Below w.heap.size w w2 := by rw [hw2]; exact below_setRow (below_more B1 _) B1.size _
  have HC := hideP (fun j (hj : j < 15) => cell_in_row R2 (lq_at x j hj))
  clear hw2 hb1 R2 B1
  go_wp2_with fail
  go_loopw [4] (fun p wr => ∃ k : Nat, p = .int .i64 k ∧ k ≤ 15 ∧ (∀ j, j < k → inB (lq x j) 0 999999999999999 = true) ∧ wr = w2) (fun p _ => 15 - (intOf p).toNat)
  case atStart => exact ⟨0, rfl, by omega, fun j hj => by omega, rfl⟩
  case round =>
    obtain ⟨k, rfl, hk, hall, hwr⟩ := hrel
    subst hwr
    have HA := hideP hall
    clear hall
    by_cases hlt : k < 15
    · have hlt' : (k : Int) < 15 := by omega
      have hk0 : (0 : Int) ≤ (k : Int) := by omega
      have ck := HC.out k hlt
      have HN := hideP (fun h => lvB_no (x := x) hlt h)
      have HQ := hideP (fun (h : inB (lq x k) 0 999999999999999 = true) j (hj : j < k + 1) => by
        rcases Nat.lt_or_ge j k with q | q
        · exact HA.out j q
        · obtain rfl : j = k := by omega
          exact h : inB (lq x k) 0 999999999999999 = true → ∀ j, j < k + 1 → inB (lq x j) 0 999999999999999 = true)
      obtain ⟨z, hz⟩ : ∃ z, z = lq x k := ⟨_, rfl⟩
      rw [← hz] at ck HN HQ
      clear hz
      cases hv : inB z 0 999999999999999
      · have wi := fun w1 => within_any z 0 999999999999999 w1
        rw [hv] at wi
        have HF := hideP (HN.out hv)
        clear hv
        go_wp2_with (go_at_call 51; refine (wi _).mono ?_; rintro e wn ⟨rfl, h7⟩; have h8 := h7.symm; subst h8)
        go_ret
        exact ⟨by rw [HF.out]; rfl, B2⟩
      · have wi := fun w1 => within_any z 0 999999999999999 w1
        rw [hv] at wi
        have HF := hideP (HQ.out hv)
        clear hv
        go_wp2_with (go_at_call 51; refine (wi _).mono ?_; rintro e wn ⟨rfl, h7⟩; have h8 := h7.symm; subst h8)
        go_roundw
        case rel => exact ⟨k + 1, by go_num, by omega, HF.out, by first | rfl | trivial⟩
        case measure => simp [intOf]; omega
    · have hlt' : ¬ (k : Int) < 15 := by omega
      have HF := hideP (lvB_yes (x := x) (fun j hj => HA.out j (by omega)))
      go_wp2_with fail
      go_ret
      exact ⟨by rw [HF.out]; rfl, B2⟩

/-! ### its text -/
def lK (i : Int) (x : Ln) : Nat → ByteArray
  | 0 => ⟨#[80]⟩ ++ fS i
  | k + 1 => lK i x k ++ fS (lq x k)
def lT (i : Int) (x : Ln) : ByteArray := lK i x 15 ++ ⟨#[10]⟩
theorem lK_size {i : Int} {x : Ln} (hi : 0 ≤ i ∧ i ≤ 999999999999999) (hx : lvB x = true) : ∀ k, k ≤ 15 → (lK i x k).size ≤ 23 + 22 * k
  | 0, _ => by
    have := fS_size hi.1 (by omega)
    show (⟨#[80]⟩ ++ fS i : ByteArray).size ≤ _
    rw [app_size]; show 1 + _ ≤ _; omega
  | k + 1, hk => by
    have := lK_size hi hx k (by omega)
    have b := lvB_bd hx k (by omega)
    have := fS_size b.1 (by omega)
    show (lK i x k ++ fS (lq x k)).size ≤ _
    rw [app_size]; omega
theorem lT_size {i : Int} {x : Ln} (hi : 0 ≤ i ∧ i ≤ 999999999999999) (hx : lvB x = true) : (lT i x).size ≤ 354 := by
  have := lK_size hi hx 15 (by omega)
  unfold lT; rw [app_size]; show _ + 1 ≤ _; omega

set_option maxRecDepth 1000000 in
set_option maxHeartbeats 2000000 in
theorem lineText_any (i : Int) (x : Ln) (w : World) (ht : TB w) (hi : 0 ≤ i ∧ i ≤ 999999999999999) (hx : lvB x = true) :
    Calls Tryd.prog 67 #[.int .i64 i, .agg #[.int .i64 x.i0, .int .i64 x.i1, .int .i64 x.i2, .int .i64 x.o, .int .i64 x.pk, .int .i64 x.bl, .int .i64 x.en, .int .i64 x.pw, .int .i64 x.ap, .int .i64 x.ex, .int .i64 x.pd, .int .i64 x.bk, .int .i64 x.su, .int .i64 x.tx, .int .i64 x.to]] w fun e w' => e = .returned (.string (lT i x)) ∧ Below w.heap.size w w' := by
  have nm := fun w1 => numbers_any x w1
  have f0 := fun w1 (hb : Below w.heap.size w w1) => fieldText_any i hi.1 (by omega) w1 (ht.below hb)
  have hsz := lK_size hi hx
  have a0 : ∀ w, (Op.stringOp .add ⟨#[80]⟩ (fS i)).run Tryd.prog w = .ok (.string (lK i x 0)) w := sadd _ _ (by have := hsz 0 (by omega); rw [show lK i x 0 = ⟨#[80]⟩ ++ fS i from rfl, app_size] at this; omega)
  have a1 : ∀ w, (Op.stringOp .add (lK i x 15) ⟨#[10]⟩).run Tryd.prog w = .ok (.string (lT i x)) w := sadd _ _ (by have := hsz 15 (by omega); show _ + 1 ≤ _; omega)
  have HA1 := hideP a1
  have HS := hideP hsz
  have HX := hideP hx
  have HTB := hideP ht
  have E0 : lK i x 0 = lK i x 0 := rfl
  obtain ⟨K0, hK0⟩ : ∃ K, K = lK i x 0 := ⟨_, rfl⟩
  rw [← hK0] at a0
  obtain ⟨F0, hF0⟩ : ∃ F, F = fS i := ⟨_, rfl⟩
  rw [← hF0] at a0 f0
  have HK0 := hideP hK0
  clear a1 hsz hx ht hi hK0 hF0 E0
  go_enter Tryd.func67, Tryd.ntmps67
  go_upto_region 3 with (first
    | (go_at_call 31; refine (f0 _ (below_more (Below.refl _ _) _)).mono ?_; rintro e w0 ⟨rfl, hb0⟩; have hs0 : w.heap.size < w0.heap.size := (by have := hb0.size; simp at this; omega); have B0 := below_then (below_more (Below.refl w.heap.size w) (.cells #[.int .i64 x.i0, .int .i64 x.i1, .int .i64 x.i2, .int .i64 x.o, .int .i64 x.pk, .int .i64 x.bl, .int .i64 x.en, .int .i64 x.pw, .int .i64 x.ap, .int .i64 x.ex, .int .i64 x.pd, .int .i64 x.bk, .int .i64 x.su, .int .i64 x.tx, .int .i64 x.to] 123)) hb0; have M0 : w0.heap[w.heap.size]? = some (.cells #[.int .i64 x.i0, .int .i64 x.i1, .int .i64 x.i2, .int .i64 x.o, .int .i64 x.pk, .int .i64 x.bl, .int .i64 x.en, .int .i64 x.pw, .int .i64 x.ap, .int .i64 x.ex, .int .i64 x.pd, .int .i64 x.bk, .int .i64 x.su, .int .i64 x.tx, .int .i64 x.to] 123) := (hb0.block w.heap.size (by simp)).trans (heap_alloc_new _ _))
    | (with_reducible show wpList _ _ _ _ _ w0; refine wpList_load_row rfl 123 _ rfl w.heap.size rfl 123 _ (0, 0) _ M0 Tryd.underlying123 rfl (by kernel_rfl) ?_)
    | (go_at_call 92; refine (nm _).mono ?_; rintro e w1 ⟨rfl, hb1⟩; have hs1 : w.heap.size < w1.heap.size := (by have := hb1.size; omega); have B1 := below_then B0 hb1)
    | (with_reducible show wpList _ _ _ _ _ (World.alloc w1 _); refine wpList_store_row rfl 156 _ _ rfl w1.heap.size #[.int .i64 x.i0, .int .i64 x.i1, .int .i64 x.i2, .int .i64 x.o, .int .i64 x.pk, .int .i64 x.bl, .int .i64 x.en, .int .i64 x.pw, .int .i64 x.ap, .int .i64 x.ex, .int .i64 x.pd, .int .i64 x.bk, .int .i64 x.su, .int .i64 x.tx, .int .i64 x.to] rfl rfl 156 _ (heap_alloc_new w1 _) (l_info x) rfl (l_one x) ?_))
  refine wp_named (fun w2 hw2 => ?_)
  have R2 : w2.heap[w1.heap.size]? = some (.cells #[.int .i64 x.i0, .int .i64 x.i1, .int .i64 x.i2, .int .i64 x.o, .int .i64 x.pk, .int .i64 x.bl, .int .i64 x.en, .int .i64 x.pw, .int .i64 x.ap, .int .i64 x.ex, .int .i64 x.pd, .int .i64 x.bk, .int .i64 x.su, .int .i64 x.tx, .int .i64 x.to] 156) := by rw [hw2]; exact setRow_heap _ _ _ _ _ _ (heap_alloc_new w1 _)
  have B2 : Below w.heap.size w w2 := by rw [hw2]; exact below_setRow (below_more B1 _) B1.size _
  have N2 : w1.heap.size < w2.heap.size := (Array.getElem?_eq_some_iff.1 R2).1
  have HC := hideP (fun j (hj : j < 15) => cell_in_row R2 (lq_at x j hj))
  clear hw2 hb0 hb1 R2 B1 B0 M0 f0 a0 nm
  go_wp2_with fail
  go_loopw [5, 7] (fun o p wr => ∃ k : Nat, p = .int .i64 k ∧ k ≤ 15 ∧ o = .string (lK i x k) ∧ Below w2.heap.size w2 wr) (fun _ p _ => 15 - (intOf p).toNat)
  case atStart => exact ⟨0, rfl, by omega, by rw [HK0.out], Below.refl _ _⟩
  case round =>
    obtain ⟨k, rfl, hk, rfl, hbw⟩ := hrel
    by_cases hlt : k < 15
    · have hlt' : (k : Int) < 15 := by omega
      have hk0 : (0 : Int) ≤ (k : Int) := by omega
      have ck : wr.cell? ⟨w1.heap.size, k, none⟩ = some (.int .i64 (lq x k)) := vcell_below hbw N2 (HC.out k hlt)
      have b := lvB_bd HX.out k hlt
      have fk := fun w1 (h : TB w1) => fieldText_any (lq x k) b.1 (by omega) w1 h
      have TBr : TB wr := HTB.out.below (below_then B2 hbw)
      have ak : ∀ w, (Op.stringOp .add (lK i x k) (fS (lq x k))).run Tryd.prog w = .ok (.string (lK i x (k + 1))) w := sadd _ _ (by have := HS.out (k + 1) (by omega); rw [show lK i x (k + 1) = lK i x k ++ fS (lq x k) from rfl, app_size] at this; omega)
      obtain ⟨z, hz⟩ : ∃ z, z = lq x k := ⟨_, rfl⟩
      rw [← hz] at ck fk ak
      obtain ⟨F, hF⟩ : ∃ F, F = fS z := ⟨_, rfl⟩
      rw [← hF] at fk ak
      obtain ⟨A, hA⟩ : ∃ A, A = lK i x k := ⟨_, rfl⟩
      rw [← hA] at ak ⊢
      obtain ⟨A', hA'⟩ : ∃ A', A' = lK i x (k + 1) := ⟨_, rfl⟩
      have HA' := hideP hA'
      rw [← hA'] at ak
      clear hz hF hA hA' b
      go_wp2_with (go_at_call 31; refine (fk _ TBr).mono ?_; rintro e w3 ⟨rfl, hb3⟩)
      go_roundw
      case rel => exact ⟨k + 1, by go_num, by omega, by rw [HA'.out], below_then hbw hb3⟩
      case measure => simp [intOf]; omega
    · have hlt' : ¬ (k : Int) < 15 := by omega
      have hk15 : k = 15 := by omega
      subst hk15
      have a1 := HA1.out
      obtain ⟨A, hA⟩ : ∃ A, A = lK i x 15 := ⟨_, rfl⟩
      rw [← hA] at a1 ⊢
      obtain ⟨A', hA'⟩ : ∃ A', A' = lT i x := ⟨_, rfl⟩
      rw [← hA'] at a1
      have HA' := hideP hA'
      clear hA hA'
      go_wp2_with fail
      go_ret
      exact ⟨by rw [← HA'.out]; rfl, below_then B2 hbw⟩
end Go.Proofs.YtjaffmmocbplaaaDoor

namespace Go.Proofs.YtjaffmmocbplaaaDoor
open Go.RowKit Go.Shelf Bil
set_option linter.unusedVariables false
attribute [local go_sem ↓] Go.wp_at_zero Go.wp_at_succ

def ln0 : Ln := ⟨0, 0, 0, 0, 0, 0, 0, 0, 0, 0, 0, 0, 0, 0, 0⟩
def lAt (l : List Ln) (k : Nat) : Ln := l.getD k ln0
theorem lAt_get {l : List Ln} {k : Nat} (h : k < l.length) : l[k]? = some (lAt l k) := by
  unfold lAt; rw [List.getD_eq_getElem?_getD, List.getElem?_eq_getElem h]; rfl
/-- the text of the first k lines -/
def pbK (l : List Ln) : Nat → ByteArray
  | 0 => ⟨#[]⟩
  | k + 1 => pbK l k ++ lT k (lAt l k)
def pbB (l : List Ln) : Bool := decide (l.length ≤ 200) && l.all lvB
/-- what PrintBill answers -/
def pB (l : List Ln) : ByteArray := if pbB l then pbK l l.length else ⟨#[]⟩
theorem pbK_size {l : List Ln} : ∀ k, k ≤ 200 → (∀ j, j < k → lvB (lAt l j) = true) → (pbK l k).size ≤ 354 * k
  | 0, _, _ => Nat.le_refl _
  | k + 1, hk, h => by
    have := pbK_size k (by omega) (fun j hj => h j (by omega))
    have := lT_size (i := (k : Int)) (x := lAt l k) (by omega) (h k (by omega))
    show (pbK l k ++ lT k (lAt l k)).size ≤ _
    rw [app_size]; omega
theorem pbB_no {l : List Ln} {k : Nat} (hk : k < l.length) (h : lvB (lAt l k) = false) : pbB l = false := by
  cases q : pbB l
  · rfl
  · unfold pbB at q
    rw [Bool.and_eq_true] at q
    have := List.all_eq_true.mp q.2 _ (List.mem_of_getElem? (lAt_get hk))
    rw [this] at h; cases h
theorem pbB_yes {l : List Ln} (hl : l.length ≤ 200) (h : ∀ j, j < l.length → lvB (lAt l j) = true) : pbB l = true := by
  unfold pbB
  rw [Bool.and_eq_true, decide_eq_true_eq]
  refine ⟨hl, List.all_eq_true.mpr fun x hx => ?_⟩
  obtain ⟨i, hi, rfl⟩ := List.mem_iff_getElem.mp hx
  have := h i hi
  have e : lAt l i = l[i] := by unfold lAt; rw [List.getD_eq_getElem?_getD, List.getElem?_eq_getElem hi]; rfl
  rwa [e] at this

set_option maxRecDepth 1000000 in
set_option maxHeartbeats 2000000 in
theorem PrintBill_any (v : Value) (l : List Ln) (w : World) (h : LRow w v l) (ht : TB w) (hl : l.length ≤ maxLen) :
    Calls Tryd.prog 27 #[v] w fun e w' => e = .returned (.string (pB l)) ∧ Below w.heap.size w w' := by
  obtain ⟨a, cap, rfl⟩ := h.form
  unfold maxLen at hl
  by_cases h200 : 200 < l.length
  · have h2 : (200 : Int) < (l.length : Int) := by omega
    have HB : Hid (pB l = ⟨#[]⟩) := by
      show _ = _
      unfold pB pbB
      rw [decide_eq_false (by omega)]; rfl
    clear h ht
    go_enter Tryd.func27, Tryd.ntmps27
    go_wp2_with fail
    go_ret
    exact ⟨by rw [HB.out]; rfl, Below.refl _ _⟩
  have h2 : ¬ (200 : Int) < (l.length : Int) := by omega
  have HV := hideP h
  have HTB := hideP ht
  clear h ht
  go_enter Tryd.func27, Tryd.ntmps27
  go_wp2_with fail
  go_loopw [3, 4] (fun o p wr => ∃ k : Nat, p = .int .i64 k ∧ k ≤ l.length ∧ o = .string (pbK l k) ∧ (∀ j, j < k → lvB (lAt l j) = true) ∧ Below w.heap.size w wr) (fun _ p _ => l.length - (intOf p).toNat)
  case atStart => exact ⟨0, rfl, by omega, rfl, fun j hj => by omega, Below.refl _ _⟩
  case round =>
    obtain ⟨k, rfl, hk, rfl, hall, hb⟩ := hrel
    have HA := hideP hall
    clear hall
    have hsz := hb.size
    by_cases hlt : k < l.length
    · have hlt' : (k : Int) < (l.length : Int) := by omega
      have hk0 : (0 : Int) ≤ (k : Int) := by omega
      have hx := lAt_get hlt
      have HN := hideP (fun h => pbB_no (l := l) hlt h)
      have HS : Hid (∀ (h : lvB (lAt l k) = true), (pbK l k).size + (lT k (lAt l k)).size ≤ 9223372036854775807) := fun h => by
        have a1 := pbK_size (l := l) k (by omega) HA.out
        have a2 := lT_size (i := (k : Int)) (x := lAt l k) (by omega) h
        omega
      have HQ : Hid (lvB (lAt l k) = true → ∀ j, j < k + 1 → lvB (lAt l j) = true) := fun h j hj => by
        rcases Nat.lt_or_ge j k with q | q
        · exact HA.out j q
        · obtain rfl : j = k := by omega
          exact h
      have HE : Hid (pbK l (k + 1) = pbK l k ++ lT k (lAt l k)) := rfl
      obtain ⟨x, hxe⟩ : ∃ x, x = lAt l k := ⟨_, rfl⟩
      rw [← hxe] at hx HN HS HQ HE
      obtain ⟨b, rfl, hcap, hblt, cc⟩ := (HV.out.below hb).at hx
      have hcap' : (l.length : Int) ≤ (cap : Int) := by omega
      have c0 : wr.cell? ⟨b, k * 15, none⟩ = some (.int .i64 x.i0) := cc 0 _ rfl
      have c1 : wr.cell? ⟨b, k * 15 + 1, none⟩ = some (.int .i64 x.i1) := cc 1 _ rfl
      have c2 : wr.cell? ⟨b, k * 15 + 2, none⟩ = some (.int .i64 x.i2) := cc 2 _ rfl
      have c3 : wr.cell? ⟨b, k * 15 + 3, none⟩ = some (.int .i64 x.o) := cc 3 _ rfl
      have c4 : wr.cell? ⟨b, k * 15 + 4, none⟩ = some (.int .i64 x.pk) := cc 4 _ rfl
      have c5 : wr.cell? ⟨b, k * 15 + 5, none⟩ = some (.int .i64 x.bl) := cc 5 _ rfl
      have c6 : wr.cell? ⟨b, k * 15 + 6, none⟩ = some (.int .i64 x.en) := cc 6 _ rfl
      have c7 : wr.cell? ⟨b, k * 15 + 7, none⟩ = some (.int .i64 x.pw) := cc 7 _ rfl
      have c8 : wr.cell? ⟨b, k * 15 + 8, none⟩ = some (.int .i64 x.ap) := cc 8 _ rfl
      have c9 : wr.cell? ⟨b, k * 15 + 9, none⟩ = some (.int .i64 x.ex) := cc 9 _ rfl
      have c10 : wr.cell? ⟨b, k * 15 + 10, none⟩ = some (.int .i64 x.pd) := cc 10 _ rfl
      have c11 : wr.cell? ⟨b, k * 15 + 11, none⟩ = some (.int .i64 x.bk) := cc 11 _ rfl
      have c12 : wr.cell? ⟨b, k * 15 + 12, none⟩ = some (.int .i64 x.su) := cc 12 _ rfl
      have c13 : wr.cell? ⟨b, k * 15 + 13, none⟩ = some (.int .i64 x.tx) := cc 13 _ rfl
      have c14 : wr.cell? ⟨b, k * 15 + 14, none⟩ = some (.int .i64 x.to) := cc 14 _ rfl
      have vl := fun w1 => validLine_any x w1
      have TBr : TB wr := HTB.out.below hb
      clear cc hx hxe
      cases hv : lvB x
      · rw [hv] at vl
        have HF := hideP (HN.out hv)
        clear hv
        go_wp2_with (go_at_call 66; refine (vl _).mono ?_; rintro e w1 ⟨rfl, hb1⟩)
        go_ret
        refine ⟨?_, below_then hb hb1⟩
        unfold pB; rw [HF.out]; rfl
      · rw [hv] at vl
        have lt := fun w1 (h : TB w1) => lineText_any k x w1 h (by omega) hv
        have HF := hideP (HQ.out hv)
        have ad : ∀ w, (Op.stringOp .add (pbK l k) (lT k x)).run Tryd.prog w = .ok (.string (pbK l (k + 1))) w := by rw [HE.out]; exact sadd _ _ (HS.out hv)
        obtain ⟨A, hA⟩ : ∃ A, A = pbK l k := ⟨_, rfl⟩
        rw [← hA] at ad ⊢
        obtain ⟨A', hA'⟩ : ∃ A', A' = pbK l (k + 1) := ⟨_, rfl⟩
        rw [← hA'] at ad
        have HA' := hideP hA'
        obtain ⟨L, hL⟩ : ∃ L, L = lT k x := ⟨_, rfl⟩
        rw [← hL] at ad lt
        clear hA hA' hL hv
        go_wp2_with (first
          | (go_at_call 66; refine (vl _).mono ?_; rintro e w1 ⟨rfl, hb1⟩; have d0 := vcell_below hb1 hblt c0; have d1 := vcell_below hb1 hblt c1; have d2 := vcell_below hb1 hblt c2; have d3 := vcell_below hb1 hblt c3; have d4 := vcell_below hb1 hblt c4; have d5 := vcell_below hb1 hblt c5; have d6 := vcell_below hb1 hblt c6; have d7 := vcell_below hb1 hblt c7; have d8 := vcell_below hb1 hblt c8; have d9 := vcell_below hb1 hblt c9; have d10 := vcell_below hb1 hblt c10; have d11 := vcell_below hb1 hblt c11; have d12 := vcell_below hb1 hblt c12; have d13 := vcell_below hb1 hblt c13; have d14 := vcell_below hb1 hblt c14; have TB1 := TB.below TBr hb1)
          | (go_at_call 67; refine (lt _ TB1).mono ?_; rintro e w2 ⟨rfl, hb2⟩))
        go_roundw
        case rel => exact ⟨k + 1, by go_num, by omega, by rw [HA'.out], HF.out, below_then (below_then hb hb1) hb2⟩
        case measure => simp [intOf]; omega
    · have hlt' : ¬ (k : Int) < (l.length : Int) := by omega
      have hkn : k = l.length := by omega
      subst hkn
      have HF : Hid (pB l = pbK l l.length) := by
        show _ = _
        unfold pB; rw [pbB_yes (by omega) HA.out]; rfl
      obtain ⟨A, hA⟩ : ∃ A, A = pbK l l.length := ⟨_, rfl⟩
      rw [← hA] at HF ⊢
      clear hA
      go_wp2_with fail
      go_ret
      exact ⟨by rw [HF.out]; rfl, hb⟩
end Go.Proofs.YtjaffmmocbplaaaDoor

namespace Go.Proofs.YtjaffmmocbplaaaDoor
open Go.RowKit Bil
set_option linter.unusedVariables false
attribute [local go_sem ↓] Go.wp_at_zero Go.wp_at_succ

theorem infoRL : (Tryd.prog.info? 129).map (fun i => (i.zero, i.size, i.bytes)) = some (some (.agg #[.int .i64 0, .int .i64 0, .int .i64 0, .int .i64 0, .int .i64 0, .int .i64 0, .int .i64 0, .int .i64 0, .int .i64 0, .int .i64 0, .int .i64 0, .int .i64 0, .int .i64 0, .int .i64 0, .int .i64 0]), 15, 120) := by kernel_rfl
theorem RL_cell (w : World) (x : Ln) : ∀ j u, (lcell x)[j]? = some u → (w.alloc (.cells #[.int .i64 x.i0, .int .i64 x.i1, .int .i64 x.i2, .int .i64 x.o, .int .i64 x.pk, .int .i64 x.bl, .int .i64 x.en, .int .i64 x.pw, .int .i64 x.ap, .int .i64 x.ex, .int .i64 x.pd, .int .i64 x.bk, .int .i64 x.su, .int .i64 x.tx, .int .i64 x.to] 129)).cell? ((⟨w.heap.size, 0, none⟩ : Addr).add j) = some u := by
  intro j u hj
  have hadd : (⟨w.heap.size, 0, none⟩ : Addr).add j = ⟨w.heap.size, j, none⟩ := by unfold Addr.add; split <;> simp_all
  rw [hadd, cell_of_row _ _ _ _ _ _ (heap_alloc_new _ _), ← hj]
  simp [lcell]

set_option maxRecDepth 100000 in
set_option maxHeartbeats 1000000 in
theorem line1_any (x : Ln) (w : World) :
    Calls Tryd.prog 65 #[.agg #[.int .i64 x.i0, .int .i64 x.i1, .int .i64 x.i2, .int .i64 x.o, .int .i64 x.pk, .int .i64 x.bl, .int .i64 x.en, .int .i64 x.pw, .int .i64 x.ap, .int .i64 x.ex, .int .i64 x.pd, .int .i64 x.bk, .int .i64 x.su, .int .i64 x.tx, .int .i64 x.to]] w fun e w' => e = .returned (.agg #[.int .i64 x.i0, .int .i64 x.i1, .int .i64 x.i2, .int .i64 x.o, .int .i64 x.pk, .int .i64 x.bl, .int .i64 x.en, .int .i64 x.pw, .int .i64 x.ap, .int .i64 x.ex, .int .i64 x.pd, .int .i64 x.bk, .int .i64 x.su, .int .i64 x.tx, .int .i64 x.to]) ∧ Below w.heap.size w w' := by
  go_enter Tryd.func65, Tryd.ntmps65
  go_wp2_with fail
  refine bodyPost_ret (v := .agg #[.int .i64 x.i0, .int .i64 x.i1, .int .i64 x.i2, .int .i64 x.o, .int .i64 x.pk, .int .i64 x.bl, .int .i64 x.en, .int .i64 x.pw, .int .i64 x.ap, .int .i64 x.ex, .int .i64 x.pd, .int .i64 x.bk, .int .i64 x.su, .int .i64 x.tx, .int .i64 x.to]) (by simp [results, Tryd.results65, go_sem]) rfl ⟨rfl, ?_⟩
  exact below_more (below_more (Below.refl _ _) _) _

set_option maxRecDepth 100000 in
set_option maxHeartbeats 2000000 in
theorem lines_any (v : Value) (l : List Ln) (w : World) (h : LRow w v l) (hl : l.length ≤ 100000) :
    Calls Tryd.prog 26 #[v] w fun e w' => ∃ v', e = .returned v' ∧ w'.ownsRow w.heap.size 129 15 v' l.length (lcs l) ∧ Below w.heap.size w w' := by
  obtain ⟨i0, hi, hz0, hz1, hz2⟩ := info_parts infoRL
  obtain ⟨a, cap, rfl⟩ := h.form
  have HV := hideF h
  clear h
  go_enter Tryd.func26, Tryd.ntmps26
  go_wp2_with fail
  go_loopw [3, 4] (fun f p wr => ∃ k : Nat, p = .int .i64 k ∧ k ≤ l.length ∧ wr.ownsRow w.heap.size 129 15 f k (lcs (l.take k)) ∧ Below w.heap.size w wr) (fun _ p _ => l.length - (intOf p).toNat)
  case atStart => exact ⟨0, rfl, by omega, World.ownsRow_nil _ _ _ _, Below.refl _ _⟩
  case round =>
    obtain ⟨k, rfl, hk, hown, hb⟩ := hrel
    obtain ⟨a0, cap0, rfl⟩ := own_slice hown
    have hsz := hb.size
    by_cases hlt : k < l.length
    · have hlt' : (k : Int) < (l.length : Int) := by omega
      have hk0 : (0 : Int) ≤ (k : Int) := by omega
      obtain ⟨x, hx⟩ : ∃ x, l[k]? = some x := ⟨l[k], List.getElem?_eq_getElem hlt⟩
      obtain ⟨b, rfl, hcap, hblt, cc⟩ := (HV.out.below hb).at hx
      have hcap' : (l.length : Int) ≤ (cap : Int) := by omega
      have HT : Hid (l.take (k + 1) = l.take k ++ [x]) := take_snoc hx
      have c0 : wr.cell? ⟨b, k * 15, none⟩ = some (.int .i64 x.i0) := cc 0 _ rfl
      have c1 : wr.cell? ⟨b, k * 15 + 1, none⟩ = some (.int .i64 x.i1) := cc 1 _ rfl
      have c2 : wr.cell? ⟨b, k * 15 + 2, none⟩ = some (.int .i64 x.i2) := cc 2 _ rfl
      have c3 : wr.cell? ⟨b, k * 15 + 3, none⟩ = some (.int .i64 x.o) := cc 3 _ rfl
      have c4 : wr.cell? ⟨b, k * 15 + 4, none⟩ = some (.int .i64 x.pk) := cc 4 _ rfl
      have c5 : wr.cell? ⟨b, k * 15 + 5, none⟩ = some (.int .i64 x.bl) := cc 5 _ rfl
      have c6 : wr.cell? ⟨b, k * 15 + 6, none⟩ = some (.int .i64 x.en) := cc 6 _ rfl
      have c7 : wr.cell? ⟨b, k * 15 + 7, none⟩ = some (.int .i64 x.pw) := cc 7 _ rfl
      have c8 : wr.cell? ⟨b, k * 15 + 8, none⟩ = some (.int .i64 x.ap) := cc 8 _ rfl
      have c9 : wr.cell? ⟨b, k * 15 + 9, none⟩ = some (.int .i64 x.ex) := cc 9 _ rfl
      have c10 : wr.cell? ⟨b, k * 15 + 10, none⟩ = some (.int .i64 x.pd) := cc 10 _ rfl
      have c11 : wr.cell? ⟨b, k * 15 + 11, none⟩ = some (.int .i64 x.bk) := cc 11 _ rfl
      have c12 : wr.cell? ⟨b, k * 15 + 12, none⟩ = some (.int .i64 x.su) := cc 12 _ rfl
      have c13 : wr.cell? ⟨b, k * 15 + 13, none⟩ = some (.int .i64 x.tx) := cc 13 _ rfl
      have c14 : wr.cell? ⟨b, k * 15 + 14, none⟩ = some (.int .i64 x.to) := cc 14 _ rfl
      have hoN : ∀ j, (Value.ownBlock (.slice a0 k cap0)) = some j → w.heap.size ≤ j := fun j hj => (hown.lt j hj).1
      clear cc hx
      go_wp2_with (first
        | (go_at_call 65; refine (line1_any x _).mono ?_; rintro e w2 ⟨rfl, hb2⟩; have own2 := own_below hown hb2; have B2 := below_then hb hb2; have hs2 := hb2.size)
        | (at_builtin; have _ := B2; refine wpList_append_own _ rfl _ _ 82 rfl w.heap.size 129 i0 (.agg #[.int .i64 0, .int .i64 0, .int .i64 0, .int .i64 0, .int .i64 0, .int .i64 0, .int .i64 0, .int .i64 0, .int .i64 0, .int .i64 0, .int .i64 0, .int .i64 0, .int .i64 0, .int .i64 0, .int .i64 0]) 15 120 Tryd.underlying82 hi hz0 hz1 hz2 rfl (by decide) _ _ _ rfl (own2.alloc _) ⟨w2.heap.size, 0, none⟩ 1 1 (lcell x) rfl rfl (RL_cell _ x) (fun y hy => by simp [lcell] at hy; rcases hy with rfl | rfl | rfl | rfl | rfl | rfl | rfl | rfl | rfl | rfl | rfl | rfl | rfl | rfl | rfl <;> rfl) (by unfold maxLen; omega) (by omega) (by simp; omega) ?_; intro v' w6 own6 g6 nil6; obtain ⟨a6, cap6, rfl⟩ := own_slice own6))
      go_roundw
      case rel => exact ⟨k + 1, by go_num, by omega, by rw [HT.out, lcs_snoc]; exact own6, Below.grown (below_more B2 _) g6 (by simp; omega) (fun j hj => hoN j hj)⟩
      case measure => simp [intOf]; omega
    · have hlt' : ¬ (k : Int) < (l.length : Int) := by omega
      have HKE : Hid (k = l.length) := (by omega : k = l.length)
      have HK : Hid (l.take k = l) := List.take_of_length_le (by omega)
      go_wp2_with fail
      refine bodyPost_ret (v := .slice a0 k cap0) (by simp [results, Tryd.results26, go_sem]) rfl ⟨_, rfl, ?_, hb⟩
      rw [HK.out] at hown
      rw [← HKE.out]; exact hown

end Go.Proofs.YtjaffmmocbplaaaDoor

namespace Go.Proofs.YtjaffmmocbplaaaDoor
open Go.RowKit Bil
set_option linter.unusedVariables false
attribute [local go_sem ↓] Go.wp_at_zero Go.wp_at_succ

set_option maxRecDepth 100000 in
set_option maxHeartbeats 1000000 in
theorem Numbers_any (x : Ln) (w : World) :
    Calls Tryd.prog 68 #[.agg #[.int .i64 x.i0, .int .i64 x.i1, .int .i64 x.i2, .int .i64 x.o, .int .i64 x.pk, .int .i64 x.bl, .int .i64 x.en, .int .i64 x.pw, .int .i64 x.ap, .int .i64 x.ex, .int .i64 x.pd, .int .i64 x.bk, .int .i64 x.su, .int .i64 x.tx, .int .i64 x.to]] w fun e w' => ∃ g, e = .returned (.slice (some ⟨g, 0, none⟩) 15 15) ∧ w.heap.size ≤ g ∧ w'.heap[g]? = some (.cells #[.int .i64 x.i0, .int .i64 x.i1, .int .i64 x.i2, .int .i64 x.o, .int .i64 x.pk, .int .i64 x.bl, .int .i64 x.en, .int .i64 x.pw, .int .i64 x.ap, .int .i64 x.ex, .int .i64 x.pd, .int .i64 x.bk, .int .i64 x.su, .int .i64 x.tx, .int .i64 x.to] 3 (0, 0)) ∧ Below w.heap.size w w' := by
  go_enter Tryd.func68, Tryd.ntmps68
  go_wp2_with fail
  refine bodyPost_ret (v := .slice (some ⟨w.heap.size + 1, 0, none⟩) 15 15) (by simp [results, Tryd.results68, go_sem]) rfl ⟨_, rfl, by omega, heap_alloc2_new _ _ _, below_more (below_more (Below.refl _ _) _) _⟩

def lnN (x : Ln) (j : Nat) : Int := [x.i0, x.i1, x.i2, x.o, x.pk, x.bl, x.en, x.pw, x.ap, x.ex, x.pd, x.bk, x.su, x.tx, x.to].getD j 0
theorem lnN_at (x : Ln) (j : Nat) (hj : j < 15) : (#[.int .i64 x.i0, .int .i64 x.i1, .int .i64 x.i2, .int .i64 x.o, .int .i64 x.pk, .int .i64 x.bl, .int .i64 x.en, .int .i64 x.pw, .int .i64 x.ap, .int .i64 x.ex, .int .i64 x.pd, .int .i64 x.bk, .int .i64 x.su, .int .i64 x.tx, .int .i64 x.to] : Array Value)[j]? = some (.int .i64 (lnN x j)) := by
  match j, hj with
  | 0, _ => rfl
  | 1, _ => rfl
  | 2, _ => rfl
  | 3, _ => rfl
  | 4, _ => rfl
  | 5, _ => rfl
  | 6, _ => rfl
  | 7, _ => rfl
  | 8, _ => rfl
  | 9, _ => rfl
  | 10, _ => rfl
  | 11, _ => rfl
  | 12, _ => rfl
  | 13, _ => rfl
  | 14, _ => rfl

set_option maxRecDepth 100000 in
set_option maxHeartbeats 2000000 in
theorem sameLines_any (v v' : Value) (l : List Ln) (w : World) (h : LRow w v l) (h' : LRow w v' l) (hl : l.length ≤ 100000) :
    Calls Tryd.prog 28 #[v, v'] w fun e w' => e = .returned (.bool true) ∧ Below w.heap.size w w' := by
  obtain ⟨a, cap, rfl⟩ := h.form
  obtain ⟨a', cap', rfl⟩ := h'.form
  have HA := hideF h
  have HB := hideF h'
  clear h h'
  go_enter Tryd.func28, Tryd.ntmps28
  go_wp2_with fail
  go_loopw [5] (fun p wr => ∃ k : Nat, p = .int .i64 k ∧ k ≤ l.length ∧ Below w.heap.size w wr) (fun p _ => l.length - (intOf p).toNat)
  case atStart => exact ⟨0, rfl, by omega, Below.refl _ _⟩
  case round =>
    obtain ⟨k, rfl, hk, hb⟩ := hrel
    have hsz := hb.size
    by_cases hlt : k < l.length
    · have hlt' : (k : Int) < (l.length : Int) := by omega
      have hk0 : (0 : Int) ≤ (k : Int) := by omega
      obtain ⟨x, hx⟩ : ∃ x, l[k]? = some x := ⟨l[k], List.getElem?_eq_getElem hlt⟩
      obtain ⟨b, rfl, hcap, hblt, cc⟩ := (HA.out.below hb).at hx
      obtain ⟨b', rfl, hcap2, hblt', dc⟩ := (HB.out.below hb).at hx
      have hcap' : (l.length : Int) ≤ (cap : Int) := by omega
      have hcap2' : (l.length : Int) ≤ (cap' : Int) := by omega
      have c0 : wr.cell? ⟨b, k * 15, none⟩ = some (.int .i64 x.i0) := cc 0 _ rfl
      have c1 : wr.cell? ⟨b, k * 15 + 1, none⟩ = some (.int .i64 x.i1) := cc 1 _ rfl
      have c2 : wr.cell? ⟨b, k * 15 + 2, none⟩ = some (.int .i64 x.i2) := cc 2 _ rfl
      have c3 : wr.cell? ⟨b, k * 15 + 3, none⟩ = some (.int .i64 x.o) := cc 3 _ rfl
      have c4 : wr.cell? ⟨b, k * 15 + 4, none⟩ = some (.int .i64 x.pk) := cc 4 _ rfl
      have c5 : wr.cell? ⟨b, k * 15 + 5, none⟩ = some (.int .i64 x.bl) := cc 5 _ rfl
      have c6 : wr.cell? ⟨b, k * 15 + 6, none⟩ = some (.int .i64 x.en) := cc 6 _ rfl
      have c7 : wr.cell? ⟨b, k * 15 + 7, none⟩ = some (.int .i64 x.pw) := cc 7 _ rfl
      have c8 : wr.cell? ⟨b, k * 15 + 8, none⟩ = some (.int .i64 x.ap) := cc 8 _ rfl
      have c9 : wr.cell? ⟨b, k * 15 + 9, none⟩ = some (.int .i64 x.ex) := cc 9 _ rfl
      have c10 : wr.cell? ⟨b, k * 15 + 10, none⟩ = some (.int .i64 x.pd) := cc 10 _ rfl
      have c11 : wr.cell? ⟨b, k * 15 + 11, none⟩ = some (.int .i64 x.bk) := cc 11 _ rfl
      have c12 : wr.cell? ⟨b, k * 15 + 12, none⟩ = some (.int .i64 x.su) := cc 12 _ rfl
      have c13 : wr.cell? ⟨b, k * 15 + 13, none⟩ = some (.int .i64 x.tx) := cc 13 _ rfl
      have c14 : wr.cell? ⟨b, k * 15 + 14, none⟩ = some (.int .i64 x.to) := cc 14 _ rfl
      have hdc := hideF dc
      clear cc dc hx
      go_wp2_with (first
        | (go_at_call 68; have _ := hb2; refine (Numbers_any x _).mono ?_; rintro e w3 ⟨g2, rfl, hg2, R2, hb3⟩)
        | (go_at_call 68; refine (Numbers_any x _).mono ?_; rintro e w2 ⟨g1, rfl, hg1, R1, hb2⟩; have e0 : w2.cell? ⟨b', k * 15, none⟩ = some (.int .i64 x.i0) := vcell_below hb2 hblt' (hdc.out 0 _ rfl); have e1 : w2.cell? ⟨b', k * 15 + 1, none⟩ = some (.int .i64 x.i1) := vcell_below hb2 hblt' (hdc.out 1 _ rfl); have e2 : w2.cell? ⟨b', k * 15 + 2, none⟩ = some (.int .i64 x.i2) := vcell_below hb2 hblt' (hdc.out 2 _ rfl); have e3 : w2.cell? ⟨b', k * 15 + 3, none⟩ = some (.int .i64 x.o) := vcell_below hb2 hblt' (hdc.out 3 _ rfl); have e4 : w2.cell? ⟨b', k * 15 + 4, none⟩ = some (.int .i64 x.pk) := vcell_below hb2 hblt' (hdc.out 4 _ rfl); have e5 : w2.cell? ⟨b', k * 15 + 5, none⟩ = some (.int .i64 x.bl) := vcell_below hb2 hblt' (hdc.out 5 _ rfl); have e6 : w2.cell? ⟨b', k * 15 + 6, none⟩ = some (.int .i64 x.en) := vcell_below hb2 hblt' (hdc.out 6 _ rfl); have e7 : w2.cell? ⟨b', k * 15 + 7, none⟩ = some (.int .i64 x.pw) := vcell_below hb2 hblt' (hdc.out 7 _ rfl); have e8 : w2.cell? ⟨b', k * 15 + 8, none⟩ = some (.int .i64 x.ap) := vcell_below hb2 hblt' (hdc.out 8 _ rfl); have e9 : w2.cell? ⟨b', k * 15 + 9, none⟩ = some (.int .i64 x.ex) := vcell_below hb2 hblt' (hdc.out 9 _ rfl); have e10 : w2.cell? ⟨b', k * 15 + 10, none⟩ = some (.int .i64 x.pd) := vcell_below hb2 hblt' (hdc.out 10 _ rfl); have e11 : w2.cell? ⟨b', k * 15 + 11, none⟩ = some (.int .i64 x.bk) := vcell_below hb2 hblt' (hdc.out 11 _ rfl); have e12 : w2.cell? ⟨b', k * 15 + 12, none⟩ = some (.int .i64 x.su) := vcell_below hb2 hblt' (hdc.out 12 _ rfl); have e13 : w2.cell? ⟨b', k * 15 + 13, none⟩ = some (.int .i64 x.tx) := vcell_below hb2 hblt' (hdc.out 13 _ rfl); have e14 : w2.cell? ⟨b', k * 15 + 14, none⟩ = some (.int .i64 x.to) := vcell_below hb2 hblt' (hdc.out 14 _ rfl)))
      have hg1l : g1 < w2.heap.size := (Array.getElem?_eq_some_iff.1 R1).1
      have hg2l : g2 < w3.heap.size := (Array.getElem?_eq_some_iff.1 R2).1
      have R1' : w3.heap[g1]? = some (.cells #[.int .i64 x.i0, .int .i64 x.i1, .int .i64 x.i2, .int .i64 x.o, .int .i64 x.pk, .int .i64 x.bl, .int .i64 x.en, .int .i64 x.pw, .int .i64 x.ap, .int .i64 x.ex, .int .i64 x.pd, .int .i64 x.bk, .int .i64 x.su, .int .i64 x.tx, .int .i64 x.to] 3 (0, 0)) := (hb3.block g1 hg1l).trans R1
      have H1 := hideF R1'
      have H2 := hideF R2
      have B3 := below_then hb (below_then hb2 hb3)
      have hs3 := hb3.size
      clear R1 R2 R1' hb2 hb3 c0 e0 c1 e1 c2 e2 c3 e3 c4 e4 c5 e5 c6 e6 c7 e7 c8 e8 c9 e9 c10 e10 c11 e11 c12 e12 c13 e13 c14 e14
      go_loopw [8] (fun p wi => ∃ j : Nat, p = .int .i64 j ∧ j ≤ 15 ∧ Below w3.heap.size w3 wi) (fun p _ => 15 - (intOf p).toNat)
      case atStart => exact ⟨0, rfl, by omega, Below.refl _ _⟩
      case round =>
        obtain ⟨j, rfl, hj, hbi⟩ := hrel
        by_cases hjl : j < 15
        · have hjl' : (j : Int) < 15 := by omega
          have hj0 : (0 : Int) ≤ (j : Int) := by omega
          have p1 : wr.cell? ⟨g1, j, none⟩ = some (.int .i64 (lnN x j)) := vcell_below hbi (by omega) ((cell_of_row _ _ _ _ _ _ H1.out).trans (lnN_at x j hjl))
          have p2 : wr.cell? ⟨g2, j, none⟩ = some (.int .i64 (lnN x j)) := vcell_below hbi hg2l ((cell_of_row _ _ _ _ _ _ H2.out).trans (lnN_at x j hjl))
          go_wp2_with fail
          go_quiet (fail)
          go_wp2_with fail
          go_roundw
          case rel => exact ⟨j + 1, by go_num, by omega, by first | exact below_drewN hbi _ | exact Below.drew hbi⟩
          case measure => simp [intOf]; omega
        · have hjl' : ¬ (j : Int) < 15 := by omega
          go_wp2_with fail
          go_roundw
          case rel => exact ⟨k + 1, by go_num, by omega, below_then B3 hbi⟩
          case measure => simp [intOf]; omega
    · have hlt' : ¬ (k : Int) < (l.length : Int) := by omega
      go_wp2_with fail
      go_ret
      exact ⟨rfl, hb⟩

end Go.Proofs.YtjaffmmocbplaaaDoor

namespace Go.Proofs.YtjaffmmocbplaaaDoor
open Go.RowKit Go.Shelf
set_option linter.unusedVariables false
attribute [local go_sem ↓] Go.wp_at_zero Go.wp_at_succ
/-- the text of a meter file, up to value k -/
def mK (step start : Int) (l : List Txt.Val) : Nat → ByteArray
  | 0 => ⟨#[72]⟩ ++ fS step ++ fS start ++ ⟨#[10]⟩
  | k + 1 => mK step start l k ++ vS (Fil.vAt l k)
def mS (step start : Int) (l : List Txt.Val) : ByteArray := mK step start l l.length ++ ⟨#[84]⟩ ++ fS l.length ++ fS (sumL l) ++ ⟨#[10]⟩
theorem mK_size {step start : Int} {l : List Txt.Val} (n_0 : nB step) (n_1 : nB start) (hv : ∀ k, nB (Fil.vAt l k).i ∧ nB (Fil.vAt l k).o) : ∀ k, (mK step start l k).size ≤ 46 + 44 * k
  | 0 => by
    have := n_0.f; have := n_1.f
    show (⟨#[72]⟩ ++ fS step ++ fS start ++ ⟨#[10]⟩ : ByteArray).size ≤ _
    rw [app_size, app_size, app_size]; show 1 + _ + _ + 1 ≤ _; omega
  | k + 1 => by
    have := mK_size n_0 n_1 hv k
    have := vS_size (hv k).1 (hv k).2
    show (mK step start l k ++ vS (Fil.vAt l k)).size ≤ _
    rw [app_size]; omega
theorem val_nB {l : List Txt.Val} (h : l.all valB = true) (k : Nat) : nB (Fil.vAt l k).i ∧ nB (Fil.vAt l k).o := by
  by_cases hk : k < l.length
  · have := valB_bd (List.all_eq_true.mp h _ (List.mem_of_getElem? (Fil.get_ex hk)))
    unfold nB; omega
  · unfold Fil.vAt; rw [List.getElem?_eq_none (by omega)]; unfold nB; simp
theorem meter_nB {step start : Int} {l : List Txt.Val} (h : meterB step start l = true) : nB step ∧ nB start ∧ l.all valB = true ∧ 1 ≤ l.length ∧ l.length ≤ 200 := by
  unfold meterB at h
  simp only [Bool.and_eq_true, Bool.or_eq_true, decide_eq_true_eq, inB_iff] at h
  obtain ⟨⟨⟨⟨h1, h2⟩, h3⟩, _⟩, h5⟩ := h
  have hs : step = 15 ∨ step = 30 ∨ step = 60 := by omega
  refine ⟨by unfold nB; omega, ?_, h5, by omega, by omega⟩
  unfold nB
  rcases hs with rfl | rfl | rfl <;> omega
theorem sum_nB (l : List Txt.Val) : nB (sumL l) := by have := sumL_bd l; unfold nB; omega

set_option maxRecDepth 1000000 in
set_option maxHeartbeats 2000000 in
theorem PrintMeter_any (step start : Int) (v : Value) (l : List Txt.Val) (w : World) (h : VRow w v l) (ht : TB w) :
    Calls Tryd.prog 7 #[.agg #[.int .i64 step, .int .i64 start, v]] w fun e w' => e = .returned (.string (if meterB step start l then mS step start l else ByteArray.empty)) ∧ Below w.heap.size w w' := by
  have vm := fun W (hb : Below w.heap.size w W) => validMeter_any step start v l W (h.below hb)
  obtain ⟨a, cap, rfl⟩ := h.form
  cases hm : meterB step start l
  case false =>
    rw [hm] at vm
    rw [if_neg (by simp)]
    clear hm
    go_enter Tryd.func7, Tryd.ntmps7
    go_wp2_with (go_at_call 30; refine (vm _ (below_more (Below.refl _ _) _)).mono ?_; rintro e w1 ⟨rfl, hb1⟩)
    go_ret
    exact ⟨rfl, below_then (below_more (Below.refl _ _) _) hb1⟩
  case true =>
  rw [hm] at vm
  rw [if_pos rfl]
  obtain ⟨n_0, n_1, hall, len1, len2⟩ := meter_nB hm
  have n_2 : nB (l.length : Int) := by unfold nB; omega
  have n_3 := sum_nB l
  have NV := hideP (val_nB hall)
  have MKS := hideP (mK_size n_0 n_1 NV.out)
  have cs : ∀ W', ∀ B0 : Below w.heap.size w W', Calls Tryd.prog 33 #[.slice a l.length cap] W' fun e w' => e = .returned (.int .i64 (sumL l)) ∧ Below W'.heap.size W' w' := fun W' B0 => (checkSum_any _ l W' (h.below B0) hall (by omega)).mono fun e w' ⟨he, n, hw⟩ => ⟨he, by rw [hw]; exact below_drewN (Below.refl _ _) n⟩
  have HH := hideP h
  clear hm hall h
  go_enter Tryd.func7, Tryd.ntmps7
  go_upto_region 3 with (go_at_call 30; refine (vm _ (below_more (Below.refl _ _) _)).mono ?_; rintro e W1 ⟨rfl, hW1⟩)
  have R1 : W1.heap[w.heap.size]? = some (.cells #[.int .i64 step, .int .i64 start, .slice a l.length cap] 24) := (hW1.block _ (by simp)).trans (heap_alloc_new _ _)
  have BB : Below w.heap.size w W1 := below_then (below_more (Below.refl _ _) _) hW1
  have hz1 : w.heap.size < W1.heap.size := (Array.getElem?_eq_some_iff.1 R1).1
  have BD : Below W1.heap.size W1 W1.drew := Below.drew (Below.refl _ _)
  have TD : TB W1.drew := (ht.below BB).below BD
  clear hW1 vm
  obtain ⟨Z1, hZ1⟩ : ∃ Z, Z = (⟨#[72]⟩ : ByteArray) ++ (fS step) := ⟨_, rfl⟩
  have sZ1 : Z1.size ≤ 23 := by have q1 := (show (⟨#[72]⟩ : ByteArray).size ≤ 1 from Nat.le_refl _); have q2 := (show (fS step).size ≤ 22 from n_0.f); rw [hZ1, app_size]; omega
  have aZ1 : ∀ w, (Op.stringOp .add (⟨#[72]⟩ : ByteArray) (fS step)).run Tryd.prog w = .ok (.string Z1) w := by have q1 := (show (⟨#[72]⟩ : ByteArray).size ≤ 1 from Nat.le_refl _); have q2 := (show (fS step).size ≤ 22 from n_0.f); rw [hZ1]; exact sadd _ _ (by omega)
  have HZ1 := hideP hZ1
  clear hZ1
  obtain ⟨Z2, hZ2⟩ : ∃ Z, Z = Z1 ++ (fS start) := ⟨_, rfl⟩
  have sZ2 : Z2.size ≤ 45 := by have q1 := (show Z1.size ≤ 23 from sZ1); have q2 := (show (fS start).size ≤ 22 from n_1.f); rw [hZ2, app_size]; omega
  have aZ2 : ∀ w, (Op.stringOp .add Z1 (fS start)).run Tryd.prog w = .ok (.string Z2) w := by have q1 := (show Z1.size ≤ 23 from sZ1); have q2 := (show (fS start).size ≤ 22 from n_1.f); rw [hZ2]; exact sadd _ _ (by omega)
  have HZ2 := hideP hZ2
  clear hZ2
  obtain ⟨Z3, hZ3⟩ : ∃ Z, Z = Z2 ++ (⟨#[10]⟩ : ByteArray) := ⟨_, rfl⟩
  have sZ3 : Z3.size ≤ 46 := by have q1 := (show Z2.size ≤ 45 from sZ2); have q2 := (show (⟨#[10]⟩ : ByteArray).size ≤ 1 from Nat.le_refl _); rw [hZ3, app_size]; omega
  have aZ3 : ∀ w, (Op.stringOp .add Z2 (⟨#[10]⟩ : ByteArray)).run Tryd.prog w = .ok (.string Z3) w := by have q1 := (show Z2.size ≤ 45 from sZ2); have q2 := (show (⟨#[10]⟩ : ByteArray).size ≤ 1 from Nat.le_refl _); rw [hZ3]; exact sadd _ _ (by omega)
  have HZ3 := hideP hZ3
  clear hZ3
  refine wp_region_held_drew (S := (fun w' => w'.heap[w.heap.size]? = some (.cells #[.int .i64 step, .int .i64 start, .slice a l.length cap] 24 (0, 0)))) (by kernel_rfl) R1 (fun hH0 => ?_)
  refine wpAnyH_take (i := 0) (oi := { dst := some 8, op := Go.Op.fieldAddr 24 (Go.Operand.tmp 1) 0, type := 0, pos := "reads.go:37", after := #[], guard := none }) (v := .pointer (some ⟨w.heap.size, 0, none⟩)) rfl (by kernel_rfl) (by kernel_rfl) (by kernel_rfl) (fun _ _ _ h => h) (Or.inl ⟨by rfl, ?_⟩) (by assumption) ?_
  · intro w9 hSw
    go_simp
  try simp only [Act.put, List.setIfInBounds_toArray, List.set_cons_zero, List.set_cons_succ]
  refine wpAnyH_take (i := 1) (oi := { dst := some 9, op := Go.Op.load 3 (Go.Operand.tmp 8), type := 3, pos := "reads.go:37", after := #[{ on := 0, ground := Go.Ground.data }], guard := none }) (v := .int .i64 step) rfl (by kernel_rfl) (by kernel_rfl) (by kernel_rfl) (fun _ _ _ h => h) (Or.inl ⟨by rfl, ?_⟩) (by assumption) ?_
  · intro w9 hSw
    have q0 : w9.cell? ⟨w.heap.size, 0, none⟩ = some (.int .i64 step) := cell_of_row _ _ _ _ _ _ hSw; go_simp
  try simp only [Act.put, List.setIfInBounds_toArray, List.set_cons_zero, List.set_cons_succ]
  refine wpAnyH_take (i := 4) (oi := { dst := some 12, op := Go.Op.fieldAddr 24 (Go.Operand.tmp 1) 1, type := 0, pos := "reads.go:37", after := #[], guard := none }) (v := .pointer (some ⟨w.heap.size, 1, none⟩)) rfl (by kernel_rfl) (by kernel_rfl) (by kernel_rfl) (fun _ _ _ h => h) (Or.inl ⟨by rfl, ?_⟩) (by assumption) ?_
  · intro w9 hSw
    go_simp
  try simp only [Act.put, List.setIfInBounds_toArray, List.set_cons_zero, List.set_cons_succ]
  refine wpAnyH_take (i := 5) (oi := { dst := some 13, op := Go.Op.load 3 (Go.Operand.tmp 12), type := 3, pos := "reads.go:37", after := #[{ on := 4, ground := Go.Ground.data }], guard := none }) (v := .int .i64 start) rfl (by kernel_rfl) (by kernel_rfl) (by kernel_rfl) (fun _ _ _ h => h) (Or.inl ⟨by rfl, ?_⟩) (by assumption) ?_
  · intro w9 hSw
    have q1 : w9.cell? ⟨w.heap.size, 1, none⟩ = some (.int .i64 start) := cell_of_row _ _ _ _ _ _ hSw; go_simp
  try simp only [Act.put, List.setIfInBounds_toArray, List.set_cons_zero, List.set_cons_succ]
  refine wpAnyH_ready (rs := [2]) (by kernel_rfl) (by simp) ?_
  refine AllReadyH.cons (o := { dst := some 10, op := Go.Op.call { callee := Go.Callee.value (Go.Operand.func 31), args := #[Go.Operand.tmp 9], argTypes := #[3] }, type := 9, pos := "reads.go:37", after := #[{ on := 1, ground := Go.Ground.data }], guard := none }) rfl (fun K hK => ?_) AllReadyH.nil
  go_simp
  refine (n_0.ft _ TD).mono ?_
  rintro e wk1 ⟨rfl, hwk1⟩
  have Bwk1 := below_then BD hwk1
  have Twk1 := TD.below hwk1
  go_wp2_with fail
  refine hK.out _ _ ((Bwk1.block _ hz1).trans R1) (fun hHwk1 => ?_)
  clear hK K
  try simp only [Act.put, List.setIfInBounds_toArray, List.set_cons_zero, List.set_cons_succ]
  refine wpAnyH_take (i := 3) (oi := { dst := some 11, op := Go.Op.binOp Go.BinOp.add 9 (Go.Operand.const (Go.Value.string { data := #[72] })) (Go.Operand.tmp 10) 9, type := 9, pos := "reads.go:37", after := #[{ on := 2, ground := Go.Ground.data }], guard := none }) (v := .string Z1) rfl (by kernel_rfl) (by kernel_rfl) (by kernel_rfl) (fun _ _ _ h => h) (Or.inl ⟨by rfl, ?_⟩) (by assumption) ?_
  · intro w9 hSw
    go_simp
  try simp only [Act.put, List.setIfInBounds_toArray, List.set_cons_zero, List.set_cons_succ]
  refine wpAnyH_ready (rs := [6]) (by kernel_rfl) (by simp) ?_
  refine AllReadyH.cons (o := { dst := some 14, op := Go.Op.call { callee := Go.Callee.value (Go.Operand.func 31), args := #[Go.Operand.tmp 13], argTypes := #[3] }, type := 9, pos := "reads.go:37", after := #[{ on := 5, ground := Go.Ground.data }, { on := 2, ground := Go.Ground.chain }], guard := none }) rfl (fun K hK => ?_) AllReadyH.nil
  go_simp
  refine (n_1.ft _ Twk1).mono ?_
  rintro e wk2 ⟨rfl, hwk2⟩
  have Bwk2 := below_then Bwk1 hwk2
  have Twk2 := Twk1.below hwk2
  go_wp2_with fail
  refine hK.out _ _ ((Bwk2.block _ hz1).trans R1) (fun hHwk2 => ?_)
  clear hK K
  try simp only [Act.put, List.setIfInBounds_toArray, List.set_cons_zero, List.set_cons_succ]
  refine wpAnyH_take (i := 7) (oi := { dst := some 15, op := Go.Op.binOp Go.BinOp.add 9 (Go.Operand.tmp 11) (Go.Operand.tmp 14) 9, type := 9, pos := "reads.go:37", after := #[{ on := 3, ground := Go.Ground.data }, { on := 6, ground := Go.Ground.data }], guard := none }) (v := .string Z2) rfl (by kernel_rfl) (by kernel_rfl) (by kernel_rfl) (fun _ _ _ h => h) (Or.inl ⟨by rfl, ?_⟩) (by assumption) ?_
  · intro w9 hSw
    go_simp
  try simp only [Act.put, List.setIfInBounds_toArray, List.set_cons_zero, List.set_cons_succ]
  refine wpAnyH_take (i := 8) (oi := { dst := some 16, op := Go.Op.binOp Go.BinOp.add 9 (Go.Operand.tmp 15) (Go.Operand.const (Go.Value.string { data := #[10] })) 9, type := 9, pos := "reads.go:37", after := #[{ on := 7, ground := Go.Ground.data }], guard := none }) (v := .string Z3) rfl (by kernel_rfl) (by kernel_rfl) (by kernel_rfl) (fun _ _ _ h => h) (Or.inl ⟨by rfl, ?_⟩) (by assumption) ?_
  · intro w9 hSw
    go_simp
  try simp only [Act.put, List.setIfInBounds_toArray, List.set_cons_zero, List.set_cons_succ]
  refine wpAnyH_take (i := 9) (oi := { dst := some 3, op := Go.Op.assign (Go.Operand.tmp 16), type := 9, pos := "reads.go:37", after := #[{ on := 8, ground := Go.Ground.data }, { on := 6, ground := Go.Ground.chain }, { on := 0, ground := Go.Ground.phase }, { on := 1, ground := Go.Ground.phase }, { on := 2, ground := Go.Ground.phase }, { on := 3, ground := Go.Ground.phase }, { on := 4, ground := Go.Ground.phase }, { on := 5, ground := Go.Ground.phase }, { on := 6, ground := Go.Ground.phase }, { on := 7, ground := Go.Ground.phase }, { on := 8, ground := Go.Ground.phase }], guard := none }) (v := .string Z3) rfl (by kernel_rfl) (by kernel_rfl) (by kernel_rfl) (fun _ _ _ h => h) (Or.inl ⟨by rfl, ?_⟩) (by assumption) ?_
  · intro w9 hSw
    go_simp
  try simp only [Act.put, List.setIfInBounds_toArray, List.set_cons_zero, List.set_cons_succ]
  refine wpAnyH_done (by kernel_rfl) ?_ _
  have HZ0 : Hid (Z3 = mK step start l 0) := by show _ = _; show _ = ⟨#[72]⟩ ++ fS step ++ fS start ++ ⟨#[10]⟩; rw [HZ3.out, HZ2.out, HZ1.out]
  have BL := below_then BB Bwk2
  obtain ⟨W2, hW2⟩ : ∃ W2, W2 = wk2 := ⟨_, rfl⟩
  have BW2 : Below w.heap.size w W2 := by rw [hW2]; exact BL
  have R2 : W2.heap[w.heap.size]? = some (.cells #[.int .i64 step, .int .i64 start, .slice a l.length cap] 24) := by rw [hW2]; exact ((Bwk2).block _ hz1).trans R1
  have hz2 : w.heap.size < W2.heap.size := (Array.getElem?_eq_some_iff.1 R2).1
  have TW2 : TB W2 := ht.below BW2
  rw [← hW2]
  rw [HZ0.out]
  go_wp2_with fail
  go_loopw [3, 4] (fun s p wi => ∃ k : Nat, p = .int .i64 k ∧ k ≤ l.length ∧ s = .string (mK step start l k) ∧ Below W2.heap.size W2 wi) (fun _ p _ => l.length - (intOf p).toNat)
  case atStart => exact ⟨0, rfl, by omega, rfl, Below.refl _ _⟩
  case round =>
    obtain ⟨k, rfl, hk, rfl, hb⟩ := hrel
    have RR : wr.heap[w.heap.size]? = some (.cells #[.int .i64 step, .int .i64 start, .slice a l.length cap] 24) := (hb.block _ hz2).trans R2
    have m2 : wr.cell? ⟨w.heap.size, 2, none⟩ = some (.slice a l.length cap) := cell_of_row _ _ _ _ _ _ RR
    have hzr : w.heap.size < wr.heap.size := (Array.getElem?_eq_some_iff.1 RR).1
    have TR := TW2.below hb
    have BR := below_then BW2 hb
    by_cases hlt : k < l.length
    · have hlt' : (k : Int) < (l.length : Int) := by omega
      have hk0 : (0 : Int) ≤ (k : Int) := by omega
      obtain ⟨b, off, eb, hcap, hblt, c0, c1, c2⟩ := (HH.out.below BR).at (Fil.get_ex hlt)
      subst eb
      have hcap' : (l.length : Int) ≤ (cap : Int) := by omega
      have vt := fun W (hT : TB W) => valueText_any (Fil.vAt l k) W hT (NV.out k).1 (NV.out k).2
      have sv := vS_size (NV.out k).1 (NV.out k).2
      have sk := MKS.out k
      have HS : Hid (mK step start l (k + 1) = mK step start l k ++ vS (Fil.vAt l k)) := rfl
      obtain ⟨x, hx⟩ : ∃ x, x = Fil.vAt l k := ⟨_, rfl⟩
      rw [← hx] at c0 c1 c2 vt sv HS
      obtain ⟨X, hX⟩ : ∃ X, X = mK step start l k := ⟨_, rfl⟩
      rw [← hX] at sk HS
      rw [← hX]
      have ad : ∀ w, (Op.stringOp .add X (vS x)).run Tryd.prog w = .ok (.string (X ++ vS x)) w := sadd _ _ (by omega)
      clear hx hX
      go_wp2_with (go_at_call 32; refine (vt _ TR).mono ?_; rintro e w8 ⟨rfl, hb8⟩)
      go_roundw
      case rel => exact ⟨k + 1, by go_num, by omega, by rw [HS.out], below_then hb hb8⟩
      case measure => simp [intOf]; omega
    · have hlt' : ¬ (k : Int) < (l.length : Int) := by omega
      have hke : k = l.length := by omega
      have sX0 := MKS.out k
      obtain ⟨X, hX⟩ : ∃ X, X = mK step start l k := ⟨_, rfl⟩
      rw [← hX] at sX0
      rw [← hX]
      have sX : X.size ≤ 8846 := by omega
      have HX : Hid (X = mK step start l l.length) := by show _ = _; rw [hX, hke]
      have BE : Below wr.heap.size wr wr.drew := Below.drew (Below.refl _ _)
      have TE : TB wr.drew := TR.below BE
      have cs2 := fun W' (B0 : Below wr.heap.size wr W') => cs W' (below_then BR B0)
      clear hX hke hlt hk
      go_wp2_with fail
      obtain ⟨Y1, hY1⟩ : ∃ Z, Z = X ++ (⟨#[84]⟩ : ByteArray) := ⟨_, rfl⟩
      have sY1 : Y1.size ≤ 8847 := by have q1 := (show X.size ≤ 8846 from sX); have q2 := (show (⟨#[84]⟩ : ByteArray).size ≤ 1 from Nat.le_refl _); rw [hY1, app_size]; omega
      have aY1 : ∀ w, (Op.stringOp .add X (⟨#[84]⟩ : ByteArray)).run Tryd.prog w = .ok (.string Y1) w := by have q1 := (show X.size ≤ 8846 from sX); have q2 := (show (⟨#[84]⟩ : ByteArray).size ≤ 1 from Nat.le_refl _); rw [hY1]; exact sadd _ _ (by omega)
      have HY1 := hideP hY1
      clear hY1
      obtain ⟨Y2, hY2⟩ : ∃ Z, Z = Y1 ++ (fS (l.length : Int)) := ⟨_, rfl⟩
      have sY2 : Y2.size ≤ 8869 := by have q1 := (show Y1.size ≤ 8847 from sY1); have q2 := (show (fS (l.length : Int)).size ≤ 22 from n_2.f); rw [hY2, app_size]; omega
      have aY2 : ∀ w, (Op.stringOp .add Y1 (fS (l.length : Int))).run Tryd.prog w = .ok (.string Y2) w := by have q1 := (show Y1.size ≤ 8847 from sY1); have q2 := (show (fS (l.length : Int)).size ≤ 22 from n_2.f); rw [hY2]; exact sadd _ _ (by omega)
      have HY2 := hideP hY2
      clear hY2
      obtain ⟨Y3, hY3⟩ : ∃ Z, Z = Y2 ++ (fS (sumL l)) := ⟨_, rfl⟩
      have sY3 : Y3.size ≤ 8891 := by have q1 := (show Y2.size ≤ 8869 from sY2); have q2 := (show (fS (sumL l)).size ≤ 22 from n_3.f); rw [hY3, app_size]; omega
      have aY3 : ∀ w, (Op.stringOp .add Y2 (fS (sumL l))).run Tryd.prog w = .ok (.string Y3) w := by have q1 := (show Y2.size ≤ 8869 from sY2); have q2 := (show (fS (sumL l)).size ≤ 22 from n_3.f); rw [hY3]; exact sadd _ _ (by omega)
      have HY3 := hideP hY3
      clear hY3
      obtain ⟨Y4, hY4⟩ : ∃ Z, Z = Y3 ++ (⟨#[10]⟩ : ByteArray) := ⟨_, rfl⟩
      have sY4 : Y4.size ≤ 8892 := by have q1 := (show Y3.size ≤ 8891 from sY3); have q2 := (show (⟨#[10]⟩ : ByteArray).size ≤ 1 from Nat.le_refl _); rw [hY4, app_size]; omega
      have aY4 : ∀ w, (Op.stringOp .add Y3 (⟨#[10]⟩ : ByteArray)).run Tryd.prog w = .ok (.string Y4) w := by have q1 := (show Y3.size ≤ 8891 from sY3); have q2 := (show (⟨#[10]⟩ : ByteArray).size ≤ 1 from Nat.le_refl _); rw [hY4]; exact sadd _ _ (by omega)
      have HY4 := hideP hY4
      clear hY4
      refine wp_region_held_drew (S := (fun w' => w'.heap[w.heap.size]? = some (.cells #[.int .i64 step, .int .i64 start, .slice a l.length cap] 24 (0, 0)))) (by kernel_rfl) RR (fun hH0 => ?_)
      refine wpAnyH_take (i := 0) (oi := { dst := some 32, op := Go.Op.move (Go.Operand.tmp 3), type := 9, pos := "reads.go:41", after := #[], guard := none }) (v := .string X) rfl (by kernel_rfl) (by kernel_rfl) (by kernel_rfl) (fun _ _ _ h => h) (Or.inl ⟨by rfl, ?_⟩) (by assumption) ?_
      · intro w9 hSw
        go_simp
      try simp only [Act.put, List.setIfInBounds_toArray, List.set_cons_zero, List.set_cons_succ]
      refine wpAnyH_take (i := 1) (oi := { dst := some 33, op := Go.Op.binOp Go.BinOp.add 9 (Go.Operand.tmp 32) (Go.Operand.const (Go.Value.string { data := #[84] })) 9, type := 9, pos := "reads.go:41", after := #[{ on := 0, ground := Go.Ground.data }], guard := none }) (v := .string Y1) rfl (by kernel_rfl) (by kernel_rfl) (by kernel_rfl) (fun _ _ _ h => h) (Or.inl ⟨by rfl, ?_⟩) (by assumption) ?_
      · intro w9 hSw
        go_simp
      try simp only [Act.put, List.setIfInBounds_toArray, List.set_cons_zero, List.set_cons_succ]
      refine wpAnyH_take (i := 2) (oi := { dst := some 34, op := Go.Op.fieldAddr 24 (Go.Operand.tmp 1) 2, type := 0, pos := "reads.go:41", after := #[], guard := none }) (v := .pointer (some ⟨w.heap.size, 2, none⟩)) rfl (by kernel_rfl) (by kernel_rfl) (by kernel_rfl) (fun _ _ _ h => h) (Or.inl ⟨by rfl, ?_⟩) (by assumption) ?_
      · intro w9 hSw
        go_simp
      try simp only [Act.put, List.setIfInBounds_toArray, List.set_cons_zero, List.set_cons_succ]
      refine wpAnyH_take (i := 3) (oi := { dst := some 35, op := Go.Op.load 22 (Go.Operand.tmp 34), type := 22, pos := "reads.go:41", after := #[{ on := 2, ground := Go.Ground.data }], guard := none }) (v := .slice a l.length cap) rfl (by kernel_rfl) (by kernel_rfl) (by kernel_rfl) (fun _ _ _ h => h) (Or.inl ⟨by rfl, ?_⟩) (by assumption) ?_
      · intro w9 hSw
        have q2 : w9.cell? ⟨w.heap.size, 2, none⟩ = some (.slice a l.length cap) := cell_of_row _ _ _ _ _ _ hSw; go_simp
      try simp only [Act.put, List.setIfInBounds_toArray, List.set_cons_zero, List.set_cons_succ]
      refine wpAnyH_take (i := 4) (oi := { dst := some 36, op := Go.Op.call { callee := Go.Callee.builtin Go.Builtin.len, args := #[Go.Operand.tmp 35], argTypes := #[22] }, type := 3, pos := "reads.go:41", after := #[{ on := 3, ground := Go.Ground.data }], guard := none }) (v := .int .i64 (l.length : Int)) rfl (by kernel_rfl) (by kernel_rfl) (by kernel_rfl) (fun _ _ _ h => h) (Or.inl ⟨by rfl, ?_⟩) (by assumption) ?_
      · intro w9 hSw
        go_simp
      try simp only [Act.put, List.setIfInBounds_toArray, List.set_cons_zero, List.set_cons_succ]
      refine wpAnyH_take (i := 7) (oi := { dst := some 39, op := Go.Op.fieldAddr 24 (Go.Operand.tmp 1) 2, type := 0, pos := "reads.go:41", after := #[], guard := none }) (v := .pointer (some ⟨w.heap.size, 2, none⟩)) rfl (by kernel_rfl) (by kernel_rfl) (by kernel_rfl) (fun _ _ _ h => h) (Or.inl ⟨by rfl, ?_⟩) (by assumption) ?_
      · intro w9 hSw
        go_simp
      try simp only [Act.put, List.setIfInBounds_toArray, List.set_cons_zero, List.set_cons_succ]
      refine wpAnyH_take (i := 8) (oi := { dst := some 40, op := Go.Op.load 22 (Go.Operand.tmp 39), type := 22, pos := "reads.go:41", after := #[{ on := 7, ground := Go.Ground.data }], guard := none }) (v := .slice a l.length cap) rfl (by kernel_rfl) (by kernel_rfl) (by kernel_rfl) (fun _ _ _ h => h) (Or.inl ⟨by rfl, ?_⟩) (by assumption) ?_
      · intro w9 hSw
        have q2 : w9.cell? ⟨w.heap.size, 2, none⟩ = some (.slice a l.length cap) := cell_of_row _ _ _ _ _ _ hSw; go_simp
      try simp only [Act.put, List.setIfInBounds_toArray, List.set_cons_zero, List.set_cons_succ]
      refine wpAnyH_ready (rs := [5]) (by kernel_rfl) (by simp) ?_
      refine AllReadyH.cons (o := { dst := some 37, op := Go.Op.call { callee := Go.Callee.value (Go.Operand.func 31), args := #[Go.Operand.tmp 36], argTypes := #[3] }, type := 9, pos := "reads.go:41", after := #[{ on := 4, ground := Go.Ground.data }], guard := none }) rfl (fun K hK => ?_) AllReadyH.nil
      go_simp
      refine (n_2.ft _ TE).mono ?_
      rintro e wj1 ⟨rfl, hwj1⟩
      have Bwj1 := below_then BE hwj1
      have Twj1 := TE.below hwj1
      go_wp2_with fail
      refine hK.out _ _ ((Bwj1.block _ hzr).trans RR) (fun hHwj1 => ?_)
      clear hK K
      try simp only [Act.put, List.setIfInBounds_toArray, List.set_cons_zero, List.set_cons_succ]
      refine wpAnyH_take (i := 6) (oi := { dst := some 38, op := Go.Op.binOp Go.BinOp.add 9 (Go.Operand.tmp 33) (Go.Operand.tmp 37) 9, type := 9, pos := "reads.go:41", after := #[{ on := 1, ground := Go.Ground.data }, { on := 5, ground := Go.Ground.data }], guard := none }) (v := .string Y2) rfl (by kernel_rfl) (by kernel_rfl) (by kernel_rfl) (fun _ _ _ h => h) (Or.inl ⟨by rfl, ?_⟩) (by assumption) ?_
      · intro w9 hSw
        go_simp
      try simp only [Act.put, List.setIfInBounds_toArray, List.set_cons_zero, List.set_cons_succ]
      refine wpAnyH_ready (rs := [9]) (by kernel_rfl) (by simp) ?_
      refine AllReadyH.cons (o := { dst := some 41, op := Go.Op.call { callee := Go.Callee.value (Go.Operand.func 33), args := #[Go.Operand.tmp 40], argTypes := #[22] }, type := 3, pos := "reads.go:41", after := #[{ on := 8, ground := Go.Ground.data }, { on := 5, ground := Go.Ground.chain }], guard := none }) rfl (fun K hK => ?_) AllReadyH.nil
      go_simp
      refine (cs2 _ Bwj1 ).mono ?_
      rintro e wj2 ⟨rfl, hwj2⟩
      have Bwj2 := below_then Bwj1 hwj2
      have Twj2 := Twj1.below hwj2
      go_wp2_with fail
      refine hK.out _ _ ((Bwj2.block _ hzr).trans RR) (fun hHwj2 => ?_)
      clear hK K
      try simp only [Act.put, List.setIfInBounds_toArray, List.set_cons_zero, List.set_cons_succ]
      refine wpAnyH_ready (rs := [10]) (by kernel_rfl) (by simp) ?_
      refine AllReadyH.cons (o := { dst := some 42, op := Go.Op.call { callee := Go.Callee.value (Go.Operand.func 31), args := #[Go.Operand.tmp 41], argTypes := #[3] }, type := 9, pos := "reads.go:41", after := #[{ on := 9, ground := Go.Ground.data }, { on := 9, ground := Go.Ground.chain }], guard := none }) rfl (fun K hK => ?_) AllReadyH.nil
      go_simp
      refine (n_3.ft _ Twj2).mono ?_
      rintro e wj3 ⟨rfl, hwj3⟩
      have Bwj3 := below_then Bwj2 hwj3
      have Twj3 := Twj2.below hwj3
      go_wp2_with fail
      refine hK.out _ _ ((Bwj3.block _ hzr).trans RR) (fun hHwj3 => ?_)
      clear hK K
      try simp only [Act.put, List.setIfInBounds_toArray, List.set_cons_zero, List.set_cons_succ]
      refine wpAnyH_take (i := 11) (oi := { dst := some 43, op := Go.Op.binOp Go.BinOp.add 9 (Go.Operand.tmp 38) (Go.Operand.tmp 42) 9, type := 9, pos := "reads.go:41", after := #[{ on := 6, ground := Go.Ground.data }, { on := 10, ground := Go.Ground.data }], guard := none }) (v := .string Y3) rfl (by kernel_rfl) (by kernel_rfl) (by kernel_rfl) (fun _ _ _ h => h) (Or.inl ⟨by rfl, ?_⟩) (by assumption) ?_
      · intro w9 hSw
        go_simp
      try simp only [Act.put, List.setIfInBounds_toArray, List.set_cons_zero, List.set_cons_succ]
      refine wpAnyH_take (i := 12) (oi := { dst := some 44, op := Go.Op.binOp Go.BinOp.add 9 (Go.Operand.tmp 43) (Go.Operand.const (Go.Value.string { data := #[10] })) 9, type := 9, pos := "reads.go:41", after := #[{ on := 11, ground := Go.Ground.data }], guard := none }) (v := .string Y4) rfl (by kernel_rfl) (by kernel_rfl) (by kernel_rfl) (fun _ _ _ h => h) (Or.inl ⟨by rfl, ?_⟩) (by assumption) ?_
      · intro w9 hSw
        go_simp
      try simp only [Act.put, List.setIfInBounds_toArray, List.set_cons_zero, List.set_cons_succ]
      refine wpAnyH_take (i := 13) (oi := { dst := some 2, op := Go.Op.assign (Go.Operand.tmp 44), type := 9, pos := "reads.go:41", after := #[{ on := 12, ground := Go.Ground.data }, { on := 10, ground := Go.Ground.chain }, { on := 0, ground := Go.Ground.phase }, { on := 1, ground := Go.Ground.phase }, { on := 2, ground := Go.Ground.phase }, { on := 3, ground := Go.Ground.phase }, { on := 4, ground := Go.Ground.phase }, { on := 5, ground := Go.Ground.phase }, { on := 6, ground := Go.Ground.phase }, { on := 7, ground := Go.Ground.phase }, { on := 8, ground := Go.Ground.phase }, { on := 9, ground := Go.Ground.phase }, { on := 10, ground := Go.Ground.phase }, { on := 11, ground := Go.Ground.phase }, { on := 12, ground := Go.Ground.phase }], guard := none }) (v := .string Y4) rfl (by kernel_rfl) (by kernel_rfl) (by kernel_rfl) (fun _ _ _ h => h) (Or.inl ⟨by rfl, ?_⟩) (by assumption) ?_
      · intro w9 hSw
        go_simp
      try simp only [Act.put, List.setIfInBounds_toArray, List.set_cons_zero, List.set_cons_succ]
      refine wpAnyH_done (by kernel_rfl) ?_ _
      go_wp2_with fail
      go_ret
      exact ⟨ret_str (by unfold mS; rw [HY4.out, HY3.out, HY2.out, HY1.out, HX.out]), below_then BR Bwj3⟩
end Go.Proofs.YtjaffmmocbplaaaDoor

namespace Go.Proofs.YtjaffmmocbplaaaDoor
open Go.RowKit
set_option linter.unusedVariables false

set_option maxRecDepth 1000000 in
set_option maxHeartbeats 1000000 in
theorem copied_any (v : Value) (l : List Txt.Val) (w : World) (h : VRow w v l) (hl : l.length * 24 ≤ 140737488351232) :
    Calls Tryd.prog 21 #[v] w fun e w' => ∃ v', e = .returned v' ∧ w'.ownsRow w.heap.size 88 3 v' l.length (vcs l) ∧ Below w.heap.size w w' := by
  obtain ⟨i0, hi, hz0, hz1, hz2⟩ := info_parts infoV
  obtain ⟨a, cap, rfl⟩ := h.form
  go_enter Tryd.func21, Tryd.ntmps21
  go_wp2_with fail
  go_loopw [3, 4] (fun o i wr => ∃ k : Nat, i = .int .i64 k ∧ k ≤ l.length ∧ wr.ownsRow w.heap.size 88 3 o k (vcs (l.take k)) ∧ Below w.heap.size w wr) (fun _ i _ => l.length - (intOf i).toNat)
  case atStart => exact ⟨0, rfl, by omega, World.ownsRow_nil _ _ _ _, Below.refl _ _⟩
  case round =>
    obtain ⟨k, rfl, hk, hown, hbw⟩ := hrel
    by_cases hlt : k < l.length
    · have hlt' : (k : Int) < (l.length : Int) := by omega
      have hk0 : (0 : Int) ≤ (k : Int) := by omega
      obtain ⟨x, hx⟩ : ∃ x, l[k]? = some x := ⟨l[k], List.getElem?_eq_getElem hlt⟩
      obtain ⟨b, off, rfl, hcap, hblt, c0, c1, c2⟩ := h.at hx
      have hcap' : (l.length : Int) ≤ (cap : Int) := by omega
      have k0 := vcell_below hbw hblt c0
      have k1 := vcell_below hbw hblt c1
      have k2 := vcell_below hbw hblt c2
      have hsz := hbw.size
      have hbr : b < wr.heap.size := by omega
      have HT : Hid (vcs (l.take (k + 1)) = vcs (l.take k) ++ vcell x) := by show _ = _; rw [List.take_add_one, hx]; exact vcs_snoc _ _
      have hoN : ∀ j, (Value.ownBlock _) = some j → w.heap.size ≤ j := fun j hj => (hown.lt j hj).1
      have hkm : k + 1 ≤ maxLen := by unfold maxLen; omega
      obtain ⟨xi, xo, xm⟩ := x
      clear hx h c0 c1 c2
      go_wp2_with (at_builtin; refine wpList_append_own _ rfl _ _ 22 rfl w.heap.size 88 i0 (.agg #[.int .i64 0, .int .i64 0, .bool false]) 3 24 Tryd.underlying22 hi hz0 hz1 hz2 rfl (by decide) _ _ _ rfl (hown.alloc _) ⟨wr.heap.size, 0, none⟩ 1 1 (vcell ⟨xi, xo, xm⟩) rfl rfl (by have := cell_three_new wr (.int .i64 xi) (.int .i64 xo) (.bool xm) 88; simpa [vcell] using this) (fun x hx => by simp [vcell] at hx; rcases hx with rfl | rfl | rfl <;> rfl) (by omega) (by omega) (by simp; omega) ?_; intro v' w4 own4 g4 nil4; obtain ⟨a4, cap4, rfl⟩ := own_slice own4)
      go_roundw
      case rel => exact ⟨k + 1, by go_num, by omega, by rw [HT.out]; exact own4, Below.grown (below_more hbw _) g4 (by simp; omega) hoN⟩
      case measure => simp [intOf]; omega
    · have hlt' : ¬ (k : Int) < (l.length : Int) := by omega
      have hkn : k = l.length := by omega
      subst hkn
      rw [List.take_of_length_le (by omega)] at hown
      go_wp2_with fail
      go_ret
      exact ⟨_, rfl, hown, hbw⟩
end Go.Proofs.YtjaffmmocbplaaaDoor

namespace Go.Proofs.YtjaffmmocbplaaaDoor
open Go.RowKit Go.Shelf Bil
set_option linter.unusedVariables false
attribute [local go_sem ↓] Go.wp_at_zero Go.wp_at_succ
namespace ownLaw
theorem blL_len (t : Trf) (step start : Int) (l : List Txt.Val) : (blL t step start l).length ≤ 36556 := by
  unfold blL
  split
  · rename_i hz; rw [lnR_len]; exact (bok hz).n.2
  · exact Nat.zero_le _
theorem Bill_both (t : Trf) (step start : Int) (v : Value) (l : List Txt.Val) (w : World) (h : VRow w v l) (s0 : t.h0.size ≤ maxLen) (s1 : t.h1.size ≤ maxLen) (s2 : t.h2.size ≤ maxLen) (s3 : t.h3.size ≤ maxLen) :
    Calls Tryd.prog 25 #[.agg #[.int .i64 step, .int .i64 start, v], .agg #[.int .i64 t.z.off, .int .i64 t.z.f.m, .int .i64 t.z.f.w, .int .i64 t.z.f.d, .int .i64 t.z.f.h, .int .i64 t.z.t.m, .int .i64 t.z.t.w, .int .i64 t.z.t.d, .int .i64 t.z.t.h, .int .i64 t.days, .int .i64 t.gap, .int .i64 t.first, .int .i64 t.last, .string t.h0, .string t.h1, .string t.h2, .string t.h3, .int .i64 t.b0.x, .int .i64 t.b0.y, .int .i64 t.b0.z, .int .i64 t.b1.x, .int .i64 t.b1.y, .int .i64 t.b1.z, .int .i64 t.b2.x, .int .i64 t.b2.y, .int .i64 t.b2.z, .int .i64 t.d.x, .int .i64 t.d.y, .int .i64 t.d.z, .int .i64 t.np, .int .i64 t.nn, .int .i64 t.fix, .int .i64 t.min, .int .i64 t.tax]] w fun e w' => ∃ v' E A, e = .returned (.tuple #[v', .int .i64 E, .int .i64 A]) ∧ LRow w' v' (blL t step start l) ∧ Below w.heap.size w w' := by
  by_cases hz : spE t step start l = 0
  · refine (Bill_yes t step start v l w h s0 s1 s2 s3 hz).mono ?_
    rintro e w' ⟨v', he, own, hb⟩
    refine ⟨v', _, _, he, ?_, hb⟩
    unfold blL; rw [if_pos hz]
    exact LRow.of_own own (lnR_len t _ _)
  · refine (Bill_no t step start v l w h s0 s1 s2 s3 hz).mono ?_
    rintro e w' ⟨he, hb⟩
    refine ⟨_, _, _, he, ?_, hb⟩
    unfold blL; rw [if_neg hz]
    exact ⟨none, 0, rfl, .inl rfl⟩
theorem fL_valB (step start gap : Int) (l : List Txt.Val) : (fL step start gap l).all valB = true := by
  unfold fL; split
  · rename_i hok
    split
    · rename_i hr
      refine fl_valB ?_ hr
      exact (meterB_fit (by unfold fOk at hok; simp at hok; exact hok.1)).2.2
    · rfl
  · rfl
theorem below_app {w w1 w2 : World} {row : Option Nat} {B : Nat} (h : Below B w w1) (hg : w1.grownBy w2 row) (hB : B ≤ w1.heap.size) (hr : ∀ k, row = some k → B ≤ k) : Below B w w2 := Below.grown h hg hB hr
theorem own_lt {w : World} {base : Nat} {e : TypeId} {size : Nat} {v : Value} {n : Nat} {xs : List Value} (h : w.ownsRow base e size v n xs) (j : Nat) (hj : v.ownBlock = some j) : base ≤ j ∧ j < w.heap.size := h.lt j hj
/-- two rows of which one was made before the other -/
theorem own_ne {w w' : World} {base base' : Nat} {e e' : TypeId} {s s' : Nat} {v v' : Value} {n n' : Nat} {xs xs' : List Value} (h : w.ownsRow base e s v n xs) (h' : w'.ownsRow base' e' s' v' n' xs') (hb : w.heap.size ≤ base') : (v.ownBlock = none ∨ v.ownBlock ≠ v'.ownBlock) ∧ (v'.ownBlock = none ∨ v'.ownBlock ≠ v.ownBlock) := by
  have key : v.ownBlock = none ∨ v.ownBlock ≠ v'.ownBlock := by
    cases q : v.ownBlock with
    | none => exact .inl rfl
    | some j =>
      right
      intro e
      have a := (h.lt j q).2
      have b := (h'.lt j e.symm).1
      omega
  refine ⟨key, ?_⟩
  rcases key with k | k
  · cases q : v'.ownBlock with
    | none => exact .inl rfl
    | some j => right; rw [k]; intro e; cases e
  · exact .inr (fun e => k e.symm)

theorem vcs_i {l : List Txt.Val} {i : Nat} (h : i < l.length) : (vcs l)[i * 3]? = some (.int .i64 (Fil.vAt l i).i) := by
  induction l generalizing i with
  | nil => simp at h
  | cons x l ih =>
    show (vcell x ++ vcs l)[i * 3]? = _
    cases i with
    | zero => rw [List.getElem?_append_left (by simp [vcell])]; rfl
    | succ i =>
      have h' : i < l.length := by simpa using h
      rw [List.getElem?_append_right (by simp [vcell]; omega)]
      have e : (i + 1) * 3 - (vcell x).length = i * 3 := by simp [vcell]; omega
      rw [e, ih h']
      rfl

set_option maxRecDepth 1000000 in
set_option maxHeartbeats 4000000 in
theorem walk (t : Trf) (step start gap : Int) (v : Value) (l : List Txt.Val) (w : World) (h : VRow w v l) (ht : TB w) (hreach : l.length * 24 ≤ 140737488351232) (s0 : t.h0.size ≤ maxLen) (s1 : t.h1.size ≤ maxLen) (s2 : t.h2.size ≤ maxLen) (s3 : t.h3.size ≤ maxLen) :
    Calls Tryd.prog 6 #[.agg #[.int .i64 step, .int .i64 start, v], .agg #[.int .i64 t.z.off, .int .i64 t.z.f.m, .int .i64 t.z.f.w, .int .i64 t.z.f.d, .int .i64 t.z.f.h, .int .i64 t.z.t.m, .int .i64 t.z.t.w, .int .i64 t.z.t.d, .int .i64 t.z.t.h, .int .i64 t.days, .int .i64 t.gap, .int .i64 t.first, .int .i64 t.last, .string t.h0, .string t.h1, .string t.h2, .string t.h3, .int .i64 t.b0.x, .int .i64 t.b0.y, .int .i64 t.b0.z, .int .i64 t.b1.x, .int .i64 t.b1.y, .int .i64 t.b1.z, .int .i64 t.b2.x, .int .i64 t.b2.y, .int .i64 t.b2.z, .int .i64 t.d.x, .int .i64 t.d.y, .int .i64 t.d.z, .int .i64 t.np, .int .i64 t.nn, .int .i64 t.fix, .int .i64 t.min, .int .i64 t.tax], .int .i64 gap] w fun e w' => e = .returned (.bool true) ∧ Below w.heap.size w w' := by
  obtain ⟨i0, hi, hz0, hz1, hz2⟩ := info_parts infoV
  have hLn := (fL_len step start gap l).2
  have hLv := fL_valB step start gap l
  have hbl := blL_len t step start l
  have cp := fun w1 (hb : Below w.heap.size w w1) => copied_any v l w1 (h.below hb) hreach
  have vm := fun w1 (hb : Below w.heap.size w w1) => values_any v l w1 (h.below hb) hreach
  have vl := fun w1 v' (V : VRow w1 v' l) => values_any v' l w1 V hreach
  have sl := fun w1 v' v'' (V : VRow w1 v' l) (V' : VRow w1 v'' l) => sameValues_any v' v'' l w1 V V' hreach
  have fl := fun w1 (hb : Below w.heap.size w w1) => Fill_any step start gap v l w1 (h.below hb)
  have rd := fun w1 (hb : Below w.heap.size w w1) => reads_any step start v l w1 (h.below hb) hreach
  have rf := fun w1 v' (V : VRow w1 v' l) => refFill_any step start gap v' l w1 V
  have pm := fun w1 (hb : Below w.heap.size w w1) => PrintMeter_any step start v l w1 (h.below hb) (ht.below hb)
  have sp := fun w1 (hb : Below w.heap.size w w1) => Split_any t step start v l w1 (h.below hb) s0 s1 s2 s3
  have bb := fun w1 (hb : Below w.heap.size w w1) => Bill_both t step start v l w1 (h.below hb) s0 s1 s2 s3
  obtain ⟨X, hX⟩ : ∃ X, X = (if meterB step start l then mS step start l else ByteArray.empty) := ⟨_, rfl⟩
  rw [← hX] at pm
  obtain ⟨L, hL⟩ : ∃ L, L = fL step start gap l := ⟨_, rfl⟩
  obtain ⟨E, hE⟩ : ∃ E, E = fE step start gap l := ⟨_, rfl⟩
  obtain ⟨A, hA⟩ : ∃ A, A = fA step start gap l := ⟨_, rfl⟩
  rw [← hL, ← hE, ← hA] at fl rf
  rw [← hL] at hLn hLv
  obtain ⟨ps, hps⟩ : ∃ ps, ps = spL t step start l := ⟨_, rfl⟩
  obtain ⟨sE, hsE⟩ : ∃ sE, sE = spE t step start l := ⟨_, rfl⟩
  obtain ⟨sA, hsA⟩ : ∃ sA, sA = spA t step start l := ⟨_, rfl⟩
  rw [← hps, ← hsE, ← hsA] at sp
  obtain ⟨bl, hbe⟩ : ∃ bl, bl = blL t step start l := ⟨_, rfl⟩
  rw [← hbe] at bb hbl
  have vL := fun w1 v' (V : VRow w1 v' L) => values_any v' L w1 V (by omega)
  have sL := fun w1 v' v'' (V : VRow w1 v' L) (V' : VRow w1 v'' L) => sameValues_any v' v'' L w1 V V' (by omega)
  have ln := fun w1 v' (V : LRow w1 v' bl) => lines_any v' bl w1 V (by omega)
  have pb := fun w1 v' (V : LRow w1 v' bl) (hT : TB w1) => PrintBill_any v' bl w1 V hT (by unfold maxLen; omega)
  have sn := fun w1 v' v'' (V : LRow w1 v' bl) (V' : LRow w1 v'' bl) => sameLines_any v' v'' bl w1 V V' (by omega)
  obtain ⟨Y, hY⟩ : ∃ Y, Y = pB bl := ⟨_, rfl⟩
  rw [← hY] at pb
  obtain ⟨a, cap, rfl⟩ := h.form
  have B0 : Below w.heap.size w ((w.alloc (.cells #[.int .i64 step, .int .i64 start, .slice a l.length cap] 24)).alloc (.cells #[.int .i64 t.z.off, .int .i64 t.z.f.m, .int .i64 t.z.f.w, .int .i64 t.z.f.d, .int .i64 t.z.f.h, .int .i64 t.z.t.m, .int .i64 t.z.t.w, .int .i64 t.z.t.d, .int .i64 t.z.t.h, .int .i64 t.days, .int .i64 t.gap, .int .i64 t.first, .int .i64 t.last, .string t.h0, .string t.h1, .string t.h2, .string t.h3, .int .i64 t.b0.x, .int .i64 t.b0.y, .int .i64 t.b0.z, .int .i64 t.b1.x, .int .i64 t.b1.y, .int .i64 t.b1.z, .int .i64 t.b2.x, .int .i64 t.b2.y, .int .i64 t.b2.z, .int .i64 t.d.x, .int .i64 t.d.y, .int .i64 t.d.z, .int .i64 t.np, .int .i64 t.nn, .int .i64 t.fix, .int .i64 t.min, .int .i64 t.tax] 38)) := below_more (below_more (Below.refl _ _) _) _
  have MT : ((w.alloc (.cells #[.int .i64 step, .int .i64 start, .slice a l.length cap] 24)).alloc (.cells #[.int .i64 t.z.off, .int .i64 t.z.f.m, .int .i64 t.z.f.w, .int .i64 t.z.f.d, .int .i64 t.z.f.h, .int .i64 t.z.t.m, .int .i64 t.z.t.w, .int .i64 t.z.t.d, .int .i64 t.z.t.h, .int .i64 t.days, .int .i64 t.gap, .int .i64 t.first, .int .i64 t.last, .string t.h0, .string t.h1, .string t.h2, .string t.h3, .int .i64 t.b0.x, .int .i64 t.b0.y, .int .i64 t.b0.z, .int .i64 t.b1.x, .int .i64 t.b1.y, .int .i64 t.b1.z, .int .i64 t.b2.x, .int .i64 t.b2.y, .int .i64 t.b2.z, .int .i64 t.d.x, .int .i64 t.d.y, .int .i64 t.d.z, .int .i64 t.np, .int .i64 t.nn, .int .i64 t.fix, .int .i64 t.min, .int .i64 t.tax] 38)).heap[w.heap.size + 1]? = some (.cells #[.int .i64 t.z.off, .int .i64 t.z.f.m, .int .i64 t.z.f.w, .int .i64 t.z.f.d, .int .i64 t.z.f.h, .int .i64 t.z.t.m, .int .i64 t.z.t.w, .int .i64 t.z.t.d, .int .i64 t.z.t.h, .int .i64 t.days, .int .i64 t.gap, .int .i64 t.first, .int .i64 t.last, .string t.h0, .string t.h1, .string t.h2, .string t.h3, .int .i64 t.b0.x, .int .i64 t.b0.y, .int .i64 t.b0.z, .int .i64 t.b1.x, .int .i64 t.b1.y, .int .i64 t.b1.z, .int .i64 t.b2.x, .int .i64 t.b2.y, .int .i64 t.b2.z, .int .i64 t.d.x, .int .i64 t.d.y, .int .i64 t.d.z, .int .i64 t.np, .int .i64 t.nn, .int .i64 t.fix, .int .i64 t.min, .int .i64 t.tax] 38) := heap_alloc2_new _ _ _
  have MM : ((w.alloc (.cells #[.int .i64 step, .int .i64 start, .slice a l.length cap] 24)).alloc (.cells #[.int .i64 t.z.off, .int .i64 t.z.f.m, .int .i64 t.z.f.w, .int .i64 t.z.f.d, .int .i64 t.z.f.h, .int .i64 t.z.t.m, .int .i64 t.z.t.w, .int .i64 t.z.t.d, .int .i64 t.z.t.h, .int .i64 t.days, .int .i64 t.gap, .int .i64 t.first, .int .i64 t.last, .string t.h0, .string t.h1, .string t.h2, .string t.h3, .int .i64 t.b0.x, .int .i64 t.b0.y, .int .i64 t.b0.z, .int .i64 t.b1.x, .int .i64 t.b1.y, .int .i64 t.b1.z, .int .i64 t.b2.x, .int .i64 t.b2.y, .int .i64 t.b2.z, .int .i64 t.d.x, .int .i64 t.d.y, .int .i64 t.d.z, .int .i64 t.np, .int .i64 t.nn, .int .i64 t.fix, .int .i64 t.min, .int .i64 t.tax] 38)).heap[w.heap.size]? = some (.cells #[.int .i64 step, .int .i64 start, .slice a l.length cap] 24) := (heap_alloc_old _ _ (by simp)).trans (heap_alloc_new _ _)
  have HTB := hideP ht
  clear hX hL hE hA hps hsE hsA hbe hY h ht s0 s1 s2 s3
  go_enter Tryd.func6, Tryd.ntmps6
  go_upto_region 4 with (first
    | (go_at_call 21; refine (cp _ B0).mono ?_; rintro e wA ⟨vA, rfl, ownA, hbA⟩; obtain ⟨aA, capA, rfl⟩ := own_slice ownA; have BA := below_then B0 hbA; have ZA : w.heap.size + 1 < wA.heap.size := (by have := hbA.size; simp at this; omega); have MMA : wA.heap[w.heap.size]? = some (.cells #[.int .i64 step, .int .i64 start, .slice a l.length cap] 24) := (hbA.block w.heap.size (by first | omega | (simp; done) | (simp; omega))).trans MM; have MTA : wA.heap[w.heap.size + 1]? = some (.cells #[.int .i64 t.z.off, .int .i64 t.z.f.m, .int .i64 t.z.f.w, .int .i64 t.z.f.d, .int .i64 t.z.f.h, .int .i64 t.z.t.m, .int .i64 t.z.t.w, .int .i64 t.z.t.d, .int .i64 t.z.t.h, .int .i64 t.days, .int .i64 t.gap, .int .i64 t.first, .int .i64 t.last, .string t.h0, .string t.h1, .string t.h2, .string t.h3, .int .i64 t.b0.x, .int .i64 t.b0.y, .int .i64 t.b0.z, .int .i64 t.b1.x, .int .i64 t.b1.y, .int .i64 t.b1.z, .int .i64 t.b2.x, .int .i64 t.b2.y, .int .i64 t.b2.z, .int .i64 t.d.x, .int .i64 t.d.y, .int .i64 t.d.z, .int .i64 t.np, .int .i64 t.nn, .int .i64 t.fix, .int .i64 t.min, .int .i64 t.tax] 38) := (hbA.block (w.heap.size + 1) (by first | omega | (simp; done) | (simp; omega))).trans MT)
    | (go_at_call 20; refine (vl _ _ (VRow.of_own ownA rfl)).mono ?_; rintro e w1 ⟨v1, rfl, own1, hb1⟩; obtain ⟨a1, cap1, rfl⟩ := own_slice own1; have B1 := below_then BA hb1; have Z1 : w.heap.size + 1 < w1.heap.size := (by have := hb1.size; first | omega | (simp at this; omega)); have MM1 : w1.heap[w.heap.size]? = some (.cells #[.int .i64 step, .int .i64 start, .slice a l.length cap] 24) := (hb1.block w.heap.size (by first | omega | (simp; done) | (simp; omega))).trans MMA; have MT1 : w1.heap[w.heap.size + 1]? = some (.cells #[.int .i64 t.z.off, .int .i64 t.z.f.m, .int .i64 t.z.f.w, .int .i64 t.z.f.d, .int .i64 t.z.f.h, .int .i64 t.z.t.m, .int .i64 t.z.t.w, .int .i64 t.z.t.d, .int .i64 t.z.t.h, .int .i64 t.days, .int .i64 t.gap, .int .i64 t.first, .int .i64 t.last, .string t.h0, .string t.h1, .string t.h2, .string t.h3, .int .i64 t.b0.x, .int .i64 t.b0.y, .int .i64 t.b0.z, .int .i64 t.b1.x, .int .i64 t.b1.y, .int .i64 t.b1.z, .int .i64 t.b2.x, .int .i64 t.b2.y, .int .i64 t.b2.z, .int .i64 t.d.x, .int .i64 t.d.y, .int .i64 t.d.z, .int .i64 t.np, .int .i64 t.nn, .int .i64 t.fix, .int .i64 t.min, .int .i64 t.tax] 38) := (hb1.block (w.heap.size + 1) (by first | omega | (simp; done) | (simp; omega))).trans MTA; have m0_1 : w1.cell? ⟨w.heap.size, 0, none⟩ = some (.int .i64 step) := cell_in_row MM1 rfl; have m1_1 : w1.cell? ⟨w.heap.size, 1, none⟩ = some (.int .i64 start) := cell_in_row MM1 rfl; have m2_1 : w1.cell? ⟨w.heap.size, 2, none⟩ = some (.slice a l.length cap) := cell_in_row MM1 rfl)
    | (go_at_call 22; refine (fl _ B1).mono ?_; rintro e w2 ⟨v2, rfl, own2, hb2⟩; obtain ⟨a2, cap2, rfl⟩ := own_slice own2; have B2 := below_then B1 hb2; have Z2 : w.heap.size + 1 < w2.heap.size := (by have := hb2.size; first | omega | (simp at this; omega)); have MM2 : w2.heap[w.heap.size]? = some (.cells #[.int .i64 step, .int .i64 start, .slice a l.length cap] 24) := (hb2.block w.heap.size (by first | omega | (simp; done) | (simp; omega))).trans MM1; have MT2 : w2.heap[w.heap.size + 1]? = some (.cells #[.int .i64 t.z.off, .int .i64 t.z.f.m, .int .i64 t.z.f.w, .int .i64 t.z.f.d, .int .i64 t.z.f.h, .int .i64 t.z.t.m, .int .i64 t.z.t.w, .int .i64 t.z.t.d, .int .i64 t.z.t.h, .int .i64 t.days, .int .i64 t.gap, .int .i64 t.first, .int .i64 t.last, .string t.h0, .string t.h1, .string t.h2, .string t.h3, .int .i64 t.b0.x, .int .i64 t.b0.y, .int .i64 t.b0.z, .int .i64 t.b1.x, .int .i64 t.b1.y, .int .i64 t.b1.z, .int .i64 t.b2.x, .int .i64 t.b2.y, .int .i64 t.b2.z, .int .i64 t.d.x, .int .i64 t.d.y, .int .i64 t.d.z, .int .i64 t.np, .int .i64 t.nn, .int .i64 t.fix, .int .i64 t.min, .int .i64 t.tax] 38) := (hb2.block (w.heap.size + 1) (by first | omega | (simp; done) | (simp; omega))).trans MT1; have m0_2 : w2.cell? ⟨w.heap.size, 0, none⟩ = some (.int .i64 step) := cell_in_row MM2 rfl; have m1_2 : w2.cell? ⟨w.heap.size, 1, none⟩ = some (.int .i64 start) := cell_in_row MM2 rfl; have m2_2 : w2.cell? ⟨w.heap.size, 2, none⟩ = some (.slice a l.length cap) := cell_in_row MM2 rfl)
    | (go_at_call 10; refine (rd _ B2).mono ?_; rintro e w3 ⟨v3, rfl, V3, hb3⟩; obtain ⟨a3, cap3, rfl⟩ := V3.form; have B3 := below_then B2 hb3; have Z3 : w.heap.size + 1 < w3.heap.size := (by have := hb3.size; first | omega | (simp at this; omega)); have MM3 : w3.heap[w.heap.size]? = some (.cells #[.int .i64 step, .int .i64 start, .slice a l.length cap] 24) := (hb3.block w.heap.size (by first | omega | (simp; done) | (simp; omega))).trans MM2; have MT3 : w3.heap[w.heap.size + 1]? = some (.cells #[.int .i64 t.z.off, .int .i64 t.z.f.m, .int .i64 t.z.f.w, .int .i64 t.z.f.d, .int .i64 t.z.f.h, .int .i64 t.z.t.m, .int .i64 t.z.t.w, .int .i64 t.z.t.d, .int .i64 t.z.t.h, .int .i64 t.days, .int .i64 t.gap, .int .i64 t.first, .int .i64 t.last, .string t.h0, .string t.h1, .string t.h2, .string t.h3, .int .i64 t.b0.x, .int .i64 t.b0.y, .int .i64 t.b0.z, .int .i64 t.b1.x, .int .i64 t.b1.y, .int .i64 t.b1.z, .int .i64 t.b2.x, .int .i64 t.b2.y, .int .i64 t.b2.z, .int .i64 t.d.x, .int .i64 t.d.y, .int .i64 t.d.z, .int .i64 t.np, .int .i64 t.nn, .int .i64 t.fix, .int .i64 t.min, .int .i64 t.tax] 38) := (hb3.block (w.heap.size + 1) (by first | omega | (simp; done) | (simp; omega))).trans MT2; have m0_3 : w3.cell? ⟨w.heap.size, 0, none⟩ = some (.int .i64 step) := cell_in_row MM3 rfl; have m1_3 : w3.cell? ⟨w.heap.size, 1, none⟩ = some (.int .i64 start) := cell_in_row MM3 rfl; have m2_3 : w3.cell? ⟨w.heap.size, 2, none⟩ = some (.slice a l.length cap) := cell_in_row MM3 rfl)
    | (go_at_call 23; refine (rf _ _ V3).mono ?_; rintro e w4 ⟨v4, rfl, own4, hb4⟩; obtain ⟨a4, cap4, rfl⟩ := own_slice own4; have B4 := below_then B3 hb4; have Z4 : w.heap.size + 1 < w4.heap.size := (by have := hb4.size; first | omega | (simp at this; omega)); have MM4 : w4.heap[w.heap.size]? = some (.cells #[.int .i64 step, .int .i64 start, .slice a l.length cap] 24) := (hb4.block w.heap.size (by first | omega | (simp; done) | (simp; omega))).trans MM3; have MT4 : w4.heap[w.heap.size + 1]? = some (.cells #[.int .i64 t.z.off, .int .i64 t.z.f.m, .int .i64 t.z.f.w, .int .i64 t.z.f.d, .int .i64 t.z.f.h, .int .i64 t.z.t.m, .int .i64 t.z.t.w, .int .i64 t.z.t.d, .int .i64 t.z.t.h, .int .i64 t.days, .int .i64 t.gap, .int .i64 t.first, .int .i64 t.last, .string t.h0, .string t.h1, .string t.h2, .string t.h3, .int .i64 t.b0.x, .int .i64 t.b0.y, .int .i64 t.b0.z, .int .i64 t.b1.x, .int .i64 t.b1.y, .int .i64 t.b1.z, .int .i64 t.b2.x, .int .i64 t.b2.y, .int .i64 t.b2.z, .int .i64 t.d.x, .int .i64 t.d.y, .int .i64 t.d.z, .int .i64 t.np, .int .i64 t.nn, .int .i64 t.fix, .int .i64 t.min, .int .i64 t.tax] 38) := (hb4.block (w.heap.size + 1) (by first | omega | (simp; done) | (simp; omega))).trans MT3; have m0_4 : w4.cell? ⟨w.heap.size, 0, none⟩ = some (.int .i64 step) := cell_in_row MM4 rfl; have m1_4 : w4.cell? ⟨w.heap.size, 1, none⟩ = some (.int .i64 start) := cell_in_row MM4 rfl; have m2_4 : w4.cell? ⟨w.heap.size, 2, none⟩ = some (.slice a l.length cap) := cell_in_row MM4 rfl))
  have S2 := hb2.size
  have S3 := hb3.size
  have S4 := hb4.size
  have HO1 := hideP (own_ne own1 own2 (Nat.le_refl _))
  have HO4 := hideP (own_ne own2 own4 S3)
  have OW := hideP (own_below (own_below (own_below own1 hb2) hb3) hb4)
  have OL := hideP (own_below (own_below own2 hb3) hb4)
  have OF := hideP own4
  clear own1 own2 own4 ownA hb1 hb2 hb3 hb4 hbA MM MT MMA MTA MM1 MT1 MM2 MT2 MM3 MT3 m0_1 m1_1 m2_1 m0_2 m1_2 m2_2 m0_3 m1_3 m2_3 B0 BA B1 B2 B3 V3 cp rd rf ZA Z2 Z3
  go_upto_region 8 with (first
    | (with_reducible show wpList _ _ _ _ _ w5; refine wpList_load_row rfl 38 _ rfl (w.heap.size + 1) rfl 38 _ (0, 0) _ MT5 Tryd.underlying38 rfl (by kernel_rfl) ?_)
    | (with_reducible show wpList _ _ _ _ _ w6; refine wpList_load_row rfl 38 _ rfl (w.heap.size + 1) rfl 38 _ (0, 0) _ MT6 Tryd.underlying38 rfl (by kernel_rfl) ?_)
    | (go_at_call 7; refine (pm _ B4).mono ?_; rintro e w5 ⟨rfl, hb5⟩; have B5 := below_then B4 hb5; have Z5 : w.heap.size + 1 < w5.heap.size := (by have := hb5.size; first | omega | (simp at this; omega)); have MM5 : w5.heap[w.heap.size]? = some (.cells #[.int .i64 step, .int .i64 start, .slice a l.length cap] 24) := (hb5.block w.heap.size (by first | omega | (simp; done) | (simp; omega))).trans MM4; have MT5 : w5.heap[w.heap.size + 1]? = some (.cells #[.int .i64 t.z.off, .int .i64 t.z.f.m, .int .i64 t.z.f.w, .int .i64 t.z.f.d, .int .i64 t.z.f.h, .int .i64 t.z.t.m, .int .i64 t.z.t.w, .int .i64 t.z.t.d, .int .i64 t.z.t.h, .int .i64 t.days, .int .i64 t.gap, .int .i64 t.first, .int .i64 t.last, .string t.h0, .string t.h1, .string t.h2, .string t.h3, .int .i64 t.b0.x, .int .i64 t.b0.y, .int .i64 t.b0.z, .int .i64 t.b1.x, .int .i64 t.b1.y, .int .i64 t.b1.z, .int .i64 t.b2.x, .int .i64 t.b2.y, .int .i64 t.b2.z, .int .i64 t.d.x, .int .i64 t.d.y, .int .i64 t.d.z, .int .i64 t.np, .int .i64 t.nn, .int .i64 t.fix, .int .i64 t.min, .int .i64 t.tax] 38) := (hb5.block (w.heap.size + 1) (by first | omega | (simp; done) | (simp; omega))).trans MT4; have m0_5 : w5.cell? ⟨w.heap.size, 0, none⟩ = some (.int .i64 step) := cell_in_row MM5 rfl; have m1_5 : w5.cell? ⟨w.heap.size, 1, none⟩ = some (.int .i64 start) := cell_in_row MM5 rfl; have m2_5 : w5.cell? ⟨w.heap.size, 2, none⟩ = some (.slice a l.length cap) := cell_in_row MM5 rfl)
    | (go_at_call 24; refine (sp _ B5).mono ?_; rintro e w6 ⟨v6, rfl, own6, hb6⟩; obtain ⟨a6, cap6, rfl⟩ := own_slice own6; have B6 := below_then B5 hb6; have Z6 : w.heap.size + 1 < w6.heap.size := (by have := hb6.size; first | omega | (simp at this; omega)); have MM6 : w6.heap[w.heap.size]? = some (.cells #[.int .i64 step, .int .i64 start, .slice a l.length cap] 24) := (hb6.block w.heap.size (by first | omega | (simp; done) | (simp; omega))).trans MM5; have MT6 : w6.heap[w.heap.size + 1]? = some (.cells #[.int .i64 t.z.off, .int .i64 t.z.f.m, .int .i64 t.z.f.w, .int .i64 t.z.f.d, .int .i64 t.z.f.h, .int .i64 t.z.t.m, .int .i64 t.z.t.w, .int .i64 t.z.t.d, .int .i64 t.z.t.h, .int .i64 t.days, .int .i64 t.gap, .int .i64 t.first, .int .i64 t.last, .string t.h0, .string t.h1, .string t.h2, .string t.h3, .int .i64 t.b0.x, .int .i64 t.b0.y, .int .i64 t.b0.z, .int .i64 t.b1.x, .int .i64 t.b1.y, .int .i64 t.b1.z, .int .i64 t.b2.x, .int .i64 t.b2.y, .int .i64 t.b2.z, .int .i64 t.d.x, .int .i64 t.d.y, .int .i64 t.d.z, .int .i64 t.np, .int .i64 t.nn, .int .i64 t.fix, .int .i64 t.min, .int .i64 t.tax] 38) := (hb6.block (w.heap.size + 1) (by first | omega | (simp; done) | (simp; omega))).trans MT5; have m0_6 : w6.cell? ⟨w.heap.size, 0, none⟩ = some (.int .i64 step) := cell_in_row MM6 rfl; have m1_6 : w6.cell? ⟨w.heap.size, 1, none⟩ = some (.int .i64 start) := cell_in_row MM6 rfl; have m2_6 : w6.cell? ⟨w.heap.size, 2, none⟩ = some (.slice a l.length cap) := cell_in_row MM6 rfl)
    | (go_at_call 25; refine (bb _ B6).mono ?_; rintro e w7 ⟨v7, bE, bA, rfl, LB, hb7⟩; obtain ⟨a7, cap7, rfl⟩ := LB.form; have B7 := below_then B6 hb7; have Z7 : w.heap.size + 1 < w7.heap.size := (by have := hb7.size; first | omega | (simp at this; omega)); have MM7 : w7.heap[w.heap.size]? = some (.cells #[.int .i64 step, .int .i64 start, .slice a l.length cap] 24) := (hb7.block w.heap.size (by first | omega | (simp; done) | (simp; omega))).trans MM6; have MT7 : w7.heap[w.heap.size + 1]? = some (.cells #[.int .i64 t.z.off, .int .i64 t.z.f.m, .int .i64 t.z.f.w, .int .i64 t.z.f.d, .int .i64 t.z.f.h, .int .i64 t.z.t.m, .int .i64 t.z.t.w, .int .i64 t.z.t.d, .int .i64 t.z.t.h, .int .i64 t.days, .int .i64 t.gap, .int .i64 t.first, .int .i64 t.last, .string t.h0, .string t.h1, .string t.h2, .string t.h3, .int .i64 t.b0.x, .int .i64 t.b0.y, .int .i64 t.b0.z, .int .i64 t.b1.x, .int .i64 t.b1.y, .int .i64 t.b1.z, .int .i64 t.b2.x, .int .i64 t.b2.y, .int .i64 t.b2.z, .int .i64 t.d.x, .int .i64 t.d.y, .int .i64 t.d.z, .int .i64 t.np, .int .i64 t.nn, .int .i64 t.fix, .int .i64 t.min, .int .i64 t.tax] 38) := (hb7.block (w.heap.size + 1) (by first | omega | (simp; done) | (simp; omega))).trans MT6; have m0_7 : w7.cell? ⟨w.heap.size, 0, none⟩ = some (.int .i64 step) := cell_in_row MM7 rfl; have m1_7 : w7.cell? ⟨w.heap.size, 1, none⟩ = some (.int .i64 start) := cell_in_row MM7 rfl; have m2_7 : w7.cell? ⟨w.heap.size, 2, none⟩ = some (.slice a l.length cap) := cell_in_row MM7 rfl)
    | (go_at_call 26; refine (ln _ _ LB).mono ?_; rintro e w8 ⟨v8, rfl, own8, hb8⟩; obtain ⟨a8, cap8, rfl⟩ := own_slice own8; have B8 := below_then B7 hb8; have Z8 : w.heap.size + 1 < w8.heap.size := (by have := hb8.size; first | omega | (simp at this; omega)); have MM8 : w8.heap[w.heap.size]? = some (.cells #[.int .i64 step, .int .i64 start, .slice a l.length cap] 24) := (hb8.block w.heap.size (by first | omega | (simp; done) | (simp; omega))).trans MM7; have MT8 : w8.heap[w.heap.size + 1]? = some (.cells #[.int .i64 t.z.off, .int .i64 t.z.f.m, .int .i64 t.z.f.w, .int .i64 t.z.f.d, .int .i64 t.z.f.h, .int .i64 t.z.t.m, .int .i64 t.z.t.w, .int .i64 t.z.t.d, .int .i64 t.z.t.h, .int .i64 t.days, .int .i64 t.gap, .int .i64 t.first, .int .i64 t.last, .string t.h0, .string t.h1, .string t.h2, .string t.h3, .int .i64 t.b0.x, .int .i64 t.b0.y, .int .i64 t.b0.z, .int .i64 t.b1.x, .int .i64 t.b1.y, .int .i64 t.b1.z, .int .i64 t.b2.x, .int .i64 t.b2.y, .int .i64 t.b2.z, .int .i64 t.d.x, .int .i64 t.d.y, .int .i64 t.d.z, .int .i64 t.np, .int .i64 t.nn, .int .i64 t.fix, .int .i64 t.min, .int .i64 t.tax] 38) := (hb8.block (w.heap.size + 1) (by first | omega | (simp; done) | (simp; omega))).trans MT7; have m0_8 : w8.cell? ⟨w.heap.size, 0, none⟩ = some (.int .i64 step) := cell_in_row MM8 rfl; have m1_8 : w8.cell? ⟨w.heap.size, 1, none⟩ = some (.int .i64 start) := cell_in_row MM8 rfl; have m2_8 : w8.cell? ⟨w.heap.size, 2, none⟩ = some (.slice a l.length cap) := cell_in_row MM8 rfl))
  have C48 := below_then (below_then (below_then hb5 hb6) hb7) hb8
  have OW := hideP (own_below OW.out C48)
  have OL := hideP (own_below OL.out C48)
  have OF := hideP (own_below OF.out C48)
  have LB8 := hideP (LB.below hb8)
  have LC8 := hideP (LRow.of_own own8 rfl)
  have TB8 := HTB.out.below B8
  have S8 := C48.size
  clear C48 own6 own8 hb5 hb6 hb7 hb8 LB MM4 MT4 MM5 MT5 MM6 MT6 MM7 MT7 m0_4 m1_4 m2_4 m0_5 m1_5 m2_5 m0_6 m1_6 m2_6 m0_7 m1_7 m2_7 B4 B5 B6 B7 pm sp bb
  go_upto_region 11 with (first
    | (go_at_call 27; refine (pb _ _ LB8.out TB8).mono ?_; rintro e w9 ⟨rfl, hb9⟩; have LB9 := LB8.out.below hb9; have B9 := below_then B8 hb9; have Z9 : w.heap.size + 1 < w9.heap.size := (by have := hb9.size; first | omega | (simp at this; omega)); have MM9 : w9.heap[w.heap.size]? = some (.cells #[.int .i64 step, .int .i64 start, .slice a l.length cap] 24) := (hb9.block w.heap.size (by first | omega | (simp; done) | (simp; omega))).trans MM8; have MT9 : w9.heap[w.heap.size + 1]? = some (.cells #[.int .i64 t.z.off, .int .i64 t.z.f.m, .int .i64 t.z.f.w, .int .i64 t.z.f.d, .int .i64 t.z.f.h, .int .i64 t.z.t.m, .int .i64 t.z.t.w, .int .i64 t.z.t.d, .int .i64 t.z.t.h, .int .i64 t.days, .int .i64 t.gap, .int .i64 t.first, .int .i64 t.last, .string t.h0, .string t.h1, .string t.h2, .string t.h3, .int .i64 t.b0.x, .int .i64 t.b0.y, .int .i64 t.b0.z, .int .i64 t.b1.x, .int .i64 t.b1.y, .int .i64 t.b1.z, .int .i64 t.b2.x, .int .i64 t.b2.y, .int .i64 t.b2.z, .int .i64 t.d.x, .int .i64 t.d.y, .int .i64 t.d.z, .int .i64 t.np, .int .i64 t.nn, .int .i64 t.fix, .int .i64 t.min, .int .i64 t.tax] 38) := (hb9.block (w.heap.size + 1) (by first | omega | (simp; done) | (simp; omega))).trans MT8)
    | (go_at_call 26; refine (ln _ _ LB9).mono ?_; rintro e w10 ⟨v10, rfl, own10, hb10⟩; obtain ⟨a10, cap10, rfl⟩ := own_slice own10; have B10 := below_then B9 hb10; have Z10 : w.heap.size + 1 < w10.heap.size := (by have := hb10.size; first | omega | (simp at this; omega)); have MM10 : w10.heap[w.heap.size]? = some (.cells #[.int .i64 step, .int .i64 start, .slice a l.length cap] 24) := (hb10.block w.heap.size (by first | omega | (simp; done) | (simp; omega))).trans MM9; have MT10 : w10.heap[w.heap.size + 1]? = some (.cells #[.int .i64 t.z.off, .int .i64 t.z.f.m, .int .i64 t.z.f.w, .int .i64 t.z.f.d, .int .i64 t.z.f.h, .int .i64 t.z.t.m, .int .i64 t.z.t.w, .int .i64 t.z.t.d, .int .i64 t.z.t.h, .int .i64 t.days, .int .i64 t.gap, .int .i64 t.first, .int .i64 t.last, .string t.h0, .string t.h1, .string t.h2, .string t.h3, .int .i64 t.b0.x, .int .i64 t.b0.y, .int .i64 t.b0.z, .int .i64 t.b1.x, .int .i64 t.b1.y, .int .i64 t.b1.z, .int .i64 t.b2.x, .int .i64 t.b2.y, .int .i64 t.b2.z, .int .i64 t.d.x, .int .i64 t.d.y, .int .i64 t.d.z, .int .i64 t.np, .int .i64 t.nn, .int .i64 t.fix, .int .i64 t.min, .int .i64 t.tax] 38) := (hb10.block (w.heap.size + 1) (by first | omega | (simp; done) | (simp; omega))).trans MT9)
    | (go_at_call 28; refine (sn _ _ _ (LRow.of_own own10 rfl) (LC8.out.below (below_then hb9 hb10))).mono ?_; rintro e w11 ⟨rfl, hb11⟩; have B11 := below_then B10 hb11; have Z11 : w.heap.size + 1 < w11.heap.size := (by have := hb11.size; first | omega | (simp at this; omega)); have MM11 : w11.heap[w.heap.size]? = some (.cells #[.int .i64 step, .int .i64 start, .slice a l.length cap] 24) := (hb11.block w.heap.size (by first | omega | (simp; done) | (simp; omega))).trans MM10; have MT11 : w11.heap[w.heap.size + 1]? = some (.cells #[.int .i64 t.z.off, .int .i64 t.z.f.m, .int .i64 t.z.f.w, .int .i64 t.z.f.d, .int .i64 t.z.f.h, .int .i64 t.z.t.m, .int .i64 t.z.t.w, .int .i64 t.z.t.d, .int .i64 t.z.t.h, .int .i64 t.days, .int .i64 t.gap, .int .i64 t.first, .int .i64 t.last, .string t.h0, .string t.h1, .string t.h2, .string t.h3, .int .i64 t.b0.x, .int .i64 t.b0.y, .int .i64 t.b0.z, .int .i64 t.b1.x, .int .i64 t.b1.y, .int .i64 t.b1.z, .int .i64 t.b2.x, .int .i64 t.b2.y, .int .i64 t.b2.z, .int .i64 t.d.x, .int .i64 t.d.y, .int .i64 t.d.z, .int .i64 t.np, .int .i64 t.nn, .int .i64 t.fix, .int .i64 t.min, .int .i64 t.tax] 38) := (hb11.block (w.heap.size + 1) (by first | omega | (simp; done) | (simp; omega))).trans MT10; have m0_11 : w11.cell? ⟨w.heap.size, 0, none⟩ = some (.int .i64 step) := cell_in_row MM11 rfl; have m1_11 : w11.cell? ⟨w.heap.size, 1, none⟩ = some (.int .i64 start) := cell_in_row MM11 rfl; have m2_11 : w11.cell? ⟨w.heap.size, 2, none⟩ = some (.slice a l.length cap) := cell_in_row MM11 rfl))
  have C811 := below_then (below_then hb9 hb10) hb11
  have OW := hideP (own_below OW.out C811)
  have OL := hideP (own_below OL.out C811)
  have OF := hideP (own_below OF.out C811)
  have S11 := C811.size
  clear C811 own10 hb9 hb10 hb11 LB8 LC8 LB9 TB8 MM8 MT8 MM9 MT9 MM10 MT10 m0_8 m1_8 m2_8 B8 B9 B10 pb ln sn
  go_upto_region 13 with (first
    | (go_at_call 20; have _ := hb13; refine (vL _ _ (VRow.of_own (own_below OL.out (below_then hb12 hb13)) rfl)).mono ?_; rintro e w14 ⟨v14, rfl, own14, hb14⟩; obtain ⟨a14, cap14, rfl⟩ := own_slice own14; have B14 := below_then B13 hb14; have Z14 : w.heap.size + 1 < w14.heap.size := (by have := hb14.size; first | omega | (simp at this; omega)); have MM14 : w14.heap[w.heap.size]? = some (.cells #[.int .i64 step, .int .i64 start, .slice a l.length cap] 24) := (hb14.block w.heap.size (by first | omega | (simp; done) | (simp; omega))).trans MM13; have MT14 : w14.heap[w.heap.size + 1]? = some (.cells #[.int .i64 t.z.off, .int .i64 t.z.f.m, .int .i64 t.z.f.w, .int .i64 t.z.f.d, .int .i64 t.z.f.h, .int .i64 t.z.t.m, .int .i64 t.z.t.w, .int .i64 t.z.t.d, .int .i64 t.z.t.h, .int .i64 t.days, .int .i64 t.gap, .int .i64 t.first, .int .i64 t.last, .string t.h0, .string t.h1, .string t.h2, .string t.h3, .int .i64 t.b0.x, .int .i64 t.b0.y, .int .i64 t.b0.z, .int .i64 t.b1.x, .int .i64 t.b1.y, .int .i64 t.b1.z, .int .i64 t.b2.x, .int .i64 t.b2.y, .int .i64 t.b2.z, .int .i64 t.d.x, .int .i64 t.d.y, .int .i64 t.d.z, .int .i64 t.np, .int .i64 t.nn, .int .i64 t.fix, .int .i64 t.min, .int .i64 t.tax] 38) := (hb14.block (w.heap.size + 1) (by first | omega | (simp; done) | (simp; omega))).trans MT13)
    | (go_at_call 20; refine (vm _ B11).mono ?_; rintro e w12 ⟨v12, rfl, own12, hb12⟩; obtain ⟨a12, cap12, rfl⟩ := own_slice own12; have B12 := below_then B11 hb12; have Z12 : w.heap.size + 1 < w12.heap.size := (by have := hb12.size; first | omega | (simp at this; omega)); have MM12 : w12.heap[w.heap.size]? = some (.cells #[.int .i64 step, .int .i64 start, .slice a l.length cap] 24) := (hb12.block w.heap.size (by first | omega | (simp; done) | (simp; omega))).trans MM11; have MT12 : w12.heap[w.heap.size + 1]? = some (.cells #[.int .i64 t.z.off, .int .i64 t.z.f.m, .int .i64 t.z.f.w, .int .i64 t.z.f.d, .int .i64 t.z.f.h, .int .i64 t.z.t.m, .int .i64 t.z.t.w, .int .i64 t.z.t.d, .int .i64 t.z.t.h, .int .i64 t.days, .int .i64 t.gap, .int .i64 t.first, .int .i64 t.last, .string t.h0, .string t.h1, .string t.h2, .string t.h3, .int .i64 t.b0.x, .int .i64 t.b0.y, .int .i64 t.b0.z, .int .i64 t.b1.x, .int .i64 t.b1.y, .int .i64 t.b1.z, .int .i64 t.b2.x, .int .i64 t.b2.y, .int .i64 t.b2.z, .int .i64 t.d.x, .int .i64 t.d.y, .int .i64 t.d.z, .int .i64 t.np, .int .i64 t.nn, .int .i64 t.fix, .int .i64 t.min, .int .i64 t.tax] 38) := (hb12.block (w.heap.size + 1) (by first | omega | (simp; done) | (simp; omega))).trans MT11)
    | (go_at_call 29; have _ := hb14; refine (sL _ _ _ (VRow.of_own own14 rfl) (VRow.of_own (own_below OF.out (below_then (below_then hb12 hb13) hb14)) rfl)).mono ?_; rintro e w15 ⟨rfl, n15, h15⟩; have hb15 : Below w14.heap.size w14 w15 := (by rw [h15]; exact below_drewN (Below.refl _ _) _); clear h15; have B15 := below_then B14 hb15; have Z15 : w.heap.size + 1 < w15.heap.size := (by have := hb15.size; first | omega | (simp at this; omega)); have MM15 : w15.heap[w.heap.size]? = some (.cells #[.int .i64 step, .int .i64 start, .slice a l.length cap] 24) := (hb15.block w.heap.size (by first | omega | (simp; done) | (simp; omega))).trans MM14; have MT15 : w15.heap[w.heap.size + 1]? = some (.cells #[.int .i64 t.z.off, .int .i64 t.z.f.m, .int .i64 t.z.f.w, .int .i64 t.z.f.d, .int .i64 t.z.f.h, .int .i64 t.z.t.m, .int .i64 t.z.t.w, .int .i64 t.z.t.d, .int .i64 t.z.t.h, .int .i64 t.days, .int .i64 t.gap, .int .i64 t.first, .int .i64 t.last, .string t.h0, .string t.h1, .string t.h2, .string t.h3, .int .i64 t.b0.x, .int .i64 t.b0.y, .int .i64 t.b0.z, .int .i64 t.b1.x, .int .i64 t.b1.y, .int .i64 t.b1.z, .int .i64 t.b2.x, .int .i64 t.b2.y, .int .i64 t.b2.z, .int .i64 t.d.x, .int .i64 t.d.y, .int .i64 t.d.z, .int .i64 t.np, .int .i64 t.nn, .int .i64 t.fix, .int .i64 t.min, .int .i64 t.tax] 38) := (hb15.block (w.heap.size + 1) (by first | omega | (simp; done) | (simp; omega))).trans MT14)
    | (go_at_call 29; refine (sl _ _ _ (VRow.of_own own12 rfl) (VRow.of_own (own_below OW.out hb12) rfl)).mono ?_; rintro e w13 ⟨rfl, n13, h13⟩; have hb13 : Below w12.heap.size w12 w13 := (by rw [h13]; exact below_drewN (Below.refl _ _) _); clear h13; have B13 := below_then B12 hb13; have Z13 : w.heap.size + 1 < w13.heap.size := (by have := hb13.size; first | omega | (simp at this; omega)); have MM13 : w13.heap[w.heap.size]? = some (.cells #[.int .i64 step, .int .i64 start, .slice a l.length cap] 24) := (hb13.block w.heap.size (by first | omega | (simp; done) | (simp; omega))).trans MM12; have MT13 : w13.heap[w.heap.size + 1]? = some (.cells #[.int .i64 t.z.off, .int .i64 t.z.f.m, .int .i64 t.z.f.w, .int .i64 t.z.f.d, .int .i64 t.z.f.h, .int .i64 t.z.t.m, .int .i64 t.z.t.w, .int .i64 t.z.t.d, .int .i64 t.z.t.h, .int .i64 t.days, .int .i64 t.gap, .int .i64 t.first, .int .i64 t.last, .string t.h0, .string t.h1, .string t.h2, .string t.h3, .int .i64 t.b0.x, .int .i64 t.b0.y, .int .i64 t.b0.z, .int .i64 t.b1.x, .int .i64 t.b1.y, .int .i64 t.b1.z, .int .i64 t.b2.x, .int .i64 t.b2.y, .int .i64 t.b2.z, .int .i64 t.d.x, .int .i64 t.d.y, .int .i64 t.d.z, .int .i64 t.np, .int .i64 t.nn, .int .i64 t.fix, .int .i64 t.min, .int .i64 t.tax] 38) := (hb13.block (w.heap.size + 1) (by first | omega | (simp; done) | (simp; omega))).trans MT12)
    | (go_at_call 15; refine (num_any _ _).mono ?_; rintro e wn ⟨rfl, h7⟩; have h8 := h7.symm; subst h8))
  have C1115 := below_then (below_then (below_then hb12 hb13) hb14) hb15
  have OW := hideP (own_below OW.out C1115)
  have OL := hideP (own_below OL.out C1115)
  have OF := hideP (own_below OF.out C1115)
  have S15 := C1115.size
  have HM := hideP MM15
  have HB := hideP B15
  clear C1115 own12 own14 hb12 hb13 hb14 hb15 MM11 MT11 MM12 MT12 MM13 MT13 MM14 MT14 MM15 MT15 m0_11 m1_11 m2_11 B11 B12 B13 B14 B15
  go_wp2_with fail
  go_loopw [18] (fun p wr => ∃ (k : Nat) (xs : List Value), p = .int .i64 k ∧ k ≤ L.length ∧ wr.ownsRow w1.heap.size 88 3 (.slice a2 L.length cap2) L.length xs ∧ (∀ i, k ≤ i → i < L.length → xs[i * 3]? = some (.int .i64 (Fil.vAt L i).i)) ∧ w15.grownBy wr (Value.ownBlock (.slice a2 L.length cap2))) (fun p _ => L.length - (intOf p).toNat)
  case atStart => exact ⟨0, _, rfl, by omega, OL.out, fun i _ hi => vcs_i hi, World.grownBy.refl _ _⟩
  case round =>
    obtain ⟨k, xs, rfl, hk, hown, hxs, hgr⟩ := hrel
    by_cases hlt : k < L.length
    · have hlt' : (k : Int) < (L.length : Int) := by omega
      have hk0 : (0 : Int) ≤ (k : Int) := by omega
      obtain ⟨g, cap', eg, hgb, hglt⟩ := hown.form (by omega)
      cases eg
      have hcapP : (L.length : Int) ≤ (cap2 : Int) := by
        rcases hown.2 with ⟨h1, _⟩ | ⟨g', cap', cur, hv, _, _, hc, _⟩
        · cases h1
        · cases hv; omega
      have ck : wr.cell? ⟨g, k * 3, none⟩ = some (.int .i64 (Fil.vAt L k).i) := by rw [hown.cellAt (k * 3) (by omega)]; exact hxs k (Nat.le_refl _) hlt
      have fk : wr.frozen? ⟨g, k * 3, none⟩ = false := hown.frozenAt _
      have bd := (valB_bd (List.all_eq_true.mp hLv _ (List.mem_of_getElem? (Fil.get_ex hlt)))).1
      have HX : Hid (∀ u : Value, ∀ i, k + 1 ≤ i → i < L.length → (xs.set (k * 3) u)[i * 3]? = some (.int .i64 (Fil.vAt L i).i)) := fun u i h1 h2 => by
        rw [List.getElem?_set_ne (by omega)]; exact hxs i (by omega) h2
      have HO := hideP hown
      have HG := hideP hgr
      obtain ⟨z, hz⟩ : ∃ z, z = (Fil.vAt L k).i := ⟨_, rfl⟩
      rw [← hz] at ck bd
      have kw : IntKind.i64.wrap (z + 1) = z + 1 := Go.IntWalk.i64_in _ (by omega)
      clear hz hown hgr hxs
      go_wp2_with fail
      go_roundw
      case rel => exact ⟨k + 1, _, by go_num, by omega, (HO.out.stored _ _).1, HX.out _, World.grownBy.trans HG.out (grown_set _ _ _ _)⟩
      case measure => simp [intOf]; omega
    · have hlt' : ¬ (k : Int) < (L.length : Int) := by omega
      have HR := hideP ((hgr.block w.heap.size (by omega) (fun e => by have := (hown.lt _ e.symm).1; omega)).trans HM.out)
      have BR : Below w.heap.size w wr := Below.grown HB.out hgr (by omega) (fun j hj => by have := (hown.lt j hj).1; omega)
      have OWr := hideP (OW.out.kept hgr HO1.out.1)
      have OFr := hideP (OF.out.kept hgr HO4.out.2)
      have n0 : wr.cell? ⟨w.heap.size, 0, none⟩ = some (.int .i64 step) := cell_in_row HR.out rfl
      have n1 : wr.cell? ⟨w.heap.size, 1, none⟩ = some (.int .i64 start) := cell_in_row HR.out rfl
      have n2 : wr.cell? ⟨w.heap.size, 2, none⟩ = some (.slice a l.length cap) := cell_in_row HR.out rfl
      have hsr := hgr.size
      have hoN : ∀ j, (Value.ownBlock (.slice a2 L.length cap2)) = some j → w1.heap.size ≤ j := fun j hj => (hown.lt j hj).1
      have hwr : w.heap.size < wr.heap.size := by omega
      have hL1 : L.length + 1 ≤ maxLen := by unfold maxLen; omega
      clear hgr hxs OW OL OF
      go_upto_region 18 with (at_builtin; refine wpList_append_own _ rfl _ _ 22 rfl w1.heap.size 88 i0 (.agg #[.int .i64 0, .int .i64 0, .bool false]) 3 24 Tryd.underlying22 hi hz0 hz1 hz2 rfl (by decide) _ _ _ rfl (hown.alloc _) ⟨wr.heap.size, 0, none⟩ 1 1 (vcell ⟨7, 0, false⟩) rfl rfl (by have := cell_three_new wr (.int .i64 7) (.int .i64 0) (.bool false) 88; simpa [vcell] using this) (fun x hx => by simp [vcell] at hx; rcases hx with rfl | rfl | rfl <;> rfl) (by omega) (by omega) (by simp; omega) ?_; intro v' w16 own16 g16 nil16; obtain ⟨a16, cap16, rfl⟩ := own_slice own16)
      have A1 : Below wr.heap.size wr (wr.alloc (.cells #[.int .i64 7, .int .i64 0, .bool false] 88)) := below_more (Below.refl _ _) _
      have OW16 := hideP ((own_below OWr.out A1).kept g16 HO1.out.1)
      have OF16 := hideP ((own_below OFr.out A1).kept g16 HO4.out.2)
      have B16 : Below w.heap.size w w16 := Below.grown (below_then BR A1) g16 (by simp; omega) (fun j hj => by have := hoN j hj; omega)
      have S16 := g16.size
      have MM16 : w16.heap[w.heap.size]? = some (.cells #[.int .i64 step, .int .i64 start, .slice a l.length cap] 24) := (g16.block w.heap.size (by simp; omega) (fun e => by have := hoN _ e.symm; omega)).trans ((A1.block w.heap.size hwr).trans HR.out)
      have m0_16 : w16.cell? ⟨w.heap.size, 0, none⟩ = some (.int .i64 step) := cell_in_row MM16 rfl; have m1_16 : w16.cell? ⟨w.heap.size, 1, none⟩ = some (.int .i64 start) := cell_in_row MM16 rfl; have m2_16 : w16.cell? ⟨w.heap.size, 2, none⟩ = some (.slice a l.length cap) := cell_in_row MM16 rfl
      have Z16 : w.heap.size < w16.heap.size := by simp at S16; omega
      have hl1 : ((L.length + 1 : Nat) : Int) = (L.length : Int) + 1 := by omega
      clear own16 g16 nil16 A1 hown n0 n1 n2 HR BR OWr OFr
      go_wp2_with (first
        | (go_at_call 22; refine (fl _ B16).mono ?_; rintro e w17 ⟨v17, rfl, own17, hb17⟩; obtain ⟨a17, cap17, rfl⟩ := own_slice own17; have B17 := below_then B16 hb17; have MM17 : w17.heap[w.heap.size]? = some (.cells #[.int .i64 step, .int .i64 start, .slice a l.length cap] 24) := (hb17.block w.heap.size Z16).trans MM16; have m2_17 : w17.cell? ⟨w.heap.size, 2, none⟩ = some (.slice a l.length cap) := cell_in_row MM17 rfl; have Z17 := hb17.size)
        | (go_at_call 20; have _ := hb19; refine (vL _ _ (VRow.of_own (own_below own17 (below_then hb18 hb19)) rfl)).mono ?_; rintro e w20 ⟨v20, rfl, own20, hb20⟩; obtain ⟨a20, cap20, rfl⟩ := own_slice own20; have B20 := below_then B19 hb20)
        | (go_at_call 20; refine (vm _ B17).mono ?_; rintro e w18 ⟨v18, rfl, own18, hb18⟩; obtain ⟨a18, cap18, rfl⟩ := own_slice own18; have B18 := below_then B17 hb18)
        | (go_at_call 29; have _ := hb20; refine (sL _ _ _ (VRow.of_own own20 rfl) (VRow.of_own (own_below OF16.out (below_then (below_then (below_then hb17 hb18) hb19) hb20)) rfl)).mono ?_; rintro e w21 ⟨rfl, n21, h21⟩; have hb21 : Below w20.heap.size w20 w21 := (by rw [h21]; exact below_drewN (Below.refl _ _) _); clear h21; have B21 := below_then B20 hb21)
        | (go_at_call 29; refine (sl _ _ _ (VRow.of_own own18 rfl) (VRow.of_own (own_below OW16.out (below_then hb17 hb18)) rfl)).mono ?_; rintro e w19 ⟨rfl, n19, h19⟩; have hb19 : Below w18.heap.size w18 w19 := (by rw [h19]; exact below_drewN (Below.refl _ _) _); clear h19; have B19 := below_then B18 hb19))
      go_ret
      exact ⟨by simp, B21⟩
end ownLaw
end Go.Proofs.YtjaffmmocbplaaaDoor

namespace Go.Proofs.YtjaffmmocbplaaaDoor.own
open Go.ChangeShapes Go.WideShapes Go.ChangeAt Go.RowKit
open Go.ChangeMaps (open_string shut_string)
set_option linter.unusedVariables false

theorem own : ownKnob Tryd.prog.godebug = none := by kernel_rfl
theorem laidOut : laidOutB Tryd.prog = true := by kernel_rfl
theorem gPow : Tryd.prog.globalNamed "internal/strconv.uint64pow10" = some 0 := by kernel_rfl
theorem tPow : (Tryd.prog.globals[0]?).map (·.type) = some 175 := by kernel_rfl
theorem cPow : Tryd.prog.cellsOf 175 = 20 := by kernel_rfl
theorem cU : Tryd.prog.cellsOf 169 = 1 := by kernel_rfl
theorem tab_of {W : World} (h : laidMetH Tryd.prog Rows.ownRow.laid W) : TB W := by
  rw [MakeChecks.laidMetH_plain _ _ _ (by kernel_rfl)] at h
  exact Lib.tabIs_of_head (n := 20) gPow tPow Tryd.underlying175 Tryd.underlying169 cU cPow (rest := []) (laidMet.tail (laidMet.tail h))
theorem door_met (os : Os) (args : Array Value) : laidMetH Tryd.prog Rows.ownRow.laid ((World.doorLaid Tryd.prog 24 os).forCall (fun _ _ => 0) ⟨#[], args, []⟩).memory :=
  laidMetH_of_parts3 (fuel := 8) (laidMet_of_run' 8 (by kernel_rfl) (by kernel_rfl)) (by kernel_rfl) (by kernel_rfl)

/-! ### THE ROW's STEP -/
set_option maxRecDepth 100000 in
theorem lifted (os : Os) (started : os.Started) (H : Type) (enc : TypeId × Value → H) :
    ReturnsInHanded {} Tryd.checked os 6 .any (fun w args => (Rows.ownSpec.pre enc Tryd.prog Tryd.f6 [] false w args ∧ laidMetH Tryd.prog Rows.ownRow.laid w) ∧ sizedMet enc Tryd.prog Tryd.f6 (OpenSpec.ofChange Rows.ownSpec) false w args)
      (Rows.ownSpec.post enc Tryd.prog Tryd.f6 false true false false) := by
  refine returnsInHanded_of_change_and (C := Tryd.checked) (X := fun w _ => laidMetH Tryd.prog Rows.ownRow.laid w) (fun _ _ _ hh h => h.of_heap hh) own started (by kernel_rfl) Tryd.func6
    (ChangeSpec.witness_shaped (enc := enc) (C := Tryd.checked) (os := os) (X := fun w _ => laidMetH Tryd.prog Rows.ownRow.laid w) false (World.doorLaid Tryd.prog 24 os) #[.agg #[.int .i64 0, .int .i64 0, .slice none 0 0], .agg #[.int .i64 0, .int .i64 0, .int .i64 0, .int .i64 0, .int .i64 0, .int .i64 0, .int .i64 0, .int .i64 0, .int .i64 0, .int .i64 0, .int .i64 0, .int .i64 0, .int .i64 0, .string ByteArray.empty, .string ByteArray.empty, .string ByteArray.empty, .string ByteArray.empty, .int .i64 0, .int .i64 0, .int .i64 0, .int .i64 0, .int .i64 0, .int .i64 0, .int .i64 0, .int .i64 0, .int .i64 0, .int .i64 0, .int .i64 0, .int .i64 0, .int .i64 0, .int .i64 0, .int .i64 0, .int .i64 0, .int .i64 0], .int .i64 0] 8 rfl (World.shaped_of_RefB (by kernel_rfl) (by kernel_rfl)) (by kernel_rfl) (by kernel_rfl) (by kernel_rfl) (door_met os _)) ?_
  intro W base args ds gs before hval0 hW hcnd hsz0 hL _
  have hsz : (DataW.weightsEach Tryd.prog (Tryd.f6.params.toList ++ Rows.ownSpec.plain.varTypes Tryd.prog) (ds ++ gs)).all (· ≤ reachBytes) = true := hsz0
  have hval : ∀ (j : Nat) t v, Tryd.f6.params[j]? = some t → args[j]? = some v → Value.okWide Tryd.prog W .any base t v := hval0
  have hW' := hW
  have ht := tab_of hL
  obtain ⟨p, q, hA0, hV, rfl, hfz, hnd⟩ := hW
  have hA : DataW.TrodAll enc Tryd.prog W 0 (fun _ => true) true Tryd.f6.params.toList args.toList ds p := hA0
  rw [Tryd.params6] at hA hval hsz
  obtain ⟨v0, vs0, d0, ds0, p0, q0, hargs, rfl, rfl, h0, r0⟩ := trodAll_cons hA
  obtain ⟨v1, vs1, d1, ds1, p1, q1, rfl, rfl, rfl, h1, r1⟩ := trodAll_cons r0
  obtain ⟨v2, vs2, d2, ds2, p2, q2, rfl, rfl, rfl, h2, r2⟩ := trodAll_cons r1
  obtain ⟨rfl, rfl, rfl⟩ := trodAll_nil r2
  obtain rfl : args = #[v0, v1, v2] := by cases args; simp_all
  obtain ⟨rfl, rfl⟩ := trodVars_none hV
  have k0 := h0
  have lt0 : ∀ x ∈ p0, x.block < W.heap.size := by obtain ⟨m, hm⟩ := k0; exact DataW.trod_lt m _ _ _ hm
  obtain ⟨step, start, u, l, e0, e1, e2, rfl, hu, rfl, hle⟩ := open_meter (hval 0 24 v0 rfl rfl) h0
  have hreach := reach_meter hsz
  have k1 := h1
  have lt1 : ∀ x ∈ p1, x.block < W.heap.size := by obtain ⟨m, hm⟩ := k1; exact DataW.trod_lt m _ _ _ hm
  obtain ⟨t, rfl, s0, s1, s2, s3⟩ := open_tariff (hval 1 38 v1 rfl rfl) h1
  obtain ⟨a2, rfl, rfl, rfl, w2⟩ := open_int Tryd.underlying3 (hval 2 3 v2 rfl rfl) h2
  clear hA0 hval0
  refine (ownLaw.walk t step start a2 u l W hu ht (by omega) s0 s1 s2 s3).mono fun e W' ⟨he, bel⟩ => ?_
  subst he
  exact ⟨_, rfl, _, _, _, [], _, [], hW', trodAll_mk1 (shut_bool Tryd.underlying4 _), (trodAll_cons_mk (Below.trod laidOut (by kernel_rfl) (of_decide_eq_true (by kernel_rfl)) k0 bel lt0) (trodAll_cons_mk (Below.trod laidOut (by kernel_rfl) (of_decide_eq_true (by kernel_rfl)) k1 bel lt1) (trodAll_cons_mk (shut_int Tryd.underlying3 w2) trodAll_mk0))), rfl, bel.frame _, fun h => by cases h⟩

theorem over : Rows.ownRow.holds Tryd.pinned (OpenSpec.ofChange Rows.ownSpec) :=
  OpenClaim.holds_of_wide 6 Tryd.f6 rfl rfl rfl rfl rfl rfl rfl ⟨rfl, rfl, rfl, rfl, rfl⟩ rfl rfl rfl rfl rfl (by kernel_rfl) Tryd.func6 (by kernel_rfl)
    (of_decide_eq_true (by kernel_rfl)) (by unfold Func.isWrapper; first | (rw [if_pos (by decide +kernel)]; kernel_rfl) | (rw [if_neg (by decide +kernel)]; exact ⟨rfl, rfl⟩))
    (fun os started H enc _ => lifted os started H enc)
theorem proved : Rows.OwnSaid := over

/-! ### THE TIED CARD -/
theorem card : Rows.OwnCardSaid :=
  Claim7.holds_tied_plain_at .later [] [.data, .data, .data] true (true, "8e0fdf0cae6d36082a1efe823df5eeb13c1ddce2d5d07f333d5d73c2dd17ee4a") false
    proved (fun _ h => by cases h) (by kernel_rfl) (fun _ h => by cases h) own_row_tie rfl ⟨rfl, rfl⟩ (by kernel_rfl) rfl
    (fun f fn hf hfn => by
      obtain rfl : f = 6 := Option.some.inj ((show Tryd.prog.funcNamed "meter/meterlaw.Own" = some 6 by kernel_rfl).symm.trans hf) |>.symm
      obtain rfl : fn = Tryd.f6 := (Option.some.inj (Tryd.func6.symm.trans hfn)).symm
      exact ⟨by kernel_rfl, fun j t ht => by
        rw [Tryd.params6] at ht
        have hq : t = 24 ∨ t = 38 ∨ t = 3 := by
          rcases j with _ | _ | _ | j
          · simp at ht; simp [ht.symm]
          · simp at ht; simp [ht.symm]
          · simp at ht; simp [ht.symm]
          · simp at ht
        rcases hq with rfl | rfl | rfl
        · exact (show Tryd.prog.wantsStandIn 24 = false by kernel_rfl)
        · exact (show Tryd.prog.wantsStandIn 38 = false by kernel_rfl)
        · exact (show Tryd.prog.wantsStandIn 3 = false by kernel_rfl)
        ⟩)
    (by kernel_rfl)
#print axioms card
end Go.Proofs.YtjaffmmocbplaaaDoor.own
namespace Go.Proofs.YtjaffmmocbplaaaDoor
theorem own_holds : Rows.OwnCardSaid := own.card
end Go.Proofs.YtjaffmmocbplaaaDoor
