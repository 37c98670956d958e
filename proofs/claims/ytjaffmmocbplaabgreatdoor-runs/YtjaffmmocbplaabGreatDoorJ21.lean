/-
  BilD, RbW, RblW in one text.
-/
import Derived.Test.YtjaffmmocbplaabGreatDoorJ15
import Derived.Test.YtjaffmmocbplaabGreatDoorJ17
import Derived.Test.YtjaffmmocbplaabGreatDoorJ20
namespace Go.Proofs.YtjaffmmocbplaabGreatDoor
set_option linter.unusedVariables false
namespace Bil
theorem cAt_set {c : List Int} {k j : Nat} {v : Int} (h : k < c.length) : cAt (c.set k v) j = if k = j then v else cAt c j := by
  unfold cAt
  rw [List.getD_eq_getElem?_getD, List.getElem?_set]
  by_cases e : k = j
  · subst e; rw [if_pos rfl, if_pos rfl, if_pos h]; rfl
  · rw [if_neg e, if_neg e, List.getD_eq_getElem?_getD]
/-- what is left of credit j ahead of its use -/
def docY (c : List Int) (n j : Nat) : Int := if j < n then 0 else cAt c j
theorem expC_at (c : List Int) : ∀ n, n ≤ c.length → ∀ j, j < c.length → cAt (expC c n) j = docY c n j
  | 0, _, j, _ => rfl
  | n + 1, hn, j, hj => by
    show cAt ((expC c n).set n 0) j = _
    rw [cAt_set (by rw [expC_len]; omega), expC_at c n (by omega) j hj]
    unfold docY
    by_cases e : n = j
    · subst e; rw [if_pos rfl, if_pos (by omega)]
    · rw [if_neg e]
      by_cases g : j < n
      · rw [if_pos g, if_pos (by omega)]
      · rw [if_neg g, if_neg (by omega)]
def docA (c : List Int) (n : Nat) (m : Int) : Nat → Int
  | 0 => 0
  | j + 1 => docA c n m j + mn (docY c n j) (m - docA c n m j)
def docX (c : List Int) (n : Nat) (m : Int) : Nat → List Int
  | 0 => c
  | j + 1 => (docX c n m j).set j (docY c n j - mn (docY c n j) (m - docA c n m j))
def docE (c : List Int) (n : Nat) : Nat → Int
  | 0 => 0
  | j + 1 => if j < n then docE c n j + cAt c j else docE c n j
theorem docX_len (c : List Int) (n : Nat) (m : Int) : ∀ j, (docX c n m j).length = c.length
  | 0 => rfl
  | j + 1 => by show ((docX c n m j).set j _).length = _; rw [List.length_set, docX_len c n m j]
theorem docX_get (c : List Int) (n : Nat) (m : Int) : ∀ k j, k ≤ j → cAt (docX c n m k) j = cAt c j
  | 0, j, _ => rfl
  | k + 1, j, h => by
    show cAt ((docX c n m k).set k _) j = _
    unfold cAt
    rw [List.getD_eq_getElem?_getD, List.getElem?_set, if_neg (by omega)]
    exact docX_get c n m k j (by omega)
theorem docA_eq {c : List Int} {n : Nat} {m : Int} (hn : n ≤ c.length) : ∀ j, j ≤ c.length → docA c n m j = appA m (expC c n) j
  | 0, _ => rfl
  | j + 1, h => by
    show docA c n m j + mn (docY c n j) (m - docA c n m j) = appA m (expC c n) j + mn (cAt (expC c n) j) (m - appA m (expC c n) j)
    rw [docA_eq hn j (by omega), expC_at c n hn j (by omega)]
theorem docX_at {c : List Int} {n : Nat} {m : Int} (hn : n ≤ c.length) : ∀ j, j ≤ c.length → ∀ i, i < j → cAt (docX c n m j) i = cAt (appC m (expC c n) j) i
  | j + 1, h, i, hi => by
    show cAt ((docX c n m j).set j (docY c n j - mn (docY c n j) (m - docA c n m j))) i = cAt ((appC m (expC c n) j).set j (cAt (expC c n) j - mn (cAt (expC c n) j) (m - appA m (expC c n) j))) i
    rw [cAt_set (by rw [docX_len]; omega), cAt_set (by rw [appC_len, expC_len]; omega), docA_eq hn j (by omega), expC_at c n hn j (by omega)]
    by_cases e : j = i
    · rw [if_pos e, if_pos e]
    · rw [if_neg e, if_neg e]; exact docX_at hn j (by omega) i (by omega)
theorem list_ext {a b : List Int} (hl : a.length = b.length) (h : ∀ i, i < a.length → cAt a i = cAt b i) : a = b := by
  refine List.ext_getElem? fun i => ?_
  by_cases e : i < a.length
  · rw [cAt_get e, cAt_get (by omega), h i e]
  · rw [List.getElem?_eq_none (by omega), List.getElem?_eq_none (by omega)]
theorem docX_all {c : List Int} {n : Nat} {m : Int} (hn : n ≤ c.length) : docX c n m c.length = appC m (expC c n) (expC c n).length := by
  rw [expC_len]
  refine list_ext (by rw [docX_len, appC_len, expC_len]) fun i hi => ?_
  rw [docX_len] at hi
  exact docX_at hn c.length (Nat.le_refl _) i hi
theorem docE_eq {c : List Int} {n : Nat} (hn : n ≤ c.length) : ∀ j, j ≤ c.length → docE c n j = (c.take (if j < n then j else n)).sum
  | 0, _ => by
    by_cases g : 0 < n
    · simp [docE, g]
    · have e : n = 0 := by omega
      subst e; simp [docE]
  | j + 1, h => by
    have ih := docE_eq hn j (by omega)
    show (if j < n then docE c n j + cAt c j else docE c n j) = _
    by_cases g : j < n
    · rw [if_pos g, ih, if_pos g]
      by_cases g' : j + 1 < n
      · rw [if_pos g', sum_take (by omega)]
      · rw [if_neg g', show n = j + 1 by omega, sum_take (by omega)]
    · rw [if_neg g, ih, if_neg g, if_neg (by omega)]
theorem docE_all {c : List Int} {n : Nat} (hn : n ≤ c.length) : docE c n c.length = (c.take n).sum := by
  rw [docE_eq hn _ (Nat.le_refl _)]
  by_cases g : c.length < n
  · omega
  · rw [if_neg g]
/-- what the document bills: the largest peak of those within the window -/
def docP (ps : List Per) (i : Nat) (q : Int) : Nat → Int
  | 0 => 0
  | j + 1 => if (i : Int) - j ≤ q then mx (docP ps i q j) (pAt ps j).pk else docP ps i q j
theorem docP_eq (ps : List Per) (i : Nat) (q : Int) : ∀ j, j ≤ i → docP ps i q j = pkR ps (from0 i q) (j - from0 i q)
  | 0, _ => by rw [Nat.zero_sub]; rfl
  | j + 1, h => by
    have ih := docP_eq ps i q j (by omega)
    show (if (i : Int) - j ≤ q then mx (docP ps i q j) (pAt ps j).pk else docP ps i q j) = _
    by_cases g : (i : Int) - j ≤ q
    · have hf : from0 i q ≤ j := by unfold from0; omega
      rw [if_pos g, ih, show j + 1 - from0 i q = (j - from0 i q) + 1 by omega]
      show _ = mx (pkR ps (from0 i q) (j - from0 i q)) (pAt ps (from0 i q + (j - from0 i q))).pk
      rw [show from0 i q + (j - from0 i q) = j by omega]
    · have hf : j < from0 i q := by unfold from0; omega
      rw [if_neg g, ih, show j + 1 - from0 i q = 0 by omega, show j - from0 i q = 0 by omega]
end Bil
end Go.Proofs.YtjaffmmocbplaabGreatDoor

namespace Go.Proofs.YtjaffmmocbplaabGreatDoor
open Go.RowKit Bil
set_option linter.unusedVariables false
attribute [local go_sem ↓] Go.wp_at_zero Go.wp_at_succ

theorem mills_any (n : Int) (w : World) (h0 : 0 ≤ n) (h1 : n ≤ 9000000000000000000) :
    Calls Tryz.prog 47 #[.int .i64 n] w fun e w' => e = .returned (.int .i64 (rnd n)) ∧ w' = w := by
  have ht : (n + 500).tdiv 1000 = rnd n := Int.tdiv_eq_ediv_of_nonneg (by omega)
  have hb := rnd_bd h0 h1
  go_enter Tryz.func47, Tryz.ntmps47
  go_wp2
  go_ret
  exact ⟨rfl, rfl⟩

set_option maxRecDepth 1000000 in
set_option maxHeartbeats 2000000 in
theorem refBilled_any (t : Trf) (ps : List Per) (v : Value) (i : Nat) (w : World) (h : PRow w v ps) (hi : i < ps.length) (hl : ps.length ≤ 40000) (ht : OkT t) (hp : ∀ k, okP (Bil.pAt ps k) 200) :
    Calls Tryz.prog 45 #[.agg #[.int .i64 t.z.off, .int .i64 t.z.f.m, .int .i64 t.z.f.w, .int .i64 t.z.f.d, .int .i64 t.z.f.h, .int .i64 t.z.t.m, .int .i64 t.z.t.w, .int .i64 t.z.t.d, .int .i64 t.z.t.h, .int .i64 t.days, .int .i64 t.gap, .int .i64 t.first, .int .i64 t.last, .string t.h0, .string t.h1, .string t.h2, .string t.h3, .int .i64 t.b0.x, .int .i64 t.b0.y, .int .i64 t.b0.z, .int .i64 t.b1.x, .int .i64 t.b1.y, .int .i64 t.b1.z, .int .i64 t.b2.x, .int .i64 t.b2.y, .int .i64 t.b2.z, .int .i64 t.d.x, .int .i64 t.d.y, .int .i64 t.d.z, .int .i64 t.np, .int .i64 t.nn, .int .i64 t.fix, .int .i64 t.min, .int .i64 t.tax], v, .int .i64 i] w fun e w' => e = .returned (.int .i64 (blOf t ps i)) ∧ Below w.heap.size w w' := by
  obtain ⟨a, cap, rfl⟩ := h.form
  have LB := lnB ht hp i
  have HPK : Hid (pkA ps i t.d.z = docP ps i t.d.z i) := (docP_eq ps i t.d.z i (Nat.le_refl _)).symm
  have b2 := LB.pm
  have b1 := LB.pk
  have HBL : Hid (blOf t ps i = mx (Bil.pAt ps i).pk (pkA ps i t.d.z * t.d.y / 100)) := rfl
  rw [HBL.out]
  rw [HPK.out] at b1 b2 ⊢
  have hq := ht.d
  have HP := hideF hp
  have HV := hideF h
  have DB : Hid (∀ j, 0 ≤ docP ps i t.d.z j ∧ docP ps i t.d.z j ≤ 4000000000) := by
    intro j
    induction j with
    | zero => show (0 : Int) ≤ 0 ∧ (0 : Int) ≤ 4000000000; omega
    | succ j ih =>
      have := HP.out j
      simp only [okP] at this
      have e : docP ps i t.d.z (j + 1) = if (i : Int) - j ≤ t.d.z then mx (docP ps i t.d.z j) (Bil.pAt ps j).pk else docP ps i t.d.z j := rfl
      rw [e]
      split
      · unfold mx; split <;> omega
      · exact ih
  clear LB ht hp h
  go_enter Tryz.func45, Tryz.ntmps45
  go_wp2_with fail
  obtain ⟨W0, hW0⟩ : ∃ W0, W0 = w.alloc (.cells #[.int .i64 t.z.off, .int .i64 t.z.f.m, .int .i64 t.z.f.w, .int .i64 t.z.f.d, .int .i64 t.z.f.h, .int .i64 t.z.t.m, .int .i64 t.z.t.w, .int .i64 t.z.t.d, .int .i64 t.z.t.h, .int .i64 t.days, .int .i64 t.gap, .int .i64 t.first, .int .i64 t.last, .string t.h0, .string t.h1, .string t.h2, .string t.h3, .int .i64 t.b0.x, .int .i64 t.b0.y, .int .i64 t.b0.z, .int .i64 t.b1.x, .int .i64 t.b1.y, .int .i64 t.b1.z, .int .i64 t.b2.x, .int .i64 t.b2.y, .int .i64 t.b2.z, .int .i64 t.d.x, .int .i64 t.d.y, .int .i64 t.d.z, .int .i64 t.np, .int .i64 t.nn, .int .i64 t.fix, .int .i64 t.min, .int .i64 t.tax] 67) := ⟨_, rfl⟩
  have HW0 := hideF hW0
  have B0 : Below w.heap.size w W0 := by rw [hW0]; exact below_more (Below.refl _ _) _
  have R0 : W0.heap[w.heap.size]? = some (.cells #[.int .i64 t.z.off, .int .i64 t.z.f.m, .int .i64 t.z.f.w, .int .i64 t.z.f.d, .int .i64 t.z.f.h, .int .i64 t.z.t.m, .int .i64 t.z.t.w, .int .i64 t.z.t.d, .int .i64 t.z.t.h, .int .i64 t.days, .int .i64 t.gap, .int .i64 t.first, .int .i64 t.last, .string t.h0, .string t.h1, .string t.h2, .string t.h3, .int .i64 t.b0.x, .int .i64 t.b0.y, .int .i64 t.b0.z, .int .i64 t.b1.x, .int .i64 t.b1.y, .int .i64 t.b1.z, .int .i64 t.b2.x, .int .i64 t.b2.y, .int .i64 t.b2.z, .int .i64 t.d.x, .int .i64 t.d.y, .int .i64 t.d.z, .int .i64 t.np, .int .i64 t.nn, .int .i64 t.fix, .int .i64 t.min, .int .i64 t.tax] 67) := by rw [hW0]; exact heap_alloc_new _ _
  have z0 : W0.heap.size = w.heap.size + 1 := by rw [hW0]; simp
  have T1 : W0.cell? ⟨w.heap.size, 27, none⟩ = some (.int .i64 t.d.y) := cell_of_row _ _ _ _ _ _ R0
  have T2 : W0.cell? ⟨w.heap.size, 28, none⟩ = some (.int .i64 t.d.z) := cell_of_row _ _ _ _ _ _ R0
  clear hW0 R0
  go_loopw [7, 8] (fun x p wr => ∃ j : Nat, p = .int .i64 j ∧ j ≤ i ∧ x = .int .i64 (docP ps i t.d.z j) ∧ wr = W0) (fun _ p _ => i - (intOf p).toNat)
  case atStart => exact ⟨0, rfl, by omega, rfl, by rw [HW0.out]⟩
  case round =>
    obtain ⟨j, rfl, hj, rfl, hwr⟩ := hrel
    subst hwr
    have db := DB.out j
    by_cases hlt : j < i
    · have hlt' : (j : Int) < (i : Int) := by omega
      have hj0 : (0 : Int) ≤ (j : Int) := by omega
      have hj1 : (j : Int) < (ps.length : Int) := by omega
      obtain ⟨b, rfl, hcap, hblt, c0, c1, c2, c3, c4'⟩ := (HV.out.below B0).at (pAt_get (show j < ps.length by omega))
      have hcap' : (ps.length : Int) ≤ (cap : Int) := by omega
      have HS : Hid (docP ps i t.d.z (j + 1) = if (i : Int) - j ≤ t.d.z then mx (docP ps i t.d.z j) (Bil.pAt ps j).pk else docP ps i t.d.z j) := rfl
      obtain ⟨M, hM⟩ : ∃ M, M = docP ps i t.d.z j := ⟨_, rfl⟩
      rw [← hM] at HS db
      rw [← hM]
      obtain ⟨PJ, hPJ⟩ : ∃ PJ, PJ = (Bil.pAt ps j).pk := ⟨_, rfl⟩
      rw [← hPJ] at HS c4'
      have c4 := c4'
      clear hM hPJ c0 c1 c2 c3 c4'
      by_cases hw : (i : Int) - j ≤ t.d.z
      · by_cases hg : M < PJ
        all_goals
          go_wp2_with fail
          go_roundw
          case rel => exact ⟨j + 1, by go_num, by omega, by rw [HS.out, if_pos hw]; unfold mx; congr 1; split <;> omega, by first | rfl | trivial⟩
          case measure => simp [intOf]; omega
      · go_wp2_with fail
        go_roundw
        case rel => exact ⟨j + 1, by go_num, by omega, by rw [HS.out, if_neg hw], by first | rfl | trivial⟩
        case measure => simp [intOf]; omega
    · have hlt' : ¬ (j : Int) < (i : Int) := by omega
      have hje : j = i := by omega
      obtain ⟨b, rfl, hcap, hblt, c0, c1, c2, c3, c4'⟩ := (HV.out.below B0).at (pAt_get (show i < ps.length by omega))
      have hcap' : (ps.length : Int) ≤ (cap : Int) := by omega
      have hi0 : (0 : Int) ≤ (i : Int) := by omega
      have hi1 : (i : Int) < (ps.length : Int) := by omega
      have eM : docP ps i t.d.z j = docP ps i t.d.z i := by rw [hje]
      rw [eM]
      obtain ⟨M, hM⟩ : ∃ M, M = docP ps i t.d.z i := ⟨_, rfl⟩
      rw [← hM] at b1 b2
      rw [← hM]
      have HM := hideF hM
      have htd : (M * t.d.y).tdiv 100 = M * t.d.y / 100 := Int.tdiv_eq_ediv_of_nonneg b2.1
      obtain ⟨PJ, hPJ⟩ : ∃ PJ, PJ = (Bil.pAt ps i).pk := ⟨_, rfl⟩
      rw [← hPJ] at c4'
      have c4 := c4'
      clear eM hM hje c0 c1 c2 c3 c4'
      by_cases hg : M * t.d.y / 100 < PJ
      all_goals
        go_wp2_with fail
        go_ret
        exact ⟨ret_int (by rw [← hPJ, ← HM.out]; unfold mx; split <;> omega), B0⟩

set_option maxRecDepth 1000000 in
set_option maxHeartbeats 2000000 in
theorem refEnergy_any (t : Trf) (p : Per) (w : World) (ht : OkT t) (hp : okP p 200) :
    Calls Tryz.prog 46 #[.agg #[.int .i64 t.z.off, .int .i64 t.z.f.m, .int .i64 t.z.f.w, .int .i64 t.z.f.d, .int .i64 t.z.f.h, .int .i64 t.z.t.m, .int .i64 t.z.t.w, .int .i64 t.z.t.d, .int .i64 t.z.t.h, .int .i64 t.days, .int .i64 t.gap, .int .i64 t.first, .int .i64 t.last, .string t.h0, .string t.h1, .string t.h2, .string t.h3, .int .i64 t.b0.x, .int .i64 t.b0.y, .int .i64 t.b0.z, .int .i64 t.b1.x, .int .i64 t.b1.y, .int .i64 t.b1.z, .int .i64 t.b2.x, .int .i64 t.b2.y, .int .i64 t.b2.z, .int .i64 t.d.x, .int .i64 t.d.y, .int .i64 t.d.z, .int .i64 t.np, .int .i64 t.nn, .int .i64 t.fix, .int .i64 t.min, .int .i64 t.tax], .agg #[.int .i64 p.i0, .int .i64 p.i1, .int .i64 p.i2, .int .i64 p.o, .int .i64 p.pk]] w fun e w' => e = .returned (.int .i64 (enOf t p)) ∧ Below w.heap.size w w' := by
  have BD := hideF (fun k (hk : k ≤ 3) => prK_bd ht hp k hk)
  have CK := hideF (fun k => cls_ok ht hp k)
  have HE : Hid (enOf t p = prK t p 3) := rfl
  rw [HE.out]
  clear ht hp
  go_enter Tryz.func46, Tryz.ntmps46
  go_wp2_with fail
  obtain ⟨W0, hW0⟩ : ∃ W0, W0 = (w.alloc (.cells #[.int .i64 t.z.off, .int .i64 t.z.f.m, .int .i64 t.z.f.w, .int .i64 t.z.f.d, .int .i64 t.z.f.h, .int .i64 t.z.t.m, .int .i64 t.z.t.w, .int .i64 t.z.t.d, .int .i64 t.z.t.h, .int .i64 t.days, .int .i64 t.gap, .int .i64 t.first, .int .i64 t.last, .string t.h0, .string t.h1, .string t.h2, .string t.h3, .int .i64 t.b0.x, .int .i64 t.b0.y, .int .i64 t.b0.z, .int .i64 t.b1.x, .int .i64 t.b1.y, .int .i64 t.b1.z, .int .i64 t.b2.x, .int .i64 t.b2.y, .int .i64 t.b2.z, .int .i64 t.d.x, .int .i64 t.d.y, .int .i64 t.d.z, .int .i64 t.np, .int .i64 t.nn, .int .i64 t.fix, .int .i64 t.min, .int .i64 t.tax] 67)).alloc (.cells #[.int .i64 p.i0, .int .i64 p.i1, .int .i64 p.i2, .int .i64 p.o, .int .i64 p.pk] 117) := ⟨_, rfl⟩
  have HW0 := hideF hW0
  have B0 : Below w.heap.size w W0 := by rw [hW0]; exact below_more (below_more (Below.refl _ _) _) _
  have z0 : W0.heap.size = w.heap.size + 2 := by rw [hW0]; simp
  have R0 : W0.heap[w.heap.size]? = some (.cells #[.int .i64 t.z.off, .int .i64 t.z.f.m, .int .i64 t.z.f.w, .int .i64 t.z.f.d, .int .i64 t.z.f.h, .int .i64 t.z.t.m, .int .i64 t.z.t.w, .int .i64 t.z.t.d, .int .i64 t.z.t.h, .int .i64 t.days, .int .i64 t.gap, .int .i64 t.first, .int .i64 t.last, .string t.h0, .string t.h1, .string t.h2, .string t.h3, .int .i64 t.b0.x, .int .i64 t.b0.y, .int .i64 t.b0.z, .int .i64 t.b1.x, .int .i64 t.b1.y, .int .i64 t.b1.z, .int .i64 t.b2.x, .int .i64 t.b2.y, .int .i64 t.b2.z, .int .i64 t.d.x, .int .i64 t.d.y, .int .i64 t.d.z, .int .i64 t.np, .int .i64 t.nn, .int .i64 t.fix, .int .i64 t.min, .int .i64 t.tax] 67) := by rw [hW0]; exact (heap_alloc_old _ _ (by simp)).trans (heap_alloc_new _ _)
  have CI : Hid (∀ k, k < 3 → W0.cell? ⟨w.heap.size + 1, k, none⟩ = some (.int .i64 (clsI p k))) := fun k hk => by
    rw [hW0]; rcases (by omega : k = 0 ∨ k = 1 ∨ k = 2) with rfl | rfl | rfl <;> simp [go_sem, clsI]
  have CB : Hid (∀ k, k < 3 → W0.cell? ⟨w.heap.size, 17 + k * 3, none⟩ = some (.int .i64 (clsB2 t k).x) ∧ W0.cell? ⟨w.heap.size, 17 + k * 3 + 1, none⟩ = some (.int .i64 (clsB2 t k).y) ∧ W0.cell? ⟨w.heap.size, 17 + k * 3 + 2, none⟩ = some (.int .i64 (clsB2 t k).z)) := fun k hk => by
    rcases (by omega : k = 0 ∨ k = 1 ∨ k = 2) with rfl | rfl | rfl <;> exact ⟨cell_of_row _ _ _ _ _ _ R0, cell_of_row _ _ _ _ _ _ R0, cell_of_row _ _ _ _ _ _ R0⟩
  clear hW0 R0
  go_loopw [5, 6] (fun x i wr => ∃ k : Nat, i = .int .i64 k ∧ k ≤ 3 ∧ x = .int .i64 (prK t p k) ∧ Below W0.heap.size W0 wr) (fun _ i _ => 3 - (intOf i).toNat)
  case atStart => exact ⟨0, rfl, by omega, rfl, by rw [HW0.out]; exact Below.refl _ _⟩
  case round =>
    obtain ⟨k, rfl, hk, rfl, hb⟩ := hrel
    have S0 := BD.out k hk
    by_cases hlt : k < 3
    · have hlt' : (k : Int) < 3 := by omega
      have hk0 : (0 : Int) ≤ (k : Int) := by omega
      have c0 := vcell_below hb (show w.heap.size + 1 < W0.heap.size by omega) (CI.out k hlt)
      obtain ⟨d0', d1', d2'⟩ := CB.out k hlt
      have d0 := vcell_below hb (show w.heap.size < W0.heap.size by omega) d0'
      have d1 := vcell_below hb (show w.heap.size < W0.heap.size by omega) d1'
      have d2 := vcell_below hb (show w.heap.size < W0.heap.size by omega) d2'
      clear d0' d1' d2'
      have HS : Hid (prK t p (k + 1) = prK t p k + rnd (mn (clsI p k) (clsB2 t k).x * (clsB2 t k).y) + rnd ((clsI p k - mn (clsI p k) (clsB2 t k).x) * (clsB2 t k).z)) := prK_succ t p hlt
      obtain ⟨ki, km, kl, kh, klp, khp⟩ := CK.out k
      unfold lowP at klp
      unfold hiP at khp
      obtain ⟨X, hX⟩ : ∃ X, X = clsI p k := ⟨_, rfl⟩
      obtain ⟨Q, hQ⟩ : ∃ Q, Q = clsB2 t k := ⟨_, rfl⟩
      rw [← hX] at c0 HS ki km kl kh klp khp
      rw [← hQ] at d0 d1 d2 HS km kl kh klp khp
      obtain ⟨qx, qy, qz⟩ := Q
      simp only at d0 d1 d2 HS km kl kh klp khp
      obtain ⟨Y, hY⟩ : ∃ Y, Y = prK t p k := ⟨_, rfl⟩
      rw [← hY] at S0 HS
      rw [← hY]
      clear hX hQ hY
      by_cases hg : qx < X
      · have em : mn X qx = qx := by unfold mn; split <;> omega
        rw [em] at HS km kl kh klp khp
        have u1 := kl.1
        have u2 : qx * qy ≤ 9000000000000000000 := by omega
        have u3 := kh.1
        have u4 : (X - qx) * qz ≤ 9000000000000000000 := by omega
        have kw1 : IntKind.i64.wrap (X - qx) = X - qx := Go.IntWalk.i64_in _ (by omega)
        have kw2 : IntKind.i64.wrap ((X - qx) * qz) = (X - qx) * qz := Go.IntWalk.i64_in _ (by omega)
        have kw4 : IntKind.i64.wrap (qx * qy) = qx * qy := Go.IntWalk.i64_in _ (by omega)
        have kw5 : IntKind.i64.wrap (Y + rnd (qx * qy)) = Y + rnd (qx * qy) := Go.IntWalk.i64_in _ (by omega)
        have kw3 : IntKind.i64.wrap (Y + rnd (qx * qy) + rnd ((X - qx) * qz)) = Y + rnd (qx * qy) + rnd ((X - qx) * qz) := Go.IntWalk.i64_in _ (by omega)
        clear em
        go_wp2_with fail
        go_quiet ((go_at_call 47; exact Calls.quiet_of_same (mills_any _ _ (by assumption) (by assumption))))
        go_wp2_with fail
        go_roundw
        case rel => exact ⟨k + 1, by go_num, by omega, by rw [HS.out], by first | exact hb | exact below_drewN hb _⟩
        case measure => simp [intOf]; omega
      · have em : mn X qx = X := by unfold mn; split <;> omega
        rw [em] at HS km kl kh klp khp
        have ez : X - X = 0 := by omega
        have u1 := kl.1
        have u2 : X * qy ≤ 9000000000000000000 := by omega
        have u3 : (0 : Int) ≤ 0 := by omega
        have u4 : (0 : Int) ≤ 9000000000000000000 := by omega
        have er : rnd ((X - X) * qz) = 0 := by rw [ez, Int.zero_mul]; rfl
        have er0 : rnd 0 = 0 := rfl
        rw [er] at HS
        have kw0 : IntKind.i64.wrap 0 = 0 := rfl
        have kw4 : IntKind.i64.wrap (X * qy) = X * qy := Go.IntWalk.i64_in _ (by omega)
        have kw5 : IntKind.i64.wrap (Y + rnd (X * qy)) = Y + rnd (X * qy) := Go.IntWalk.i64_in _ (by omega)
        clear em ez er
        go_wp2_with fail
        go_quiet ((go_at_call 47; exact Calls.quiet_of_same (mills_any _ _ (by assumption) (by assumption))))
        go_wp2_with fail
        go_roundw
        case rel => exact ⟨k + 1, by go_num, by omega, by rw [HS.out]; simp, by first | exact hb | exact below_drewN hb _⟩
        case measure => simp [intOf]; omega
    · have hlt' : ¬ (k : Int) < 3 := by omega
      have hke : k = 3 := by omega
      have HK := hideF hke
      clear hke
      go_wp2_with fail
      go_ret
      exact ⟨ret_int (by rw [HK.out]), below_then B0 hb⟩

end Go.Proofs.YtjaffmmocbplaabGreatDoor

namespace Go.Proofs.YtjaffmmocbplaabGreatDoor
open Go.RowKit Bil
set_option linter.unusedVariables false

/-- the line under way, in block b -/
def RR (w : World) (b : Nat) (x : Ln) : Prop := w.heap[b]? = some (.cells #[.int .i64 x.i0, .int .i64 x.i1, .int .i64 x.i2, .int .i64 x.o, .int .i64 x.pk, .int .i64 x.bl, .int .i64 x.en, .int .i64 x.pw, .int .i64 x.ap, .int .i64 x.ex, .int .i64 x.pd, .int .i64 x.bk, .int .i64 x.su, .int .i64 x.tx, .int .i64 x.to] 118 (0, 0))
theorem RR.put {w : World} {b : Nat} {x : Ln} (h : RR w b x) (j : Nat) (u : Value) : (w.setCell ⟨b, j, none⟩ u).heap[b]? = some (.cells ((#[.int .i64 x.i0, .int .i64 x.i1, .int .i64 x.i2, .int .i64 x.o, .int .i64 x.pk, .int .i64 x.bl, .int .i64 x.en, .int .i64 x.pw, .int .i64 x.ap, .int .i64 x.ex, .int .i64 x.pd, .int .i64 x.bk, .int .i64 x.su, .int .i64 x.tx, .int .i64 x.to] : Array Value).setIfInBounds j u) 118 (0, 0)) := heap_setCell_same w b j _ _ u h
theorem RR.lt {w : World} {b : Nat} {x : Ln} (h : RR w b x) : b < w.heap.size := (Array.getElem?_eq_some_iff.1 h).1
theorem RR.frz {w : World} {b : Nat} {x : Ln} (h : RR w b x) (j : Nat) : w.frozen? ⟨b, j, none⟩ = false := frozen_of_row _ _ _ _ _ h
theorem RR.c0 {w : World} {b : Nat} {x : Ln} (h : RR w b x) : w.cell? ⟨b, 0, none⟩ = some (.int .i64 x.i0) := cell_of_row _ _ _ _ _ _ h
theorem RR.c1 {w : World} {b : Nat} {x : Ln} (h : RR w b x) : w.cell? ⟨b, 1, none⟩ = some (.int .i64 x.i1) := cell_of_row _ _ _ _ _ _ h
theorem RR.c2 {w : World} {b : Nat} {x : Ln} (h : RR w b x) : w.cell? ⟨b, 2, none⟩ = some (.int .i64 x.i2) := cell_of_row _ _ _ _ _ _ h
theorem RR.c3 {w : World} {b : Nat} {x : Ln} (h : RR w b x) : w.cell? ⟨b, 3, none⟩ = some (.int .i64 x.o) := cell_of_row _ _ _ _ _ _ h
theorem RR.c4 {w : World} {b : Nat} {x : Ln} (h : RR w b x) : w.cell? ⟨b, 4, none⟩ = some (.int .i64 x.pk) := cell_of_row _ _ _ _ _ _ h
theorem RR.c5 {w : World} {b : Nat} {x : Ln} (h : RR w b x) : w.cell? ⟨b, 5, none⟩ = some (.int .i64 x.bl) := cell_of_row _ _ _ _ _ _ h
theorem RR.bl {w : World} {b : Nat} {x : Ln} (h : RR w b x) (v : Int) : RR (w.setCell ⟨b, 5, none⟩ (.int .i64 v)) b { x with bl := v } := h.put 5 _
theorem RR.c6 {w : World} {b : Nat} {x : Ln} (h : RR w b x) : w.cell? ⟨b, 6, none⟩ = some (.int .i64 x.en) := cell_of_row _ _ _ _ _ _ h
theorem RR.en {w : World} {b : Nat} {x : Ln} (h : RR w b x) (v : Int) : RR (w.setCell ⟨b, 6, none⟩ (.int .i64 v)) b { x with en := v } := h.put 6 _
theorem RR.c7 {w : World} {b : Nat} {x : Ln} (h : RR w b x) : w.cell? ⟨b, 7, none⟩ = some (.int .i64 x.pw) := cell_of_row _ _ _ _ _ _ h
theorem RR.pw {w : World} {b : Nat} {x : Ln} (h : RR w b x) (v : Int) : RR (w.setCell ⟨b, 7, none⟩ (.int .i64 v)) b { x with pw := v } := h.put 7 _
theorem RR.c8 {w : World} {b : Nat} {x : Ln} (h : RR w b x) : w.cell? ⟨b, 8, none⟩ = some (.int .i64 x.ap) := cell_of_row _ _ _ _ _ _ h
theorem RR.ap {w : World} {b : Nat} {x : Ln} (h : RR w b x) (v : Int) : RR (w.setCell ⟨b, 8, none⟩ (.int .i64 v)) b { x with ap := v } := h.put 8 _
theorem RR.c9 {w : World} {b : Nat} {x : Ln} (h : RR w b x) : w.cell? ⟨b, 9, none⟩ = some (.int .i64 x.ex) := cell_of_row _ _ _ _ _ _ h
theorem RR.ex {w : World} {b : Nat} {x : Ln} (h : RR w b x) (v : Int) : RR (w.setCell ⟨b, 9, none⟩ (.int .i64 v)) b { x with ex := v } := h.put 9 _
theorem RR.c10 {w : World} {b : Nat} {x : Ln} (h : RR w b x) : w.cell? ⟨b, 10, none⟩ = some (.int .i64 x.pd) := cell_of_row _ _ _ _ _ _ h
theorem RR.pd {w : World} {b : Nat} {x : Ln} (h : RR w b x) (v : Int) : RR (w.setCell ⟨b, 10, none⟩ (.int .i64 v)) b { x with pd := v } := h.put 10 _
theorem RR.c11 {w : World} {b : Nat} {x : Ln} (h : RR w b x) : w.cell? ⟨b, 11, none⟩ = some (.int .i64 x.bk) := cell_of_row _ _ _ _ _ _ h
theorem RR.bk {w : World} {b : Nat} {x : Ln} (h : RR w b x) (v : Int) : RR (w.setCell ⟨b, 11, none⟩ (.int .i64 v)) b { x with bk := v } := h.put 11 _
theorem RR.c12 {w : World} {b : Nat} {x : Ln} (h : RR w b x) : w.cell? ⟨b, 12, none⟩ = some (.int .i64 x.su) := cell_of_row _ _ _ _ _ _ h
theorem RR.su {w : World} {b : Nat} {x : Ln} (h : RR w b x) (v : Int) : RR (w.setCell ⟨b, 12, none⟩ (.int .i64 v)) b { x with su := v } := h.put 12 _
theorem RR.c13 {w : World} {b : Nat} {x : Ln} (h : RR w b x) : w.cell? ⟨b, 13, none⟩ = some (.int .i64 x.tx) := cell_of_row _ _ _ _ _ _ h
theorem RR.tx {w : World} {b : Nat} {x : Ln} (h : RR w b x) (v : Int) : RR (w.setCell ⟨b, 13, none⟩ (.int .i64 v)) b { x with tx := v } := h.put 13 _
theorem RR.c14 {w : World} {b : Nat} {x : Ln} (h : RR w b x) : w.cell? ⟨b, 14, none⟩ = some (.int .i64 x.to) := cell_of_row _ _ _ _ _ _ h
theorem RR.to {w : World} {b : Nat} {x : Ln} (h : RR w b x) (v : Int) : RR (w.setCell ⟨b, 14, none⟩ (.int .i64 v)) b { x with to := v } := h.put 14 _

/-- the state of the document's Bill within a round: the line in block B, the credits cv, the lines so far fv -/
structure BSt (w1 : World) (B k m : Nat) (cv fv : Value) (ls : List Ln) (wi : World) (x : Ln) (c : List Int) : Prop where
  n : RR wi B x
  c : wi.ownsRow w1.heap.size 3 1 cv m (ints c)
  f : wi.ownsRow w1.heap.size 118 15 fv k (lcs ls)
  b : Below w1.heap.size w1 wi
  hB : w1.heap.size ≤ B
theorem BSt.nc {w1 wi : World} {B k m : Nat} {cv fv : Value} {ls : List Ln} {x : Ln} {c : List Int} (h : BSt w1 B k m cv fv ls wi x c) : cv.ownBlock ≠ some B := by
  intro hk
  obtain ⟨cc, z, q⟩ := Lib.ownsRow_kind h.c B hk
  rw [show wi.heap[B]? = _ from h.n] at q
  injection q with q
  injection q with _ q _
  exact absurd q (by decide)
theorem BSt.fc {w1 wi : World} {B k m : Nat} {cv fv : Value} {ls : List Ln} {x : Ln} {c : List Int} (h : BSt w1 B k m cv fv ls wi x c) : ∀ g, cv.ownBlock = some g → fv.ownBlock ≠ some g := own_apart h.c h.f (by decide)
theorem BSt.below {w1 wi w' : World} {B k m : Nat} {cv fv : Value} {ls : List Ln} {x : Ln} {c : List Int} (h : BSt w1 B k m cv fv ls wi x c) (hb : Below wi.heap.size wi w') : BSt w1 B k m cv fv ls w' x c :=
  ⟨(hb.block B h.n.lt).trans h.n, own_below h.c hb, own_below h.f hb, below_then h.b hb, h.hB⟩
theorem BSt.drewN {w1 wi : World} {B k m : Nat} {cv fv : Value} {ls : List Ln} {x : Ln} {c : List Int} (h : BSt w1 B k m cv fv ls wi x c) (n : Nat) : BSt w1 B k m cv fv ls (wi.drewN n) x c := h.below (below_drewN (Below.refl _ _) n)
theorem BSt.drew {w1 wi : World} {B k m : Nat} {cv fv : Value} {ls : List Ln} {x : Ln} {c : List Int} (h : BSt w1 B k m cv fv ls wi x c) : BSt w1 B k m cv fv ls wi.drew x c := h.below (Below.drew (Below.refl _ _))
theorem BSt.set {w1 wi : World} {B k m : Nat} {cv fv : Value} {ls : List Ln} {x x' : Ln} {c : List Int} (h : BSt w1 B k m cv fv ls wi x c) (hf : fv.ownBlock ≠ some B) (j : Nat) (u : Value) (hn : RR (wi.setCell ⟨B, j, none⟩ u) B x') : BSt w1 B k m cv fv ls (wi.setCell ⟨B, j, none⟩ u) x' c :=
  ⟨hn, own_far h.c h.nc j u, own_far h.f hf j u, Below.setCell h.b h.hB _, h.hB⟩
/-- the credit at j, and its place -/
theorem BSt.at {w1 wi : World} {B k m : Nat} {cv fv : Value} {ls : List Ln} {x : Ln} {c : List Int} (h : BSt w1 B k m cv fv ls wi x c) (hn : c.length = m) {j : Nat} (hj : j < m) :
    ∃ g cap, cv = .slice (some ⟨g, 0, none⟩) m cap ∧ m ≤ cap ∧ g < wi.heap.size ∧ w1.heap.size ≤ g ∧ ¬ g = B ∧ wi.cell? ⟨g, j, none⟩ = some (.int .i64 (cAt c j)) ∧ wi.frozen? ⟨g, j, none⟩ = false := by
  have own := h.c
  obtain ⟨g, cap, rfl, hb, hlt⟩ := own.form (by omega)
  have hcap : m ≤ cap := by
    rcases own.2 with ⟨h1, _⟩ | ⟨g', cap', cur, hv, _, _, hc, _⟩
    · cases h1
    · cases hv; exact hc
  refine ⟨g, cap, rfl, hcap, hlt, hb, fun e => h.nc (by rw [e]; rfl), ?_, own.frozenAt j⟩
  rw [own.cellAt j (by omega), ints_get (by omega)]
theorem BSt.put {w1 wi : World} {B k m g cap : Nat} {fv : Value} {ls : List Ln} {x : Ln} {c : List Int} (h : BSt w1 B k m (.slice (some ⟨g, 0, none⟩) m cap) fv ls wi x c) (hg : ¬ g = B) (hgb : w1.heap.size ≤ g) (j : Nat) (v : Int) :
    BSt w1 B k m (.slice (some ⟨g, 0, none⟩) m cap) fv ls (wi.setCell ⟨g, j, none⟩ (.int .i64 v)) x (c.set j v) := by
  obtain ⟨s1, s2⟩ := h.c.stored j (.int .i64 v)
  refine ⟨?_, ?_, own_far h.f (h.fc g rfl) j _, Below.setCell h.b hgb _, h.hB⟩
  · have e : (wi.setCell ⟨g, j, none⟩ (.int .i64 v)).heap[B]? = wi.heap[B]? := s2.block B h.n.lt (fun e => hg (by injection e with e; exact e.symm))
    exact e.trans h.n
  · have : ints (c.set j v) = (ints c).set j (.int .i64 v) := by simp [ints, List.map_set]
    rw [this]; exact s1
theorem BSt.app {w1 wi w' : World} {B k m m' : Nat} {cv cv' fv : Value} {ls : List Ln} {x : Ln} {c c' : List Int} (h : BSt w1 B k m cv fv ls wi x c) (o : Obj) (g : (wi.alloc o).grownBy w' cv.ownBlock) (own : w'.ownsRow w1.heap.size 3 1 cv' m' (ints c')) : BSt w1 B k m' cv' fv ls w' x c' := by
  have hz := h.b.size
  refine ⟨?_, own, (own_below h.f (below_more (Below.refl _ _) o)).kept g (own_ne' h.fc), Below.grown (below_more h.b o) g (by simp; omega) (fun j hj => (h.c.lt j hj).1), h.hB⟩
  exact ((g.block B (by have := h.n.lt; simp; omega) (fun e => h.nc e.symm)).trans (heap_alloc_old _ _ h.n.lt)).trans h.n
theorem set_self {c : List Int} {j : Nat} {v : Int} (hj : j < c.length) (h : cAt c j = v) : c.set j v = c := by
  refine list_ext (by rw [List.length_set]) fun i hi => ?_
  rw [cAt_set hj]
  by_cases e : j = i
  · rw [if_pos e, ← h, e]
  · rw [if_neg e]
/-- the document's tariff, in block b -/
def UR (w : World) (b : Nat) (t : Trf) : Prop := w.heap[b]? = some (.cells #[.int .i64 t.z.off, .int .i64 t.z.f.m, .int .i64 t.z.f.w, .int .i64 t.z.f.d, .int .i64 t.z.f.h, .int .i64 t.z.t.m, .int .i64 t.z.t.w, .int .i64 t.z.t.d, .int .i64 t.z.t.h, .int .i64 t.days, .int .i64 t.gap, .int .i64 t.first, .int .i64 t.last, .string t.h0, .string t.h1, .string t.h2, .string t.h3, .int .i64 t.b0.x, .int .i64 t.b0.y, .int .i64 t.b0.z, .int .i64 t.b1.x, .int .i64 t.b1.y, .int .i64 t.b1.z, .int .i64 t.b2.x, .int .i64 t.b2.y, .int .i64 t.b2.z, .int .i64 t.d.x, .int .i64 t.d.y, .int .i64 t.d.z, .int .i64 t.np, .int .i64 t.nn, .int .i64 t.fix, .int .i64 t.min, .int .i64 t.tax] 67)
theorem UR.c26 {w : World} {b : Nat} {t : Trf} (h : UR w b t) : w.cell? ⟨b, 26, none⟩ = some (.int .i64 t.d.x) := cell_of_row _ _ _ _ _ _ h
theorem UR.c29 {w : World} {b : Nat} {t : Trf} (h : UR w b t) : w.cell? ⟨b, 29, none⟩ = some (.int .i64 t.np) := cell_of_row _ _ _ _ _ _ h
theorem UR.c30 {w : World} {b : Nat} {t : Trf} (h : UR w b t) : w.cell? ⟨b, 30, none⟩ = some (.int .i64 t.nn) := cell_of_row _ _ _ _ _ _ h
theorem UR.c31 {w : World} {b : Nat} {t : Trf} (h : UR w b t) : w.cell? ⟨b, 31, none⟩ = some (.int .i64 t.fix) := cell_of_row _ _ _ _ _ _ h
theorem UR.c32 {w : World} {b : Nat} {t : Trf} (h : UR w b t) : w.cell? ⟨b, 32, none⟩ = some (.int .i64 t.min) := cell_of_row _ _ _ _ _ _ h
theorem UR.c33 {w : World} {b : Nat} {t : Trf} (h : UR w b t) : w.cell? ⟨b, 33, none⟩ = some (.int .i64 t.tax) := cell_of_row _ _ _ _ _ _ h
end Go.Proofs.YtjaffmmocbplaabGreatDoor
