/-
  The document's Bill: the walk (made by tools/genrbx.py).
-/
import Derived.Test.YtjaffmmocbplaabGreatDoorJ21
import Derived.Test.YtjaffmmocbplaabGreatDoorJSpsX
namespace Go.Proofs.YtjaffmmocbplaabGreatDoor.bills
open Go.RowKit Bil
set_option linter.unusedVariables false
attribute [local go_sem ↓] Go.wp_at_zero Go.wp_at_succ

set_option maxRecDepth 1000000 in
set_option maxHeartbeats 2000000 in
theorem refBill_no (t : Trf) (step start : Int) (v : Value) (l : List Txt.Val) (w : World) (h : VRow w v l) (s0 : t.h0.size ≤ maxLen) (s1 : t.h1.size ≤ maxLen) (s2 : t.h2.size ≤ maxLen) (s3 : t.h3.size ≤ maxLen) (hne : ¬ spE t step start l = 0) :
    Calls Tryz.prog 13 #[.agg #[.int .i64 step, .int .i64 start, v], .agg #[.int .i64 t.z.off, .int .i64 t.z.f.m, .int .i64 t.z.f.w, .int .i64 t.z.f.d, .int .i64 t.z.f.h, .int .i64 t.z.t.m, .int .i64 t.z.t.w, .int .i64 t.z.t.d, .int .i64 t.z.t.h, .int .i64 t.days, .int .i64 t.gap, .int .i64 t.first, .int .i64 t.last, .string t.h0, .string t.h1, .string t.h2, .string t.h3, .int .i64 t.b0.x, .int .i64 t.b0.y, .int .i64 t.b0.z, .int .i64 t.b1.x, .int .i64 t.b1.y, .int .i64 t.b1.z, .int .i64 t.b2.x, .int .i64 t.b2.y, .int .i64 t.b2.z, .int .i64 t.d.x, .int .i64 t.d.y, .int .i64 t.d.z, .int .i64 t.np, .int .i64 t.nn, .int .i64 t.fix, .int .i64 t.min, .int .i64 t.tax]] w fun e w' => e = .returned (.tuple #[.slice none 0 0, .int .i64 (spE t step start l), .int .i64 (spA t step start l)]) ∧ Below w.heap.size w w' := by
  have sp := fun w1 (hb : Below w.heap.size w w1) => splits.refSplit_any t step start v l w1 (h.below hb) s0 s1 s2 s3
  obtain ⟨a, cap, rfl⟩ := h.form
  rw [sp_no hne] at sp
  obtain ⟨E, hE⟩ : ∃ E, E = spE t step start l := ⟨_, rfl⟩
  obtain ⟨A, hA⟩ : ∃ A, A = spA t step start l := ⟨_, rfl⟩
  rw [← hE, ← hA] at sp
  rw [← hE] at hne
  rw [← hE, ← hA]
  have hEB : (E != 0) = true := by simpa using hne
  have B0 : Below w.heap.size w ((w.alloc (.cells #[.int .i64 step, .int .i64 start, .slice a l.length cap] 56)).alloc (.cells #[.int .i64 t.z.off, .int .i64 t.z.f.m, .int .i64 t.z.f.w, .int .i64 t.z.f.d, .int .i64 t.z.f.h, .int .i64 t.z.t.m, .int .i64 t.z.t.w, .int .i64 t.z.t.d, .int .i64 t.z.t.h, .int .i64 t.days, .int .i64 t.gap, .int .i64 t.first, .int .i64 t.last, .string t.h0, .string t.h1, .string t.h2, .string t.h3, .int .i64 t.b0.x, .int .i64 t.b0.y, .int .i64 t.b0.z, .int .i64 t.b1.x, .int .i64 t.b1.y, .int .i64 t.b1.z, .int .i64 t.b2.x, .int .i64 t.b2.y, .int .i64 t.b2.z, .int .i64 t.d.x, .int .i64 t.d.y, .int .i64 t.d.z, .int .i64 t.np, .int .i64 t.nn, .int .i64 t.fix, .int .i64 t.min, .int .i64 t.tax] 67)) := below_more (below_more (Below.refl _ _) _) _
  have MT : ((w.alloc (.cells #[.int .i64 step, .int .i64 start, .slice a l.length cap] 56)).alloc (.cells #[.int .i64 t.z.off, .int .i64 t.z.f.m, .int .i64 t.z.f.w, .int .i64 t.z.f.d, .int .i64 t.z.f.h, .int .i64 t.z.t.m, .int .i64 t.z.t.w, .int .i64 t.z.t.d, .int .i64 t.z.t.h, .int .i64 t.days, .int .i64 t.gap, .int .i64 t.first, .int .i64 t.last, .string t.h0, .string t.h1, .string t.h2, .string t.h3, .int .i64 t.b0.x, .int .i64 t.b0.y, .int .i64 t.b0.z, .int .i64 t.b1.x, .int .i64 t.b1.y, .int .i64 t.b1.z, .int .i64 t.b2.x, .int .i64 t.b2.y, .int .i64 t.b2.z, .int .i64 t.d.x, .int .i64 t.d.y, .int .i64 t.d.z, .int .i64 t.np, .int .i64 t.nn, .int .i64 t.fix, .int .i64 t.min, .int .i64 t.tax] 67)).heap[w.heap.size + 1]? = some (.cells #[.int .i64 t.z.off, .int .i64 t.z.f.m, .int .i64 t.z.f.w, .int .i64 t.z.f.d, .int .i64 t.z.f.h, .int .i64 t.z.t.m, .int .i64 t.z.t.w, .int .i64 t.z.t.d, .int .i64 t.z.t.h, .int .i64 t.days, .int .i64 t.gap, .int .i64 t.first, .int .i64 t.last, .string t.h0, .string t.h1, .string t.h2, .string t.h3, .int .i64 t.b0.x, .int .i64 t.b0.y, .int .i64 t.b0.z, .int .i64 t.b1.x, .int .i64 t.b1.y, .int .i64 t.b1.z, .int .i64 t.b2.x, .int .i64 t.b2.y, .int .i64 t.b2.z, .int .i64 t.d.x, .int .i64 t.d.y, .int .i64 t.d.z, .int .i64 t.np, .int .i64 t.nn, .int .i64 t.fix, .int .i64 t.min, .int .i64 t.tax] 67) := heap_alloc2_new _ _ _
  clear hE hA hne h
  go_enter Tryz.func13, Tryz.ntmps13
  go_wp2_with (first
    | (with_reducible show wpList _ _ _ _ _ ((w.alloc (.cells #[.int .i64 step, .int .i64 start, .slice a l.length cap] 56)).alloc (.cells #[.int .i64 t.z.off, .int .i64 t.z.f.m, .int .i64 t.z.f.w, .int .i64 t.z.f.d, .int .i64 t.z.f.h, .int .i64 t.z.t.m, .int .i64 t.z.t.w, .int .i64 t.z.t.d, .int .i64 t.z.t.h, .int .i64 t.days, .int .i64 t.gap, .int .i64 t.first, .int .i64 t.last, .string t.h0, .string t.h1, .string t.h2, .string t.h3, .int .i64 t.b0.x, .int .i64 t.b0.y, .int .i64 t.b0.z, .int .i64 t.b1.x, .int .i64 t.b1.y, .int .i64 t.b1.z, .int .i64 t.b2.x, .int .i64 t.b2.y, .int .i64 t.b2.z, .int .i64 t.d.x, .int .i64 t.d.y, .int .i64 t.d.z, .int .i64 t.np, .int .i64 t.nn, .int .i64 t.fix, .int .i64 t.min, .int .i64 t.tax] 67)); refine wpList_load_row rfl 67 _ rfl (w.heap.size + 1) rfl 67 _ (0, 0) _ MT Tryz.underlying67 rfl (by kernel_rfl) ?_)
    | (go_at_call 44; refine (sp _ B0).mono ?_; rintro e w1 ⟨v1, rfl, own1, hb1⟩; obtain ⟨a1, cap1, rfl⟩ := own_slice own1))
  exact bodyPost_ret (v := .tuple #[.slice none 0 0, .int .i64 E, .int .i64 A]) (by simp [results, Tryz.results13, go_sem]) rfl ⟨rfl, below_then B0 hb1⟩

set_option maxRecDepth 1000000 in
set_option maxHeartbeats 2000000 in
theorem refBill_yes (t : Trf) (step start : Int) (v : Value) (l : List Txt.Val) (w : World) (h : VRow w v l) (s0 : t.h0.size ≤ maxLen) (s1 : t.h1.size ≤ maxLen) (s2 : t.h2.size ≤ maxLen) (s3 : t.h3.size ≤ maxLen) (hz : spE t step start l = 0) :
    Calls Tryz.prog 13 #[.agg #[.int .i64 step, .int .i64 start, v], .agg #[.int .i64 t.z.off, .int .i64 t.z.f.m, .int .i64 t.z.f.w, .int .i64 t.z.f.d, .int .i64 t.z.f.h, .int .i64 t.z.t.m, .int .i64 t.z.t.w, .int .i64 t.z.t.d, .int .i64 t.z.t.h, .int .i64 t.days, .int .i64 t.gap, .int .i64 t.first, .int .i64 t.last, .string t.h0, .string t.h1, .string t.h2, .string t.h3, .int .i64 t.b0.x, .int .i64 t.b0.y, .int .i64 t.b0.z, .int .i64 t.b1.x, .int .i64 t.b1.y, .int .i64 t.b1.z, .int .i64 t.b2.x, .int .i64 t.b2.y, .int .i64 t.b2.z, .int .i64 t.d.x, .int .i64 t.d.y, .int .i64 t.d.z, .int .i64 t.np, .int .i64 t.nn, .int .i64 t.fix, .int .i64 t.min, .int .i64 t.tax]] w fun e w' => ∃ v', e = .returned (.tuple #[v', .int .i64 0, .int .i64 0]) ∧
      w'.ownsRow w.heap.size 118 15 v' (spL t step start l).length (lcs (lnR t (spL t step start l) (spL t step start l).length)) ∧ Below w.heap.size w w' := by
  obtain ⟨i0, hi, hz0, hz1, hz2⟩ := info_parts infoRL
  obtain ⟨j0, hj, hy0, hy1, hy2⟩ := info_parts info3
  have sp := fun w1 (hb : Below w.heap.size w w1) => splits.refSplit_any t step start v l w1 (h.below hb) s0 s1 s2 s3
  have ok := bok hz
  rw [hz, spA_ok hz] at sp
  obtain ⟨ps, hps⟩ : ∃ ps, ps = spL t step start l := ⟨_, rfl⟩
  rw [← hps] at sp ok
  rw [← hps]
  obtain ⟨OKT, PK, pn1, pn2⟩ := ok
  clear hps hz
  obtain ⟨a, cap, rfl⟩ := h.form
  have B0 : Below w.heap.size w ((w.alloc (.cells #[.int .i64 step, .int .i64 start, .slice a l.length cap] 56)).alloc (.cells #[.int .i64 t.z.off, .int .i64 t.z.f.m, .int .i64 t.z.f.w, .int .i64 t.z.f.d, .int .i64 t.z.f.h, .int .i64 t.z.t.m, .int .i64 t.z.t.w, .int .i64 t.z.t.d, .int .i64 t.z.t.h, .int .i64 t.days, .int .i64 t.gap, .int .i64 t.first, .int .i64 t.last, .string t.h0, .string t.h1, .string t.h2, .string t.h3, .int .i64 t.b0.x, .int .i64 t.b0.y, .int .i64 t.b0.z, .int .i64 t.b1.x, .int .i64 t.b1.y, .int .i64 t.b1.z, .int .i64 t.b2.x, .int .i64 t.b2.y, .int .i64 t.b2.z, .int .i64 t.d.x, .int .i64 t.d.y, .int .i64 t.d.z, .int .i64 t.np, .int .i64 t.nn, .int .i64 t.fix, .int .i64 t.min, .int .i64 t.tax] 67)) := below_more (below_more (Below.refl _ _) _) _
  have MT : ((w.alloc (.cells #[.int .i64 step, .int .i64 start, .slice a l.length cap] 56)).alloc (.cells #[.int .i64 t.z.off, .int .i64 t.z.f.m, .int .i64 t.z.f.w, .int .i64 t.z.f.d, .int .i64 t.z.f.h, .int .i64 t.z.t.m, .int .i64 t.z.t.w, .int .i64 t.z.t.d, .int .i64 t.z.t.h, .int .i64 t.days, .int .i64 t.gap, .int .i64 t.first, .int .i64 t.last, .string t.h0, .string t.h1, .string t.h2, .string t.h3, .int .i64 t.b0.x, .int .i64 t.b0.y, .int .i64 t.b0.z, .int .i64 t.b1.x, .int .i64 t.b1.y, .int .i64 t.b1.z, .int .i64 t.b2.x, .int .i64 t.b2.y, .int .i64 t.b2.z, .int .i64 t.d.x, .int .i64 t.d.y, .int .i64 t.d.z, .int .i64 t.np, .int .i64 t.nn, .int .i64 t.fix, .int .i64 t.min, .int .i64 t.tax] 67)).heap[w.heap.size + 1]? = some (.cells #[.int .i64 t.z.off, .int .i64 t.z.f.m, .int .i64 t.z.f.w, .int .i64 t.z.f.d, .int .i64 t.z.f.h, .int .i64 t.z.t.m, .int .i64 t.z.t.w, .int .i64 t.z.t.d, .int .i64 t.z.t.h, .int .i64 t.days, .int .i64 t.gap, .int .i64 t.first, .int .i64 t.last, .string t.h0, .string t.h1, .string t.h2, .string t.h3, .int .i64 t.b0.x, .int .i64 t.b0.y, .int .i64 t.b0.z, .int .i64 t.b1.x, .int .i64 t.b1.y, .int .i64 t.b1.z, .int .i64 t.b2.x, .int .i64 t.b2.y, .int .i64 t.b2.z, .int .i64 t.d.x, .int .i64 t.d.y, .int .i64 t.d.z, .int .i64 t.np, .int .i64 t.nn, .int .i64 t.fix, .int .i64 t.min, .int .i64 t.tax] 67) := heap_alloc2_new _ _ _
  have HOKT := hideF OKT
  have HPK := hideF PK
  have tb1 := OKT.d
  have tb2 := OKT.n
  have tb3 := OKT.f
  clear h OKT PK
  go_enter Tryz.func13, Tryz.ntmps13
  go_wp2_with (first
    | (with_reducible show wpList _ _ _ _ _ ((w.alloc (.cells #[.int .i64 step, .int .i64 start, .slice a l.length cap] 56)).alloc (.cells #[.int .i64 t.z.off, .int .i64 t.z.f.m, .int .i64 t.z.f.w, .int .i64 t.z.f.d, .int .i64 t.z.f.h, .int .i64 t.z.t.m, .int .i64 t.z.t.w, .int .i64 t.z.t.d, .int .i64 t.z.t.h, .int .i64 t.days, .int .i64 t.gap, .int .i64 t.first, .int .i64 t.last, .string t.h0, .string t.h1, .string t.h2, .string t.h3, .int .i64 t.b0.x, .int .i64 t.b0.y, .int .i64 t.b0.z, .int .i64 t.b1.x, .int .i64 t.b1.y, .int .i64 t.b1.z, .int .i64 t.b2.x, .int .i64 t.b2.y, .int .i64 t.b2.z, .int .i64 t.d.x, .int .i64 t.d.y, .int .i64 t.d.z, .int .i64 t.np, .int .i64 t.nn, .int .i64 t.fix, .int .i64 t.min, .int .i64 t.tax] 67)); refine wpList_load_row rfl 67 _ rfl (w.heap.size + 1) rfl 67 _ (0, 0) _ MT Tryz.underlying67 rfl (by kernel_rfl) ?_)
    | (go_at_call 44; refine (sp _ B0).mono ?_; rintro e w1 ⟨v1, rfl, own1, hb1⟩; obtain ⟨a1, cap1, rfl⟩ := own_slice own1))
  have U1 := hideF (PRow.of_own own1 rfl)
  have BW := below_then B0 hb1
  have hs1 : w.heap.size + 2 ≤ w1.heap.size := by have := hb1.size; simp at this; omega
  have MT1 : UR w1 (w.heap.size + 1) t := (hb1.block (w.heap.size + 1) (by simp)).trans MT
  clear own1 hb1 MT B0 sp
  go_loopw [10, 11, 12] (fun f c p wr => ∃ k : Nat, p = .int .i64 k ∧ k ≤ ps.length ∧ wr.ownsRow w1.heap.size 118 15 f k (lcs (lnR t ps k)) ∧ wr.ownsRow w1.heap.size 3 1 c k (ints (crR t ps k)) ∧ Below w1.heap.size w1 wr) (fun _ _ p _ => ps.length - (intOf p).toNat)
  case atStart => exact ⟨0, rfl, by omega, World.ownsRow_nil _ _ _ _, World.ownsRow_nil _ _ _ _, Below.refl _ _⟩
  case round =>
    obtain ⟨k, rfl, hk, hown, hcr, hb⟩ := hrel
    obtain ⟨a0, cap0, rfl⟩ := own_slice hown
    obtain ⟨ac, capc, rfl⟩ := own_slice hcr
    have hsz := hb.size
    by_cases hlt : k < ps.length
    · have hlt' : (k : Int) < (ps.length : Int) := by omega
      have hk0 : (0 : Int) ≤ (k : Int) := by omega
      have Ur := U1.out.below hb
      obtain ⟨gu, rfl, hcap, hglt, u0, u1, u2, u3, u4⟩ := Ur.at (pAt_get hlt)
      have hcap' : (ps.length : Int) ≤ (cap1 : Int) := by omega
      have CL := crR_len t ps k
      have CO := cr_ok HOKT.out HPK.out k
      have LB := lnB HOKT.out HPK.out k
      have LC := lnC HOKT.out HPK.out CO k
      have hpx := HPK.out k
      obtain ⟨gv, ev, _, hgu, v0, v1, v2, v3, v4⟩ := U1.out.at (pAt_get hlt)
      cases ev
      have HU0 := hideF v0
      have HU1 := hideF v1
      have HU2 := hideF v2
      have HU3 := hideF v3
      have HU4 := hideF v4
      clear v0 v1 v2 v3 v4
      have HL : Hid (lnAt t ps k = ⟨(Bil.pAt ps k).i0, (Bil.pAt ps k).i1, (Bil.pAt ps k).i2, (Bil.pAt ps k).o, (Bil.pAt ps k).pk, blOf t ps k, enOf t (Bil.pAt ps k), pwOf t ps k, apOf t ps (crR t ps k) k, exOf t (crR t ps k), pdOf t ps k, (c3Of t ps (crR t ps k) k).sum, suOf t ps (crR t ps k) k, rnd (suOf t ps (crR t ps k) k * t.tax), suOf t ps (crR t ps k) k + rnd (suOf t ps (crR t ps k) k * t.tax)⟩) := rfl
      have HC : Hid (crR t ps (k + 1) = c3Of t ps (crR t ps k) k) := rfl
      have bd := fun W (h : PRow W (.slice (some ⟨gu, 0, none⟩) ps.length cap1) ps) => refBilled_any t ps _ k W h hlt (by omega) HOKT.out HPK.out
      have eg := fun W => refEnergy_any t (Bil.pAt ps k) W HOKT.out hpx
      have r1 : ∀ W, Calls Tryz.prog 47 #[.int .i64 (blOf t ps k * t.d.x)] W fun e w' => e = .returned (.int .i64 (pwOf t ps k)) ∧ w' = W := fun W => mills_any _ W LB.bm.1 (by have := LB.bm.2; omega)
      have r2 : ∀ W, Calls Tryz.prog 47 #[.int .i64 ((Bil.pAt ps k).o * t.np)] W fun e w' => e = .returned (.int .i64 (pdOf t ps k)) ∧ w' = W := fun W => mills_any _ W LB.om.1 (by have := LB.om.2; omega)
      have r3 : ∀ W, Calls Tryz.prog 47 #[.int .i64 (suOf t ps (crR t ps k) k * t.tax)] W fun e w' => e = .returned (.int .i64 (rnd (suOf t ps (crR t ps k) k * t.tax))) ∧ w' = W := fun W => mills_any _ W LC.sm.1 (by have := LC.sm.2; omega)
      have CO1 := cr_ok HOKT.out HPK.out (k + 1)
      have CL1 := crR_len t ps (k + 1)
      rw [HC.out] at CO1 CL1
      have hexn : exN t (crR t ps k) ≤ k := by unfold exN; rw [CL]; omega
      have hexi : ∀ j : Nat, j < k → (j < exN t (crR t ps k) ↔ t.nn < (k : Int) - j) := fun j hj => by unfold exN; rw [CL]; omega
      have dA0 : Hid (∀ j, j ≤ k → 0 ≤ docA (crR t ps k) (exN t (crR t ps k)) (enOf t (Bil.pAt ps k)) j ∧ docA (crR t ps k) (exN t (crR t ps k)) (enOf t (Bil.pAt ps k)) j ≤ enOf t (Bil.pAt ps k)) := fun j hj => by
        rw [docA_eq (by omega) j (by omega)]
        exact appA_bd (c1_ok CO) LB.en.1 j (by show j ≤ (expC _ _).length; rw [expC_len]; omega)
      have dE0 : Hid (∀ j, j ≤ k → 0 ≤ docE (crR t ps k) (exN t (crR t ps k)) j ∧ docE (crR t ps k) (exN t (crR t ps k)) j ≤ 40000 * 20000000000001) := fun j hj => by
        rw [docE_eq (by omega) j (by omega)]
        have := okL_sum CO (if j < exN t (crR t ps k) then j else exN t (crR t ps k)) (by split <;> omega)
        have h2 : ((if j < exN t (crR t ps k) then j else exN t (crR t ps k) : Nat) : Int) ≤ 40000 := by split <;> omega
        have h3 := Int.mul_le_mul_of_nonneg_right h2 (show (0 : Int) ≤ 20000000000001 by omega)
        omega
      have dX0 : Hid (docX (crR t ps k) (exN t (crR t ps k)) (enOf t (Bil.pAt ps k)) k = c2Of t ps (crR t ps k) k) := by
        show _ = _
        have := docX_all (c := crR t ps k) (n := exN t (crR t ps k)) (m := enOf t (Bil.pAt ps k)) (by omega)
        rw [CL] at this; exact this
      have dA1 : Hid (docA (crR t ps k) (exN t (crR t ps k)) (enOf t (Bil.pAt ps k)) k = apOf t ps (crR t ps k) k) := by
        show _ = _
        rw [docA_eq (by omega) k (by omega)]
        unfold apOf c1Of; rw [expC_len, CL]
      have dE1 : Hid (docE (crR t ps k) (exN t (crR t ps k)) k = exOf t (crR t ps k)) := by
        show _ = _
        have := docE_all (c := crR t ps k) (n := exN t (crR t ps k)) (by omega)
        rw [CL] at this; exact this
      have CB := hideF (fun j (hj : j < k) => CO j (by omega))
      have CB1 := hideF (fun j (hj : j < k + 1) => CO1 j (by omega))
      have SUM := hideF (fun j (hj : j ≤ k + 1) => okL_sum CO1 j (by omega))
      have b1 := LB.pk
      have b3 := LB.bl
      have b4 := LB.bm
      have b5 := LB.pw
      have b6 := LB.en
      have b7 := LB.om
      have b8 := LB.pd
      have b9 := LC.ap
      have b10 := LC.su
      have b11 := LC.sm
      have b12 := rnd_bd LC.sm.1 LC.sm.2
      have HOO : Hid (c3Of t ps (crR t ps k) k = c2Of t ps (crR t ps k) k ++ [pdOf t ps k]) := rfl
      have HSU : Hid (suOf t ps (crR t ps k) k = mx (t.fix + enOf t (Bil.pAt ps k) - apOf t ps (crR t ps k) k + pwOf t ps k) t.min) := rfl
      have HLN : Hid (lnR t ps (k + 1) = lnR t ps k ++ [lnAt t ps k]) := rfl
      simp only [okP] at hpx
      obtain ⟨x, hx⟩ : ∃ x, x = Bil.pAt ps k := ⟨_, rfl⟩
      rw [← hx] at u0 u1 u2 u3 u4 HU0 HU1 HU2 HU3 HU4 eg r2 b6 b7 HL b9 hpx dA0 dX0 dA1 HSU
      obtain ⟨c, hc⟩ : ∃ c, c = crR t ps k := ⟨_, rfl⟩
      rw [← hc] at hcr r3 b9 b10 b11 b12 HL HC HOO CO CO1 CL CL1 hexn hexi dA0 dE0 dX0 dA1 dE1 HSU SUM CB CB1
      obtain ⟨n, hn⟩ : ∃ n, n = exN t c := ⟨_, rfl⟩
      rw [← hn] at hexn hexi dA0 dE0 dX0 dA1 dE1
      obtain ⟨c2, hc2⟩ : ∃ c2, c2 = c2Of t ps c k := ⟨_, rfl⟩
      rw [← hc2] at HOO dX0
      obtain ⟨c3, hc3⟩ : ∃ c3, c3 = c3Of t ps c k := ⟨_, rfl⟩
      rw [← hc3] at HL HC HOO CO1 CL1 SUM CB1
      obtain ⟨Bl, hBl⟩ : ∃ y, y = blOf t ps k := ⟨_, rfl⟩
      rw [← hBl] at bd r1 b3 b4 HL
      obtain ⟨En, hEn⟩ : ∃ y, y = enOf t x := ⟨_, rfl⟩
      rw [← hEn] at eg b6 b9 HL dA0 dX0 dA1 HSU
      obtain ⟨Pw, hPw⟩ : ∃ y, y = pwOf t ps k := ⟨_, rfl⟩
      rw [← hPw] at r1 b5 HL HSU
      obtain ⟨Pd, hPd⟩ : ∃ y, y = pdOf t ps k := ⟨_, rfl⟩
      rw [← hPd] at r2 b8 HL HOO
      obtain ⟨Ex, hEx⟩ : ∃ y, y = exOf t c := ⟨_, rfl⟩
      rw [← hEx] at HL dE1
      obtain ⟨Ap, hAp⟩ : ∃ y, y = apOf t ps c k := ⟨_, rfl⟩
      rw [← hAp] at b9 HL dA1 HSU
      obtain ⟨Su, hSu⟩ : ∃ y, y = suOf t ps c k := ⟨_, rfl⟩
      rw [← hSu] at r3 b10 b11 b12 HL HSU
      obtain ⟨Tx, hTx⟩ : ∃ y, y = rnd (Su * t.tax) := ⟨_, rfl⟩
      rw [← hTx] at r3 b12 HL
      have hfl : ∀ j, (Value.ownBlock (.slice a0 k cap0)) = some j → w1.heap.size ≤ j ∧ j < wr.heap.size := hown.lt
      have hcl : ∀ j, (Value.ownBlock (.slice ac k capc)) = some j → w1.heap.size ≤ j ∧ j < wr.heap.size := hcr.lt
      have hfB : (Value.ownBlock (.slice a0 k cap0)) ≠ some wr.heap.size := fun e => by have := (hfl _ e).2; omega
      have HFL := hideF hfl
      have HCL := hideF CL
      have HCL1 := hideF CL1
      have HUr := hideF Ur
      have HBW := hideF hb
      have HHO := hideF hown
      have HHC := hideF hcr
      have HEXI := hideF hexi
      have hw0 : w.heap.size + 1 < w1.heap.size := by omega
      clear hx hc hn hc2 hc3 hBl hEn hPw hPd hEx hAp hSu hTx CO LB LC CO1 CL CL1 hfl hcl Ur hexi hown hcr
      obtain ⟨B, hBe⟩ : ∃ B, B = wr.heap.size := ⟨_, rfl⟩
      have HBe := hideF hBe
      rw [← hBe] at hfB
      have hBz : w1.heap.size ≤ B := by omega
      clear hBe
      go_upto_region 9 with fail
      go_cut [13] from 28 to 187 (fun s wc => s = .pointer (some ⟨B, 0, none⟩) ∧ RR wc B ⟨x.i0, x.i1, x.i2, x.o, x.pk, 0, 0, 0, 0, 0, 0, 0, 0, 0, 0⟩ ∧ Below wr.heap.size wr wc)
      case first =>
        go_region_held3 (fun w' => w'.cell? ⟨gu, k * 5, none⟩ = some (.int .i64 x.i0) ∧ w'.cell? ⟨gu, k * 5 + 1, none⟩ = some (.int .i64 x.i1) ∧ w'.cell? ⟨gu, k * 5 + 2, none⟩ = some (.int .i64 x.i2) ∧ w'.cell? ⟨gu, k * 5 + 3, none⟩ = some (.int .i64 x.o) ∧ w'.cell? ⟨gu, k * 5 + 4, none⟩ = some (.int .i64 x.pk))
          (simp [go_sem, *])
          (fail)
        all_goals
          go_wp2_with fail
          go_meet
          case rel => (rw [HBe.out]; first | exact ⟨rfl, heap_alloc_new _ _, below_more (Below.refl _ _) _⟩ | exact ⟨rfl, heap_alloc_new _ _, Below.drew (below_more (Below.refl _ _) _)⟩ | exact ⟨rfl, heap_alloc_new _ _, below_drewN (below_more (Below.refl _ _) _) _⟩)
      case rest =>
        obtain ⟨rfl, hRR, hbc⟩ := hcut
        clear u0 u1 u2 u3 u4
        have S9 : BSt w1 B k k (.slice ac k capc) (.slice a0 k cap0) (lnR t ps k) wc ⟨x.i0, x.i1, x.i2, x.o, x.pk, 0, 0, 0, 0, 0, 0, 0, 0, 0, 0⟩ c := ⟨hRR, own_below HHC.out hbc, own_below HHO.out hbc, below_then HBW.out hbc, hBz⟩
        have hTc : wc.heap[w.heap.size + 1]? = some (.cells #[.int .i64 t.z.off, .int .i64 t.z.f.m, .int .i64 t.z.f.w, .int .i64 t.z.f.d, .int .i64 t.z.f.h, .int .i64 t.z.t.m, .int .i64 t.z.t.w, .int .i64 t.z.t.d, .int .i64 t.z.t.h, .int .i64 t.days, .int .i64 t.gap, .int .i64 t.first, .int .i64 t.last, .string t.h0, .string t.h1, .string t.h2, .string t.h3, .int .i64 t.b0.x, .int .i64 t.b0.y, .int .i64 t.b0.z, .int .i64 t.b1.x, .int .i64 t.b1.y, .int .i64 t.b1.z, .int .i64 t.b2.x, .int .i64 t.b2.y, .int .i64 t.b2.z, .int .i64 t.d.x, .int .i64 t.d.y, .int .i64 t.d.z, .int .i64 t.np, .int .i64 t.nn, .int .i64 t.fix, .int .i64 t.min, .int .i64 t.tax] 67) := (S9.b.block (w.heap.size + 1) hw0).trans MT1
        have Pc := hideF (HUr.out.below hbc)
        clear hRR HHC HHO HBW HUr hb hbc HBe
        have S2w := hideF S9
        have zc := S9.n.lt
        clear S9
        go_upto_region 11 with (first
          | (with_reducible show wpList _ _ _ _ _ wc; refine wpList_load_row rfl 67 _ rfl (w.heap.size + 1) rfl 67 _ (0, 0) _ hTc Tryz.underlying67 rfl (by kernel_rfl) ?_)
          | (go_at_call 45; refine (bd _ Pc.out).mono ?_; rintro e w2 ⟨rfl, hb2⟩; have S2 := S2w.out.below hb2; have p5 : w2.cell? ⟨B, 5, none⟩ = some (.int .i64 0) := S2.n.c5; have f5 : w2.frozen? ⟨B, 5, none⟩ = false := S2.n.frz 5))
        have S3 := S2.set hfB 5 (.int .i64 Bl) (S2.n.bl Bl)
        obtain ⟨w3, hw3⟩ : ∃ w3, w3 = w2.setCell ⟨B, 5, none⟩ (.int .i64 Bl) := ⟨_, rfl⟩
        rw [← hw3] at S3 ⊢
        clear hw3 S2 S2w hb2 p5 f5 hTc Pc zc bd
        refine wp_region_held_drew (S := (fun w' => w'.heap[w.heap.size + 1]? = some (.cells #[.int .i64 t.z.off, .int .i64 t.z.f.m, .int .i64 t.z.f.w, .int .i64 t.z.f.d, .int .i64 t.z.f.h, .int .i64 t.z.t.m, .int .i64 t.z.t.w, .int .i64 t.z.t.d, .int .i64 t.z.t.h, .int .i64 t.days, .int .i64 t.gap, .int .i64 t.first, .int .i64 t.last, .string t.h0, .string t.h1, .string t.h2, .string t.h3, .int .i64 t.b0.x, .int .i64 t.b0.y, .int .i64 t.b0.z, .int .i64 t.b1.x, .int .i64 t.b1.y, .int .i64 t.b1.z, .int .i64 t.b2.x, .int .i64 t.b2.y, .int .i64 t.b2.z, .int .i64 t.d.x, .int .i64 t.d.y, .int .i64 t.d.z, .int .i64 t.np, .int .i64 t.nn, .int .i64 t.fix, .int .i64 t.min, .int .i64 t.tax] 67 (0, 0)) ∧ w'.cell? ⟨gu, k * 5, none⟩ = some (.int .i64 x.i0) ∧ w'.cell? ⟨gu, k * 5 + 1, none⟩ = some (.int .i64 x.i1) ∧ w'.cell? ⟨gu, k * 5 + 2, none⟩ = some (.int .i64 x.i2) ∧ w'.cell? ⟨gu, k * 5 + 3, none⟩ = some (.int .i64 x.o) ∧ w'.cell? ⟨gu, k * 5 + 4, none⟩ = some (.int .i64 x.pk))) (by kernel_rfl) ?_ (fun hH0 => ?_)
        · exact ⟨(S3.b.block _ hw0).trans MT1, vcell_below S3.b hgu HU0.out, vcell_below S3.b hgu HU1.out, vcell_below S3.b hgu HU2.out, vcell_below S3.b hgu HU3.out, vcell_below S3.b hgu HU4.out⟩
        refine wpAnyH_take (i := 0) (oi := { dst := some 55, op := Go.Op.load 67 (Go.Operand.tmp 3), type := 67, pos := "bill.go:180", after := #[], guard := none }) (v := .agg #[.int .i64 t.z.off, .int .i64 t.z.f.m, .int .i64 t.z.f.w, .int .i64 t.z.f.d, .int .i64 t.z.f.h, .int .i64 t.z.t.m, .int .i64 t.z.t.w, .int .i64 t.z.t.d, .int .i64 t.z.t.h, .int .i64 t.days, .int .i64 t.gap, .int .i64 t.first, .int .i64 t.last, .string t.h0, .string t.h1, .string t.h2, .string t.h3, .int .i64 t.b0.x, .int .i64 t.b0.y, .int .i64 t.b0.z, .int .i64 t.b1.x, .int .i64 t.b1.y, .int .i64 t.b1.z, .int .i64 t.b2.x, .int .i64 t.b2.y, .int .i64 t.b2.z, .int .i64 t.d.x, .int .i64 t.d.y, .int .i64 t.d.z, .int .i64 t.np, .int .i64 t.nn, .int .i64 t.fix, .int .i64 t.min, .int .i64 t.tax]) rfl (by kernel_rfl) (by kernel_rfl) (by kernel_rfl) (fun _ _ _ h => h) (splits.yields_row (by rfl) 67 _ rfl (w.heap.size + 1) rfl _ 67 (0, 0) _ (fun w9 hSw => hSw.1) Tryz.underlying67 rfl (by kernel_rfl)) (by assumption) ?_
        try simp only [Act.put, List.setIfInBounds_toArray, List.set_cons_zero, List.set_cons_succ]
        refine wpAnyH_take (i := 1) (oi := { dst := some 56, op := Go.Op.move (Go.Operand.tmp 7), type := 114, pos := "bill.go:180", after := #[], guard := none }) (v := .slice (some ⟨gu, 0, none⟩) ps.length cap1) rfl (by kernel_rfl) (by kernel_rfl) (by kernel_rfl) (fun _ _ _ h => h) (Or.inl ⟨by rfl, ?_⟩) (by assumption) ?_
        · intro w9 hSw
          go_simp
        try simp only [Act.put, List.setIfInBounds_toArray, List.set_cons_zero, List.set_cons_succ]
        refine wpAnyH_take (i := 2) (oi := { dst := some 57, op := Go.Op.move (Go.Operand.tmp 12), type := 3, pos := "bill.go:180", after := #[], guard := none }) (v := .int .i64 (k : Int)) rfl (by kernel_rfl) (by kernel_rfl) (by kernel_rfl) (fun _ _ _ h => h) (Or.inl ⟨by rfl, ?_⟩) (by assumption) ?_
        · intro w9 hSw
          go_simp
        try simp only [Act.put, List.setIfInBounds_toArray, List.set_cons_zero, List.set_cons_succ]
        refine wpAnyH_take (i := 3) (oi := { dst := some 58, op := Go.Op.indexAddr 114 (Go.Operand.tmp 56) (Go.Operand.tmp 57), type := 0, pos := "bill.go:180", after := #[{ on := 1, ground := Go.Ground.data }, { on := 2, ground := Go.Ground.data }], guard := none }) (v := .pointer (some ⟨gu, k * 5, none⟩)) rfl (by kernel_rfl) (by kernel_rfl) (by kernel_rfl) (fun _ _ _ h => h) (Or.inl ⟨by rfl, ?_⟩) (by assumption) ?_
        · intro w9 hSw
          go_simp
        try simp only [Act.put, List.setIfInBounds_toArray, List.set_cons_zero, List.set_cons_succ]
        refine wpAnyH_take (i := 4) (oi := { dst := some 59, op := Go.Op.load 117 (Go.Operand.tmp 58), type := 117, pos := "bill.go:180", after := #[{ on := 3, ground := Go.Ground.data }], guard := none }) (v := .agg #[.int .i64 x.i0, .int .i64 x.i1, .int .i64 x.i2, .int .i64 x.o, .int .i64 x.pk]) rfl (by kernel_rfl) (by kernel_rfl) (by kernel_rfl) (fun _ _ _ h => h) (Or.inl ⟨by rfl, ?_⟩) (by assumption) ?_
        · intro w9 hSw
          obtain ⟨_, q0, q1, q2, q3, q4⟩ := hSw; go_simp
        try simp only [Act.put, List.setIfInBounds_toArray, List.set_cons_zero, List.set_cons_succ]
        refine wpAnyH_ready (rs := [5]) (by kernel_rfl) (by simp) ?_
        refine AllReadyH.cons (o := { dst := some 60, op := Go.Op.call { callee := Go.Callee.value (Go.Operand.func 46), args := #[Go.Operand.tmp 55, Go.Operand.tmp 59], argTypes := #[67, 117] }, type := 3, pos := "bill.go:180", after := #[{ on := 0, ground := Go.Ground.data }, { on := 4, ground := Go.Ground.data }], guard := none }) rfl (fun K hK => ?_) AllReadyH.nil
        go_simp
        refine (eg _).mono ?_
        rintro e w4 ⟨rfl, hb4'⟩
        have hb4 : Below w3.heap.size w3 w4 := below_then (Below.drew (Below.refl _ _)) hb4'
        have S4 := S3.below hb4
        clear hb4' hb4
        go_wp2_with fail
        refine hK.out _ _ ⟨(S4.b.block _ hw0).trans MT1, vcell_below S4.b hgu HU0.out, vcell_below S4.b hgu HU1.out, vcell_below S4.b hgu HU2.out, vcell_below S4.b hgu HU3.out, vcell_below S4.b hgu HU4.out⟩ (fun hH1 => ?_)
        clear hK K
        try simp only [Act.put, List.setIfInBounds_toArray, List.set_cons_zero, List.set_cons_succ]
        refine wpAnyH_take (i := 6) (oi := { dst := some 61, op := Go.Op.fieldAddr 118 (Go.Operand.tmp 13) 4, type := 0, pos := "bill.go:180", after := #[{ on := 0, ground := Go.Ground.phase }, { on := 1, ground := Go.Ground.phase }, { on := 2, ground := Go.Ground.phase }, { on := 3, ground := Go.Ground.phase }, { on := 4, ground := Go.Ground.phase }, { on := 5, ground := Go.Ground.phase }], guard := none }) (v := .pointer (some ⟨B, 6, none⟩)) rfl (by kernel_rfl) (by kernel_rfl) (by kernel_rfl) (fun _ _ _ h => h) (Or.inl ⟨by rfl, ?_⟩) (by assumption) ?_
        · intro w9 hSw
          go_simp
        try simp only [Act.put, List.setIfInBounds_toArray, List.set_cons_zero, List.set_cons_succ]
        have p6 : w4.cell? ⟨B, 6, none⟩ = some (.int .i64 0) := S4.n.c6
        have f6 : w4.frozen? ⟨B, 6, none⟩ = false := S4.n.frz 6
        have S5 := S4.set hfB 6 (.int .i64 En) (S4.n.en En)
        refine wpAnyH_ready (rs := [7]) (by kernel_rfl) (by simp) ?_
        refine AllReadyH.cons (o := { dst := none, op := Go.Op.store 3 (Go.Operand.tmp 61) (Go.Operand.tmp 60), type := 0, pos := "bill.go:180", after := #[{ on := 6, ground := Go.Ground.data }, { on := 5, ground := Go.Ground.data }, { on := 5, ground := Go.Ground.chain }, { on := 0, ground := Go.Ground.phase }, { on := 1, ground := Go.Ground.phase }, { on := 2, ground := Go.Ground.phase }, { on := 3, ground := Go.Ground.phase }, { on := 4, ground := Go.Ground.phase }, { on := 5, ground := Go.Ground.phase }], guard := none }) rfl (fun K hK => ?_) AllReadyH.nil
        go_simp
        refine hK.out _ _ ⟨(S5.b.block _ hw0).trans MT1, vcell_below S5.b hgu HU0.out, vcell_below S5.b hgu HU1.out, vcell_below S5.b hgu HU2.out, vcell_below S5.b hgu HU3.out, vcell_below S5.b hgu HU4.out⟩ (fun hH2 => ?_)
        clear hK K
        try simp only [Act.put, List.setIfInBounds_toArray, List.set_cons_zero, List.set_cons_succ]
        refine wpAnyH_done (by kernel_rfl) ?_ _
        obtain ⟨w5, hw5⟩ : ∃ w5, w5 = w4.setCell ⟨B, 6, none⟩ (.int .i64 En) := ⟨_, rfl⟩
        rw [← hw5] at S5 ⊢
        clear hw5 S4 p6 f6 S3 hH0 hH1 hH2 eg
        have T5 : UR w5 (w.heap.size + 1) t := (S5.b.block _ hw0).trans MT1
        have t26 := T5.c26
        have n5 : w5.cell? ⟨B, 5, none⟩ = some (.int .i64 Bl) := S5.n.c5
        have n7 : w5.cell? ⟨B, 7, none⟩ = some (.int .i64 0) := S5.n.c7
        have f7 : w5.frozen? ⟨B, 7, none⟩ = false := S5.n.frz 7
        clear T5
        go_wp2_with (go_at_call 47; refine (r1 _).mono ?_; rintro e w7 ⟨rfl, h7⟩; have h8 := h7.symm; subst h8)
        have S6 := S5.set hfB 7 (.int .i64 Pw) (S5.n.pw Pw)
        obtain ⟨w6, hw6⟩ : ∃ w6, w6 = w5.setCell ⟨B, 7, none⟩ (.int .i64 Pw) := ⟨_, rfl⟩
        have HW6 := hideF hw6
        rw [← hw6] at S6
        clear hw6
        go_loopw [14] (fun p wi => ∃ j : Nat, p = .int .i64 j ∧ j ≤ k ∧ BSt w1 B k k (.slice ac k capc) (.slice a0 k cap0) (lnR t ps k) wi ⟨x.i0, x.i1, x.i2, x.o, x.pk, Bl, En, Pw, docA c n En j, docE c n j, 0, 0, 0, 0, 0⟩ (docX c n En j)) (fun p _ => k - (intOf p).toNat)
        case atStart => exact ⟨0, rfl, by omega, by rw [← HW6.out]; exact S6⟩
        case round =>
          clear S6 S5 n5 n7 f7 t26
          obtain ⟨j, rfl, hj', Sj⟩ := hrel
          have a0b := dA0.out j hj'
          have e0b := dE0.out j hj'
          have ht30 : wr.cell? ⟨w.heap.size + 1, 30, none⟩ = some (.int .i64 t.nn) := vcell_below Sj.b hw0 MT1.c30
          by_cases hjk : j < k
          · have hjk' : (j : Int) < (k : Int) := by omega
            have hj0 : (0 : Int) ≤ (j : Int) := by omega
            have HAS : Hid (docA c n En (j + 1) = docA c n En j + mn (docY c n j) (En - docA c n En j)) := rfl
            have HXS : Hid (docX c n En (j + 1) = (docX c n En j).set j (docY c n j - mn (docY c n j) (En - docA c n En j))) := rfl
            have HES : Hid (docE c n (j + 1) = if j < n then docE c n j + cAt c j else docE c n j) := rfl
            have HYS : Hid (docY c n j = if j < n then 0 else cAt c j) := rfl
            have a1b := dA0.out (j + 1) (by omega)
            have e1b := dE0.out (j + 1) (by omega)
            rw [HAS.out] at a1b
            have HXL : Hid (j < (docX c n En j).length) := by show _ < _; rw [docX_len, HCL.out]; exact hjk
            have HXLL : Hid ((docX c n En j).length = c.length) := docX_len c n En j
            have HXG : Hid (cAt (docX c n En j) j = cAt c j) := docX_get c n En j j (Nat.le_refl _)
            obtain ⟨g, capc', eg, hcapc, hgl, hgb, hgB, cg, fg⟩ := Sj.at (by rw [docX_len]; exact HCL.out) hjk
            cases eg
            rw [HXG.out] at cg
            have hcb := CB.out j hjk
            have hxi := HEXI.out j hjk
            have hgB' : ¬ B = g := fun e => hgB e.symm
            have hcapc' : (k : Int) ≤ (capc : Int) := by omega
            have n9 : wr.cell? ⟨B, 9, none⟩ = some (.int .i64 (docE c n j)) := Sj.n.c9
            have f9 : wr.frozen? ⟨B, 9, none⟩ = false := Sj.n.frz 9
            obtain ⟨A, hA⟩ : ∃ A, A = docA c n En j := ⟨_, rfl⟩
            rw [← hA] at a0b a1b HAS HXS Sj
            obtain ⟨XL, hXL⟩ : ∃ XL, XL = docX c n En j := ⟨_, rfl⟩
            rw [← hXL] at HXS HXL HXG HXLL Sj
            obtain ⟨E, hE⟩ : ∃ E, E = docE c n j := ⟨_, rfl⟩
            rw [← hE] at e0b HES Sj n9
            obtain ⟨E1, hE1⟩ : ∃ E, E = docE c n (j + 1) := ⟨_, rfl⟩
            rw [← hE1] at e1b HES
            obtain ⟨Y, hY⟩ : ∃ Y, Y = docY c n j := ⟨_, rfl⟩
            rw [← hY] at a1b HAS HXS HYS
            obtain ⟨X, hX⟩ : ∃ X, X = cAt c j := ⟨_, rfl⟩
            rw [← hX] at cg hcb HES HYS HXG
            have HSJ := hideF Sj
            have HE1 := hideF hE1
            have hBl := Sj.n.lt
            have hyb : 0 ≤ Y ∧ Y ≤ 20000000000001 := by rw [HYS.out]; split <;> omega
            clear hA hXL hE hE1 hY hX Sj
            go_upto_if 81 with fail
            go_cut [14] from 70 to 121 (fun s wc => s = .int .i64 (j : Int) ∧ BSt w1 B k k (.slice (some ⟨g, 0, none⟩) k capc) (.slice a0 k cap0) (lnR t ps k) wc ⟨x.i0, x.i1, x.i2, x.o, x.pk, Bl, En, Pw, A, E1, 0, 0, 0, 0, 0⟩ (XL.set j Y))
            case first =>
              by_cases hjn : j < n
              · have hx1 : t.nn < (k : Int) - j := hxi.1 hjn
                have HE2 : Hid (E1 = E + X) := by show _ = _; rw [HES.out, if_pos hjn]
                have HY2 : Hid (Y = 0) := by show _ = _; rw [HYS.out, if_pos hjn]
                have kw1 : IntKind.i64.wrap (E + X) = E + X := Go.IntWalk.i64_in _ (by omega)
                have HHN := hideF hjn
                clear hxi hjn a0b a1b e1b hyb
                go_wp2_with fail
                go_region
                all_goals
                  go_wp2_with fail
                  go_meet
                  case rel =>
                    rw [HE2.out, HY2.out]
                    first
                      | exact ⟨rfl, (HSJ.out.drew.set hfB 9 (.int .i64 (E + X)) (HSJ.out.drew.n.ex (E + X))).put hgB hgb j 0⟩
                      | exact ⟨rfl, ((HSJ.out.set hfB 9 (.int .i64 (E + X)) (HSJ.out.n.ex (E + X))).put hgB hgb j 0).drew⟩
                      | exact ⟨rfl, (HSJ.out.set hfB 9 (.int .i64 (E + X)) (HSJ.out.n.ex (E + X))).drew.put hgB hgb j 0⟩
              · have hx1 : ¬ t.nn < (k : Int) - j := fun h => hjn (hxi.2 h)
                have HE2 : Hid (E1 = E) := by show _ = _; rw [HES.out, if_neg hjn]
                have HY2 : Hid (Y = X) := by show _ = _; rw [HYS.out, if_neg hjn]
                have HHN := hideF hjn
                clear hxi hjn a0b a1b e1b hyb
                go_wp2_with fail
                go_meet
                case rel =>
                  rw [HE2.out, HY2.out, set_self HXL.out HXG.out]
                  exact ⟨rfl, HSJ.out⟩
            case rest =>
              obtain ⟨rfl, Sc⟩ := hcut
              have cgc : wc.cell? ⟨g, j, none⟩ = some (.int .i64 Y) := by
                obtain ⟨g', cap', eg, _, _, _, _, cg', _⟩ := Sc.at (by rw [List.length_set]; rw [HXLL.out]; exact HCL.out) hjk
                cases eg
                rw [cAt_set HXL.out, if_pos rfl] at cg'; exact cg'
              have fgc : wc.frozen? ⟨g, j, none⟩ = false := Sc.c.frozenAt j
              have n6 : wc.cell? ⟨B, 6, none⟩ = some (.int .i64 En) := Sc.n.c6
              have n8 : wc.cell? ⟨B, 8, none⟩ = some (.int .i64 A) := Sc.n.c8
              have f8 : wc.frozen? ⟨B, 8, none⟩ = false := Sc.n.frz 8
              have HSC := hideF Sc
              have hBlc := Sc.n.lt
              have hglc : g < wc.heap.size := (Sc.c.lt g rfl).2
              clear cg fg n9 f9 Sc HSJ hBl hgl hxi
              go_upto_region 19 with fail
              go_cut [15] from 70 to 121 (fun s wd => ∃ D : Int, s = .int .i64 D ∧ Hid (D = En - A) ∧ wd = wc)
              case first =>
                go_wp2_with fail
                go_meet
                case rel => exact ⟨_, rfl, rfl, rfl⟩
              case rest =>
                obtain ⟨D, rfl, HD, hwd⟩ := hcut
                have hwd2 := hwd.symm
                subst hwd2
                rw [← HD.out] at a1b HAS HXS
                have hdb : 0 ≤ D ∧ D ≤ 60000300000006 := by rw [HD.out]; omega
                have hadb : A + D = En := by rw [HD.out]; omega
                have HADB := hideF hadb
                have hadc : A + D ≤ 60000300000006 := by omega
                clear hadb
                by_cases hu : Y < D
                · have em : mn Y D = Y := by unfold mn; rw [if_pos hu]
                  rw [em] at a1b HAS HXS
                  clear em
                  go_wp2_with fail
                  go_roundw
                  case rel => exact ⟨j + 1, by go_num, by omega, by rw [HAS.out, ← HE1.out, HXS.out, Int.sub_self]; have := (HSC.out.set hfB 8 (.int .i64 (A + Y)) (HSC.out.n.ap (A + Y))).put hgB hgb j 0; rw [List.set_set] at this; exact this⟩
                  case measure => simp [intOf]; omega
                · have em : mn Y D = D := by unfold mn; rw [if_neg hu]
                  rw [em] at a1b HAS HXS
                  clear em
                  go_wp2_with fail
                  go_roundw
                  case rel => exact ⟨j + 1, by go_num, by omega, by rw [HAS.out, ← HE1.out, HXS.out]; have := (HSC.out.set hfB 8 (.int .i64 (A + D)) (HSC.out.n.ap (A + D))).put hgB hgb j (Y - D); rw [List.set_set] at this; exact this⟩
                  case measure => simp [intOf]; omega
          · have hjk' : ¬ (j : Int) < (k : Int) := by omega
            have hje : j = k := by omega
            have Sk : BSt w1 B k k (.slice ac k capc) (.slice a0 k cap0) (lnR t ps k) wr ⟨x.i0, x.i1, x.i2, x.o, x.pk, Bl, En, Pw, Ap, Ex, 0, 0, 0, 0, 0⟩ c2 := by
              rw [hje, dA1.out, dE1.out, dX0.out] at Sj; exact Sj
            have HSK := hideF Sk
            have u3 : wr.cell? ⟨gu, k * 5 + 3, none⟩ = some (.int .i64 x.o) := vcell_below Sk.b hgu HU3.out
            have t29 : wr.cell? ⟨w.heap.size + 1, 29, none⟩ = some (.int .i64 t.np) := vcell_below Sk.b hw0 MT1.c29
            have n10 : wr.cell? ⟨B, 10, none⟩ = some (.int .i64 0) := Sk.n.c10
            have f10 : wr.frozen? ⟨B, 10, none⟩ = false := Sk.n.frz 10
            have hBl := Sk.n.lt
            have hkw := Sk.b.size
            have hgB3 : ¬ B = gu := by omega
            have hgB4 : ¬ B = w.heap.size + 1 := by omega
            have kw1 : IntKind.i64.wrap (x.o * t.np) = x.o * t.np := Go.IntWalk.i64_in _ (by omega)
            clear Sj Sk a0b e0b ht30 hjk hje
            go_upto_region 24 with fail
            go_cut [14] from 28 to 187 (fun s wc => BSt w1 B k k (.slice ac k capc) (.slice a0 k cap0) (lnR t ps k) wc ⟨x.i0, x.i1, x.i2, x.o, x.pk, Bl, En, Pw, Ap, Ex, Pd, 0, 0, 0, 0⟩ c2)
            case first =>
              go_region_held3 (fun w' => w'.cell? ⟨gu, k * 5 + 3, none⟩ = some (.int .i64 x.o) ∧ w'.cell? ⟨w.heap.size + 1, 29, none⟩ = some (.int .i64 t.np)) (simp [go_sem, *]) ((go_at_call 47; refine (r2 _).mono ?_; rintro e w7 ⟨rfl, h7⟩; have h8 := h7.symm; subst h8))
              all_goals
                go_wp2_with fail
                go_meet
                case rel =>
                  first
                    | exact HSK.out.drew.set hfB 10 (.int .i64 Pd) (HSK.out.drew.n.pd Pd)
                    | exact (HSK.out.set hfB 10 (.int .i64 Pd) (HSK.out.n.pd Pd)).drew
            case rest =>
              have Sd := hideF hcut
              have n10c : wc.cell? ⟨B, 10, none⟩ = some (.int .i64 Pd) := hcut.n.c10
              have zc := hcut.b.size
              clear hcut u3 t29 n10 f10 hBl hkw HSK
              go_wp2_with (at_builtin; refine wpList_append_own _ rfl _ _ 87 rfl w1.heap.size 3 j0 (.int .i64 0) 1 8 Tryz.underlying87 hj hy0 hy1 hy2 rfl (by decide) _ _ _ rfl (Sd.out.c.alloc _) ⟨wc.heap.size, 0, none⟩ 1 1 [.int .i64 Pd] rfl rfl (cell_one_new _ _ _) (fun x hx => by simp at hx; subst hx; rfl) (by unfold maxLen; omega) (by omega) (by simp; omega) ?_; intro v' w8 own8 g8 nil8; obtain ⟨a8, cap8, rfl⟩ := own_slice own8)
              have S8 : BSt w1 B k (k + 1) (.slice a8 (k + 1) cap8) (.slice a0 k cap0) (lnR t ps k) w8 ⟨x.i0, x.i1, x.i2, x.o, x.pk, Bl, En, Pw, Ap, Ex, Pd, 0, 0, 0, 0⟩ c3 := Sd.out.app _ g8 (by rw [HOO.out, ints_snoc]; exact own8)
              clear own8 g8 nil8 Sd n10c zc
              go_loopw [16] (fun p wi => ∃ m : Nat, p = .int .i64 m ∧ m ≤ k + 1 ∧ BSt w1 B k (k + 1) (.slice a8 (k + 1) cap8) (.slice a0 k cap0) (lnR t ps k) wi ⟨x.i0, x.i1, x.i2, x.o, x.pk, Bl, En, Pw, Ap, Ex, Pd, (c3.take m).sum, 0, 0, 0⟩ c3) (fun p _ => k + 1 - (intOf p).toNat)
              case atStart => exact ⟨0, rfl, by omega, S8⟩
              case round =>
                clear S8
                obtain ⟨m, rfl, hm, Sm⟩ := hrel
                have S0 := SUM.out m hm
                have hBl := Sm.n.lt
                have hkw := Sm.b.size
                have HSM := hideF Sm
                by_cases hmk : m < k + 1
                · have hmk' : (m : Int) ≤ (k : Int) := by omega
                  have hm0 : (0 : Int) ≤ (m : Int) := by omega
                  have hm1 : (m : Int) < (k : Int) + 1 := by omega
                  obtain ⟨g, capd, eg, hcapc, hgl, hgb, hgB, cg, fg⟩ := Sm.at HCL1.out hmk
                  cases eg
                  have hcap8 : (k : Int) + 1 ≤ (cap8 : Int) := by omega
                  have S1 := SUM.out (m + 1) (by omega)
                  have HS : Hid ((c3.take (m + 1)).sum = (c3.take m).sum + cAt c3 m) := sum_take (by have := HCL1.out; omega)
                  rw [HS.out] at S1
                  have hgB' : ¬ B = g := fun e => hgB e.symm
                  have n11 : wr.cell? ⟨B, 11, none⟩ = some (.int .i64 (c3.take m).sum) := Sm.n.c11
                  have f11 : wr.frozen? ⟨B, 11, none⟩ = false := Sm.n.frz 11
                  have hxb := CB1.out m hmk
                  obtain ⟨X, hX⟩ : ∃ X, X = cAt c3 m := ⟨_, rfl⟩
                  rw [← hX] at cg HS S1 hxb
                  obtain ⟨Y, hY⟩ : ∃ Y, Y = (c3.take m).sum := ⟨_, rfl⟩
                  rw [← hY] at n11 HS S0 S1 HSM
                  have hkB : ((k : Int) + 1) * 20000000000001 ≤ 36557 * 20000000000001 := Int.mul_le_mul_of_nonneg_right (by omega) (by omega)
                  have hyb2 : Y + X ≤ 36557 * 20000000000001 := by have := S1.2; have e : (((m + 1 : Nat) : Int)) * 20000000000001 ≤ ((k : Int) + 1) * 20000000000001 := Int.mul_le_mul_of_nonneg_right (by omega) (by omega); omega
                  have kw2 : IntKind.i64.wrap (Y + X) = Y + X := Go.IntWalk.i64_in _ (by omega)
                  clear hX hY Sm S0 S1
                  go_wp2_with fail
                  go_region
                  all_goals
                    go_wp2_with fail
                    go_roundw
                    case rel =>
                      refine ⟨m + 1, by go_num, by omega, ?_⟩
                      rw [HS.out]
                      first
                        | exact HSM.out.drew.set hfB 11 (.int .i64 (Y + X)) (HSM.out.drew.n.bk (Y + X))
                        | exact (HSM.out.set hfB 11 (.int .i64 (Y + X)) (HSM.out.n.bk (Y + X))).drew
                    case measure => simp [intOf]; omega
                · have hmk' : ¬ (m : Int) ≤ (k : Int) := by omega
                  have hme : m = k + 1 := by omega
                  obtain ⟨Bk, hBk⟩ : ∃ Bk, Bk = c3.sum := ⟨_, rfl⟩
                  have St : BSt w1 B k (k + 1) (.slice a8 (k + 1) cap8) (.slice a0 k cap0) (lnR t ps k) wr ⟨x.i0, x.i1, x.i2, x.o, x.pk, Bl, En, Pw, Ap, Ex, Pd, Bk, 0, 0, 0⟩ c3 := by
                    rw [hme, List.take_of_length_le (by have := HCL1.out; omega), ← hBk] at Sm; exact Sm
                  rw [← hBk] at HL
                  have HST := hideF St
                  have t31 : wr.cell? ⟨w.heap.size + 1, 31, none⟩ = some (.int .i64 t.fix) := vcell_below St.b hw0 MT1.c31
                  have t32 : wr.cell? ⟨w.heap.size + 1, 32, none⟩ = some (.int .i64 t.min) := vcell_below St.b hw0 MT1.c32
                  have n6 : wr.cell? ⟨B, 6, none⟩ = some (.int .i64 En) := St.n.c6
                  have n7 : wr.cell? ⟨B, 7, none⟩ = some (.int .i64 Pw) := St.n.c7
                  have n8 : wr.cell? ⟨B, 8, none⟩ = some (.int .i64 Ap) := St.n.c8
                  have n12 : wr.cell? ⟨B, 12, none⟩ = some (.int .i64 0) := St.n.c12
                  have f12 : wr.frozen? ⟨B, 12, none⟩ = false := St.n.frz 12
                  have hgB4' : ¬ w.heap.size + 1 = B := by omega
                  clear Sm S0 HSM St hme hmk hBk
                  go_upto_if 167 with fail
                  go_cut [16] from 28 to 187 (fun s wc => BSt w1 B k (k + 1) (.slice a8 (k + 1) cap8) (.slice a0 k cap0) (lnR t ps k) wc ⟨x.i0, x.i1, x.i2, x.o, x.pk, Bl, En, Pw, Ap, Ex, Pd, Bk, Su, 0, 0⟩ c3)
                  case first =>
                    by_cases hsu : t.fix + En - Ap + Pw < t.min
                    · have HS2 : Hid (Su = t.min) := by show _ = _; rw [HSU.out]; unfold mx; split <;> omega
                      go_wp2_with fail
                      go_meet
                      case rel =>
                        rw [HS2.out]
                        have q1 := HST.out.set hfB 12 (.int .i64 (t.fix + En - Ap + Pw)) (HST.out.n.su (t.fix + En - Ap + Pw))
                        exact q1.set hfB 12 (.int .i64 t.min) (q1.n.su t.min)
                    · have HS2 : Hid (Su = t.fix + En - Ap + Pw) := by show _ = _; rw [HSU.out]; unfold mx; split <;> omega
                      go_wp2_with fail
                      go_meet
                      case rel =>
                        rw [HS2.out]
                        exact HST.out.set hfB 12 (.int .i64 (t.fix + En - Ap + Pw)) (HST.out.n.su (t.fix + En - Ap + Pw))
                  case rest =>
                    have SF := hideF hcut
                    have t33 : wc.cell? ⟨w.heap.size + 1, 33, none⟩ = some (.int .i64 t.tax) := vcell_below hcut.b hw0 MT1.c33
                    have d0 : wc.cell? ⟨B, 0, none⟩ = some (.int .i64 x.i0) := hcut.n.c0
                    have d1 : wc.cell? ⟨B, 1, none⟩ = some (.int .i64 x.i1) := hcut.n.c1
                    have d2 : wc.cell? ⟨B, 2, none⟩ = some (.int .i64 x.i2) := hcut.n.c2
                    have d3 : wc.cell? ⟨B, 3, none⟩ = some (.int .i64 x.o) := hcut.n.c3
                    have d4 : wc.cell? ⟨B, 4, none⟩ = some (.int .i64 x.pk) := hcut.n.c4
                    have d5 : wc.cell? ⟨B, 5, none⟩ = some (.int .i64 Bl) := hcut.n.c5
                    have d6 : wc.cell? ⟨B, 6, none⟩ = some (.int .i64 En) := hcut.n.c6
                    have d7 : wc.cell? ⟨B, 7, none⟩ = some (.int .i64 Pw) := hcut.n.c7
                    have d8 : wc.cell? ⟨B, 8, none⟩ = some (.int .i64 Ap) := hcut.n.c8
                    have d9 : wc.cell? ⟨B, 9, none⟩ = some (.int .i64 Ex) := hcut.n.c9
                    have d10 : wc.cell? ⟨B, 10, none⟩ = some (.int .i64 Pd) := hcut.n.c10
                    have d11 : wc.cell? ⟨B, 11, none⟩ = some (.int .i64 Bk) := hcut.n.c11
                    have d12 : wc.cell? ⟨B, 12, none⟩ = some (.int .i64 Su) := hcut.n.c12
                    have d13 : wc.cell? ⟨B, 13, none⟩ = some (.int .i64 0) := hcut.n.c13
                    have d14 : wc.cell? ⟨B, 14, none⟩ = some (.int .i64 0) := hcut.n.c14
                    have f13 : wc.frozen? ⟨B, 13, none⟩ = false := hcut.n.frz 13
                    have f14 : wc.frozen? ⟨B, 14, none⟩ = false := hcut.n.frz 14
                    have zc := hcut.b.size
                    have e13 := hcut.set hfB 13 (.int .i64 Tx) (hcut.n.tx Tx)
                    have SG := hideF (e13.set hfB 14 (.int .i64 (Su + Tx)) (e13.n.to (Su + Tx)))
                    clear hcut e13 t31 t32 n6 n7 n8 n12 f12 HST
                    go_wp2_with (first
                      | (at_builtin; refine wpList_append_own _ rfl _ _ 70 rfl w1.heap.size 118 i0 (.agg #[.int .i64 0, .int .i64 0, .int .i64 0, .int .i64 0, .int .i64 0, .int .i64 0, .int .i64 0, .int .i64 0, .int .i64 0, .int .i64 0, .int .i64 0, .int .i64 0, .int .i64 0, .int .i64 0, .int .i64 0]) 15 120 Tryz.underlying70 hi hz0 hz1 hz2 rfl (by decide) _ _ _ rfl (SG.out.f.alloc _) ⟨wc.heap.size, 0, none⟩ 1 1 (lcell ⟨x.i0, x.i1, x.i2, x.o, x.pk, Bl, En, Pw, Ap, Ex, Pd, Bk, Su, Tx, Su + Tx⟩) rfl rfl (by intro j u hj; have := RL_cell ((wc.setCell ⟨B, 13, none⟩ (.int .i64 Tx)).setCell ⟨B, 14, none⟩ (.int .i64 (Su + Tx))) ⟨x.i0, x.i1, x.i2, x.o, x.pk, Bl, En, Pw, Ap, Ex, Pd, Bk, Su, Tx, Su + Tx⟩ j u hj; simpa using this) (fun y hy => by simp [lcell] at hy; rcases hy with rfl | rfl | rfl | rfl | rfl | rfl | rfl | rfl | rfl | rfl | rfl | rfl | rfl | rfl | rfl <;> rfl) (by unfold maxLen; omega) (by omega) (by simp; omega) ?_; intro v' w9 own9 g9 nil9; obtain ⟨a9, cap9, rfl⟩ := own_slice own9)
                      | (go_at_call 47; refine (r3 _).mono ?_; rintro e w7 ⟨rfl, h7⟩; have h8 := h7.symm; subst h8))
                    go_roundw
                    case rel =>
                      refine ⟨k + 1, by go_num, by omega, ?_, ?_, ?_⟩
                      · rw [HLN.out, lcs_snoc, HL.out]; exact own9
                      · rw [HC.out]; exact (own_below SG.out.c (below_more (Below.refl _ _) _)).kept g9 (own_ne SG.out.fc)
                      · exact Below.grown (below_more SG.out.b _) g9 (by simp; omega) (fun j hj => (SG.out.f.lt j hj).1)
                    case measure => simp [intOf]; omega
    · have hlt' : ¬ (k : Int) < (ps.length : Int) := by omega
      have hke : k = ps.length := by omega
      subst hke
      go_wp2_with fail
      exact bodyPost_ret (v := .tuple #[.slice a0 ps.length cap0, .int .i64 0, .int .i64 0]) (by simp [results, Tryz.results13, go_sem]) rfl ⟨_, rfl, own_base hown (by omega), below_then BW hb⟩

end Go.Proofs.YtjaffmmocbplaabGreatDoor.bills
