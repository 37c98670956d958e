/-
  The document's ReadTariff: the walk (made by tools/gentdr.py).
-/
import Derived.Test.YtjaffmmocbplaabGreatDoorJTdR
namespace Go.Proofs.YtjaffmmocbplaabGreatDoor
open Go.RowKit
set_option linter.unusedVariables false
attribute [local go_sem ↓] Go.wp_at_zero Go.wp_at_succ

theorem heap_three0 (w : World) (a b c : Obj) : (((w.alloc a).alloc b).alloc c).heap[w.heap.size + 2]? = some c := by
  have := heap_alloc_new ((w.alloc a).alloc b) c
  simpa using this
theorem DSt.same_world {w wi wj : World} {t : ByteArray} {x : Trf} {s : Txt.Sc} {av : Value} {m : Nat} (h : DSt w t wi x s av m) (e : wj = wi) : DSt w t wj x s av m := by rw [e]; exact h

set_option maxRecDepth 1000000 in
set_option maxHeartbeats 2000000 in
theorem refReadTariff_long (t : ByteArray) (w : World) (ht : 8000 < t.size) (hm : t.size ≤ maxLen) :
    Calls Tryz.prog 12 #[.string t] w fun e w' => e = .returned (.tuple #[.agg #[.int .i64 0, .int .i64 0, .int .i64 0, .int .i64 0, .int .i64 0, .int .i64 0, .int .i64 0, .int .i64 0, .int .i64 0, .int .i64 0, .int .i64 0, .int .i64 0, .int .i64 0, .string ByteArray.empty, .string ByteArray.empty, .string ByteArray.empty, .string ByteArray.empty, .int .i64 0, .int .i64 0, .int .i64 0, .int .i64 0, .int .i64 0, .int .i64 0, .int .i64 0, .int .i64 0, .int .i64 0, .int .i64 0, .int .i64 0, .int .i64 0, .int .i64 0, .int .i64 0, .int .i64 0, .int .i64 0, .int .i64 0], .int .i64 1, .int .i64 0]) ∧ Below w.heap.size w w' := by
  have h1 : (8000 : Int) < (t.size : Int) := by omega
  have Z0 : (w.alloc (.cells #[.int .i64 0, .int .i64 0, .int .i64 0, .int .i64 0, .int .i64 0, .int .i64 0, .int .i64 0, .int .i64 0, .int .i64 0, .int .i64 0, .int .i64 0, .int .i64 0, .int .i64 0, .string ByteArray.empty, .string ByteArray.empty, .string ByteArray.empty, .string ByteArray.empty, .int .i64 0, .int .i64 0, .int .i64 0, .int .i64 0, .int .i64 0, .int .i64 0, .int .i64 0, .int .i64 0, .int .i64 0, .int .i64 0, .int .i64 0, .int .i64 0, .int .i64 0, .int .i64 0, .int .i64 0, .int .i64 0, .int .i64 0] 67)).heap[w.heap.size]? = some (.cells #[.int .i64 0, .int .i64 0, .int .i64 0, .int .i64 0, .int .i64 0, .int .i64 0, .int .i64 0, .int .i64 0, .int .i64 0, .int .i64 0, .int .i64 0, .int .i64 0, .int .i64 0, .string ByteArray.empty, .string ByteArray.empty, .string ByteArray.empty, .string ByteArray.empty, .int .i64 0, .int .i64 0, .int .i64 0, .int .i64 0, .int .i64 0, .int .i64 0, .int .i64 0, .int .i64 0, .int .i64 0, .int .i64 0, .int .i64 0, .int .i64 0, .int .i64 0, .int .i64 0, .int .i64 0, .int .i64 0, .int .i64 0] 67) := heap_alloc_new _ _
  go_enter Tryz.func12, Tryz.ntmps12
  go_wp2_with (refine wpList_store_row rfl 67 _ _ rfl w.heap.size #[.int .i64 0, .int .i64 0, .int .i64 0, .int .i64 0, .int .i64 0, .int .i64 0, .int .i64 0, .int .i64 0, .int .i64 0, .int .i64 0, .int .i64 0, .int .i64 0, .int .i64 0, .string ByteArray.empty, .string ByteArray.empty, .string ByteArray.empty, .string ByteArray.empty, .int .i64 0, .int .i64 0, .int .i64 0, .int .i64 0, .int .i64 0, .int .i64 0, .int .i64 0, .int .i64 0, .int .i64 0, .int .i64 0, .int .i64 0, .int .i64 0, .int .i64 0, .int .i64 0, .int .i64 0, .int .i64 0, .int .i64 0] rfl rfl 67 _ Z0 tuz_info rfl tz_one ?_)
  exact bodyPost_ret (results_row3 rfl _ _ w.heap.size 67 _ (0, 0) _ rfl (setRow_heap _ _ _ _ _ _ Z0) Tryz.underlying67 rfl tuz_info) rfl ⟨rfl, below_setRow (below_more (Below.refl _ _) _) (Nat.le_refl _) _⟩

set_option maxRecDepth 1000000 in
set_option maxHeartbeats 2000000 in
theorem refReadTariff_run (t : ByteArray) (x : Trf) (hx : x = rdT t (hrD t)) (w : World) (ht : t.size ≤ 8000) (E A : Int) (y : Trf)
    (hE : (Txt.fin t (sT t 13)).bad = true → E = 2 ∧ A = (Txt.fin t (sT t 13)).pos ∧ y = trf0) (hT : (Txt.fin t (sT t 13)).bad = false → badN x < 13 → E = 5 ∧ A = (sT t (badN x)).pos ∧ y = trf0) (hO : (Txt.fin t (sT t 13)).bad = false → ¬ badN x < 13 → E = 0 ∧ A = 0 ∧ y = x) :
    Calls Tryz.prog 12 #[.string t] w fun e w' => e = .returned (.tuple #[.agg #[.int .i64 y.z.off, .int .i64 y.z.f.m, .int .i64 y.z.f.w, .int .i64 y.z.f.d, .int .i64 y.z.f.h, .int .i64 y.z.t.m, .int .i64 y.z.t.w, .int .i64 y.z.t.d, .int .i64 y.z.t.h, .int .i64 y.days, .int .i64 y.gap, .int .i64 y.first, .int .i64 y.last, .string y.h0, .string y.h1, .string y.h2, .string y.h3, .int .i64 y.b0.x, .int .i64 y.b0.y, .int .i64 y.b0.z, .int .i64 y.b1.x, .int .i64 y.b1.y, .int .i64 y.b1.z, .int .i64 y.b2.x, .int .i64 y.b2.y, .int .i64 y.b2.z, .int .i64 y.d.x, .int .i64 y.d.y, .int .i64 y.d.z, .int .i64 y.np, .int .i64 y.nn, .int .i64 y.fix, .int .i64 y.min, .int .i64 y.tax], .int .i64 E, .int .i64 A]) ∧ Below w.heap.size w w' := by
  obtain ⟨i0, hi, hz0, hz1, hz2⟩ := info_parts info3
  have h1 : ¬ (8000 : Int) < (t.size : Int) := by omega
  have ht' : t.size ≤ 100000 := by omega
  have POS : Hid (∀ k, (sT t k).pos ≤ 8000) := fun k => by have := sT_le t k; omega
  have lc0 : ∀ W, PenAt W (w.heap.size + 1) t (sT t 0) → Calls Tryz.prog 35 #[.pointer (some ⟨w.heap.size + 1, 0, none⟩), .string ⟨#[90]⟩, .int .i64 9, .int .i64 9] W fun e w' => ∃ v, e = .returned v ∧ w'.ownsRow W.heap.size 3 1 v 9 (ints (fldL t 9 (Txt.take t (sT t 0) 90) 9)) ∧ W.grownBy w' (some (w.heap.size + 1)) ∧ PenAt w' (w.heap.size + 1) t (sT t 1) := fun W h => line_any t _ ⟨#[90]⟩ 9 9 _ W h (sT_le t 0) ht' (by show 1 ≤ 1000; omega) (by omega) (by omega) (by omega)
  have lc1 : ∀ W, PenAt W (w.heap.size + 1) t (sT t 1) → Calls Tryz.prog 35 #[.pointer (some ⟨w.heap.size + 1, 0, none⟩), .string ⟨#[68]⟩, .int .i64 2, .int .i64 9] W fun e w' => ∃ v, e = .returned v ∧ w'.ownsRow W.heap.size 3 1 v 2 (ints (fldL t 9 (Txt.take t (sT t 1) 68) 2)) ∧ W.grownBy w' (some (w.heap.size + 1)) ∧ PenAt w' (w.heap.size + 1) t (sT t 2) := fun W h => line_any t _ ⟨#[68]⟩ 2 9 _ W h (sT_le t 1) ht' (by show 1 ≤ 1000; omega) (by omega) (by omega) (by omega)
  have lc2 : ∀ W, PenAt W (w.heap.size + 1) t (sT t 2) → Calls Tryz.prog 35 #[.pointer (some ⟨w.heap.size + 1, 0, none⟩), .string ⟨#[83]⟩, .int .i64 2, .int .i64 9] W fun e w' => ∃ v, e = .returned v ∧ w'.ownsRow W.heap.size 3 1 v 2 (ints (fldL t 9 (Txt.take t (sT t 2) 83) 2)) ∧ W.grownBy w' (some (w.heap.size + 1)) ∧ PenAt w' (w.heap.size + 1) t (sT t 3) := fun W h => line_any t _ ⟨#[83]⟩ 2 9 _ W h (sT_le t 2) ht' (by show 1 ≤ 1000; omega) (by omega) (by omega) (by omega)
  have lc7 : ∀ W, PenAt W (w.heap.size + 1) t (sT t 7) → Calls Tryz.prog 35 #[.pointer (some ⟨w.heap.size + 1, 0, none⟩), .string ⟨#[66]⟩, .int .i64 3, .int .i64 9] W fun e w' => ∃ v, e = .returned v ∧ w'.ownsRow W.heap.size 3 1 v 3 (ints (fldL t 9 (Txt.take t (sT t 7) 66) 3)) ∧ W.grownBy w' (some (w.heap.size + 1)) ∧ PenAt w' (w.heap.size + 1) t (sT t 8) := fun W h => line_any t _ ⟨#[66]⟩ 3 9 _ W h (sT_le t 7) ht' (by show 1 ≤ 1000; omega) (by omega) (by omega) (by omega)
  have lc8 : ∀ W, PenAt W (w.heap.size + 1) t (sT t 8) → Calls Tryz.prog 35 #[.pointer (some ⟨w.heap.size + 1, 0, none⟩), .string ⟨#[66]⟩, .int .i64 3, .int .i64 9] W fun e w' => ∃ v, e = .returned v ∧ w'.ownsRow W.heap.size 3 1 v 3 (ints (fldL t 9 (Txt.take t (sT t 8) 66) 3)) ∧ W.grownBy w' (some (w.heap.size + 1)) ∧ PenAt w' (w.heap.size + 1) t (sT t 9) := fun W h => line_any t _ ⟨#[66]⟩ 3 9 _ W h (sT_le t 8) ht' (by show 1 ≤ 1000; omega) (by omega) (by omega) (by omega)
  have lc9 : ∀ W, PenAt W (w.heap.size + 1) t (sT t 9) → Calls Tryz.prog 35 #[.pointer (some ⟨w.heap.size + 1, 0, none⟩), .string ⟨#[66]⟩, .int .i64 3, .int .i64 9] W fun e w' => ∃ v, e = .returned v ∧ w'.ownsRow W.heap.size 3 1 v 3 (ints (fldL t 9 (Txt.take t (sT t 9) 66) 3)) ∧ W.grownBy w' (some (w.heap.size + 1)) ∧ PenAt w' (w.heap.size + 1) t (sT t 10) := fun W h => line_any t _ ⟨#[66]⟩ 3 9 _ W h (sT_le t 9) ht' (by show 1 ≤ 1000; omega) (by omega) (by omega) (by omega)
  have lc10 : ∀ W, PenAt W (w.heap.size + 1) t (sT t 10) → Calls Tryz.prog 35 #[.pointer (some ⟨w.heap.size + 1, 0, none⟩), .string ⟨#[77]⟩, .int .i64 3, .int .i64 9] W fun e w' => ∃ v, e = .returned v ∧ w'.ownsRow W.heap.size 3 1 v 3 (ints (fldL t 9 (Txt.take t (sT t 10) 77) 3)) ∧ W.grownBy w' (some (w.heap.size + 1)) ∧ PenAt w' (w.heap.size + 1) t (sT t 11) := fun W h => line_any t _ ⟨#[77]⟩ 3 9 _ W h (sT_le t 10) ht' (by show 1 ≤ 1000; omega) (by omega) (by omega) (by omega)
  have lc11 : ∀ W, PenAt W (w.heap.size + 1) t (sT t 11) → Calls Tryz.prog 35 #[.pointer (some ⟨w.heap.size + 1, 0, none⟩), .string ⟨#[78]⟩, .int .i64 2, .int .i64 9] W fun e w' => ∃ v, e = .returned v ∧ w'.ownsRow W.heap.size 3 1 v 2 (ints (fldL t 9 (Txt.take t (sT t 11) 78) 2)) ∧ W.grownBy w' (some (w.heap.size + 1)) ∧ PenAt w' (w.heap.size + 1) t (sT t 12) := fun W h => line_any t _ ⟨#[78]⟩ 2 9 _ W h (sT_le t 11) ht' (by show 1 ≤ 1000; omega) (by omega) (by omega) (by omega)
  have lc12 : ∀ W, PenAt W (w.heap.size + 1) t (sT t 12) → Calls Tryz.prog 35 #[.pointer (some ⟨w.heap.size + 1, 0, none⟩), .string ⟨#[70]⟩, .int .i64 3, .int .i64 9] W fun e w' => ∃ v, e = .returned v ∧ w'.ownsRow W.heap.size 3 1 v 3 (ints (fldL t 9 (Txt.take t (sT t 12) 70) 3)) ∧ W.grownBy w' (some (w.heap.size + 1)) ∧ PenAt w' (w.heap.size + 1) t (sT t 13) := fun W h => line_any t _ ⟨#[70]⟩ 3 9 _ W h (sT_le t 12) ht' (by show 1 ≤ 1000; omega) (by omega) (by omega) (by omega)
  have hc3 : ∀ W, PenAt W (w.heap.size + 1) t (sT t 3) → Calls Tryz.prog 42 #[.pointer (some ⟨w.heap.size + 1, 0, none⟩)] W fun e w' => e = .returned (.string (hrD t 3)) ∧ W.grownBy w' (some (w.heap.size + 1)) ∧ PenAt w' (w.heap.size + 1) t (sT t 4) := fun W h => penHours_any t _ _ W h (sT_le t 3) ht'
  have hc4 : ∀ W, PenAt W (w.heap.size + 1) t (sT t 4) → Calls Tryz.prog 42 #[.pointer (some ⟨w.heap.size + 1, 0, none⟩)] W fun e w' => e = .returned (.string (hrD t 4)) ∧ W.grownBy w' (some (w.heap.size + 1)) ∧ PenAt w' (w.heap.size + 1) t (sT t 5) := fun W h => penHours_any t _ _ W h (sT_le t 4) ht'
  have hc5 : ∀ W, PenAt W (w.heap.size + 1) t (sT t 5) → Calls Tryz.prog 42 #[.pointer (some ⟨w.heap.size + 1, 0, none⟩)] W fun e w' => e = .returned (.string (hrD t 5)) ∧ W.grownBy w' (some (w.heap.size + 1)) ∧ PenAt w' (w.heap.size + 1) t (sT t 6) := fun W h => penHours_any t _ _ W h (sT_le t 5) ht'
  have hc6 : ∀ W, PenAt W (w.heap.size + 1) t (sT t 6) → Calls Tryz.prog 42 #[.pointer (some ⟨w.heap.size + 1, 0, none⟩)] W fun e w' => e = .returned (.string (hrD t 6)) ∧ W.grownBy w' (some (w.heap.size + 1)) ∧ PenAt w' (w.heap.size + 1) t (sT t 7) := fun W h => penHours_any t _ _ W h (sT_le t 6) ht'
  have dn : ∀ W, PenAt W (w.heap.size + 1) t (sT t 13) → Calls Tryz.prog 38 #[.pointer (some ⟨w.heap.size + 1, 0, none⟩)] W fun e w' => e = .returned (.int .i64 (badI (Txt.fin t (sT t 13)))) ∧ W.grownBy w' (some (w.heap.size + 1)) ∧ PenAt w' (w.heap.size + 1) t (Txt.fin t (sT t 13)) := fun W h => done_any t _ _ W h (sT_le t 13) ht'
  have sz : ∀ k, (hrD t k).size ≤ maxLen := fun k => by have := hrD_size t k; unfold maxLen; omega
  have gl := fun k (hk : k < 13) W => goodLine_any x k hk W (by rw [hx]; exact sz 3) (by rw [hx]; exact sz 4) (by rw [hx]; exact sz 5) (by rw [hx]; exact sz 6)
  have HX := hideD hx
  have HE := hideD hE
  have HT := hideD hT
  have HO := hideD hO
  clear hx hE hT hO sz
  go_enter Tryz.func12, Tryz.ntmps12
  go_upto_region 6 with (with_reducible show wpList _ _ _ _ _ (World.alloc (World.alloc (World.alloc _ _) _) _); refine wpList_store_row rfl 67 _ _ rfl (w.heap.size + 2) #[.int .i64 0, .int .i64 0, .int .i64 0, .int .i64 0, .int .i64 0, .int .i64 0, .int .i64 0, .int .i64 0, .int .i64 0, .int .i64 0, .int .i64 0, .int .i64 0, .int .i64 0, .string ByteArray.empty, .string ByteArray.empty, .string ByteArray.empty, .string ByteArray.empty, .int .i64 0, .int .i64 0, .int .i64 0, .int .i64 0, .int .i64 0, .int .i64 0, .int .i64 0, .int .i64 0, .int .i64 0, .int .i64 0, .int .i64 0, .int .i64 0, .int .i64 0, .int .i64 0, .int .i64 0, .int .i64 0, .int .i64 0] rfl rfl 67 _ (heap_three0 _ _ _ _) tuz_info rfl tz_one ?_)
  refine wp_world (fun wA hwA => ?_)
  have SA : DSt w t wA trf0 (sT t 0) (.slice none 0 0) 0 := by
    rw [hwA]
    exact ⟨below_setRow (below_more (below_more (below_more (Below.refl _ _) _) _) _) (by omega) _, (setRow_other _ _ _ _ (by omega)).trans ((heap_alloc_old _ _ (by simp; omega)).trans ((heap_alloc_old _ _ (by simp)).trans (heap_alloc_new _ _))), pen_row ⟨by simp, by simp [go_sem], by simp [go_sem, sT], by simp [go_sem, sT, badI], by simp [go_sem], by simp [go_sem]⟩ (by omega) _, setRow_heap _ _ _ _ _ _ (heap_three0 _ _ _ _), World.ownsRow_nil _ _ _ _⟩
  clear hwA
  have c1 : wA.cell? ⟨w.heap.size + 1, 1, none⟩ = some (.int .i64 (sT t 0).pos) := SA.p.c1
  have l1 := SA.lt
  go_upto_region 7 with (at_builtin; refine wpList_append_own _ rfl _ _ 87 rfl (w.heap.size + 3) 3 i0 (.int .i64 0) 1 8 Tryz.underlying87 hi hz0 hz1 hz2 rfl (by decide) _ _ _ rfl (SA.a.alloc _) ⟨wA.heap.size, 0, none⟩ 1 1 [.int .i64 (sT t 0).pos] rfl rfl (cell_one_new _ _ _) (fun x hx => by simp at hx; subst hx; rfl) (by unfold maxLen; omega) (by omega) (by simp; omega) ?_; intro v1 w1 own1 g1 nil1; obtain ⟨a1, cap1, rfl⟩ := own_slice own1)
  have S1 := SA.app _ g1 (by rw [posL_succ, ints_snoc]; exact own1)
  clear SA c1 l1 own1 g1 nil1
  go_upto_region 8 with (go_at_call 35; refine (lc0 _ S1.p).mono ?_; rintro e w2 ⟨v2, rfl, own2, g2, p2⟩; obtain ⟨b2, cap2, rfl, hb2, hl2⟩ := own2.form (by omega))
  have S2 := S1.pen g2 p2
  have lt2 := S1.lt
  have q0 : w2.cell? ⟨b2, 0, none⟩ = some (.int .i64 (lnV t (sT t 0) 90 0)) := (own2.cellAt 0 (by omega)).trans (ints_fld t (sT t 0) 90 9 0 (by omega))
  have q1 : w2.cell? ⟨b2, 1, none⟩ = some (.int .i64 (lnV t (sT t 0) 90 1)) := (own2.cellAt 1 (by omega)).trans (ints_fld t (sT t 0) 90 9 1 (by omega))
  have q2 : w2.cell? ⟨b2, 2, none⟩ = some (.int .i64 (lnV t (sT t 0) 90 2)) := (own2.cellAt 2 (by omega)).trans (ints_fld t (sT t 0) 90 9 2 (by omega))
  have q3 : w2.cell? ⟨b2, 3, none⟩ = some (.int .i64 (lnV t (sT t 0) 90 3)) := (own2.cellAt 3 (by omega)).trans (ints_fld t (sT t 0) 90 9 3 (by omega))
  have q4 : w2.cell? ⟨b2, 4, none⟩ = some (.int .i64 (lnV t (sT t 0) 90 4)) := (own2.cellAt 4 (by omega)).trans (ints_fld t (sT t 0) 90 9 4 (by omega))
  have q5 : w2.cell? ⟨b2, 5, none⟩ = some (.int .i64 (lnV t (sT t 0) 90 5)) := (own2.cellAt 5 (by omega)).trans (ints_fld t (sT t 0) 90 9 5 (by omega))
  have q6 : w2.cell? ⟨b2, 6, none⟩ = some (.int .i64 (lnV t (sT t 0) 90 6)) := (own2.cellAt 6 (by omega)).trans (ints_fld t (sT t 0) 90 9 6 (by omega))
  have q7 : w2.cell? ⟨b2, 7, none⟩ = some (.int .i64 (lnV t (sT t 0) 90 7)) := (own2.cellAt 7 (by omega)).trans (ints_fld t (sT t 0) 90 9 7 (by omega))
  have q8 : w2.cell? ⟨b2, 8, none⟩ = some (.int .i64 (lnV t (sT t 0) 90 8)) := (own2.cellAt 8 (by omega)).trans (ints_fld t (sT t 0) 90 9 8 (by omega))
  have cp2 : 9 ≤ cap2 := by
    rcases own2.2 with ⟨e1, _⟩ | ⟨g', cap', cur, hv, _, _, hc, _⟩
    · cases e1
    · cases hv; exact hc
  have nb2 : ¬ b2 = w.heap.size + 2 := by omega
  have nc2 : ¬ w.heap.size + 2 = b2 := by omega
  clear own2 g2 p2 S1
  have t0 : w2.cell? ⟨w.heap.size + 2, 0, none⟩ = some (.int .i64 0) := S2.cell 0
  have f0 : w2.frozen? ⟨w.heap.size + 2, 0, none⟩ = false := S2.frz 0
  have t1 : w2.cell? ⟨w.heap.size + 2, 1, none⟩ = some (.int .i64 0) := S2.cell 1
  have f1 : w2.frozen? ⟨w.heap.size + 2, 1, none⟩ = false := S2.frz 1
  have t2 : w2.cell? ⟨w.heap.size + 2, 2, none⟩ = some (.int .i64 0) := S2.cell 2
  have f2 : w2.frozen? ⟨w.heap.size + 2, 2, none⟩ = false := S2.frz 2
  have t3 : w2.cell? ⟨w.heap.size + 2, 3, none⟩ = some (.int .i64 0) := S2.cell 3
  have f3 : w2.frozen? ⟨w.heap.size + 2, 3, none⟩ = false := S2.frz 3
  have t4 : w2.cell? ⟨w.heap.size + 2, 4, none⟩ = some (.int .i64 0) := S2.cell 4
  have f4 : w2.frozen? ⟨w.heap.size + 2, 4, none⟩ = false := S2.frz 4
  have t5 : w2.cell? ⟨w.heap.size + 2, 5, none⟩ = some (.int .i64 0) := S2.cell 5
  have f5 : w2.frozen? ⟨w.heap.size + 2, 5, none⟩ = false := S2.frz 5
  have t6 : w2.cell? ⟨w.heap.size + 2, 6, none⟩ = some (.int .i64 0) := S2.cell 6
  have f6 : w2.frozen? ⟨w.heap.size + 2, 6, none⟩ = false := S2.frz 6
  have t7 : w2.cell? ⟨w.heap.size + 2, 7, none⟩ = some (.int .i64 0) := S2.cell 7
  have f7 : w2.frozen? ⟨w.heap.size + 2, 7, none⟩ = false := S2.frz 7
  have t8 : w2.cell? ⟨w.heap.size + 2, 8, none⟩ = some (.int .i64 0) := S2.cell 8
  have f8 : w2.frozen? ⟨w.heap.size + 2, 8, none⟩ = false := S2.frz 8
  have kw0 : IntKind.i64.wrap ((lnV t (sT t 0) 90 0) - 720) = (lnV t (sT t 0) 90 0) - 720 := Go.IntWalk.i64_in _ (by have := lnV_bd t (sT t 0) 90 0; omega)
  have hcq : (5 : Int) ≤ (cap2 : Int) := by omega
  have hcq1 : ¬ cap2 = 1 := by omega
  have hcq5 : ¬ cap2 = 5 := by omega
  have hcq9 : (9 : Int) ≤ (cap2 : Int) := by omega
  refine wp_region_held_drew (S := fun w' => w'.heap[b2]? = w2.heap[b2]?) (by kernel_rfl) rfl (fun hH0 => ?_)
  refine wpAnyH_take (i := 0) (oi := { dst := some 31, op := Go.Op.move (Go.Operand.tmp 8), type := 87, pos := "text.go:305", after := #[], guard := none }) (v := .slice (some ⟨b2, 0, none⟩) 9 cap2) rfl (by kernel_rfl) (by kernel_rfl) (by kernel_rfl) (fun _ _ _ h => h) (Or.inl ⟨by rfl, ?_⟩) (by assumption) ?_
  · intro w9 hSw
    go_simp
  try simp only [Act.put, List.setIfInBounds_toArray, List.set_cons_zero, List.set_cons_succ]
  refine wpAnyH_take (i := 1) (oi := { dst := some 32, op := Go.Op.indexAddr 87 (Go.Operand.tmp 31) (Go.Operand.const (Go.Value.int Go.IntKind.i64 0)), type := 0, pos := "text.go:305", after := #[{ on := 0, ground := Go.Ground.data }], guard := none }) (v := .pointer (some ⟨b2, 0, none⟩)) rfl (by kernel_rfl) (by kernel_rfl) (by kernel_rfl) (fun _ _ _ h => h) (Or.inl ⟨by rfl, ?_⟩) (by assumption) ?_
  · intro w9 hSw
    go_simp
  try simp only [Act.put, List.setIfInBounds_toArray, List.set_cons_zero, List.set_cons_succ]
  refine wpAnyH_take (i := 2) (oi := { dst := some 33, op := Go.Op.load 3 (Go.Operand.tmp 32), type := 3, pos := "text.go:305", after := #[{ on := 1, ground := Go.Ground.data }], guard := none }) (v := .int .i64 (lnV t (sT t 0) 90 0)) rfl (by kernel_rfl) (by kernel_rfl) (by kernel_rfl) (fun _ _ _ h => h) (Or.inl ⟨by rfl, ?_⟩) (by assumption) ?_
  · intro w9 hSw
    have q : w9.cell? ⟨b2, 0, none⟩ = some (.int .i64 (lnV t (sT t 0) 90 0)) := (World.cell?_of_block (a := ⟨b2, 0, none⟩) hSw).trans q0; go_simp
  try simp only [Act.put, List.setIfInBounds_toArray, List.set_cons_zero, List.set_cons_succ]
  refine wpAnyH_take (i := 3) (oi := { dst := some 34, op := Go.Op.binOp Go.BinOp.sub 3 (Go.Operand.tmp 33) (Go.Operand.const (Go.Value.int Go.IntKind.i64 720)) 3, type := 3, pos := "text.go:305", after := #[{ on := 2, ground := Go.Ground.data }], guard := none }) (v := .int .i64 ((lnV t (sT t 0) 90 0) - 720)) rfl (by kernel_rfl) (by kernel_rfl) (by kernel_rfl) (fun _ _ _ h => h) (Or.inl ⟨by rfl, ?_⟩) (by assumption) ?_
  · intro w9 hSw
    go_simp
  try simp only [Act.put, List.setIfInBounds_toArray, List.set_cons_zero, List.set_cons_succ]
  refine wpAnyH_take (i := 4) (oi := { dst := some 35, op := Go.Op.move (Go.Operand.tmp 8), type := 87, pos := "text.go:305", after := #[], guard := none }) (v := .slice (some ⟨b2, 0, none⟩) 9 cap2) rfl (by kernel_rfl) (by kernel_rfl) (by kernel_rfl) (fun _ _ _ h => h) (Or.inl ⟨by rfl, ?_⟩) (by assumption) ?_
  · intro w9 hSw
    go_simp
  try simp only [Act.put, List.setIfInBounds_toArray, List.set_cons_zero, List.set_cons_succ]
  refine wpAnyH_take (i := 5) (oi := { dst := some 36, op := Go.Op.slice 87 (Go.Operand.tmp 35) (some (Go.Operand.const (Go.Value.int Go.IntKind.i64 1))) (some (Go.Operand.const (Go.Value.int Go.IntKind.i64 5))) none, type := 87, pos := "text.go:305", after := #[{ on := 4, ground := Go.Ground.data }], guard := none }) (v := .slice (some ⟨b2, 1, none⟩) 4 (cap2 - 1)) rfl (by kernel_rfl) (by kernel_rfl) (by kernel_rfl) (fun _ _ _ h => h) (Or.inl ⟨by rfl, ?_⟩) (by assumption) ?_
  · intro w9 hSw
    go_simp
  try simp only [Act.put, List.setIfInBounds_toArray, List.set_cons_zero, List.set_cons_succ]
  refine wpAnyH_take (i := 7) (oi := { dst := some 38, op := Go.Op.move (Go.Operand.tmp 8), type := 87, pos := "text.go:305", after := #[], guard := none }) (v := .slice (some ⟨b2, 0, none⟩) 9 cap2) rfl (by kernel_rfl) (by kernel_rfl) (by kernel_rfl) (fun _ _ _ h => h) (Or.inl ⟨by rfl, ?_⟩) (by assumption) ?_
  · intro w9 hSw
    go_simp
  try simp only [Act.put, List.setIfInBounds_toArray, List.set_cons_zero, List.set_cons_succ]
  refine wpAnyH_take (i := 8) (oi := { dst := some 39, op := Go.Op.slice 87 (Go.Operand.tmp 38) (some (Go.Operand.const (Go.Value.int Go.IntKind.i64 5))) none none, type := 87, pos := "text.go:305", after := #[{ on := 7, ground := Go.Ground.data }], guard := none }) (v := .slice (some ⟨b2, 5, none⟩) 4 (cap2 - 5)) rfl (by kernel_rfl) (by kernel_rfl) (by kernel_rfl) (fun _ _ _ h => h) (Or.inl ⟨by rfl, ?_⟩) (by assumption) ?_
  · intro w9 hSw
    go_simp
  try simp only [Act.put, List.setIfInBounds_toArray, List.set_cons_zero, List.set_cons_succ]
  refine wpAnyH_ready (rs := [6]) (by kernel_rfl) (by simp) ?_
  refine AllReadyH.cons (o := { dst := some 37, op := Go.Op.call { callee := Go.Callee.value (Go.Operand.func 41), args := #[Go.Operand.tmp 36], argTypes := #[87] }, type := 59, pos := "text.go:305", after := #[{ on := 5, ground := Go.Ground.data }], guard := none }) rfl (fun K hK => ?_) AllReadyH.nil
  go_simp
  refine (ref_rule_any b2 1 (cap2 - 1) _ _ _ _ _ (by omega) (show b2 < (w2.drew).heap.size from hl2) ((World.cell?_of_block (a := ⟨b2, 1, none⟩) hH0).trans q1) ((World.cell?_of_block (a := ⟨b2, 2, none⟩) hH0).trans q2) ((World.cell?_of_block (a := ⟨b2, 3, none⟩) hH0).trans q3) ((World.cell?_of_block (a := ⟨b2, 4, none⟩) hH0).trans q4)).mono ?_
  rintro e wr1 ⟨rfl, hr1⟩
  have Sr1 := (S2.below (Below.drew (Below.refl _ _))).below hr1
  have hlr1 : b2 < wr1.heap.size := Nat.lt_of_lt_of_le hl2 hr1.size
  go_wp2_with fail
  refine hK.out _ _ ((hr1.block b2 hl2).trans hH0) (fun hH1 => ?_)
  clear hK K
  try simp only [Act.put, List.setIfInBounds_toArray, List.set_cons_zero, List.set_cons_succ]
  refine wpAnyH_ready (rs := [9]) (by kernel_rfl) (by simp) ?_
  refine AllReadyH.cons (o := { dst := some 40, op := Go.Op.call { callee := Go.Callee.value (Go.Operand.func 41), args := #[Go.Operand.tmp 39], argTypes := #[87] }, type := 59, pos := "text.go:305", after := #[{ on := 8, ground := Go.Ground.data }, { on := 6, ground := Go.Ground.chain }], guard := none }) rfl (fun K hK => ?_) AllReadyH.nil
  go_simp
  refine (ref_rule_any b2 5 (cap2 - 5) _ _ _ _ _ (by omega) hlr1 ((World.cell?_of_block (a := ⟨b2, 5, none⟩) hH1).trans q5) ((World.cell?_of_block (a := ⟨b2, 6, none⟩) hH1).trans q6) ((World.cell?_of_block (a := ⟨b2, 7, none⟩) hH1).trans q7) ((World.cell?_of_block (a := ⟨b2, 8, none⟩) hH1).trans q8)).mono ?_
  rintro e wr2 ⟨rfl, hr2⟩
  have Sr2 := Sr1.below hr2
  go_wp2_with fail
  refine hK.out _ _ ((hr2.block b2 hlr1).trans hH1) (fun hH2 => ?_)
  clear hK K
  try simp only [Act.put, List.setIfInBounds_toArray, List.set_cons_zero, List.set_cons_succ]
  refine wpAnyH_take (i := 10) (oi := { dst := some 41, op := Go.Op.build 61 #[(0, Go.Operand.tmp 34), (1, Go.Operand.tmp 37), (2, Go.Operand.tmp 40)], type := 61, pos := "text.go:305", after := #[{ on := 3, ground := Go.Ground.data }, { on := 6, ground := Go.Ground.data }, { on := 9, ground := Go.Ground.data }], guard := none }) (v := .agg #[.int .i64 ((lnV t (sT t 0) 90 0) - 720), .int .i64 (lnV t (sT t 0) 90 1), .int .i64 (lnV t (sT t 0) 90 2), .int .i64 (lnV t (sT t 0) 90 3), .int .i64 (lnV t (sT t 0) 90 4), .int .i64 (lnV t (sT t 0) 90 5), .int .i64 (lnV t (sT t 0) 90 6), .int .i64 (lnV t (sT t 0) 90 7), .int .i64 (lnV t (sT t 0) 90 8)]) rfl (by kernel_rfl) (by kernel_rfl) (by kernel_rfl) (fun _ _ _ h => h) (Or.inl ⟨by rfl, ?_⟩) (by assumption) ?_
  · intro w9 hSw
    go_simp
  try simp only [Act.put, List.setIfInBounds_toArray, List.set_cons_zero, List.set_cons_succ]
  refine wpAnyH_take (i := 11) (oi := { dst := some 42, op := Go.Op.fieldAddr 67 (Go.Operand.tmp 6) 0, type := 0, pos := "text.go:305", after := #[{ on := 0, ground := Go.Ground.phase }, { on := 1, ground := Go.Ground.phase }, { on := 2, ground := Go.Ground.phase }, { on := 3, ground := Go.Ground.phase }, { on := 4, ground := Go.Ground.phase }, { on := 5, ground := Go.Ground.phase }, { on := 6, ground := Go.Ground.phase }, { on := 7, ground := Go.Ground.phase }, { on := 8, ground := Go.Ground.phase }, { on := 9, ground := Go.Ground.phase }, { on := 10, ground := Go.Ground.phase }], guard := none }) (v := .pointer (some ⟨w.heap.size + 2, 0, none⟩)) rfl (by kernel_rfl) (by kernel_rfl) (by kernel_rfl) (fun _ _ _ h => h) (Or.inl ⟨by rfl, ?_⟩) (by assumption) ?_
  · intro w9 hSw
    go_simp
  try simp only [Act.put, List.setIfInBounds_toArray, List.set_cons_zero, List.set_cons_succ]
  have tz0 : wr2.cell? ⟨w.heap.size + 2, 0, none⟩ = some (.int .i64 0) := Sr2.cell 0
  have fz0 : wr2.frozen? ⟨w.heap.size + 2, 0, none⟩ = false := Sr2.frz 0
  have tz1 : wr2.cell? ⟨w.heap.size + 2, 1, none⟩ = some (.int .i64 0) := Sr2.cell 1
  have fz1 : wr2.frozen? ⟨w.heap.size + 2, 1, none⟩ = false := Sr2.frz 1
  have tz2 : wr2.cell? ⟨w.heap.size + 2, 2, none⟩ = some (.int .i64 0) := Sr2.cell 2
  have fz2 : wr2.frozen? ⟨w.heap.size + 2, 2, none⟩ = false := Sr2.frz 2
  have tz3 : wr2.cell? ⟨w.heap.size + 2, 3, none⟩ = some (.int .i64 0) := Sr2.cell 3
  have fz3 : wr2.frozen? ⟨w.heap.size + 2, 3, none⟩ = false := Sr2.frz 3
  have tz4 : wr2.cell? ⟨w.heap.size + 2, 4, none⟩ = some (.int .i64 0) := Sr2.cell 4
  have fz4 : wr2.frozen? ⟨w.heap.size + 2, 4, none⟩ = false := Sr2.frz 4
  have tz5 : wr2.cell? ⟨w.heap.size + 2, 5, none⟩ = some (.int .i64 0) := Sr2.cell 5
  have fz5 : wr2.frozen? ⟨w.heap.size + 2, 5, none⟩ = false := Sr2.frz 5
  have tz6 : wr2.cell? ⟨w.heap.size + 2, 6, none⟩ = some (.int .i64 0) := Sr2.cell 6
  have fz6 : wr2.frozen? ⟨w.heap.size + 2, 6, none⟩ = false := Sr2.frz 6
  have tz7 : wr2.cell? ⟨w.heap.size + 2, 7, none⟩ = some (.int .i64 0) := Sr2.cell 7
  have fz7 : wr2.frozen? ⟨w.heap.size + 2, 7, none⟩ = false := Sr2.frz 7
  have tz8 : wr2.cell? ⟨w.heap.size + 2, 8, none⟩ = some (.int .i64 0) := Sr2.cell 8
  have fz8 : wr2.frozen? ⟨w.heap.size + 2, 8, none⟩ = false := Sr2.frz 8
  refine wpAnyH_ready (rs := [12]) (by kernel_rfl) (by simp) ?_
  refine AllReadyH.cons (o := { dst := none, op := Go.Op.store 61 (Go.Operand.tmp 42) (Go.Operand.tmp 41), type := 0, pos := "text.go:305", after := #[{ on := 11, ground := Go.Ground.data }, { on := 10, ground := Go.Ground.data }, { on := 9, ground := Go.Ground.chain }, { on := 0, ground := Go.Ground.phase }, { on := 1, ground := Go.Ground.phase }, { on := 2, ground := Go.Ground.phase }, { on := 3, ground := Go.Ground.phase }, { on := 4, ground := Go.Ground.phase }, { on := 5, ground := Go.Ground.phase }, { on := 6, ground := Go.Ground.phase }, { on := 7, ground := Go.Ground.phase }, { on := 8, ground := Go.Ground.phase }, { on := 9, ground := Go.Ground.phase }, { on := 10, ground := Go.Ground.phase }], guard := none }) rfl (fun K hK => ?_) AllReadyH.nil
  go_simp
  refine hK.out _ _ (((Below.heap_setCell _ _ _ _ nb2)).trans (((Below.heap_setCell _ _ _ _ nb2)).trans (((Below.heap_setCell _ _ _ _ nb2)).trans (((Below.heap_setCell _ _ _ _ nb2)).trans (((Below.heap_setCell _ _ _ _ nb2)).trans (((Below.heap_setCell _ _ _ _ nb2)).trans (((Below.heap_setCell _ _ _ _ nb2)).trans (((Below.heap_setCell _ _ _ _ nb2)).trans (((Below.heap_setCell _ _ _ _ nb2)).trans hH2))))))))) (fun hH3 => ?_)
  clear hK K
  try simp only [Act.put, List.setIfInBounds_toArray, List.set_cons_zero, List.set_cons_succ]
  refine wpAnyH_done (by kernel_rfl) ?_ _
  have Sz := Sr2.zone ⟨((lnV t (sT t 0) 90 0) - 720), ⟨(lnV t (sT t 0) 90 1), (lnV t (sT t 0) 90 2), (lnV t (sT t 0) 90 3), (lnV t (sT t 0) 90 4)⟩, ⟨(lnV t (sT t 0) 90 5), (lnV t (sT t 0) 90 6), (lnV t (sT t 0) 90 7), (lnV t (sT t 0) 90 8)⟩⟩
  clear Sr1 Sr2 hr1 hr2 hH0 hH1 hH2 hH3 hlr1 kw0 hcq hcq1 hcq5 hcq9 nb2 nc2 cp2 hb2 hl2 lt2 q0 t0 f0 tz0 fz0 q1 t1 f1 tz1 fz1 q2 t2 f2 tz2 fz2 q3 t3 f3 tz3 fz3 q4 t4 f4 tz4 fz4 q5 t5 f5 tz5 fz5 q6 t6 f6 tz6 fz6 q7 t7 f7 tz7 fz7 q8 t8 f8 tz8 fz8
  go_upto_region 9 with fail
  refine wp_world (fun wz hwz => ?_)
  rw [← hwz] at Sz
  clear hwz S2
  have c3 : wz.cell? ⟨w.heap.size + 1, 1, none⟩ = some (.int .i64 (sT t 1).pos) := Sz.p.c1
  have l3 := Sz.lt
  go_upto_region 10 with (at_builtin; refine wpList_append_own _ rfl _ _ 87 rfl (w.heap.size + 3) 3 i0 (.int .i64 0) 1 8 Tryz.underlying87 hi hz0 hz1 hz2 rfl (by decide) _ _ _ rfl (Sz.a.alloc _) ⟨wz.heap.size, 0, none⟩ 1 1 [.int .i64 (sT t 1).pos] rfl rfl (cell_one_new _ _ _) (fun x hx => by simp at hx; subst hx; rfl) (by unfold maxLen; omega) (by omega) (by simp; omega) ?_; intro v3 w3 own3 g3 nil3; obtain ⟨a3, cap3, rfl⟩ := own_slice own3)
  have S3 := Sz.app _ g3 (by rw [posL_succ, ints_snoc]; exact own3)
  clear Sz c3 l3 own3 g3 nil3
  go_upto_region 11 with (go_at_call 35; refine (lc1 _ S3.p).mono ?_; rintro e w4 ⟨v4, rfl, own4, g4, p4⟩; obtain ⟨b4, cap4, rfl, hb4, hl4⟩ := own4.form (by omega))
  have S4 := S3.pen g4 p4
  have lt4 := S3.lt
  have q0 : w4.cell? ⟨b4, 0, none⟩ = some (.int .i64 (lnV t (sT t 1) 68 0)) := (own4.cellAt 0 (by omega)).trans (ints_fld t (sT t 1) 68 2 0 (by omega))
  have q1 : w4.cell? ⟨b4, 1, none⟩ = some (.int .i64 (lnV t (sT t 1) 68 1)) := (own4.cellAt 1 (by omega)).trans (ints_fld t (sT t 1) 68 2 1 (by omega))
  have cp4 : 2 ≤ cap4 := by
    rcases own4.2 with ⟨e1, _⟩ | ⟨g', cap', cur, hv, _, _, hc, _⟩
    · cases e1
    · cases hv; exact hc
  have nb4 : ¬ b4 = w.heap.size + 2 := by omega
  have nc4 : ¬ w.heap.size + 2 = b4 := by omega
  clear own4 g4 p4 S3
  have t9 : w4.cell? ⟨w.heap.size + 2, 9, none⟩ = some (.int .i64 0) := S4.cell 9
  have f9 : w4.frozen? ⟨w.heap.size + 2, 9, none⟩ = false := S4.frz 9
  have t10 : w4.cell? ⟨w.heap.size + 2, 10, none⟩ = some (.int .i64 0) := S4.cell 10
  have f10 : w4.frozen? ⟨w.heap.size + 2, 10, none⟩ = false := S4.frz 10
  go_upto_region 13 with fail
  have TD := (S4.days (lnV t (sT t 1) 68 0)).gap (lnV t (sT t 1) 68 1)
  obtain ⟨uD, huD⟩ : ∃ u, u = ((w4.setCell ⟨w.heap.size + 2, 9, none⟩ (.int .i64 (lnV t (sT t 1) 68 0))).setCell ⟨w.heap.size + 2, 10, none⟩ (.int .i64 (lnV t (sT t 1) 68 1))) := ⟨_, rfl⟩
  rw [← huD] at TD ⊢
  have SD := TD
  clear huD TD S4 nb4 nc4 cp4 hb4 hl4 lt4 q0 q1 t9 f9 t10 f10
  have c5 : uD.cell? ⟨w.heap.size + 1, 1, none⟩ = some (.int .i64 (sT t 2).pos) := SD.p.c1
  have l5 := SD.lt
  go_upto_region 14 with (at_builtin; refine wpList_append_own _ rfl _ _ 87 rfl (w.heap.size + 3) 3 i0 (.int .i64 0) 1 8 Tryz.underlying87 hi hz0 hz1 hz2 rfl (by decide) _ _ _ rfl (SD.a.alloc _) ⟨uD.heap.size, 0, none⟩ 1 1 [.int .i64 (sT t 2).pos] rfl rfl (cell_one_new _ _ _) (fun x hx => by simp at hx; subst hx; rfl) (by unfold maxLen; omega) (by omega) (by simp; omega) ?_; intro v5 w5 own5 g5 nil5; obtain ⟨a5, cap5, rfl⟩ := own_slice own5)
  have S5 := SD.app _ g5 (by rw [posL_succ, ints_snoc]; exact own5)
  clear SD c5 l5 own5 g5 nil5
  go_upto_region 15 with (go_at_call 35; refine (lc2 _ S5.p).mono ?_; rintro e w6 ⟨v6, rfl, own6, g6, p6⟩; obtain ⟨b6, cap6, rfl, hb6, hl6⟩ := own6.form (by omega))
  have S6 := S5.pen g6 p6
  have lt6 := S5.lt
  have q0 : w6.cell? ⟨b6, 0, none⟩ = some (.int .i64 (lnV t (sT t 2) 83 0)) := (own6.cellAt 0 (by omega)).trans (ints_fld t (sT t 2) 83 2 0 (by omega))
  have q1 : w6.cell? ⟨b6, 1, none⟩ = some (.int .i64 (lnV t (sT t 2) 83 1)) := (own6.cellAt 1 (by omega)).trans (ints_fld t (sT t 2) 83 2 1 (by omega))
  have cp6 : 2 ≤ cap6 := by
    rcases own6.2 with ⟨e1, _⟩ | ⟨g', cap', cur, hv, _, _, hc, _⟩
    · cases e1
    · cases hv; exact hc
  have nb6 : ¬ b6 = w.heap.size + 2 := by omega
  have nc6 : ¬ w.heap.size + 2 = b6 := by omega
  clear own6 g6 p6 S5
  have t11 : w6.cell? ⟨w.heap.size + 2, 11, none⟩ = some (.int .i64 0) := S6.cell 11
  have f11 : w6.frozen? ⟨w.heap.size + 2, 11, none⟩ = false := S6.frz 11
  have t12 : w6.cell? ⟨w.heap.size + 2, 12, none⟩ = some (.int .i64 0) := S6.cell 12
  have f12 : w6.frozen? ⟨w.heap.size + 2, 12, none⟩ = false := S6.frz 12
  go_upto_region 17 with fail
  have TS := (S6.first (lnV t (sT t 2) 83 0)).last (lnV t (sT t 2) 83 1)
  obtain ⟨uS, huS⟩ : ∃ u, u = ((w6.setCell ⟨w.heap.size + 2, 11, none⟩ (.int .i64 (lnV t (sT t 2) 83 0))).setCell ⟨w.heap.size + 2, 12, none⟩ (.int .i64 (lnV t (sT t 2) 83 1))) := ⟨_, rfl⟩
  rw [← huS] at TS ⊢
  have SS := TS
  clear huS TS S6 nb6 nc6 cp6 hb6 hl6 lt6 q0 q1 t11 f11 t12 f12
  go_wp2_with fail
  obtain ⟨xh, hxh⟩ : ∃ xh : Nat → Trf, xh = fun k => match k with | 0 => (⟨⟨((lnV t (sT t 0) 90 0) - 720), ⟨(lnV t (sT t 0) 90 1), (lnV t (sT t 0) 90 2), (lnV t (sT t 0) 90 3), (lnV t (sT t 0) 90 4)⟩, ⟨(lnV t (sT t 0) 90 5), (lnV t (sT t 0) 90 6), (lnV t (sT t 0) 90 7), (lnV t (sT t 0) 90 8)⟩⟩, (lnV t (sT t 1) 68 0), (lnV t (sT t 1) 68 1), (lnV t (sT t 2) 83 0), (lnV t (sT t 2) 83 1), ByteArray.empty, ByteArray.empty, ByteArray.empty, ByteArray.empty, ⟨0, 0, 0⟩, ⟨0, 0, 0⟩, ⟨0, 0, 0⟩, ⟨0, 0, 0⟩, 0, 0, 0, 0, 0⟩ : Trf) | 1 => ⟨⟨((lnV t (sT t 0) 90 0) - 720), ⟨(lnV t (sT t 0) 90 1), (lnV t (sT t 0) 90 2), (lnV t (sT t 0) 90 3), (lnV t (sT t 0) 90 4)⟩, ⟨(lnV t (sT t 0) 90 5), (lnV t (sT t 0) 90 6), (lnV t (sT t 0) 90 7), (lnV t (sT t 0) 90 8)⟩⟩, (lnV t (sT t 1) 68 0), (lnV t (sT t 1) 68 1), (lnV t (sT t 2) 83 0), (lnV t (sT t 2) 83 1), (hrD t 3), ByteArray.empty, ByteArray.empty, ByteArray.empty, ⟨0, 0, 0⟩, ⟨0, 0, 0⟩, ⟨0, 0, 0⟩, ⟨0, 0, 0⟩, 0, 0, 0, 0, 0⟩ | 2 => ⟨⟨((lnV t (sT t 0) 90 0) - 720), ⟨(lnV t (sT t 0) 90 1), (lnV t (sT t 0) 90 2), (lnV t (sT t 0) 90 3), (lnV t (sT t 0) 90 4)⟩, ⟨(lnV t (sT t 0) 90 5), (lnV t (sT t 0) 90 6), (lnV t (sT t 0) 90 7), (lnV t (sT t 0) 90 8)⟩⟩, (lnV t (sT t 1) 68 0), (lnV t (sT t 1) 68 1), (lnV t (sT t 2) 83 0), (lnV t (sT t 2) 83 1), (hrD t 3), (hrD t 4), ByteArray.empty, ByteArray.empty, ⟨0, 0, 0⟩, ⟨0, 0, 0⟩, ⟨0, 0, 0⟩, ⟨0, 0, 0⟩, 0, 0, 0, 0, 0⟩ | 3 => ⟨⟨((lnV t (sT t 0) 90 0) - 720), ⟨(lnV t (sT t 0) 90 1), (lnV t (sT t 0) 90 2), (lnV t (sT t 0) 90 3), (lnV t (sT t 0) 90 4)⟩, ⟨(lnV t (sT t 0) 90 5), (lnV t (sT t 0) 90 6), (lnV t (sT t 0) 90 7), (lnV t (sT t 0) 90 8)⟩⟩, (lnV t (sT t 1) 68 0), (lnV t (sT t 1) 68 1), (lnV t (sT t 2) 83 0), (lnV t (sT t 2) 83 1), (hrD t 3), (hrD t 4), (hrD t 5), ByteArray.empty, ⟨0, 0, 0⟩, ⟨0, 0, 0⟩, ⟨0, 0, 0⟩, ⟨0, 0, 0⟩, 0, 0, 0, 0, 0⟩ | _ => ⟨⟨((lnV t (sT t 0) 90 0) - 720), ⟨(lnV t (sT t 0) 90 1), (lnV t (sT t 0) 90 2), (lnV t (sT t 0) 90 3), (lnV t (sT t 0) 90 4)⟩, ⟨(lnV t (sT t 0) 90 5), (lnV t (sT t 0) 90 6), (lnV t (sT t 0) 90 7), (lnV t (sT t 0) 90 8)⟩⟩, (lnV t (sT t 1) 68 0), (lnV t (sT t 1) 68 1), (lnV t (sT t 2) 83 0), (lnV t (sT t 2) 83 1), (hrD t 3), (hrD t 4), (hrD t 5), (hrD t 6), ⟨0, 0, 0⟩, ⟨0, 0, 0⟩, ⟨0, 0, 0⟩, ⟨0, 0, 0⟩, 0, 0, 0, 0, 0⟩ := ⟨_, rfl⟩
  have SH0 : DSt w t uS (xh 0) (sT t 3) (.slice a5 3 cap5) 3 := by rw [hxh]; exact SS
  have HXH := hideD hxh
  clear SS hxh
  go_loopw [7, 9] (fun av p wi => ∃ k : Nat, p = .int .i64 k ∧ k ≤ 4 ∧ DSt w t wi (xh k) (sT t (3 + k)) av (3 + k)) (fun _ p _ => 4 - (intOf p).toNat)
  case atStart => exact ⟨0, rfl, by omega, SH0⟩
  case round =>
    clear SH0
    obtain ⟨k, rfl, hk, Sk⟩ := hrel
    by_cases hlt : k < 4
    · have hlt' : (k : Int) < 4 := by omega
      have hk0 : (0 : Int) ≤ (k : Int) := by omega
      rcases (by omega : k = 0 ∨ k = 1 ∨ k = 2 ∨ k = 3) with rfl | rfl | rfl | rfl
      · rw [HXH.out] at Sk
        obtain ⟨a7, cap7, rfl⟩ := own_slice Sk.a
        have Sm := hideD Sk
        have c7 : wr.cell? ⟨w.heap.size + 1, 1, none⟩ = some (.int .i64 (sT t 3).pos) := Sk.p.c1
        have l7 := Sk.lt
        clear Sk
        go_wp2_with (first
          | (at_builtin; refine wpList_append_own _ rfl _ _ 87 rfl (w.heap.size + 3) 3 i0 (.int .i64 0) 1 8 Tryz.underlying87 hi hz0 hz1 hz2 rfl (by decide) _ _ _ rfl (Sm.out.a.alloc _) ⟨wr.heap.size, 0, none⟩ 1 1 [.int .i64 (sT t 3).pos] rfl rfl (cell_one_new _ _ _) (fun x hx => by simp at hx; subst hx; rfl) (by unfold maxLen; omega) (by omega) (by simp; omega) ?_; intro v8 w8 own8 g8 nil8; obtain ⟨a8, cap8, rfl⟩ := own_slice own8; have S8 := Sm.out.app _ g8 (by rw [posL_succ, ints_snoc]; exact own8))
          | (go_at_call 42; refine (hc3 _ S8.p).mono ?_; rintro e w9 ⟨rfl, g9, p9⟩; have S9 := S8.pen g9 p9; have l9 := S9.lt; have t9 : w9.cell? ⟨w.heap.size + 2, 13, none⟩ = some (.string ByteArray.empty) := S9.cell 13; have f9 : w9.frozen? ⟨w.heap.size + 2, 13, none⟩ = false := S9.frz 13))
        go_roundw
        case rel => exact ⟨1, by first | rfl | go_num, by omega, by rw [HXH.out]; exact S9.h0 (hrD t 3)⟩
        case measure => simp [intOf]
      · rw [HXH.out] at Sk
        obtain ⟨a7, cap7, rfl⟩ := own_slice Sk.a
        have Sm := hideD Sk
        have c7 : wr.cell? ⟨w.heap.size + 1, 1, none⟩ = some (.int .i64 (sT t 4).pos) := Sk.p.c1
        have l7 := Sk.lt
        clear Sk
        go_wp2_with (first
          | (at_builtin; refine wpList_append_own _ rfl _ _ 87 rfl (w.heap.size + 3) 3 i0 (.int .i64 0) 1 8 Tryz.underlying87 hi hz0 hz1 hz2 rfl (by decide) _ _ _ rfl (Sm.out.a.alloc _) ⟨wr.heap.size, 0, none⟩ 1 1 [.int .i64 (sT t 4).pos] rfl rfl (cell_one_new _ _ _) (fun x hx => by simp at hx; subst hx; rfl) (by unfold maxLen; omega) (by omega) (by simp; omega) ?_; intro v8 w8 own8 g8 nil8; obtain ⟨a8, cap8, rfl⟩ := own_slice own8; have S8 := Sm.out.app _ g8 (by rw [posL_succ, ints_snoc]; exact own8))
          | (go_at_call 42; refine (hc4 _ S8.p).mono ?_; rintro e w9 ⟨rfl, g9, p9⟩; have S9 := S8.pen g9 p9; have l9 := S9.lt; have t9 : w9.cell? ⟨w.heap.size + 2, 14, none⟩ = some (.string ByteArray.empty) := S9.cell 14; have f9 : w9.frozen? ⟨w.heap.size + 2, 14, none⟩ = false := S9.frz 14))
        go_roundw
        case rel => exact ⟨2, by first | rfl | go_num, by omega, by rw [HXH.out]; exact S9.h1 (hrD t 4)⟩
        case measure => simp [intOf]
      · rw [HXH.out] at Sk
        obtain ⟨a7, cap7, rfl⟩ := own_slice Sk.a
        have Sm := hideD Sk
        have c7 : wr.cell? ⟨w.heap.size + 1, 1, none⟩ = some (.int .i64 (sT t 5).pos) := Sk.p.c1
        have l7 := Sk.lt
        clear Sk
        go_wp2_with (first
          | (at_builtin; refine wpList_append_own _ rfl _ _ 87 rfl (w.heap.size + 3) 3 i0 (.int .i64 0) 1 8 Tryz.underlying87 hi hz0 hz1 hz2 rfl (by decide) _ _ _ rfl (Sm.out.a.alloc _) ⟨wr.heap.size, 0, none⟩ 1 1 [.int .i64 (sT t 5).pos] rfl rfl (cell_one_new _ _ _) (fun x hx => by simp at hx; subst hx; rfl) (by unfold maxLen; omega) (by omega) (by simp; omega) ?_; intro v8 w8 own8 g8 nil8; obtain ⟨a8, cap8, rfl⟩ := own_slice own8; have S8 := Sm.out.app _ g8 (by rw [posL_succ, ints_snoc]; exact own8))
          | (go_at_call 42; refine (hc5 _ S8.p).mono ?_; rintro e w9 ⟨rfl, g9, p9⟩; have S9 := S8.pen g9 p9; have l9 := S9.lt; have t9 : w9.cell? ⟨w.heap.size + 2, 15, none⟩ = some (.string ByteArray.empty) := S9.cell 15; have f9 : w9.frozen? ⟨w.heap.size + 2, 15, none⟩ = false := S9.frz 15))
        go_roundw
        case rel => exact ⟨3, by first | rfl | go_num, by omega, by rw [HXH.out]; exact S9.h2 (hrD t 5)⟩
        case measure => simp [intOf]
      · rw [HXH.out] at Sk
        obtain ⟨a7, cap7, rfl⟩ := own_slice Sk.a
        have Sm := hideD Sk
        have c7 : wr.cell? ⟨w.heap.size + 1, 1, none⟩ = some (.int .i64 (sT t 6).pos) := Sk.p.c1
        have l7 := Sk.lt
        clear Sk
        go_wp2_with (first
          | (at_builtin; refine wpList_append_own _ rfl _ _ 87 rfl (w.heap.size + 3) 3 i0 (.int .i64 0) 1 8 Tryz.underlying87 hi hz0 hz1 hz2 rfl (by decide) _ _ _ rfl (Sm.out.a.alloc _) ⟨wr.heap.size, 0, none⟩ 1 1 [.int .i64 (sT t 6).pos] rfl rfl (cell_one_new _ _ _) (fun x hx => by simp at hx; subst hx; rfl) (by unfold maxLen; omega) (by omega) (by simp; omega) ?_; intro v8 w8 own8 g8 nil8; obtain ⟨a8, cap8, rfl⟩ := own_slice own8; have S8 := Sm.out.app _ g8 (by rw [posL_succ, ints_snoc]; exact own8))
          | (go_at_call 42; refine (hc6 _ S8.p).mono ?_; rintro e w9 ⟨rfl, g9, p9⟩; have S9 := S8.pen g9 p9; have l9 := S9.lt; have t9 : w9.cell? ⟨w.heap.size + 2, 16, none⟩ = some (.string ByteArray.empty) := S9.cell 16; have f9 : w9.frozen? ⟨w.heap.size + 2, 16, none⟩ = false := S9.frz 16))
        go_roundw
        case rel => exact ⟨4, by first | rfl | go_num, by omega, by rw [HXH.out]; exact S9.h3 (hrD t 6)⟩
        case measure => simp [intOf]
    · have hk4 : k = 4 := by omega
      subst hk4
      obtain ⟨a7, cap7, rfl⟩ := own_slice Sk.a
      obtain ⟨xb, hxb⟩ : ∃ xb : Nat → Trf, xb = fun k => match k with | 0 => (⟨⟨((lnV t (sT t 0) 90 0) - 720), ⟨(lnV t (sT t 0) 90 1), (lnV t (sT t 0) 90 2), (lnV t (sT t 0) 90 3), (lnV t (sT t 0) 90 4)⟩, ⟨(lnV t (sT t 0) 90 5), (lnV t (sT t 0) 90 6), (lnV t (sT t 0) 90 7), (lnV t (sT t 0) 90 8)⟩⟩, (lnV t (sT t 1) 68 0), (lnV t (sT t 1) 68 1), (lnV t (sT t 2) 83 0), (lnV t (sT t 2) 83 1), (hrD t 3), (hrD t 4), (hrD t 5), (hrD t 6), ⟨0, 0, 0⟩, ⟨0, 0, 0⟩, ⟨0, 0, 0⟩, ⟨0, 0, 0⟩, 0, 0, 0, 0, 0⟩ : Trf) | 1 => ⟨⟨((lnV t (sT t 0) 90 0) - 720), ⟨(lnV t (sT t 0) 90 1), (lnV t (sT t 0) 90 2), (lnV t (sT t 0) 90 3), (lnV t (sT t 0) 90 4)⟩, ⟨(lnV t (sT t 0) 90 5), (lnV t (sT t 0) 90 6), (lnV t (sT t 0) 90 7), (lnV t (sT t 0) 90 8)⟩⟩, (lnV t (sT t 1) 68 0), (lnV t (sT t 1) 68 1), (lnV t (sT t 2) 83 0), (lnV t (sT t 2) 83 1), (hrD t 3), (hrD t 4), (hrD t 5), (hrD t 6), ⟨(lnV t (sT t 7) 66 0), (lnV t (sT t 7) 66 1), (lnV t (sT t 7) 66 2)⟩, ⟨0, 0, 0⟩, ⟨0, 0, 0⟩, ⟨0, 0, 0⟩, 0, 0, 0, 0, 0⟩ | 2 => ⟨⟨((lnV t (sT t 0) 90 0) - 720), ⟨(lnV t (sT t 0) 90 1), (lnV t (sT t 0) 90 2), (lnV t (sT t 0) 90 3), (lnV t (sT t 0) 90 4)⟩, ⟨(lnV t (sT t 0) 90 5), (lnV t (sT t 0) 90 6), (lnV t (sT t 0) 90 7), (lnV t (sT t 0) 90 8)⟩⟩, (lnV t (sT t 1) 68 0), (lnV t (sT t 1) 68 1), (lnV t (sT t 2) 83 0), (lnV t (sT t 2) 83 1), (hrD t 3), (hrD t 4), (hrD t 5), (hrD t 6), ⟨(lnV t (sT t 7) 66 0), (lnV t (sT t 7) 66 1), (lnV t (sT t 7) 66 2)⟩, ⟨(lnV t (sT t 8) 66 0), (lnV t (sT t 8) 66 1), (lnV t (sT t 8) 66 2)⟩, ⟨0, 0, 0⟩, ⟨0, 0, 0⟩, 0, 0, 0, 0, 0⟩ | _ => ⟨⟨((lnV t (sT t 0) 90 0) - 720), ⟨(lnV t (sT t 0) 90 1), (lnV t (sT t 0) 90 2), (lnV t (sT t 0) 90 3), (lnV t (sT t 0) 90 4)⟩, ⟨(lnV t (sT t 0) 90 5), (lnV t (sT t 0) 90 6), (lnV t (sT t 0) 90 7), (lnV t (sT t 0) 90 8)⟩⟩, (lnV t (sT t 1) 68 0), (lnV t (sT t 1) 68 1), (lnV t (sT t 2) 83 0), (lnV t (sT t 2) 83 1), (hrD t 3), (hrD t 4), (hrD t 5), (hrD t 6), ⟨(lnV t (sT t 7) 66 0), (lnV t (sT t 7) 66 1), (lnV t (sT t 7) 66 2)⟩, ⟨(lnV t (sT t 8) 66 0), (lnV t (sT t 8) 66 1), (lnV t (sT t 8) 66 2)⟩, ⟨(lnV t (sT t 9) 66 0), (lnV t (sT t 9) 66 1), (lnV t (sT t 9) 66 2)⟩, ⟨0, 0, 0⟩, 0, 0, 0, 0, 0⟩ := ⟨_, rfl⟩
      have SB0 := hideD (show DSt w t wr (xb 0) (sT t 7) (.slice a7 7 cap7) 7 by rw [hxb]; rw [HXH.out] at Sk; exact Sk)
      have HXB := hideD hxb
      clear Sk hxb HXH hlt
      go_wp2_with fail
      go_loopw [7, 10] (fun av p wi => ∃ k : Nat, p = .int .i64 k ∧ k ≤ 3 ∧ DSt w t wi (xb k) (sT t (7 + k)) av (7 + k)) (fun _ p _ => 3 - (intOf p).toNat)
      case atStart => exact ⟨0, rfl, by omega, SB0.out⟩
      case round =>
        clear SB0
        obtain ⟨k, rfl, hk, Sk⟩ := hrel
        by_cases hlt : k < 3
        · have hlt' : (k : Int) < 3 := by omega
          have hk0 : (0 : Int) ≤ (k : Int) := by omega
          rcases (by omega : k = 0 ∨ k = 1 ∨ k = 2) with rfl | rfl | rfl
          · rw [HXB.out] at Sk
            obtain ⟨a7, cap7, rfl⟩ := own_slice Sk.a
            have Sm := hideD Sk
            have c7 : wr.cell? ⟨w.heap.size + 1, 1, none⟩ = some (.int .i64 (sT t 7).pos) := Sk.p.c1
            have l7 := Sk.lt
            clear Sk
            go_wp2_with (first
              | (at_builtin; refine wpList_append_own _ rfl _ _ 87 rfl (w.heap.size + 3) 3 i0 (.int .i64 0) 1 8 Tryz.underlying87 hi hz0 hz1 hz2 rfl (by decide) _ _ _ rfl (Sm.out.a.alloc _) ⟨wr.heap.size, 0, none⟩ 1 1 [.int .i64 (sT t 7).pos] rfl rfl (cell_one_new _ _ _) (fun x hx => by simp at hx; subst hx; rfl) (by unfold maxLen; omega) (by omega) (by simp; omega) ?_; intro v8 w8 own8 g8 nil8; obtain ⟨a8, cap8, rfl⟩ := own_slice own8; have S8 := Sm.out.app _ g8 (by rw [posL_succ, ints_snoc]; exact own8))
              | (go_at_call 35; refine (lc7 _ S8.p).mono ?_; rintro e w9 ⟨v9, rfl, own9, g9, p9⟩; obtain ⟨b9, cap9, rfl, hb9, hl9⟩ := own9.form (by omega); have S9 := S8.pen g9 p9; have l9 := S9.lt; have l8 := S8.lt; have q0 : w9.cell? ⟨b9, 0, none⟩ = some (.int .i64 (lnV t (sT t 7) 66 0)) := (own9.cellAt 0 (by omega)).trans (ints_fld t (sT t 7) 66 3 0 (by omega)); have t0 : w9.cell? ⟨w.heap.size + 2, 17, none⟩ = some (.int .i64 0) := S9.cell 17; have f0 : w9.frozen? ⟨w.heap.size + 2, 17, none⟩ = false := S9.frz 17; have q1 : w9.cell? ⟨b9, 1, none⟩ = some (.int .i64 (lnV t (sT t 7) 66 1)) := (own9.cellAt 1 (by omega)).trans (ints_fld t (sT t 7) 66 3 1 (by omega)); have t1 : w9.cell? ⟨w.heap.size + 2, 18, none⟩ = some (.int .i64 0) := S9.cell 18; have f1 : w9.frozen? ⟨w.heap.size + 2, 18, none⟩ = false := S9.frz 18; have q2 : w9.cell? ⟨b9, 2, none⟩ = some (.int .i64 (lnV t (sT t 7) 66 2)) := (own9.cellAt 2 (by omega)).trans (ints_fld t (sT t 7) 66 3 2 (by omega)); have t2 : w9.cell? ⟨w.heap.size + 2, 19, none⟩ = some (.int .i64 0) := S9.cell 19; have f2 : w9.frozen? ⟨w.heap.size + 2, 19, none⟩ = false := S9.frz 19))
            have nb9 : ¬ b9 = w.heap.size + 2 := by omega
            have nc9 : ¬ w.heap.size + 2 = b9 := by omega
            have H9 := hideD S9
            clear S9 S8 own8 g8 own9 g9 p9 c7
            go_region_held3 (fun w' => w'.cell? ⟨b9, 0, none⟩ = some (.int .i64 (lnV t (sT t 7) 66 0)) ∧ w'.cell? ⟨b9, 1, none⟩ = some (.int .i64 (lnV t (sT t 7) 66 1)) ∧ w'.cell? ⟨b9, 2, none⟩ = some (.int .i64 (lnV t (sT t 7) 66 2))) (simp [go_sem, *]) (fail)
            all_goals
              go_wp2_with fail
              go_roundw
              case rel => exact ⟨_, _, _, _, _, _, _, _, _, _, _, _, _, _, _, _, _, _, _, _, _, _, _, _, _, _, _, _, _, ⟨1, by first | rfl | go_num, by omega, by rw [HXB.out]; first | exact H9.out.b0 ⟨(lnV t (sT t 7) 66 0), (lnV t (sT t 7) 66 1), (lnV t (sT t 7) 66 2)⟩ | exact (H9.out.b0 ⟨(lnV t (sT t 7) 66 0), (lnV t (sT t 7) 66 1), (lnV t (sT t 7) 66 2)⟩).below (Below.drew (Below.refl _ _)) | exact (H9.out.below (Below.drew (Below.refl _ _))).b0 ⟨(lnV t (sT t 7) 66 0), (lnV t (sT t 7) 66 1), (lnV t (sT t 7) 66 2)⟩⟩, rfl⟩
              case measure => simp [intOf]
          · rw [HXB.out] at Sk
            obtain ⟨a7, cap7, rfl⟩ := own_slice Sk.a
            have Sm := hideD Sk
            have c7 : wr.cell? ⟨w.heap.size + 1, 1, none⟩ = some (.int .i64 (sT t 8).pos) := Sk.p.c1
            have l7 := Sk.lt
            clear Sk
            go_wp2_with (first
              | (at_builtin; refine wpList_append_own _ rfl _ _ 87 rfl (w.heap.size + 3) 3 i0 (.int .i64 0) 1 8 Tryz.underlying87 hi hz0 hz1 hz2 rfl (by decide) _ _ _ rfl (Sm.out.a.alloc _) ⟨wr.heap.size, 0, none⟩ 1 1 [.int .i64 (sT t 8).pos] rfl rfl (cell_one_new _ _ _) (fun x hx => by simp at hx; subst hx; rfl) (by unfold maxLen; omega) (by omega) (by simp; omega) ?_; intro v8 w8 own8 g8 nil8; obtain ⟨a8, cap8, rfl⟩ := own_slice own8; have S8 := Sm.out.app _ g8 (by rw [posL_succ, ints_snoc]; exact own8))
              | (go_at_call 35; refine (lc8 _ S8.p).mono ?_; rintro e w9 ⟨v9, rfl, own9, g9, p9⟩; obtain ⟨b9, cap9, rfl, hb9, hl9⟩ := own9.form (by omega); have S9 := S8.pen g9 p9; have l9 := S9.lt; have l8 := S8.lt; have q0 : w9.cell? ⟨b9, 0, none⟩ = some (.int .i64 (lnV t (sT t 8) 66 0)) := (own9.cellAt 0 (by omega)).trans (ints_fld t (sT t 8) 66 3 0 (by omega)); have t0 : w9.cell? ⟨w.heap.size + 2, 20, none⟩ = some (.int .i64 0) := S9.cell 20; have f0 : w9.frozen? ⟨w.heap.size + 2, 20, none⟩ = false := S9.frz 20; have q1 : w9.cell? ⟨b9, 1, none⟩ = some (.int .i64 (lnV t (sT t 8) 66 1)) := (own9.cellAt 1 (by omega)).trans (ints_fld t (sT t 8) 66 3 1 (by omega)); have t1 : w9.cell? ⟨w.heap.size + 2, 21, none⟩ = some (.int .i64 0) := S9.cell 21; have f1 : w9.frozen? ⟨w.heap.size + 2, 21, none⟩ = false := S9.frz 21; have q2 : w9.cell? ⟨b9, 2, none⟩ = some (.int .i64 (lnV t (sT t 8) 66 2)) := (own9.cellAt 2 (by omega)).trans (ints_fld t (sT t 8) 66 3 2 (by omega)); have t2 : w9.cell? ⟨w.heap.size + 2, 22, none⟩ = some (.int .i64 0) := S9.cell 22; have f2 : w9.frozen? ⟨w.heap.size + 2, 22, none⟩ = false := S9.frz 22))
            have nb9 : ¬ b9 = w.heap.size + 2 := by omega
            have nc9 : ¬ w.heap.size + 2 = b9 := by omega
            have H9 := hideD S9
            clear S9 S8 own8 g8 own9 g9 p9 c7
            go_region_held3 (fun w' => w'.cell? ⟨b9, 0, none⟩ = some (.int .i64 (lnV t (sT t 8) 66 0)) ∧ w'.cell? ⟨b9, 1, none⟩ = some (.int .i64 (lnV t (sT t 8) 66 1)) ∧ w'.cell? ⟨b9, 2, none⟩ = some (.int .i64 (lnV t (sT t 8) 66 2))) (simp [go_sem, *]) (fail)
            all_goals
              go_wp2_with fail
              go_roundw
              case rel => exact ⟨_, _, _, _, _, _, _, _, _, _, _, _, _, _, _, _, _, _, _, _, _, _, _, _, _, _, _, _, _, ⟨2, by first | rfl | go_num, by omega, by rw [HXB.out]; first | exact H9.out.b1 ⟨(lnV t (sT t 8) 66 0), (lnV t (sT t 8) 66 1), (lnV t (sT t 8) 66 2)⟩ | exact (H9.out.b1 ⟨(lnV t (sT t 8) 66 0), (lnV t (sT t 8) 66 1), (lnV t (sT t 8) 66 2)⟩).below (Below.drew (Below.refl _ _)) | exact (H9.out.below (Below.drew (Below.refl _ _))).b1 ⟨(lnV t (sT t 8) 66 0), (lnV t (sT t 8) 66 1), (lnV t (sT t 8) 66 2)⟩⟩, rfl⟩
              case measure => simp [intOf]
          · rw [HXB.out] at Sk
            obtain ⟨a7, cap7, rfl⟩ := own_slice Sk.a
            have Sm := hideD Sk
            have c7 : wr.cell? ⟨w.heap.size + 1, 1, none⟩ = some (.int .i64 (sT t 9).pos) := Sk.p.c1
            have l7 := Sk.lt
            clear Sk
            go_wp2_with (first
              | (at_builtin; refine wpList_append_own _ rfl _ _ 87 rfl (w.heap.size + 3) 3 i0 (.int .i64 0) 1 8 Tryz.underlying87 hi hz0 hz1 hz2 rfl (by decide) _ _ _ rfl (Sm.out.a.alloc _) ⟨wr.heap.size, 0, none⟩ 1 1 [.int .i64 (sT t 9).pos] rfl rfl (cell_one_new _ _ _) (fun x hx => by simp at hx; subst hx; rfl) (by unfold maxLen; omega) (by omega) (by simp; omega) ?_; intro v8 w8 own8 g8 nil8; obtain ⟨a8, cap8, rfl⟩ := own_slice own8; have S8 := Sm.out.app _ g8 (by rw [posL_succ, ints_snoc]; exact own8))
              | (go_at_call 35; refine (lc9 _ S8.p).mono ?_; rintro e w9 ⟨v9, rfl, own9, g9, p9⟩; obtain ⟨b9, cap9, rfl, hb9, hl9⟩ := own9.form (by omega); have S9 := S8.pen g9 p9; have l9 := S9.lt; have l8 := S8.lt; have q0 : w9.cell? ⟨b9, 0, none⟩ = some (.int .i64 (lnV t (sT t 9) 66 0)) := (own9.cellAt 0 (by omega)).trans (ints_fld t (sT t 9) 66 3 0 (by omega)); have t0 : w9.cell? ⟨w.heap.size + 2, 23, none⟩ = some (.int .i64 0) := S9.cell 23; have f0 : w9.frozen? ⟨w.heap.size + 2, 23, none⟩ = false := S9.frz 23; have q1 : w9.cell? ⟨b9, 1, none⟩ = some (.int .i64 (lnV t (sT t 9) 66 1)) := (own9.cellAt 1 (by omega)).trans (ints_fld t (sT t 9) 66 3 1 (by omega)); have t1 : w9.cell? ⟨w.heap.size + 2, 24, none⟩ = some (.int .i64 0) := S9.cell 24; have f1 : w9.frozen? ⟨w.heap.size + 2, 24, none⟩ = false := S9.frz 24; have q2 : w9.cell? ⟨b9, 2, none⟩ = some (.int .i64 (lnV t (sT t 9) 66 2)) := (own9.cellAt 2 (by omega)).trans (ints_fld t (sT t 9) 66 3 2 (by omega)); have t2 : w9.cell? ⟨w.heap.size + 2, 25, none⟩ = some (.int .i64 0) := S9.cell 25; have f2 : w9.frozen? ⟨w.heap.size + 2, 25, none⟩ = false := S9.frz 25))
            have nb9 : ¬ b9 = w.heap.size + 2 := by omega
            have nc9 : ¬ w.heap.size + 2 = b9 := by omega
            have H9 := hideD S9
            clear S9 S8 own8 g8 own9 g9 p9 c7
            go_region_held3 (fun w' => w'.cell? ⟨b9, 0, none⟩ = some (.int .i64 (lnV t (sT t 9) 66 0)) ∧ w'.cell? ⟨b9, 1, none⟩ = some (.int .i64 (lnV t (sT t 9) 66 1)) ∧ w'.cell? ⟨b9, 2, none⟩ = some (.int .i64 (lnV t (sT t 9) 66 2))) (simp [go_sem, *]) (fail)
            all_goals
              go_wp2_with fail
              go_roundw
              case rel => exact ⟨_, _, _, _, _, _, _, _, _, _, _, _, _, _, _, _, _, _, _, _, _, _, _, _, _, _, _, _, _, ⟨3, by first | rfl | go_num, by omega, by rw [HXB.out]; first | exact H9.out.b2 ⟨(lnV t (sT t 9) 66 0), (lnV t (sT t 9) 66 1), (lnV t (sT t 9) 66 2)⟩ | exact (H9.out.b2 ⟨(lnV t (sT t 9) 66 0), (lnV t (sT t 9) 66 1), (lnV t (sT t 9) 66 2)⟩).below (Below.drew (Below.refl _ _)) | exact (H9.out.below (Below.drew (Below.refl _ _))).b2 ⟨(lnV t (sT t 9) 66 0), (lnV t (sT t 9) 66 1), (lnV t (sT t 9) 66 2)⟩⟩, rfl⟩
              case measure => simp [intOf]
        · have hk3 : k = 3 := by omega
          subst hk3
          rw [HXB.out] at Sk
          obtain ⟨a7, cap7, rfl⟩ := own_slice Sk.a
          have SX := Sk
          clear Sk HXB hlt hk
          go_upto_region 28 with fail
          have c7 : wr.cell? ⟨w.heap.size + 1, 1, none⟩ = some (.int .i64 (sT t 10).pos) := SX.p.c1
          have l7 := SX.lt
          go_upto_region 29 with (at_builtin; refine wpList_append_own _ rfl _ _ 87 rfl (w.heap.size + 3) 3 i0 (.int .i64 0) 1 8 Tryz.underlying87 hi hz0 hz1 hz2 rfl (by decide) _ _ _ rfl (SX.a.alloc _) ⟨wr.heap.size, 0, none⟩ 1 1 [.int .i64 (sT t 10).pos] rfl rfl (cell_one_new _ _ _) (fun x hx => by simp at hx; subst hx; rfl) (by unfold maxLen; omega) (by omega) (by simp; omega) ?_; intro v7 w7 own7 g7 nil7; obtain ⟨a7, cap7, rfl⟩ := own_slice own7)
          have S7 := SX.app _ g7 (by rw [posL_succ, ints_snoc]; exact own7)
          clear SX c7 l7 own7 g7 nil7
          go_upto_region 30 with (go_at_call 35; refine (lc10 _ S7.p).mono ?_; rintro e w8 ⟨v8, rfl, own8, g8, p8⟩; obtain ⟨b8, cap8, rfl, hb8, hl8⟩ := own8.form (by omega))
          have S8 := S7.pen g8 p8
          have lt8 := S7.lt
          have q0 : w8.cell? ⟨b8, 0, none⟩ = some (.int .i64 (lnV t (sT t 10) 77 0)) := (own8.cellAt 0 (by omega)).trans (ints_fld t (sT t 10) 77 3 0 (by omega))
          have q1 : w8.cell? ⟨b8, 1, none⟩ = some (.int .i64 (lnV t (sT t 10) 77 1)) := (own8.cellAt 1 (by omega)).trans (ints_fld t (sT t 10) 77 3 1 (by omega))
          have q2 : w8.cell? ⟨b8, 2, none⟩ = some (.int .i64 (lnV t (sT t 10) 77 2)) := (own8.cellAt 2 (by omega)).trans (ints_fld t (sT t 10) 77 3 2 (by omega))
          have cp8 : 3 ≤ cap8 := by
            rcases own8.2 with ⟨e1, _⟩ | ⟨g', cap', cur, hv, _, _, hc, _⟩
            · cases e1
            · cases hv; exact hc
          have nb8 : ¬ b8 = w.heap.size + 2 := by omega
          have nc8 : ¬ w.heap.size + 2 = b8 := by omega
          clear own8 g8 p8 S7
          have t26 : w8.cell? ⟨w.heap.size + 2, 26, none⟩ = some (.int .i64 0) := S8.cell 26
          have f26 : w8.frozen? ⟨w.heap.size + 2, 26, none⟩ = false := S8.frz 26
          have t27 : w8.cell? ⟨w.heap.size + 2, 27, none⟩ = some (.int .i64 0) := S8.cell 27
          have f27 : w8.frozen? ⟨w.heap.size + 2, 27, none⟩ = false := S8.frz 27
          have t28 : w8.cell? ⟨w.heap.size + 2, 28, none⟩ = some (.int .i64 0) := S8.cell 28
          have f28 : w8.frozen? ⟨w.heap.size + 2, 28, none⟩ = false := S8.frz 28
          have HM := hideD S8
          clear S8
          go_cut [8] from 14 to 196 (fun s wc => DSt w t wc ⟨⟨((lnV t (sT t 0) 90 0) - 720), ⟨(lnV t (sT t 0) 90 1), (lnV t (sT t 0) 90 2), (lnV t (sT t 0) 90 3), (lnV t (sT t 0) 90 4)⟩, ⟨(lnV t (sT t 0) 90 5), (lnV t (sT t 0) 90 6), (lnV t (sT t 0) 90 7), (lnV t (sT t 0) 90 8)⟩⟩, (lnV t (sT t 1) 68 0), (lnV t (sT t 1) 68 1), (lnV t (sT t 2) 83 0), (lnV t (sT t 2) 83 1), (hrD t 3), (hrD t 4), (hrD t 5), (hrD t 6), ⟨(lnV t (sT t 7) 66 0), (lnV t (sT t 7) 66 1), (lnV t (sT t 7) 66 2)⟩, ⟨(lnV t (sT t 8) 66 0), (lnV t (sT t 8) 66 1), (lnV t (sT t 8) 66 2)⟩, ⟨(lnV t (sT t 9) 66 0), (lnV t (sT t 9) 66 1), (lnV t (sT t 9) 66 2)⟩, ⟨(lnV t (sT t 10) 77 0), (lnV t (sT t 10) 77 1), (lnV t (sT t 10) 77 2)⟩, 0, 0, 0, 0, 0⟩ (sT t 11) (.slice a7 11 cap7) 11)
          case first =>
            go_region_held3 (fun w' => w'.cell? ⟨b8, 0, none⟩ = some (.int .i64 (lnV t (sT t 10) 77 0)) ∧ w'.cell? ⟨b8, 1, none⟩ = some (.int .i64 (lnV t (sT t 10) 77 1)) ∧ w'.cell? ⟨b8, 2, none⟩ = some (.int .i64 (lnV t (sT t 10) 77 2))) (simp [go_sem, *]) (fail)
            all_goals
              go_wp2_with fail
              go_meet
              case rel => first | exact HM.out.dm ⟨(lnV t (sT t 10) 77 0), (lnV t (sT t 10) 77 1), (lnV t (sT t 10) 77 2)⟩ | exact (HM.out.dm ⟨(lnV t (sT t 10) 77 0), (lnV t (sT t 10) 77 1), (lnV t (sT t 10) 77 2)⟩).below (Below.drew (Below.refl _ _)) | exact (HM.out.below (Below.drew (Below.refl _ _))).dm ⟨(lnV t (sT t 10) 77 0), (lnV t (sT t 10) 77 1), (lnV t (sT t 10) 77 2)⟩
          case rest =>
            have SMc := hcut
            clear hcut HM nb8 nc8 cp8 hb8 hl8 lt8 q0 q1 q2 t26 f26 t27 f27 t28 f28
            obtain ⟨wM, hwM⟩ : ∃ wM, wM = wc := ⟨_, rfl⟩
            rw [← hwM] at SMc ⊢
            clear hwM
            have c9 : wM.cell? ⟨w.heap.size + 1, 1, none⟩ = some (.int .i64 (sT t 11).pos) := SMc.p.c1
            have l9 := SMc.lt
            go_upto_region 32 with (at_builtin; refine wpList_append_own _ rfl _ _ 87 rfl (w.heap.size + 3) 3 i0 (.int .i64 0) 1 8 Tryz.underlying87 hi hz0 hz1 hz2 rfl (by decide) _ _ _ rfl (SMc.a.alloc _) ⟨wM.heap.size, 0, none⟩ 1 1 [.int .i64 (sT t 11).pos] rfl rfl (cell_one_new _ _ _) (fun x hx => by simp at hx; subst hx; rfl) (by unfold maxLen; omega) (by omega) (by simp; omega) ?_; intro v9 w9 own9 g9 nil9; obtain ⟨a9, cap9, rfl⟩ := own_slice own9)
            have S9 := SMc.app _ g9 (by rw [posL_succ, ints_snoc]; exact own9)
            clear SMc c9 l9 own9 g9 nil9
            go_upto_region 33 with (go_at_call 35; refine (lc11 _ S9.p).mono ?_; rintro e w10 ⟨v10, rfl, own10, g10, p10⟩; obtain ⟨b10, cap10, rfl, hb10, hl10⟩ := own10.form (by omega))
            have S10 := S9.pen g10 p10
            have lt10 := S9.lt
            have q0 : w10.cell? ⟨b10, 0, none⟩ = some (.int .i64 (lnV t (sT t 11) 78 0)) := (own10.cellAt 0 (by omega)).trans (ints_fld t (sT t 11) 78 2 0 (by omega))
            have q1 : w10.cell? ⟨b10, 1, none⟩ = some (.int .i64 (lnV t (sT t 11) 78 1)) := (own10.cellAt 1 (by omega)).trans (ints_fld t (sT t 11) 78 2 1 (by omega))
            have cp10 : 2 ≤ cap10 := by
              rcases own10.2 with ⟨e1, _⟩ | ⟨g', cap', cur, hv, _, _, hc, _⟩
              · cases e1
              · cases hv; exact hc
            have nb10 : ¬ b10 = w.heap.size + 2 := by omega
            have nc10 : ¬ w.heap.size + 2 = b10 := by omega
            clear own10 g10 p10 S9
            have t29 : w10.cell? ⟨w.heap.size + 2, 29, none⟩ = some (.int .i64 0) := S10.cell 29
            have f29 : w10.frozen? ⟨w.heap.size + 2, 29, none⟩ = false := S10.frz 29
            have t30 : w10.cell? ⟨w.heap.size + 2, 30, none⟩ = some (.int .i64 0) := S10.cell 30
            have f30 : w10.frozen? ⟨w.heap.size + 2, 30, none⟩ = false := S10.frz 30
            have HN := hideD S10
            clear S10
            go_cut [8] from 14 to 196 (fun s wc => DSt w t wc ⟨⟨((lnV t (sT t 0) 90 0) - 720), ⟨(lnV t (sT t 0) 90 1), (lnV t (sT t 0) 90 2), (lnV t (sT t 0) 90 3), (lnV t (sT t 0) 90 4)⟩, ⟨(lnV t (sT t 0) 90 5), (lnV t (sT t 0) 90 6), (lnV t (sT t 0) 90 7), (lnV t (sT t 0) 90 8)⟩⟩, (lnV t (sT t 1) 68 0), (lnV t (sT t 1) 68 1), (lnV t (sT t 2) 83 0), (lnV t (sT t 2) 83 1), (hrD t 3), (hrD t 4), (hrD t 5), (hrD t 6), ⟨(lnV t (sT t 7) 66 0), (lnV t (sT t 7) 66 1), (lnV t (sT t 7) 66 2)⟩, ⟨(lnV t (sT t 8) 66 0), (lnV t (sT t 8) 66 1), (lnV t (sT t 8) 66 2)⟩, ⟨(lnV t (sT t 9) 66 0), (lnV t (sT t 9) 66 1), (lnV t (sT t 9) 66 2)⟩, ⟨(lnV t (sT t 10) 77 0), (lnV t (sT t 10) 77 1), (lnV t (sT t 10) 77 2)⟩, (lnV t (sT t 11) 78 0), (lnV t (sT t 11) 78 1), 0, 0, 0⟩ (sT t 12) (.slice a9 12 cap9) 12)
            case first =>
              go_region_held3 (fun w' => w'.cell? ⟨b10, 0, none⟩ = some (.int .i64 (lnV t (sT t 11) 78 0)) ∧ w'.cell? ⟨b10, 1, none⟩ = some (.int .i64 (lnV t (sT t 11) 78 1))) (simp [go_sem, *]) (fail)
              all_goals
                go_wp2_with fail
                go_meet
                case rel => first | exact (HN.out.np (lnV t (sT t 11) 78 0)).nn (lnV t (sT t 11) 78 1) | exact ((HN.out.np (lnV t (sT t 11) 78 0)).nn (lnV t (sT t 11) 78 1)).below (Below.drew (Below.refl _ _)) | exact ((HN.out.below (Below.drew (Below.refl _ _))).np (lnV t (sT t 11) 78 0)).nn (lnV t (sT t 11) 78 1)
            case rest =>
              have SNc := hcut
              clear hcut HN nb10 nc10 cp10 hb10 hl10 lt10 q0 q1 t29 f29 t30 f30
              obtain ⟨wN, hwN⟩ : ∃ wN, wN = wc := ⟨_, rfl⟩
              rw [← hwN] at SNc ⊢
              clear hwN
              have c11 : wN.cell? ⟨w.heap.size + 1, 1, none⟩ = some (.int .i64 (sT t 12).pos) := SNc.p.c1
              have l11 := SNc.lt
              go_upto_region 35 with (at_builtin; refine wpList_append_own _ rfl _ _ 87 rfl (w.heap.size + 3) 3 i0 (.int .i64 0) 1 8 Tryz.underlying87 hi hz0 hz1 hz2 rfl (by decide) _ _ _ rfl (SNc.a.alloc _) ⟨wN.heap.size, 0, none⟩ 1 1 [.int .i64 (sT t 12).pos] rfl rfl (cell_one_new _ _ _) (fun x hx => by simp at hx; subst hx; rfl) (by unfold maxLen; omega) (by omega) (by simp; omega) ?_; intro v11 w11 own11 g11 nil11; obtain ⟨a11, cap11, rfl⟩ := own_slice own11)
              have S11 := SNc.app _ g11 (by rw [posL_succ, ints_snoc]; exact own11)
              clear SNc c11 l11 own11 g11 nil11
              go_upto_region 36 with (go_at_call 35; refine (lc12 _ S11.p).mono ?_; rintro e w12 ⟨v12, rfl, own12, g12, p12⟩; obtain ⟨b12, cap12, rfl, hb12, hl12⟩ := own12.form (by omega))
              have S12 := S11.pen g12 p12
              have lt12 := S11.lt
              have q0 : w12.cell? ⟨b12, 0, none⟩ = some (.int .i64 (lnV t (sT t 12) 70 0)) := (own12.cellAt 0 (by omega)).trans (ints_fld t (sT t 12) 70 3 0 (by omega))
              have q1 : w12.cell? ⟨b12, 1, none⟩ = some (.int .i64 (lnV t (sT t 12) 70 1)) := (own12.cellAt 1 (by omega)).trans (ints_fld t (sT t 12) 70 3 1 (by omega))
              have q2 : w12.cell? ⟨b12, 2, none⟩ = some (.int .i64 (lnV t (sT t 12) 70 2)) := (own12.cellAt 2 (by omega)).trans (ints_fld t (sT t 12) 70 3 2 (by omega))
              have cp12 : 3 ≤ cap12 := by
                rcases own12.2 with ⟨e1, _⟩ | ⟨g', cap', cur, hv, _, _, hc, _⟩
                · cases e1
                · cases hv; exact hc
              have nb12 : ¬ b12 = w.heap.size + 2 := by omega
              have nc12 : ¬ w.heap.size + 2 = b12 := by omega
              clear own12 g12 p12 S11
              have t31 : w12.cell? ⟨w.heap.size + 2, 31, none⟩ = some (.int .i64 0) := S12.cell 31
              have f31 : w12.frozen? ⟨w.heap.size + 2, 31, none⟩ = false := S12.frz 31
              have t32 : w12.cell? ⟨w.heap.size + 2, 32, none⟩ = some (.int .i64 0) := S12.cell 32
              have f32 : w12.frozen? ⟨w.heap.size + 2, 32, none⟩ = false := S12.frz 32
              have t33 : w12.cell? ⟨w.heap.size + 2, 33, none⟩ = some (.int .i64 0) := S12.cell 33
              have f33 : w12.frozen? ⟨w.heap.size + 2, 33, none⟩ = false := S12.frz 33
              go_upto_region 39 with fail
              have TF := ((S12.fix (lnV t (sT t 12) 70 0)).min (lnV t (sT t 12) 70 1)).tax (lnV t (sT t 12) 70 2)
              obtain ⟨uF, huF⟩ : ∃ u, u = (((w12.setCell ⟨w.heap.size + 2, 31, none⟩ (.int .i64 (lnV t (sT t 12) 70 0))).setCell ⟨w.heap.size + 2, 32, none⟩ (.int .i64 (lnV t (sT t 12) 70 1))).setCell ⟨w.heap.size + 2, 33, none⟩ (.int .i64 (lnV t (sT t 12) 70 2))) := ⟨_, rfl⟩
              rw [← huF] at TF ⊢
              have SF := TF
              clear huF TF S12 nb12 nc12 cp12 hb12 hl12 lt12 q0 q1 q2 t31 f31 t32 f32 t33 f33
              have SG : DSt w t uF x (sT t 13) (.slice a11 13 cap11) 13 := by rw [HX.out]; exact SF
              clear SF
              obtain ⟨Q, hQ⟩ : ∃ Q, Q = Txt.fin t (sT t 13) := ⟨_, rfl⟩
              rw [← hQ] at dn HE HT HO
              clear hQ
              go_upto_region 40 with (go_at_call 38; refine (dn _ SG.p).mono ?_; rintro e wd ⟨rfl, gd, pd⟩)
              have SD := SG.pen gd pd
              clear SG gd pd dn
              have ZD := SD.z
              cases hbad : Q.bad
              case true =>
                obtain ⟨e1, e2, e3⟩ := HE.out hbad
                subst e1 e2 e3
                have hbi : badI Q = Q.pos := badI_true hbad
                rw [hbi]
                have hq0 : (0 : Int) ≤ (Q.pos : Int) := by omega
                have BD := SD.b
                clear hbi HE HT HO SD
                go_wp2_with (with_reducible show wpList _ _ _ _ _ wd; refine wpList_store_row rfl 67 _ _ rfl w.heap.size #[.int .i64 0, .int .i64 0, .int .i64 0, .int .i64 0, .int .i64 0, .int .i64 0, .int .i64 0, .int .i64 0, .int .i64 0, .int .i64 0, .int .i64 0, .int .i64 0, .int .i64 0, .string ByteArray.empty, .string ByteArray.empty, .string ByteArray.empty, .string ByteArray.empty, .int .i64 0, .int .i64 0, .int .i64 0, .int .i64 0, .int .i64 0, .int .i64 0, .int .i64 0, .int .i64 0, .int .i64 0, .int .i64 0, .int .i64 0, .int .i64 0, .int .i64 0, .int .i64 0, .int .i64 0, .int .i64 0, .int .i64 0] rfl rfl 67 _ ZD tuz_info rfl tz_one ?_)
                exact bodyPost_ret (results_row3 rfl _ _ w.heap.size 67 _ (0, 0) _ rfl (setRow_heap _ _ _ _ _ _ ZD) Tryz.underlying67 rfl tuz_info) rfl ⟨rfl, below_setRow BD (Nat.le_refl _) _⟩
              case false =>
                have hbi : badI Q = -1 := badI_false hbad
                rw [hbi]
                have HTT := hideD (HT.out hbad)
                have HOO := hideD (HO.out hbad)
                have HSD := hideD SD
                clear hbi HE HT HO SD ZD
                go_wp2_with fail
                go_loopw [12] (fun p wi => ∃ k : Nat, p = .int .i64 k ∧ k ≤ 13 ∧ (∀ j, j < k → lineB x j = true) ∧ DSt w t wi x Q (.slice a11 13 cap11) 13) (fun p _ => 13 - (intOf p).toNat)
                case atStart => exact ⟨0, rfl, by omega, fun j hj => by omega, HSD.out⟩
                case round =>
                  clear HSD
                  obtain ⟨k, rfl, hk, hgood, Sk⟩ := hrel
                  have HG := hideD hgood
                  have Rk := Sk.r
                  have lk := Sk.lt
                  have HSK := hideD Sk
                  clear hgood Sk
                  by_cases hlt : k < 13
                  · have hlt' : (k : Int) < 13 := by omega
                    have hk0 : (0 : Int) ≤ (k : Int) := by omega
                    cases hb : lineB x k
                    case true =>
                      have glk : ∀ W, Calls Tryz.prog 43 #[.agg #[.int .i64 x.z.off, .int .i64 x.z.f.m, .int .i64 x.z.f.w, .int .i64 x.z.f.d, .int .i64 x.z.f.h, .int .i64 x.z.t.m, .int .i64 x.z.t.w, .int .i64 x.z.t.d, .int .i64 x.z.t.h, .int .i64 x.days, .int .i64 x.gap, .int .i64 x.first, .int .i64 x.last, .string x.h0, .string x.h1, .string x.h2, .string x.h3, .int .i64 x.b0.x, .int .i64 x.b0.y, .int .i64 x.b0.z, .int .i64 x.b1.x, .int .i64 x.b1.y, .int .i64 x.b1.z, .int .i64 x.b2.x, .int .i64 x.b2.y, .int .i64 x.b2.z, .int .i64 x.d.x, .int .i64 x.d.y, .int .i64 x.d.z, .int .i64 x.np, .int .i64 x.nn, .int .i64 x.fix, .int .i64 x.min, .int .i64 x.tax], .int .i64 k] W fun e w' => e = .returned (.bool true) ∧ Below W.heap.size W w' := fun W => by have := gl k hlt W; rw [hb] at this; exact this
                      have HB := hideD hb
                      clear hb
                      go_wp2_with (first
                        | (with_reducible show wpList _ _ _ _ _ wr; refine wpList_load_row rfl 67 _ rfl (w.heap.size + 2) rfl 67 _ (0, 0) _ Rk Tryz.underlying67 rfl (by kernel_rfl) ?_)
                        | (go_at_call 43; refine (glk _).mono ?_; rintro e wg ⟨rfl, hg⟩))
                      go_roundw
                      case rel => exact ⟨k + 1, by go_num, by omega, fun j hj => by
                        rcases Nat.lt_or_ge j k with q | q
                        · exact HG.out j q
                        · have : j = k := by omega
                          subst this; exact HB.out, HSK.out.below hg⟩
                      case measure => simp [intOf]; omega
                    case false =>
                      have glk : ∀ W, Calls Tryz.prog 43 #[.agg #[.int .i64 x.z.off, .int .i64 x.z.f.m, .int .i64 x.z.f.w, .int .i64 x.z.f.d, .int .i64 x.z.f.h, .int .i64 x.z.t.m, .int .i64 x.z.t.w, .int .i64 x.z.t.d, .int .i64 x.z.t.h, .int .i64 x.days, .int .i64 x.gap, .int .i64 x.first, .int .i64 x.last, .string x.h0, .string x.h1, .string x.h2, .string x.h3, .int .i64 x.b0.x, .int .i64 x.b0.y, .int .i64 x.b0.z, .int .i64 x.b1.x, .int .i64 x.b1.y, .int .i64 x.b1.z, .int .i64 x.b2.x, .int .i64 x.b2.y, .int .i64 x.b2.z, .int .i64 x.d.x, .int .i64 x.d.y, .int .i64 x.d.z, .int .i64 x.np, .int .i64 x.nn, .int .i64 x.fix, .int .i64 x.min, .int .i64 x.tax], .int .i64 k] W fun e w' => e = .returned (.bool false) ∧ Below W.heap.size W w' := fun W => by have := gl k hlt W; rw [hb] at this; exact this
                      have hbn : badN x = k := badN_at hlt HG.out hb
                      obtain ⟨e1, e2, e3⟩ := HTT.out (by omega)
                      rw [hbn] at e2
                      subst e1 e2 e3
                      clear hbn hb HTT HOO
                      go_wp2_with (first
                        | (with_reducible show wpList _ _ _ _ _ wr; refine wpList_load_row rfl 67 _ rfl (w.heap.size + 2) rfl 67 _ (0, 0) _ Rk Tryz.underlying67 rfl (by kernel_rfl) ?_)
                        | (go_at_call 43; refine (glk _).mono ?_; rintro e wg ⟨rfl, hg⟩))
                      have Sg := HSK.out.below hg
                      obtain ⟨ga, capa, ea, hga, hgal⟩ := Sg.a.form (by omega)
                      cases ea
                      have ca : wg.cell? ⟨ga, k, none⟩ = some (.int .i64 ((sT t k).pos : Int)) := (Sg.a.cellAt k (by omega)).trans (posL_get t 13 k hlt)
                      have Zg := Sg.z
                      have Bg := Sg.b
                      have nga : ¬ ga = w.heap.size := by omega
                      clear Sg HSK Rk hg
                      refine wp_region_held_drew (S := fun w' => w'.cell? ⟨ga, k, none⟩ = some (.int .i64 ((sT t k).pos : Int))) (by kernel_rfl) ca (fun hH0 => ?_)
                      refine wpAnyH_take (i := 0) (oi := { dst := some 192, op := Go.Op.build 67 #[], type := 67, pos := "text.go:341", after := #[], guard := none }) (v := .agg #[.int .i64 0, .int .i64 0, .int .i64 0, .int .i64 0, .int .i64 0, .int .i64 0, .int .i64 0, .int .i64 0, .int .i64 0, .int .i64 0, .int .i64 0, .int .i64 0, .int .i64 0, .string ByteArray.empty, .string ByteArray.empty, .string ByteArray.empty, .string ByteArray.empty, .int .i64 0, .int .i64 0, .int .i64 0, .int .i64 0, .int .i64 0, .int .i64 0, .int .i64 0, .int .i64 0, .int .i64 0, .int .i64 0, .int .i64 0, .int .i64 0, .int .i64 0, .int .i64 0, .int .i64 0, .int .i64 0, .int .i64 0]) rfl (by kernel_rfl) (by kernel_rfl) (by kernel_rfl) (fun _ _ _ h => h) (Or.inl ⟨by rfl, ?_⟩) (by assumption) ?_
                      · intro w9 hSw
                        go_simp; rfl
                      try simp only [Act.put, List.setIfInBounds_toArray, List.set_cons_zero, List.set_cons_succ]
                      refine wpAnyH_take (i := 1) (oi := { dst := some 193, op := Go.Op.move (Go.Operand.tmp 7), type := 87, pos := "text.go:341", after := #[{ on := 6, ground := Go.Ground.gcOnly Go.Departure.lateStores }], guard := none }) (v := .slice (some ⟨ga, 0, none⟩) 13 cap11) rfl (by kernel_rfl) (by kernel_rfl) (by kernel_rfl) (fun _ _ _ h => h) (Or.inl ⟨by rfl, ?_⟩) (by assumption) ?_
                      · intro w9 hSw
                        go_simp
                      try simp only [Act.put, List.setIfInBounds_toArray, List.set_cons_zero, List.set_cons_succ]
                      refine wpAnyH_take (i := 2) (oi := { dst := some 194, op := Go.Op.move (Go.Operand.tmp 12), type := 3, pos := "text.go:341", after := #[{ on := 6, ground := Go.Ground.gcOnly Go.Departure.lateStores }], guard := none }) (v := .int .i64 (k : Int)) rfl (by kernel_rfl) (by kernel_rfl) (by kernel_rfl) (fun _ _ _ h => h) (Or.inl ⟨by rfl, ?_⟩) (by assumption) ?_
                      · intro w9 hSw
                        go_simp
                      try simp only [Act.put, List.setIfInBounds_toArray, List.set_cons_zero, List.set_cons_succ]
                      refine wpAnyH_take (i := 3) (oi := { dst := some 195, op := Go.Op.indexAddr 87 (Go.Operand.tmp 193) (Go.Operand.tmp 194), type := 0, pos := "text.go:341", after := #[{ on := 1, ground := Go.Ground.data }, { on := 2, ground := Go.Ground.data }, { on := 6, ground := Go.Ground.gcOnly Go.Departure.lateStores }], guard := none }) (v := .pointer (some ⟨ga, k, none⟩)) rfl (by kernel_rfl) (by kernel_rfl) (by kernel_rfl) (fun _ _ _ h => h) (Or.inl ⟨by rfl, ?_⟩) (by assumption) ?_
                      · intro w9 hSw
                        go_simp
                      try simp only [Act.put, List.setIfInBounds_toArray, List.set_cons_zero, List.set_cons_succ]
                      refine wpAnyH_take (i := 4) (oi := { dst := some 196, op := Go.Op.load 3 (Go.Operand.tmp 195), type := 3, pos := "text.go:341", after := #[{ on := 3, ground := Go.Ground.data }, { on := 6, ground := Go.Ground.gcOnly Go.Departure.lateStores }], guard := none }) (v := .int .i64 ((sT t k).pos : Int)) rfl (by kernel_rfl) (by kernel_rfl) (by kernel_rfl) (fun _ _ _ h => h) (Or.inl ⟨by rfl, ?_⟩) (by assumption) ?_
                      · intro w9 hSw
                        go_simp
                      try simp only [Act.put, List.setIfInBounds_toArray, List.set_cons_zero, List.set_cons_succ]
                      refine wpAnyH_ready (rs := [5]) (by kernel_rfl) (by simp) ?_
                      refine AllReadyH.cons (o := { dst := none, op := Go.Op.store 67 (Go.Operand.tmp 2) (Go.Operand.tmp 192), type := 0, pos := "text.go:341", after := #[{ on := 0, ground := Go.Ground.data }, { on := 0, ground := Go.Ground.phase }, { on := 1, ground := Go.Ground.textOnly Go.Departure.lateStores }, { on := 2, ground := Go.Ground.textOnly Go.Departure.lateStores }, { on := 3, ground := Go.Ground.textOnly Go.Departure.lateStores }, { on := 4, ground := Go.Ground.textOnly Go.Departure.lateStores }], guard := none }) rfl (fun K hK => ?_) AllReadyH.nil
                      rw [if_pos (by rfl)]
                      refine wp_store_row 67 _ _ rfl w.heap.size #[.int .i64 0, .int .i64 0, .int .i64 0, .int .i64 0, .int .i64 0, .int .i64 0, .int .i64 0, .int .i64 0, .int .i64 0, .int .i64 0, .int .i64 0, .int .i64 0, .int .i64 0, .string ByteArray.empty, .string ByteArray.empty, .string ByteArray.empty, .string ByteArray.empty, .int .i64 0, .int .i64 0, .int .i64 0, .int .i64 0, .int .i64 0, .int .i64 0, .int .i64 0, .int .i64 0, .int .i64 0, .int .i64 0, .int .i64 0, .int .i64 0, .int .i64 0, .int .i64 0, .int .i64 0, .int .i64 0, .int .i64 0] rfl rfl 67 _ Zg tuz_info rfl tz_one ?_
                      refine hK.out _ _ ((cell_setRow_other _ _ _ _ (by show ga ≠ w.heap.size; exact nga)).trans hH0) (fun hH1 => ?_)
                      clear hK K
                      try simp only [Act.put]
                      refine wpAnyH_take (i := 6) (oi := { dst := some 3, op := Go.Op.assign (Go.Operand.const (Go.Value.int Go.IntKind.i64 5)), type := 3, pos := "text.go:341", after := #[{ on := 5, ground := Go.Ground.chain }, { on := 0, ground := Go.Ground.phase }, { on := 1, ground := Go.Ground.textOnly Go.Departure.lateStores }, { on := 2, ground := Go.Ground.textOnly Go.Departure.lateStores }, { on := 3, ground := Go.Ground.textOnly Go.Departure.lateStores }, { on := 4, ground := Go.Ground.textOnly Go.Departure.lateStores }, { on := 5, ground := Go.Ground.phase }], guard := none }) (v := .int .i64 5) rfl (by kernel_rfl) (by kernel_rfl) (by kernel_rfl) (fun _ _ _ h => h) (Or.inl ⟨by rfl, ?_⟩) (by assumption) ?_
                      · intro w9 hSw
                        go_simp
                      try simp only [Act.put, List.setIfInBounds_toArray, List.set_cons_zero, List.set_cons_succ]
                      refine wpAnyH_take (i := 7) (oi := { dst := some 4, op := Go.Op.assign (Go.Operand.tmp 196), type := 3, pos := "text.go:341", after := #[{ on := 4, ground := Go.Ground.data }, { on := 6, ground := Go.Ground.chain }, { on := 0, ground := Go.Ground.phase }, { on := 1, ground := Go.Ground.phase }, { on := 2, ground := Go.Ground.phase }, { on := 3, ground := Go.Ground.phase }, { on := 4, ground := Go.Ground.phase }, { on := 5, ground := Go.Ground.phase }, { on := 6, ground := Go.Ground.phase }], guard := none }) (v := .int .i64 ((sT t k).pos : Int)) rfl (by kernel_rfl) (by kernel_rfl) (by kernel_rfl) (fun _ _ _ h => h) (Or.inl ⟨by rfl, ?_⟩) (by assumption) ?_
                      · intro w9 hSw
                        go_simp
                      try simp only [Act.put, List.setIfInBounds_toArray, List.set_cons_zero, List.set_cons_succ]
                      refine wpAnyH_done (by kernel_rfl) ?_ _
                      go_wp2_with fail
                      exact bodyPost_ret (results_row3 rfl _ _ w.heap.size 67 _ (0, 0) _ rfl (setRow_heap _ _ _ _ _ _ Zg) Tryz.underlying67 rfl tuz_info) rfl ⟨rfl, below_setRow (Below.drew Bg) (Nat.le_refl _) _⟩
                  · have hlt' : ¬ (k : Int) < 13 := by omega
                    have hbn : ¬ badN x < 13 := by rw [badN_all (fun j hj => HG.out j (by omega))]; omega
                    obtain ⟨e1, e2, e3⟩ := HOO.out hbn
                    subst e1 e2 e3
                    have Zk := HSK.out.z
                    have Bk := HSK.out.b
                    clear hbn HTT HOO
                    go_wp2_with (first
                      | (with_reducible show wpList _ _ _ _ _ wr; refine wpList_load_row rfl 67 _ rfl (w.heap.size + 2) rfl 67 _ (0, 0) _ Rk Tryz.underlying67 rfl (by kernel_rfl) ?_)
                      | (with_reducible show wpList _ _ _ _ _ wr; refine wpList_store_row rfl 67 _ _ rfl w.heap.size #[.int .i64 y.z.off, .int .i64 y.z.f.m, .int .i64 y.z.f.w, .int .i64 y.z.f.d, .int .i64 y.z.f.h, .int .i64 y.z.t.m, .int .i64 y.z.t.w, .int .i64 y.z.t.d, .int .i64 y.z.t.h, .int .i64 y.days, .int .i64 y.gap, .int .i64 y.first, .int .i64 y.last, .string y.h0, .string y.h1, .string y.h2, .string y.h3, .int .i64 y.b0.x, .int .i64 y.b0.y, .int .i64 y.b0.z, .int .i64 y.b1.x, .int .i64 y.b1.y, .int .i64 y.b1.z, .int .i64 y.b2.x, .int .i64 y.b2.y, .int .i64 y.b2.z, .int .i64 y.d.x, .int .i64 y.d.y, .int .i64 y.d.z, .int .i64 y.np, .int .i64 y.nn, .int .i64 y.fix, .int .i64 y.min, .int .i64 y.tax] rfl rfl 67 _ Zk (tu_info y) (td_size y) (tu_one y) ?_))
                    exact bodyPost_ret (results_row3 rfl _ _ w.heap.size 67 _ (0, 0) _ rfl (setRow_heap _ _ _ _ _ _ Zk) Tryz.underlying67 rfl (tu_info y)) rfl ⟨rfl, below_setRow Bk (Nat.le_refl _) _⟩
end Go.Proofs.YtjaffmmocbplaabGreatDoor
