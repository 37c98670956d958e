/-
  RunR, RunsW in one text.
-/
import Derived.Test.YtjaffmmocbplaabGreatDoorJRunW
import Derived.Test.YtjaffmmocbplaabGreatDoorJRrX
import Derived.Test.YtjaffmmocbplaabGreatDoorJLnpR
import Derived.Test.YtjaffmmocbplaabGreatDoorJRblX
namespace Go.Proofs.YtjaffmmocbplaabGreatDoor
open Go.RowKit Go.Shelf Bil
set_option linter.unusedVariables false
attribute [local go_sem ↓] Go.wp_at_zero Go.wp_at_succ
namespace run

theorem rtd_info (t : Trf) : (Tryz.prog.info? 67).map (fun i => i.size) = some (#[.int .i64 t.z.off, .int .i64 t.z.f.m, .int .i64 t.z.f.w, .int .i64 t.z.f.d, .int .i64 t.z.f.h, .int .i64 t.z.t.m, .int .i64 t.z.t.w, .int .i64 t.z.t.d, .int .i64 t.z.t.h, .int .i64 t.days, .int .i64 t.gap, .int .i64 t.first, .int .i64 t.last, .string t.h0, .string t.h1, .string t.h2, .string t.h3, .int .i64 t.b0.x, .int .i64 t.b0.y, .int .i64 t.b0.z, .int .i64 t.b1.x, .int .i64 t.b1.y, .int .i64 t.b1.z, .int .i64 t.b2.x, .int .i64 t.b2.y, .int .i64 t.b2.z, .int .i64 t.d.x, .int .i64 t.d.y, .int .i64 t.d.z, .int .i64 t.np, .int .i64 t.nn, .int .i64 t.fix, .int .i64 t.min, .int .i64 t.tax] : Array Value).size := by kernel_rfl
theorem refReadMeter_all (t : ByteArray) (n : Nat) (hn : Ends t n) (w : World) (ht : t.size ≤ maxLen) :
    Calls Tryz.prog 11 #[.string t] w fun e w' => RdPost t n e w' ∧ Below w.heap.size w w' := by
  by_cases h1 : 8000 < t.size
  · obtain ⟨a, b⟩ := rd_long (n := n) h1
    refine (refReadMeter_long t w h1 ht).mono ?_
    rintro e w' ⟨rfl, hb⟩
    exact ⟨.inr ⟨by omega, by rw [a, b]⟩, hb⟩
  · exact refReadMeter_short t n hn w (by omega)
theorem refread_ok (x : ByteArray) (n : Nat) (hn : Ends x n) (hx : x.size ≤ maxLen) (hz : rErr x n = 0) (w : World) :
    Calls Tryz.prog 11 #[.string x] w fun e w' => ∃ v, e = .returned (.tuple #[.agg #[.int .i64 (rStep x), .int .i64 (rStart x), v], .int .i64 0, .int .i64 0]) ∧ VRow w' v (rL x n) ∧ Below w.heap.size w w' := by
  refine (refReadMeter_all x n hn w hx).mono ?_
  rintro e w' ⟨h, hb⟩
  rcases h with ⟨_, v, he, hv⟩ | ⟨q, _⟩
  · exact ⟨v, he, hv, hb⟩
  · exact absurd hz q
theorem refread_no (x : ByteArray) (n : Nat) (hn : Ends x n) (hx : x.size ≤ maxLen) (hz : ¬ rErr x n = 0) (w : World) :
    Calls Tryz.prog 11 #[.string x] w fun e w' => e = .returned (.tuple #[.agg #[.int .i64 0, .int .i64 0, .slice none 0 0], .int .i64 (rErr x n), .int .i64 (rAt x n)]) ∧ Below w.heap.size w w' := by
  refine (refReadMeter_all x n hn w hx).mono ?_
  rintro e w' ⟨h, hb⟩
  rcases h with ⟨q, _⟩ | ⟨_, he⟩
  · exact absurd q hz
  · exact ⟨he, hb⟩
set_option maxRecDepth 1000000 in
set_option maxHeartbeats 2000000 in
theorem refRun_m (a b : ByteArray) (n : Nat) (hn : Ends a n) (w : World) (ha : a.size ≤ maxLen) (hb : b.size ≤ maxLen) (hz : ¬ rErr a n = 0) :
    Calls Tryz.prog 5 #[.string a, .string b] w fun e w' => e = .returned (.tuple #[.string ⟨#[]⟩, .int .i64 (rErr a n), .int .i64 (rAt a n)]) ∧ Below w.heap.size w w' := by
  have rx := fun w1 => refread_no a n hn ha hz w1
  obtain ⟨E, hE⟩ : ∃ E, E = rErr a n := ⟨_, rfl⟩
  obtain ⟨A, hA⟩ : ∃ A, A = rAt a n := ⟨_, rfl⟩
  rw [← hE, ← hA] at rx ⊢
  rw [← hE] at hz
  have hEB : (E != 0) = true := by simpa using hz
  clear hE hA hn hz
  go_enter Tryz.func5, Tryz.ntmps5
  go_wp2_with (go_at_call 11; refine (rx _).mono ?_; rintro e w1 ⟨rfl, hb1⟩)
  refine bodyPost_ret (v := .tuple #[.string ⟨#[]⟩, .int .i64 E, .int .i64 A]) (by simp [results, Tryz.results5, go_sem]) rfl ⟨rfl, ?_⟩
  exact below_more hb1 _
set_option maxRecDepth 1000000 in
set_option maxHeartbeats 2000000 in
theorem refRun_t (a b : ByteArray) (n : Nat) (hn : Ends a n) (w : World) (ha : a.size ≤ maxLen) (hb : b.size ≤ maxLen) (hz : rErr a n = 0) (ht : ¬ rtE b (rdT b (hrP b)) = 0) :
    Calls Tryz.prog 5 #[.string a, .string b] w fun e w' => e = .returned (.tuple #[.string ⟨#[]⟩, .int .i64 (rtE b (rdT b (hrP b))), .int .i64 (rtA b (rdT b (hrP b)))]) ∧ Below w.heap.size w w' := by
  have rx := fun w1 => refread_ok a n hn ha hz w1
  obtain ⟨P, hP⟩ : ∃ P, P = rStep a := ⟨_, rfl⟩
  obtain ⟨Q, hQ⟩ : ∃ Q, Q = rStart a := ⟨_, rfl⟩
  obtain ⟨L, hL⟩ : ∃ L, L = rL a n := ⟨_, rfl⟩
  rw [← hP, ← hQ, ← hL] at rx
  obtain ⟨xp, hp⟩ : ∃ z, z = rdT b (hrP b) := ⟨_, rfl⟩
  obtain ⟨y, hy⟩ : ∃ y, y = rtV b xp := ⟨_, rfl⟩
  have ry := fun w1 => tariffs.ref_any b xp (rdT b (hrD b)) y hp rfl hy w1 hb
  rw [← hp] at ht ⊢
  obtain ⟨E, hE⟩ : ∃ E, E = rtE b xp := ⟨_, rfl⟩
  obtain ⟨A, hA⟩ : ∃ A, A = rtA b xp := ⟨_, rfl⟩
  rw [← hE, ← hA] at ry ⊢
  rw [← hE] at ht
  have hEB : (E != 0) = true := by simpa using ht
  clear hE hA hn hz ht hP hQ hL hp hy
  go_enter Tryz.func5, Tryz.ntmps5
  go_wp2_with (first
    | (go_at_call 12; refine (ry _).mono ?_; rintro e w2 ⟨rfl, hb2⟩; have Z2 : w1.heap.size < w2.heap.size := (by have := hb2.size; simp at this; omega); have M2 : w2.heap[w1.heap.size]? = some (.cells #[.int .i64 P, .int .i64 Q, .slice a1 L.length c1] 56) := (hb2.block w1.heap.size (by simp)).trans M1; have B2 := below_then (below_more hb1 (.cells #[.int .i64 P, .int .i64 Q, .slice a1 L.length c1] 56)) hb2; have VW := (V1.below (below_more (Below.refl _ _) (.cells #[.int .i64 P, .int .i64 Q, .slice a1 L.length c1] 56))).below hb2)
    | (with_reducible show wpList _ _ _ _ _ (World.alloc w2 _); refine wpList_store_row rfl 67 _ _ rfl w2.heap.size #[.int .i64 y.z.off, .int .i64 y.z.f.m, .int .i64 y.z.f.w, .int .i64 y.z.f.d, .int .i64 y.z.f.h, .int .i64 y.z.t.m, .int .i64 y.z.t.w, .int .i64 y.z.t.d, .int .i64 y.z.t.h, .int .i64 y.days, .int .i64 y.gap, .int .i64 y.first, .int .i64 y.last, .string y.h0, .string y.h1, .string y.h2, .string y.h3, .int .i64 y.b0.x, .int .i64 y.b0.y, .int .i64 y.b0.z, .int .i64 y.b1.x, .int .i64 y.b1.y, .int .i64 y.b1.z, .int .i64 y.b2.x, .int .i64 y.b2.y, .int .i64 y.b2.z, .int .i64 y.d.x, .int .i64 y.d.y, .int .i64 y.d.z, .int .i64 y.np, .int .i64 y.nn, .int .i64 y.fix, .int .i64 y.min, .int .i64 y.tax] rfl rfl 67 _ (heap_alloc_new w2 _) (rtd_info y) (td_size y) (td_one y) ?_)
    | (go_at_call 11; refine (rx _).mono ?_; rintro e w1 ⟨v1, rfl, V1, hb1⟩; obtain ⟨a1, c1, rfl⟩ := V1.form; have M1 : (w1.alloc (.cells #[.int .i64 P, .int .i64 Q, .slice a1 L.length c1] 56)).heap[w1.heap.size]? = some (.cells #[.int .i64 P, .int .i64 Q, .slice a1 L.length c1] 56) := heap_alloc_new _ _))
  refine bodyPost_ret (v := .tuple #[.string ⟨#[]⟩, .int .i64 E, .int .i64 A]) (by simp [results, Tryz.results5, go_sem]) rfl ⟨rfl, ?_⟩
  exact below_setRow (below_more B2 _) B2.size _
set_option maxRecDepth 1000000 in
set_option maxHeartbeats 2000000 in
theorem refRun_b (a b : ByteArray) (n : Nat) (hn : Ends a n) (w : World) (ha : a.size ≤ maxLen) (hb : b.size ≤ maxLen) (hz : rErr a n = 0) (ht : rtE b (rdT b (hrP b)) = 0) (hs : ¬ spE (rdT b (hrP b)) (rStep a) (rStart a) (rL a n) = 0) :
    Calls Tryz.prog 5 #[.string a, .string b] w fun e w' => e = .returned (.tuple #[.string ⟨#[]⟩, .int .i64 (spE (rdT b (hrP b)) (rStep a) (rStart a) (rL a n)), .int .i64 (spA (rdT b (hrP b)) (rStep a) (rStart a) (rL a n))]) ∧ Below w.heap.size w w' := by
  have rx := fun w1 => refread_ok a n hn ha hz w1
  obtain ⟨P, hP⟩ : ∃ P, P = rStep a := ⟨_, rfl⟩
  obtain ⟨Q, hQ⟩ : ∃ Q, Q = rStart a := ⟨_, rfl⟩
  obtain ⟨L, hL⟩ : ∃ L, L = rL a n := ⟨_, rfl⟩
  rw [← hP, ← hQ, ← hL] at rx
  obtain ⟨xp, hp⟩ : ∃ z, z = rdT b (hrP b) := ⟨_, rfl⟩
  rw [← hP, ← hQ, ← hL, ← hp] at hs ⊢
  obtain ⟨y, hy⟩ : ∃ y, y = rtV b xp := ⟨_, rfl⟩
  have ry := fun w1 => tariffs.ref_any b xp (rdT b (hrD b)) y hp rfl hy w1 hb
  rw [← hp] at ht
  rw [ht] at ry
  have ey : xp = y := by rw [hy]; unfold rtV; rw [if_pos ht]
  obtain ⟨z0, z1, z2, z3⟩ := tariffs.y_sizes b xp y hp hy
  rw [ey] at hs ⊢
  obtain ⟨A0, hA0⟩ : ∃ A0, A0 = rtA b xp := ⟨_, rfl⟩
  rw [← hA0] at ry
  have bl := fun w1 v' (V : VRow w1 v' L) => bills.refBill_no y P Q v' L w1 V z0 z1 z2 z3 hs
  obtain ⟨E, hE⟩ : ∃ E, E = spE y P Q L := ⟨_, rfl⟩
  obtain ⟨A, hA⟩ : ∃ A, A = spA y P Q L := ⟨_, rfl⟩
  rw [← hE, ← hA] at bl ⊢
  rw [← hE] at hs
  have hEB : (E != 0) = true := by simpa using hs
  clear hE hA hA0 hn hz ht hP hQ hL hp hy ey hs z0 z1 z2 z3
  go_enter Tryz.func5, Tryz.ntmps5
  go_upto_region 5 with (first
    | (go_at_call 12; refine (ry _).mono ?_; rintro e w2 ⟨rfl, hb2⟩; have Z2 : w1.heap.size < w2.heap.size := (by have := hb2.size; simp at this; omega); have M2 : w2.heap[w1.heap.size]? = some (.cells #[.int .i64 P, .int .i64 Q, .slice a1 L.length c1] 56) := (hb2.block w1.heap.size (by simp)).trans M1; have B2 := below_then (below_more hb1 (.cells #[.int .i64 P, .int .i64 Q, .slice a1 L.length c1] 56)) hb2; have VW := (V1.below (below_more (Below.refl _ _) (.cells #[.int .i64 P, .int .i64 Q, .slice a1 L.length c1] 56))).below hb2)
    | (with_reducible show wpList _ _ _ _ _ (World.alloc w2 _); refine wpList_store_row rfl 67 _ _ rfl w2.heap.size #[.int .i64 y.z.off, .int .i64 y.z.f.m, .int .i64 y.z.f.w, .int .i64 y.z.f.d, .int .i64 y.z.f.h, .int .i64 y.z.t.m, .int .i64 y.z.t.w, .int .i64 y.z.t.d, .int .i64 y.z.t.h, .int .i64 y.days, .int .i64 y.gap, .int .i64 y.first, .int .i64 y.last, .string y.h0, .string y.h1, .string y.h2, .string y.h3, .int .i64 y.b0.x, .int .i64 y.b0.y, .int .i64 y.b0.z, .int .i64 y.b1.x, .int .i64 y.b1.y, .int .i64 y.b1.z, .int .i64 y.b2.x, .int .i64 y.b2.y, .int .i64 y.b2.z, .int .i64 y.d.x, .int .i64 y.d.y, .int .i64 y.d.z, .int .i64 y.np, .int .i64 y.nn, .int .i64 y.fix, .int .i64 y.min, .int .i64 y.tax] rfl rfl 67 _ (heap_alloc_new w2 _) (rtd_info y) (td_size y) (td_one y) ?_)
    | (go_at_call 11; refine (rx _).mono ?_; rintro e w1 ⟨v1, rfl, V1, hb1⟩; obtain ⟨a1, c1, rfl⟩ := V1.form; have M1 : (w1.alloc (.cells #[.int .i64 P, .int .i64 Q, .slice a1 L.length c1] 56)).heap[w1.heap.size]? = some (.cells #[.int .i64 P, .int .i64 Q, .slice a1 L.length c1] 56) := heap_alloc_new _ _))
  refine wp_world (fun w4 hw4 => ?_)
  have R4 : w4.heap[w2.heap.size]? = some (.cells #[.int .i64 y.z.off, .int .i64 y.z.f.m, .int .i64 y.z.f.w, .int .i64 y.z.f.d, .int .i64 y.z.f.h, .int .i64 y.z.t.m, .int .i64 y.z.t.w, .int .i64 y.z.t.d, .int .i64 y.z.t.h, .int .i64 y.days, .int .i64 y.gap, .int .i64 y.first, .int .i64 y.last, .string y.h0, .string y.h1, .string y.h2, .string y.h3, .int .i64 y.b0.x, .int .i64 y.b0.y, .int .i64 y.b0.z, .int .i64 y.b1.x, .int .i64 y.b1.y, .int .i64 y.b1.z, .int .i64 y.b2.x, .int .i64 y.b2.y, .int .i64 y.b2.z, .int .i64 y.d.x, .int .i64 y.d.y, .int .i64 y.d.z, .int .i64 y.np, .int .i64 y.nn, .int .i64 y.fix, .int .i64 y.min, .int .i64 y.tax] 67) := by rw [hw4]; exact setRow_heap _ _ _ _ _ _ (heap_alloc_new w2 _)
  have M4 : w4.heap[w1.heap.size]? = some (.cells #[.int .i64 P, .int .i64 Q, .slice a1 L.length c1] 56) := by rw [hw4]; exact ((setRow_other _ _ _ _ (by omega)).trans (heap_alloc_old _ _ Z2)).trans M2
  have b24 : Below w2.heap.size w2 w4 := by rw [hw4]; exact below_setRow (below_more (Below.refl _ _) _) (Nat.le_refl _) _
  have B4 := below_then B2 b24
  have V4 := VW.below b24
  have m0 : w4.cell? ⟨w1.heap.size, 0, none⟩ = some (.int .i64 P) := cell_in_row M4 rfl
  have m1 : w4.cell? ⟨w1.heap.size, 1, none⟩ = some (.int .i64 Q) := cell_in_row M4 rfl
  have m2 : w4.cell? ⟨w1.heap.size, 2, none⟩ = some (.slice a1 L.length c1) := cell_in_row M4 rfl
  clear hw4 M1 M2 M4 VW V1 hb1 hb2 B2 b24
  go_wp2_with (first
    | (with_reducible show wpList _ _ _ _ _ w4; refine wpList_load_row rfl 67 _ rfl w2.heap.size rfl 67 _ (0, 0) _ R4 Tryz.underlying67 rfl (by kernel_rfl) ?_)
    | (go_at_call 13; refine (bl _ _ V4).mono ?_; rintro e w5 ⟨rfl, hb5⟩))
  refine bodyPost_ret (v := .tuple #[.string ⟨#[]⟩, .int .i64 E, .int .i64 A]) (by simp [results, Tryz.results5, go_sem]) rfl ⟨rfl, ?_⟩
  exact below_then B4 hb5
set_option maxRecDepth 1000000 in
set_option maxHeartbeats 2000000 in
theorem refRun_ok (a b : ByteArray) (n : Nat) (hn : Ends a n) (w : World) (ha : a.size ≤ maxLen) (hb : b.size ≤ maxLen) (hz : rErr a n = 0) (ht : rtE b (rdT b (hrP b)) = 0) (hs : spE (rdT b (hrP b)) (rStep a) (rStart a) (rL a n) = 0) :
    Calls Tryz.prog 5 #[.string a, .string b] w fun e w' => e = .returned (.tuple #[.string (pB (blL (rdT b (hrP b)) (rStep a) (rStart a) (rL a n))), .int .i64 0, .int .i64 0]) ∧ Below w.heap.size w w' := by
  have rx := fun w1 => refread_ok a n hn ha hz w1
  obtain ⟨P, hP⟩ : ∃ P, P = rStep a := ⟨_, rfl⟩
  obtain ⟨Q, hQ⟩ : ∃ Q, Q = rStart a := ⟨_, rfl⟩
  obtain ⟨L, hL⟩ : ∃ L, L = rL a n := ⟨_, rfl⟩
  rw [← hP, ← hQ, ← hL] at rx
  obtain ⟨xp, hp⟩ : ∃ z, z = rdT b (hrP b) := ⟨_, rfl⟩
  rw [← hP, ← hQ, ← hL, ← hp] at hs ⊢
  obtain ⟨y, hy⟩ : ∃ y, y = rtV b xp := ⟨_, rfl⟩
  have ry := fun w1 => tariffs.ref_any b xp (rdT b (hrD b)) y hp rfl hy w1 hb
  rw [← hp] at ht
  rw [ht] at ry
  have ey : xp = y := by rw [hy]; unfold rtV; rw [if_pos ht]
  obtain ⟨z0, z1, z2, z3⟩ := tariffs.y_sizes b xp y hp hy
  rw [ey] at hs ⊢
  obtain ⟨A0, hA0⟩ : ∃ A0, A0 = rtA b xp := ⟨_, rfl⟩
  rw [← hA0] at ry
  have bi := fun w1 v' (V : VRow w1 v' L) => bills.refBill_yes y P Q v' L w1 V z0 z1 z2 z3 hs
  have hbl : (blL y P Q L).length ≤ 36556 := by unfold blL; rw [if_pos hs, lnR_len]; exact (bok hs).n.2
  have ebl : lnR y (spL y P Q L) (spL y P Q L).length = blL y P Q L := by unfold blL; rw [if_pos hs]
  have eln : (spL y P Q L).length = (blL y P Q L).length := by rw [← ebl, lnR_len]
  rw [ebl, eln] at bi
  obtain ⟨bl, hble⟩ : ∃ bl, bl = blL y P Q L := ⟨_, rfl⟩
  rw [← hble] at bi hbl ⊢
  have pb := fun w1 v' (hb3 : Below w.heap.size w w1) (V : LRow w1 v' bl) => refPrintBill_any v' bl w1 V (by unfold maxLen; omega)
  obtain ⟨X, hX⟩ : ∃ X, X = pB bl := ⟨_, rfl⟩
  rw [← hX] at pb ⊢
  clear hA0 hn hz ht hP hQ hL hp hy ey hs z0 z1 z2 z3 hble hX ebl eln
  go_enter Tryz.func5, Tryz.ntmps5
  go_upto_region 5 with (first
    | (go_at_call 12; refine (ry _).mono ?_; rintro e w2 ⟨rfl, hb2⟩; have Z2 : w1.heap.size < w2.heap.size := (by have := hb2.size; simp at this; omega); have M2 : w2.heap[w1.heap.size]? = some (.cells #[.int .i64 P, .int .i64 Q, .slice a1 L.length c1] 56) := (hb2.block w1.heap.size (by simp)).trans M1; have B2 := below_then (below_more hb1 (.cells #[.int .i64 P, .int .i64 Q, .slice a1 L.length c1] 56)) hb2; have VW := (V1.below (below_more (Below.refl _ _) (.cells #[.int .i64 P, .int .i64 Q, .slice a1 L.length c1] 56))).below hb2)
    | (with_reducible show wpList _ _ _ _ _ (World.alloc w2 _); refine wpList_store_row rfl 67 _ _ rfl w2.heap.size #[.int .i64 y.z.off, .int .i64 y.z.f.m, .int .i64 y.z.f.w, .int .i64 y.z.f.d, .int .i64 y.z.f.h, .int .i64 y.z.t.m, .int .i64 y.z.t.w, .int .i64 y.z.t.d, .int .i64 y.z.t.h, .int .i64 y.days, .int .i64 y.gap, .int .i64 y.first, .int .i64 y.last, .string y.h0, .string y.h1, .string y.h2, .string y.h3, .int .i64 y.b0.x, .int .i64 y.b0.y, .int .i64 y.b0.z, .int .i64 y.b1.x, .int .i64 y.b1.y, .int .i64 y.b1.z, .int .i64 y.b2.x, .int .i64 y.b2.y, .int .i64 y.b2.z, .int .i64 y.d.x, .int .i64 y.d.y, .int .i64 y.d.z, .int .i64 y.np, .int .i64 y.nn, .int .i64 y.fix, .int .i64 y.min, .int .i64 y.tax] rfl rfl 67 _ (heap_alloc_new w2 _) (rtd_info y) (td_size y) (td_one y) ?_)
    | (go_at_call 11; refine (rx _).mono ?_; rintro e w1 ⟨v1, rfl, V1, hb1⟩; obtain ⟨a1, c1, rfl⟩ := V1.form; have M1 : (w1.alloc (.cells #[.int .i64 P, .int .i64 Q, .slice a1 L.length c1] 56)).heap[w1.heap.size]? = some (.cells #[.int .i64 P, .int .i64 Q, .slice a1 L.length c1] 56) := heap_alloc_new _ _))
  refine wp_world (fun w4 hw4 => ?_)
  have R4 : w4.heap[w2.heap.size]? = some (.cells #[.int .i64 y.z.off, .int .i64 y.z.f.m, .int .i64 y.z.f.w, .int .i64 y.z.f.d, .int .i64 y.z.f.h, .int .i64 y.z.t.m, .int .i64 y.z.t.w, .int .i64 y.z.t.d, .int .i64 y.z.t.h, .int .i64 y.days, .int .i64 y.gap, .int .i64 y.first, .int .i64 y.last, .string y.h0, .string y.h1, .string y.h2, .string y.h3, .int .i64 y.b0.x, .int .i64 y.b0.y, .int .i64 y.b0.z, .int .i64 y.b1.x, .int .i64 y.b1.y, .int .i64 y.b1.z, .int .i64 y.b2.x, .int .i64 y.b2.y, .int .i64 y.b2.z, .int .i64 y.d.x, .int .i64 y.d.y, .int .i64 y.d.z, .int .i64 y.np, .int .i64 y.nn, .int .i64 y.fix, .int .i64 y.min, .int .i64 y.tax] 67) := by rw [hw4]; exact setRow_heap _ _ _ _ _ _ (heap_alloc_new w2 _)
  have M4 : w4.heap[w1.heap.size]? = some (.cells #[.int .i64 P, .int .i64 Q, .slice a1 L.length c1] 56) := by rw [hw4]; exact ((setRow_other _ _ _ _ (by omega)).trans (heap_alloc_old _ _ Z2)).trans M2
  have b24 : Below w2.heap.size w2 w4 := by rw [hw4]; exact below_setRow (below_more (Below.refl _ _) _) (Nat.le_refl _) _
  have B4 := below_then B2 b24
  have V4 := VW.below b24
  have m0 : w4.cell? ⟨w1.heap.size, 0, none⟩ = some (.int .i64 P) := cell_in_row M4 rfl
  have m1 : w4.cell? ⟨w1.heap.size, 1, none⟩ = some (.int .i64 Q) := cell_in_row M4 rfl
  have m2 : w4.cell? ⟨w1.heap.size, 2, none⟩ = some (.slice a1 L.length c1) := cell_in_row M4 rfl
  clear hw4 M1 M2 M4 VW V1 hb1 hb2 B2 b24
  go_wp2_with (first
    | (with_reducible show wpList _ _ _ _ _ w4; refine wpList_load_row rfl 67 _ rfl w2.heap.size rfl 67 _ (0, 0) _ R4 Tryz.underlying67 rfl (by kernel_rfl) ?_)
    | (go_at_call 14; refine (pb _ _ B5 (LRow.of_own own5 rfl)).mono ?_; rintro e w6 ⟨rfl, hb6⟩)
    | (go_at_call 13; refine (bi _ _ V4).mono ?_; rintro e w5 ⟨v5, rfl, own5, hb5⟩; obtain ⟨a5, c5, rfl⟩ := own_slice own5; have B5 := below_then B4 hb5))
  refine bodyPost_ret (v := .tuple #[.string X, .int .i64 0, .int .i64 0]) (by simp [results, Tryz.results5, go_sem]) rfl ⟨rfl, ?_⟩
  exact below_then B5 hb6
theorem refRun_any (a b : ByteArray) (n : Nat) (hn : Ends a n) (w : World) (ha : a.size ≤ maxLen) (hb : b.size ≤ maxLen) :
    Calls Tryz.prog 5 #[.string a, .string b] w fun e w' => e = .returned (.tuple #[.string (runS a b n), .int .i64 (runE a b n), .int .i64 (runA a b n)]) ∧ Below w.heap.size w w' := by
  unfold runS runE runA
  by_cases hz : rErr a n = 0
  · rw [if_pos hz, if_pos hz, if_pos hz]
    by_cases ht : rtE b (rdT b (hrP b)) = 0
    · rw [if_pos ht, if_pos ht, if_pos ht]
      by_cases hs : spE (rdT b (hrP b)) (rStep a) (rStart a) (rL a n) = 0
      · rw [hs, spA_ok hs]; exact refRun_ok a b n hn w ha hb hz ht hs
      · have e : pB (blL (rdT b (hrP b)) (rStep a) (rStart a) (rL a n)) = ⟨#[]⟩ := by unfold blL; rw [if_neg hs]; rfl
        rw [e]; exact refRun_b a b n hn w ha hb hz ht hs
    · rw [if_neg ht, if_neg ht, if_neg ht]; exact refRun_t a b n hn w ha hb hz ht
  · rw [if_neg hz, if_neg hz, if_neg hz]; exact refRun_m a b n hn w ha hb hz
end run
end Go.Proofs.YtjaffmmocbplaabGreatDoor

namespace Go.Proofs.YtjaffmmocbplaabGreatDoor
open Go.RowKit Go.Shelf Bil
set_option linter.unusedVariables false
attribute [local go_sem ↓] Go.wp_at_zero Go.wp_at_succ
namespace run
set_option maxRecDepth 1000000 in
set_option maxHeartbeats 2000000 in
theorem runs_walk (a b : ByteArray) (w : World) (ht : TB w) (ha : a.size ≤ maxLen) (hb : b.size ≤ maxLen) :
    Calls Tryz.prog 3 #[.string a, .string b] w fun e w' => e = .returned (.bool true) ∧ Below w.heap.size w w' := by
  obtain ⟨n, hn⟩ := ends_ex a
  have r1 := fun w1 (hB : Below w.heap.size w w1) => Run_any a b n hn w1 (ht.below hB) ha hb
  have r2 := fun w1 => refRun_any a b n hn w1 ha hb
  obtain ⟨X, hX⟩ : ∃ X, X = runS a b n := ⟨_, rfl⟩
  obtain ⟨E, hE⟩ : ∃ E, E = runE a b n := ⟨_, rfl⟩
  obtain ⟨A, hA⟩ : ∃ A, A = runA a b n := ⟨_, rfl⟩
  rw [← hX, ← hE, ← hA] at r1 r2
  clear hX hE hA hn ht ha hb
  go_enter Tryz.func3, Tryz.ntmps3
  go_wp2_with (first
    | (go_at_call 5; refine (r2 _).mono ?_; rintro e w2 ⟨rfl, hb2⟩)
    | (go_at_call 4; refine (r1 _ (Below.refl _ _)).mono ?_; rintro e w1 ⟨rfl, hb1⟩)
    | (go_at_call 6; refine (num_any _ _).mono ?_; rintro e wn ⟨rfl, h7⟩; have h8 := h7.symm; subst h8))
  go_ret
  exact ⟨ret_bool (by simp), below_then hb1 hb2⟩
end run
end Go.Proofs.YtjaffmmocbplaabGreatDoor
