/-
  MeterBack: the law's walk (made by tools/genbak.py).
-/
import Derived.Test.YtjaffmmocbplaaaDoorBakR
import Derived.Test.YtjaffmmocbplaaaDoorRowZ
namespace Go.Proofs.YtjaffmmocbplaaaDoor
open Go.RowKit Go.Shelf
set_option linter.unusedVariables false
attribute [local go_sem ↓] Go.wp_at_zero Go.wp_at_succ
namespace meterBack
theorem cell_of_row {w : World} {g j : Nat} {cs : Array Value} {t : TypeId} {q : Nat × Nat} {v : Value} (h : w.heap[g]? = some (.cells cs t q)) (hv : cs[j]? = some v) : w.cell? ⟨g, j, none⟩ = some v := by
  unfold World.cell?; simp [h, hv]
theorem read_ok (x : ByteArray) (n : Nat) (hn : Ends x n) (hx : x.size ≤ maxLen) (hz : rErr x n = 0) (w : World) :
    Calls Tryd.prog 14 #[.string x] w fun e w' => ∃ v, e = .returned (.tuple #[.agg #[.int .i64 (rStep x), .int .i64 (rStart x), v], .int .i64 0, .int .i64 0]) ∧ VRow w' v (rL x n) ∧ Below w.heap.size w w' := by
  refine (ReadMeter_all x n hn w hx).mono ?_
  rintro e w' ⟨h, hb⟩
  rcases h with ⟨_, v, he, hv⟩ | ⟨q, _⟩
  · exact ⟨v, he, hv, hb⟩
  · exact absurd hz q
theorem read_no (x : ByteArray) (n : Nat) (hn : Ends x n) (hx : x.size ≤ maxLen) (hz : ¬ rErr x n = 0) (w : World) :
    Calls Tryd.prog 14 #[.string x] w fun e w' => e = .returned (.tuple #[.agg #[.int .i64 0, .int .i64 0, .slice none 0 0], .int .i64 (rErr x n), .int .i64 (rAt x n)]) ∧ Below w.heap.size w w' := by
  refine (ReadMeter_all x n hn w hx).mono ?_
  rintro e w' ⟨h, hb⟩
  rcases h with ⟨q, _⟩ | ⟨_, he⟩
  · exact absurd q hz
  · exact ⟨he, hb⟩
theorem rAt_bd (x : ByteArray) (n : Nat) : 0 ≤ rAt x n ∧ rAt x n ≤ (x.size : Int) := by
  have l0 : (rdS x n).pos ≤ x.size := Txt.vS_le (hd_le (by show 0 ≤ x.size; omega)) n
  have l1 := tailS_le l0
  unfold rAt
  split
  · omega
  · split
    · omega
    · split
      · omega
      · split <;> omega
set_option maxRecDepth 1000000 in
set_option maxHeartbeats 2000000 in
theorem walk_io (step start : Int) (v : Value) (l : List Txt.Val) (x : ByteArray) (n : Nat) (w : World) (h : VRow w v l) (ht : TB w) (hreach : l.length * 24 ≤ 140737488351232) (hx : x.size ≤ maxLen) (hn : Ends x n) (hm : meterB step start l = false) (hz : rErr x n = 0) :
    Calls Tryd.prog 4 #[.agg #[.int .i64 step, .int .i64 start, v], .string x] w fun e w' => e = .returned (.bool true) ∧ Below w.heap.size w w' := by
  have rd := fun w1 (hb : Below w.heap.size w w1) => reads_any step start v l w1 (h.below hb) hreach
  have gm := fun w1 v' (V : VRow w1 v' l) => GoodMeter_any step start v' l w1 V
  have pm := fun w1 (hb : Below w.heap.size w w1) => PrintMeter_any step start v l w1 (h.below hb) (ht.below hb)
  rw [hm] at gm pm
  rw [if_neg (by simp)] at pm
  have rx := fun w1 => read_ok x n hn hx hz w1
  obtain ⟨bk, bm⟩ := meter_back hz
  have px := fun w1 v' (hb : Below w.heap.size w w1) (V : VRow w1 v' (rL x n)) => PrintMeter_any (rStep x) (rStart x) v' (rL x n) w1 V (ht.below hb)
  rw [bm, if_pos rfl, ← bk] at px
  have hL := (meterB_all bm).2.1
  have hL' : (0 : Int) < ((rL x n).length : Int) := by omega
  have hLn : 0 < (rL x n).length := by omega
  obtain ⟨L, hLe⟩ : ∃ L, L = rL x n := ⟨_, rfl⟩
  obtain ⟨P, hP⟩ : ∃ P, P = rStep x := ⟨_, rfl⟩
  obtain ⟨Q, hQ⟩ : ∃ Q, Q = rStart x := ⟨_, rfl⟩
  rw [← hLe, ← hP, ← hQ] at rx px
  rw [← hLe] at hL hL' hLn
  clear hLe hP hQ bk bm hn hz hL
  have hx' : (x.size : Int) ≤ 9223372036854775807 := by unfold maxLen at hx; omega
  obtain ⟨a, cap, rfl⟩ := h.form
  have B0 : Below w.heap.size w (w.alloc (.cells #[.int .i64 step, .int .i64 start, .slice a l.length cap] 24)) := below_more (Below.refl _ _) _
  have MM : (w.alloc (.cells #[.int .i64 step, .int .i64 start, .slice a l.length cap] 24)).heap[w.heap.size]? = some (.cells #[.int .i64 step, .int .i64 start, .slice a l.length cap] 24) := heap_alloc_new _ _
  clear h ht hreach hm hx
  go_enter Tryd.func4, Tryd.ntmps4
  go_wp2_with (first
    | (go_at_call 14; refine (rx _).mono ?_; rintro e w4 ⟨vx, rfl, VX, hbx⟩; obtain ⟨ax, capx, rfl⟩ := VX.form; have BX := below_then B3 hbx)
    | (go_at_call 15; refine (num_any _ _).mono ?_; rintro e wn ⟨rfl, h7⟩; have h8 := h7.symm; subst h8)
    | (go_at_call 7; refine (px _ _ (below_more BX _) (VX.below (below_more (Below.refl _ _) _))).mono ?_; rintro e wp ⟨rfl, hbp⟩; obtain ⟨hcp, hfp⟩ := bcell hbp; have hzp := hbp.size)
    | (go_at_call 10; refine (rd _ B0).mono ?_; rintro e w1 ⟨v1, rfl, V1, hb1⟩; obtain ⟨a1, cap1, rfl⟩ := V1.form; have Z1 : w.heap.size < w1.heap.size := (by have := hb1.size; first | omega | (simp at this; omega)); have MM1 : w1.heap[w.heap.size]? = some (.cells #[.int .i64 step, .int .i64 start, .slice a l.length cap] 24) := (hb1.block w.heap.size (by first | omega | (simp; done) | (simp; omega))).trans MM; have m0_1 : w1.cell? ⟨w.heap.size, 0, none⟩ = some (.int .i64 step) := cell_of_row MM1 rfl; have m1_1 : w1.cell? ⟨w.heap.size, 1, none⟩ = some (.int .i64 start) := cell_of_row MM1 rfl; have m2_1 : w1.cell? ⟨w.heap.size, 2, none⟩ = some (.slice a l.length cap) := cell_of_row MM1 rfl; have B1 := below_then B0 hb1)
    | (go_at_call 13; refine (gm _ _ V1).mono ?_; rintro e w2 ⟨rfl, hb2⟩; have Z2 : w.heap.size < w2.heap.size := (by have := hb2.size; first | omega | (simp at this; omega)); have MM2 : w2.heap[w.heap.size]? = some (.cells #[.int .i64 step, .int .i64 start, .slice a l.length cap] 24) := (hb2.block w.heap.size (by first | omega | (simp; done) | (simp; omega))).trans MM1; have m0_2 : w2.cell? ⟨w.heap.size, 0, none⟩ = some (.int .i64 step) := cell_of_row MM2 rfl; have m1_2 : w2.cell? ⟨w.heap.size, 1, none⟩ = some (.int .i64 start) := cell_of_row MM2 rfl; have m2_2 : w2.cell? ⟨w.heap.size, 2, none⟩ = some (.slice a l.length cap) := cell_of_row MM2 rfl; have B2 := below_then B1 hb2)
    | (go_at_call 7; refine (pm _ B2).mono ?_; rintro e w3 ⟨rfl, hb3⟩; have Z3 : w.heap.size < w3.heap.size := (by have := hb3.size; first | omega | (simp at this; omega)); have MM3 : w3.heap[w.heap.size]? = some (.cells #[.int .i64 step, .int .i64 start, .slice a l.length cap] 24) := (hb3.block w.heap.size (by first | omega | (simp; done) | (simp; omega))).trans MM2; have m0_3 : w3.cell? ⟨w.heap.size, 0, none⟩ = some (.int .i64 step) := cell_of_row MM3 rfl; have m1_3 : w3.cell? ⟨w.heap.size, 1, none⟩ = some (.int .i64 start) := cell_of_row MM3 rfl; have m2_3 : w3.cell? ⟨w.heap.size, 2, none⟩ = some (.slice a l.length cap) := cell_of_row MM3 rfl; have B3 := below_then B2 hb3))
  go_ret
  exact ⟨rfl, below_then (below_more BX _) hbp⟩
set_option maxRecDepth 1000000 in
set_option maxHeartbeats 2000000 in
theorem walk_in (step start : Int) (v : Value) (l : List Txt.Val) (x : ByteArray) (n : Nat) (w : World) (h : VRow w v l) (ht : TB w) (hreach : l.length * 24 ≤ 140737488351232) (hx : x.size ≤ maxLen) (hn : Ends x n) (hm : meterB step start l = false) (hz : ¬ rErr x n = 0) :
    Calls Tryd.prog 4 #[.agg #[.int .i64 step, .int .i64 start, v], .string x] w fun e w' => e = .returned (.bool true) ∧ Below w.heap.size w w' := by
  have rd := fun w1 (hb : Below w.heap.size w w1) => reads_any step start v l w1 (h.below hb) hreach
  have gm := fun w1 v' (V : VRow w1 v' l) => GoodMeter_any step start v' l w1 V
  have pm := fun w1 (hb : Below w.heap.size w w1) => PrintMeter_any step start v l w1 (h.below hb) (ht.below hb)
  rw [hm] at gm pm
  rw [if_neg (by simp)] at pm
  have rx := fun w1 => read_no x n hn hx hz w1
  obtain ⟨q0, q1⟩ := rAt_bd x n
  obtain ⟨E, hE⟩ : ∃ E, E = rErr x n := ⟨_, rfl⟩
  obtain ⟨A, hA⟩ : ∃ A, A = rAt x n := ⟨_, rfl⟩
  rw [← hE, ← hA] at rx
  rw [← hA] at q0 q1
  rw [← hE] at hz
  have hEB : (E != 0) = true := by simpa using hz
  clear hE hA hn hz
  have hx' : (x.size : Int) ≤ 9223372036854775807 := by unfold maxLen at hx; omega
  obtain ⟨a, cap, rfl⟩ := h.form
  have B0 : Below w.heap.size w (w.alloc (.cells #[.int .i64 step, .int .i64 start, .slice a l.length cap] 24)) := below_more (Below.refl _ _) _
  have MM : (w.alloc (.cells #[.int .i64 step, .int .i64 start, .slice a l.length cap] 24)).heap[w.heap.size]? = some (.cells #[.int .i64 step, .int .i64 start, .slice a l.length cap] 24) := heap_alloc_new _ _
  clear h ht hreach hm hx
  go_enter Tryd.func4, Tryd.ntmps4
  go_wp2_with (first
    | (go_at_call 14; refine (rx _).mono ?_; rintro e w4 ⟨rfl, hbx⟩; have BX := below_then B3 hbx)
    | (go_at_call 15; refine (num_any _ _).mono ?_; rintro e wn ⟨rfl, h7⟩; have h8 := h7.symm; subst h8)
    | (go_at_call 10; refine (rd _ B0).mono ?_; rintro e w1 ⟨v1, rfl, V1, hb1⟩; obtain ⟨a1, cap1, rfl⟩ := V1.form; have Z1 : w.heap.size < w1.heap.size := (by have := hb1.size; first | omega | (simp at this; omega)); have MM1 : w1.heap[w.heap.size]? = some (.cells #[.int .i64 step, .int .i64 start, .slice a l.length cap] 24) := (hb1.block w.heap.size (by first | omega | (simp; done) | (simp; omega))).trans MM; have m0_1 : w1.cell? ⟨w.heap.size, 0, none⟩ = some (.int .i64 step) := cell_of_row MM1 rfl; have m1_1 : w1.cell? ⟨w.heap.size, 1, none⟩ = some (.int .i64 start) := cell_of_row MM1 rfl; have m2_1 : w1.cell? ⟨w.heap.size, 2, none⟩ = some (.slice a l.length cap) := cell_of_row MM1 rfl; have B1 := below_then B0 hb1)
    | (go_at_call 13; refine (gm _ _ V1).mono ?_; rintro e w2 ⟨rfl, hb2⟩; have Z2 : w.heap.size < w2.heap.size := (by have := hb2.size; first | omega | (simp at this; omega)); have MM2 : w2.heap[w.heap.size]? = some (.cells #[.int .i64 step, .int .i64 start, .slice a l.length cap] 24) := (hb2.block w.heap.size (by first | omega | (simp; done) | (simp; omega))).trans MM1; have m0_2 : w2.cell? ⟨w.heap.size, 0, none⟩ = some (.int .i64 step) := cell_of_row MM2 rfl; have m1_2 : w2.cell? ⟨w.heap.size, 1, none⟩ = some (.int .i64 start) := cell_of_row MM2 rfl; have m2_2 : w2.cell? ⟨w.heap.size, 2, none⟩ = some (.slice a l.length cap) := cell_of_row MM2 rfl; have B2 := below_then B1 hb2)
    | (go_at_call 7; refine (pm _ B2).mono ?_; rintro e w3 ⟨rfl, hb3⟩; have Z3 : w.heap.size < w3.heap.size := (by have := hb3.size; first | omega | (simp at this; omega)); have MM3 : w3.heap[w.heap.size]? = some (.cells #[.int .i64 step, .int .i64 start, .slice a l.length cap] 24) := (hb3.block w.heap.size (by first | omega | (simp; done) | (simp; omega))).trans MM2; have m0_3 : w3.cell? ⟨w.heap.size, 0, none⟩ = some (.int .i64 step) := cell_of_row MM3 rfl; have m1_3 : w3.cell? ⟨w.heap.size, 1, none⟩ = some (.int .i64 start) := cell_of_row MM3 rfl; have m2_3 : w3.cell? ⟨w.heap.size, 2, none⟩ = some (.slice a l.length cap) := cell_of_row MM3 rfl; have B3 := below_then B2 hb3))
  go_ret
  exact ⟨rfl, below_more BX _⟩
set_option maxRecDepth 1000000 in
set_option maxHeartbeats 2000000 in
theorem walk_vo (step start : Int) (v : Value) (l : List Txt.Val) (x : ByteArray) (n : Nat) (w : World) (h : VRow w v l) (ht : TB w) (hreach : l.length * 24 ≤ 140737488351232) (hx : x.size ≤ maxLen) (hn : Ends x n) (hm : meterB step start l = true) (hz : rErr x n = 0) :
    Calls Tryd.prog 4 #[.agg #[.int .i64 step, .int .i64 start, v], .string x] w fun e w' => e = .returned (.bool true) ∧ Below w.heap.size w w' := by
  have rd := fun w1 (hb : Below w.heap.size w w1) => reads_any step start v l w1 (h.below hb) hreach
  have gm := fun w1 v' (V : VRow w1 v' l) => GoodMeter_any step start v' l w1 V
  have pm := fun w1 (hb : Below w.heap.size w w1) => PrintMeter_any step start v l w1 (h.below hb) (ht.below hb)
  rw [hm] at gm pm
  rw [if_pos rfl] at pm
  obtain ⟨f1, f2, f3, f4, f5⟩ := meter_forth hm
  have rs := fun w1 => read_ok (mS step start l) l.length f1 (by have := mS_len hm; unfold maxLen; omega) f2 w1
  rw [f3, f4, f5] at rs
  have rd2 := fun w1 v' (V : VRow w1 v' l) => reads_any step start v' l w1 V hreach
  have sm := fun w1 v' v'' (V : VRow w1 v' l) (V' : VRow w1 v'' l) => sameMeter_any step start v' v'' l w1 V V' hreach
  obtain ⟨S, hS⟩ : ∃ S, S = mS step start l := ⟨_, rfl⟩
  rw [← hS] at pm rs
  clear f1 f2 f3 f4 f5 hS
  have rx := fun w1 => read_ok x n hn hx hz w1
  obtain ⟨bk, bm⟩ := meter_back hz
  have px := fun w1 v' (hb : Below w.heap.size w w1) (V : VRow w1 v' (rL x n)) => PrintMeter_any (rStep x) (rStart x) v' (rL x n) w1 V (ht.below hb)
  rw [bm, if_pos rfl, ← bk] at px
  have hL := (meterB_all bm).2.1
  have hL' : (0 : Int) < ((rL x n).length : Int) := by omega
  have hLn : 0 < (rL x n).length := by omega
  obtain ⟨L, hLe⟩ : ∃ L, L = rL x n := ⟨_, rfl⟩
  obtain ⟨P, hP⟩ : ∃ P, P = rStep x := ⟨_, rfl⟩
  obtain ⟨Q, hQ⟩ : ∃ Q, Q = rStart x := ⟨_, rfl⟩
  rw [← hLe, ← hP, ← hQ] at rx px
  rw [← hLe] at hL hL' hLn
  clear hLe hP hQ bk bm hn hz hL
  have hx' : (x.size : Int) ≤ 9223372036854775807 := by unfold maxLen at hx; omega
  obtain ⟨a, cap, rfl⟩ := h.form
  have B0 : Below w.heap.size w (w.alloc (.cells #[.int .i64 step, .int .i64 start, .slice a l.length cap] 24)) := below_more (Below.refl _ _) _
  have MM : (w.alloc (.cells #[.int .i64 step, .int .i64 start, .slice a l.length cap] 24)).heap[w.heap.size]? = some (.cells #[.int .i64 step, .int .i64 start, .slice a l.length cap] 24) := heap_alloc_new _ _
  clear h ht hreach hm hx
  go_enter Tryd.func4, Tryd.ntmps4
  go_wp2_with (first
    | (go_at_call 10; refine (rd _ B0).mono ?_; rintro e w1 ⟨v1, rfl, V1, hb1⟩; obtain ⟨a1, cap1, rfl⟩ := V1.form; have Z1 : w.heap.size < w1.heap.size := (by have := hb1.size; first | omega | (simp at this; omega)); have MM1 : w1.heap[w.heap.size]? = some (.cells #[.int .i64 step, .int .i64 start, .slice a l.length cap] 24) := (hb1.block w.heap.size (by first | omega | (simp; done) | (simp; omega))).trans MM; have m0_1 : w1.cell? ⟨w.heap.size, 0, none⟩ = some (.int .i64 step) := cell_of_row MM1 rfl; have m1_1 : w1.cell? ⟨w.heap.size, 1, none⟩ = some (.int .i64 start) := cell_of_row MM1 rfl; have m2_1 : w1.cell? ⟨w.heap.size, 2, none⟩ = some (.slice a l.length cap) := cell_of_row MM1 rfl; have B1 := below_then B0 hb1)
    | (go_at_call 13; refine (gm _ _ V1).mono ?_; rintro e w2 ⟨rfl, hb2⟩; have Z2 : w.heap.size < w2.heap.size := (by have := hb2.size; first | omega | (simp at this; omega)); have MM2 : w2.heap[w.heap.size]? = some (.cells #[.int .i64 step, .int .i64 start, .slice a l.length cap] 24) := (hb2.block w.heap.size (by first | omega | (simp; done) | (simp; omega))).trans MM1; have m0_2 : w2.cell? ⟨w.heap.size, 0, none⟩ = some (.int .i64 step) := cell_of_row MM2 rfl; have m1_2 : w2.cell? ⟨w.heap.size, 1, none⟩ = some (.int .i64 start) := cell_of_row MM2 rfl; have m2_2 : w2.cell? ⟨w.heap.size, 2, none⟩ = some (.slice a l.length cap) := cell_of_row MM2 rfl; have B2 := below_then B1 hb2)
    | (go_at_call 7; refine (pm _ B2).mono ?_; rintro e w3 ⟨rfl, hb3⟩; have Z3 : w.heap.size < w3.heap.size := (by have := hb3.size; first | omega | (simp at this; omega)); have MM3 : w3.heap[w.heap.size]? = some (.cells #[.int .i64 step, .int .i64 start, .slice a l.length cap] 24) := (hb3.block w.heap.size (by first | omega | (simp; done) | (simp; omega))).trans MM2; have m0_3 : w3.cell? ⟨w.heap.size, 0, none⟩ = some (.int .i64 step) := cell_of_row MM3 rfl; have m1_3 : w3.cell? ⟨w.heap.size, 1, none⟩ = some (.int .i64 start) := cell_of_row MM3 rfl; have m2_3 : w3.cell? ⟨w.heap.size, 2, none⟩ = some (.slice a l.length cap) := cell_of_row MM3 rfl; have B3 := below_then B2 hb3)
    | (go_at_call 14; refine (rs _).mono ?_; rintro e w4 ⟨v4, rfl, V4, hb4⟩; obtain ⟨a4, cap4, rfl⟩ := V4.form; have Z4 : w.heap.size < w4.heap.size := (by have := hb4.size; first | omega | (simp at this; omega)); have MM4 : w4.heap[w.heap.size]? = some (.cells #[.int .i64 step, .int .i64 start, .slice a l.length cap] 24) := (hb4.block w.heap.size (by first | omega | (simp; done) | (simp; omega))).trans MM3; have m0_4 : w4.cell? ⟨w.heap.size, 0, none⟩ = some (.int .i64 step) := cell_of_row MM4 rfl; have m1_4 : w4.cell? ⟨w.heap.size, 1, none⟩ = some (.int .i64 start) := cell_of_row MM4 rfl; have m2_4 : w4.cell? ⟨w.heap.size, 2, none⟩ = some (.slice a l.length cap) := cell_of_row MM4 rfl; have B4 := below_then B3 hb4))
  obtain ⟨W, hW⟩ : ∃ W, W = w4.alloc (.cells #[.int .i64 step, .int .i64 start, .slice a4 l.length cap4] 24) := ⟨_, rfl⟩
  have BM : Below w4.heap.size w4 W := by rw [hW]; exact below_more (Below.refl _ _) _
  have n0 : W.cell? ⟨w4.heap.size, 0, none⟩ = some (.int .i64 step) := by rw [hW]; simp [go_sem]
  have n1 : W.cell? ⟨w4.heap.size, 1, none⟩ = some (.int .i64 start) := by rw [hW]; simp [go_sem]
  have n2 : W.cell? ⟨w4.heap.size, 2, none⟩ = some (.slice a4 l.length cap4) := by rw [hW]; simp [go_sem]
  have p0 : W.cell? ⟨w.heap.size, 0, none⟩ = some (.int .i64 step) := vcell_below BM Z4 m0_4
  have p1 : W.cell? ⟨w.heap.size, 1, none⟩ = some (.int .i64 start) := vcell_below BM Z4 m1_4
  have p2 : W.cell? ⟨w.heap.size, 2, none⟩ = some (.slice a l.length cap) := vcell_below BM Z4 m2_4
  have hzW : w4.heap.size < W.heap.size := by rw [hW]; simp
  have hzW1 : w.heap.size < W.heap.size := by omega
  have U4 := V4.below BM
  have BW := below_then B4 BM
  rw [← hW]
  clear hW MM MM1 MM2 MM3 MM4 m0_1 m1_1 m2_1 m0_2 m1_2 m2_2 m0_3 m1_3 m2_3 m0_4 m1_4 m2_4 V1 V4 B0 B1 B2 B3 B4 hb1 hb2 hb3 hb4
  go_region_held3 (fun w' => w'.cell? ⟨w4.heap.size, 0, none⟩ = some (.int .i64 step) ∧ w'.cell? ⟨w4.heap.size, 1, none⟩ = some (.int .i64 start) ∧ w'.cell? ⟨w4.heap.size, 2, none⟩ = some (.slice a4 l.length cap4) ∧ w'.cell? ⟨w.heap.size, 0, none⟩ = some (.int .i64 step) ∧ w'.cell? ⟨w.heap.size, 1, none⟩ = some (.int .i64 start) ∧ w'.cell? ⟨w.heap.size, 2, none⟩ = some (.slice a l.length cap))
    (first | (simp [go_sem, n0, n1, n2, p0, p1, p2]; done) | (simp [hc7, hc6, hc5, hzW, hzW1, hy5, hx5, hy6, hx6, n0, n1, n2, p0, p1, p2]; done) | (simp [hc6, hc5, hzW, hzW1, hy5, hx5, n0, n1, n2, p0, p1, p2]; done) | (simp [hc5, hzW, hzW1, n0, n1, n2, p0, p1, p2]; done))
    (first
      | ((go_at_call 10; have _ := hb5; refine (rd _ (below_then BW hb5)).mono ?_; rintro e w6 ⟨v6, rfl, V6, hb6⟩; obtain ⟨a6, cap6, rfl⟩ := V6.form; obtain ⟨hc6, hf6⟩ := bcell hb6; have hy6 : w4.heap.size < w6.heap.size := (by have := hb6.size; omega); have hx6 : w.heap.size < w6.heap.size := (by omega)))
      | ((go_at_call 10; refine (rd2 _ _ (U4.below (Below.drew (Below.refl _ _)))).mono ?_; rintro e w5 ⟨v5, rfl, V5, hb5'⟩; have hb5 : Below W.heap.size W w5 := below_then (Below.drew (Below.refl _ _)) hb5'; clear hb5'; obtain ⟨a5, cap5, rfl⟩ := V5.form; obtain ⟨hc5, hf5⟩ := bcell hb5; have hy5 : w4.heap.size < w5.heap.size := (by have := hb5.size; omega); have hx5 : w.heap.size < w5.heap.size := (by omega)))
      | ((go_at_call 16; refine (sm _ _ _ (V5.below hb6) V6).mono ?_; rintro e w7 ⟨rfl, hb7⟩; obtain ⟨hc7, hf7⟩ := bcell hb7))
      | ((go_at_call 15; refine (num_any _ _).mono ?_; rintro e w8 ⟨rfl, rfl⟩)))
  all_goals
    have B7 := below_then (below_then (below_then BW hb5) hb6) hb7
    go_wp2_with (first
    | (go_at_call 14; refine (rx _).mono ?_; rintro e w9 ⟨vx, rfl, VX, hbx⟩; obtain ⟨ax, capx, rfl⟩ := VX.form; have BX := below_then B7 hbx)
    | (go_at_call 15; refine (num_any _ _).mono ?_; rintro e wn ⟨rfl, h7⟩; have h8 := h7.symm; subst h8)
    | (go_at_call 7; refine (px _ _ (below_more BX _) (VX.below (below_more (Below.refl _ _) _))).mono ?_; rintro e wp ⟨rfl, hbp⟩; obtain ⟨hcp, hfp⟩ := bcell hbp; have hzp := hbp.size))
    go_ret
    exact ⟨rfl, below_then (below_more BX _) hbp⟩
set_option maxRecDepth 1000000 in
set_option maxHeartbeats 2000000 in
theorem walk_vn (step start : Int) (v : Value) (l : List Txt.Val) (x : ByteArray) (n : Nat) (w : World) (h : VRow w v l) (ht : TB w) (hreach : l.length * 24 ≤ 140737488351232) (hx : x.size ≤ maxLen) (hn : Ends x n) (hm : meterB step start l = true) (hz : ¬ rErr x n = 0) :
    Calls Tryd.prog 4 #[.agg #[.int .i64 step, .int .i64 start, v], .string x] w fun e w' => e = .returned (.bool true) ∧ Below w.heap.size w w' := by
  have rd := fun w1 (hb : Below w.heap.size w w1) => reads_any step start v l w1 (h.below hb) hreach
  have gm := fun w1 v' (V : VRow w1 v' l) => GoodMeter_any step start v' l w1 V
  have pm := fun w1 (hb : Below w.heap.size w w1) => PrintMeter_any step start v l w1 (h.below hb) (ht.below hb)
  rw [hm] at gm pm
  rw [if_pos rfl] at pm
  obtain ⟨f1, f2, f3, f4, f5⟩ := meter_forth hm
  have rs := fun w1 => read_ok (mS step start l) l.length f1 (by have := mS_len hm; unfold maxLen; omega) f2 w1
  rw [f3, f4, f5] at rs
  have rd2 := fun w1 v' (V : VRow w1 v' l) => reads_any step start v' l w1 V hreach
  have sm := fun w1 v' v'' (V : VRow w1 v' l) (V' : VRow w1 v'' l) => sameMeter_any step start v' v'' l w1 V V' hreach
  obtain ⟨S, hS⟩ : ∃ S, S = mS step start l := ⟨_, rfl⟩
  rw [← hS] at pm rs
  clear f1 f2 f3 f4 f5 hS
  have rx := fun w1 => read_no x n hn hx hz w1
  obtain ⟨q0, q1⟩ := rAt_bd x n
  obtain ⟨E, hE⟩ : ∃ E, E = rErr x n := ⟨_, rfl⟩
  obtain ⟨A, hA⟩ : ∃ A, A = rAt x n := ⟨_, rfl⟩
  rw [← hE, ← hA] at rx
  rw [← hA] at q0 q1
  rw [← hE] at hz
  have hEB : (E != 0) = true := by simpa using hz
  clear hE hA hn hz
  have hx' : (x.size : Int) ≤ 9223372036854775807 := by unfold maxLen at hx; omega
  obtain ⟨a, cap, rfl⟩ := h.form
  have B0 : Below w.heap.size w (w.alloc (.cells #[.int .i64 step, .int .i64 start, .slice a l.length cap] 24)) := below_more (Below.refl _ _) _
  have MM : (w.alloc (.cells #[.int .i64 step, .int .i64 start, .slice a l.length cap] 24)).heap[w.heap.size]? = some (.cells #[.int .i64 step, .int .i64 start, .slice a l.length cap] 24) := heap_alloc_new _ _
  clear h ht hreach hm hx
  go_enter Tryd.func4, Tryd.ntmps4
  go_wp2_with (first
    | (go_at_call 10; refine (rd _ B0).mono ?_; rintro e w1 ⟨v1, rfl, V1, hb1⟩; obtain ⟨a1, cap1, rfl⟩ := V1.form; have Z1 : w.heap.size < w1.heap.size := (by have := hb1.size; first | omega | (simp at this; omega)); have MM1 : w1.heap[w.heap.size]? = some (.cells #[.int .i64 step, .int .i64 start, .slice a l.length cap] 24) := (hb1.block w.heap.size (by first | omega | (simp; done) | (simp; omega))).trans MM; have m0_1 : w1.cell? ⟨w.heap.size, 0, none⟩ = some (.int .i64 step) := cell_of_row MM1 rfl; have m1_1 : w1.cell? ⟨w.heap.size, 1, none⟩ = some (.int .i64 start) := cell_of_row MM1 rfl; have m2_1 : w1.cell? ⟨w.heap.size, 2, none⟩ = some (.slice a l.length cap) := cell_of_row MM1 rfl; have B1 := below_then B0 hb1)
    | (go_at_call 13; refine (gm _ _ V1).mono ?_; rintro e w2 ⟨rfl, hb2⟩; have Z2 : w.heap.size < w2.heap.size := (by have := hb2.size; first | omega | (simp at this; omega)); have MM2 : w2.heap[w.heap.size]? = some (.cells #[.int .i64 step, .int .i64 start, .slice a l.length cap] 24) := (hb2.block w.heap.size (by first | omega | (simp; done) | (simp; omega))).trans MM1; have m0_2 : w2.cell? ⟨w.heap.size, 0, none⟩ = some (.int .i64 step) := cell_of_row MM2 rfl; have m1_2 : w2.cell? ⟨w.heap.size, 1, none⟩ = some (.int .i64 start) := cell_of_row MM2 rfl; have m2_2 : w2.cell? ⟨w.heap.size, 2, none⟩ = some (.slice a l.length cap) := cell_of_row MM2 rfl; have B2 := below_then B1 hb2)
    | (go_at_call 7; refine (pm _ B2).mono ?_; rintro e w3 ⟨rfl, hb3⟩; have Z3 : w.heap.size < w3.heap.size := (by have := hb3.size; first | omega | (simp at this; omega)); have MM3 : w3.heap[w.heap.size]? = some (.cells #[.int .i64 step, .int .i64 start, .slice a l.length cap] 24) := (hb3.block w.heap.size (by first | omega | (simp; done) | (simp; omega))).trans MM2; have m0_3 : w3.cell? ⟨w.heap.size, 0, none⟩ = some (.int .i64 step) := cell_of_row MM3 rfl; have m1_3 : w3.cell? ⟨w.heap.size, 1, none⟩ = some (.int .i64 start) := cell_of_row MM3 rfl; have m2_3 : w3.cell? ⟨w.heap.size, 2, none⟩ = some (.slice a l.length cap) := cell_of_row MM3 rfl; have B3 := below_then B2 hb3)
    | (go_at_call 14; refine (rs _).mono ?_; rintro e w4 ⟨v4, rfl, V4, hb4⟩; obtain ⟨a4, cap4, rfl⟩ := V4.form; have Z4 : w.heap.size < w4.heap.size := (by have := hb4.size; first | omega | (simp at this; omega)); have MM4 : w4.heap[w.heap.size]? = some (.cells #[.int .i64 step, .int .i64 start, .slice a l.length cap] 24) := (hb4.block w.heap.size (by first | omega | (simp; done) | (simp; omega))).trans MM3; have m0_4 : w4.cell? ⟨w.heap.size, 0, none⟩ = some (.int .i64 step) := cell_of_row MM4 rfl; have m1_4 : w4.cell? ⟨w.heap.size, 1, none⟩ = some (.int .i64 start) := cell_of_row MM4 rfl; have m2_4 : w4.cell? ⟨w.heap.size, 2, none⟩ = some (.slice a l.length cap) := cell_of_row MM4 rfl; have B4 := below_then B3 hb4))
  obtain ⟨W, hW⟩ : ∃ W, W = w4.alloc (.cells #[.int .i64 step, .int .i64 start, .slice a4 l.length cap4] 24) := ⟨_, rfl⟩
  have BM : Below w4.heap.size w4 W := by rw [hW]; exact below_more (Below.refl _ _) _
  have n0 : W.cell? ⟨w4.heap.size, 0, none⟩ = some (.int .i64 step) := by rw [hW]; simp [go_sem]
  have n1 : W.cell? ⟨w4.heap.size, 1, none⟩ = some (.int .i64 start) := by rw [hW]; simp [go_sem]
  have n2 : W.cell? ⟨w4.heap.size, 2, none⟩ = some (.slice a4 l.length cap4) := by rw [hW]; simp [go_sem]
  have p0 : W.cell? ⟨w.heap.size, 0, none⟩ = some (.int .i64 step) := vcell_below BM Z4 m0_4
  have p1 : W.cell? ⟨w.heap.size, 1, none⟩ = some (.int .i64 start) := vcell_below BM Z4 m1_4
  have p2 : W.cell? ⟨w.heap.size, 2, none⟩ = some (.slice a l.length cap) := vcell_below BM Z4 m2_4
  have hzW : w4.heap.size < W.heap.size := by rw [hW]; simp
  have hzW1 : w.heap.size < W.heap.size := by omega
  have U4 := V4.below BM
  have BW := below_then B4 BM
  rw [← hW]
  clear hW MM MM1 MM2 MM3 MM4 m0_1 m1_1 m2_1 m0_2 m1_2 m2_2 m0_3 m1_3 m2_3 m0_4 m1_4 m2_4 V1 V4 B0 B1 B2 B3 B4 hb1 hb2 hb3 hb4
  go_region_held3 (fun w' => w'.cell? ⟨w4.heap.size, 0, none⟩ = some (.int .i64 step) ∧ w'.cell? ⟨w4.heap.size, 1, none⟩ = some (.int .i64 start) ∧ w'.cell? ⟨w4.heap.size, 2, none⟩ = some (.slice a4 l.length cap4) ∧ w'.cell? ⟨w.heap.size, 0, none⟩ = some (.int .i64 step) ∧ w'.cell? ⟨w.heap.size, 1, none⟩ = some (.int .i64 start) ∧ w'.cell? ⟨w.heap.size, 2, none⟩ = some (.slice a l.length cap))
    (first | (simp [go_sem, n0, n1, n2, p0, p1, p2]; done) | (simp [hc7, hc6, hc5, hzW, hzW1, hy5, hx5, hy6, hx6, n0, n1, n2, p0, p1, p2]; done) | (simp [hc6, hc5, hzW, hzW1, hy5, hx5, n0, n1, n2, p0, p1, p2]; done) | (simp [hc5, hzW, hzW1, n0, n1, n2, p0, p1, p2]; done))
    (first
      | ((go_at_call 10; have _ := hb5; refine (rd _ (below_then BW hb5)).mono ?_; rintro e w6 ⟨v6, rfl, V6, hb6⟩; obtain ⟨a6, cap6, rfl⟩ := V6.form; obtain ⟨hc6, hf6⟩ := bcell hb6; have hy6 : w4.heap.size < w6.heap.size := (by have := hb6.size; omega); have hx6 : w.heap.size < w6.heap.size := (by omega)))
      | ((go_at_call 10; refine (rd2 _ _ (U4.below (Below.drew (Below.refl _ _)))).mono ?_; rintro e w5 ⟨v5, rfl, V5, hb5'⟩; have hb5 : Below W.heap.size W w5 := below_then (Below.drew (Below.refl _ _)) hb5'; clear hb5'; obtain ⟨a5, cap5, rfl⟩ := V5.form; obtain ⟨hc5, hf5⟩ := bcell hb5; have hy5 : w4.heap.size < w5.heap.size := (by have := hb5.size; omega); have hx5 : w.heap.size < w5.heap.size := (by omega)))
      | ((go_at_call 16; refine (sm _ _ _ (V5.below hb6) V6).mono ?_; rintro e w7 ⟨rfl, hb7⟩; obtain ⟨hc7, hf7⟩ := bcell hb7))
      | ((go_at_call 15; refine (num_any _ _).mono ?_; rintro e w8 ⟨rfl, rfl⟩)))
  all_goals
    have B7 := below_then (below_then (below_then BW hb5) hb6) hb7
    go_wp2_with (first
    | (go_at_call 14; refine (rx _).mono ?_; rintro e w9 ⟨rfl, hbx⟩; have BX := below_then B7 hbx)
    | (go_at_call 15; refine (num_any _ _).mono ?_; rintro e wn ⟨rfl, h7⟩; have h8 := h7.symm; subst h8))
    go_ret
    exact ⟨rfl, below_more BX _⟩
theorem walk (step start : Int) (v : Value) (l : List Txt.Val) (x : ByteArray) (w : World) (h : VRow w v l) (ht : TB w) (hreach : l.length * 24 ≤ 140737488351232) (hx : x.size ≤ maxLen) :
    Calls Tryd.prog 4 #[.agg #[.int .i64 step, .int .i64 start, v], .string x] w fun e w' => e = .returned (.bool true) ∧ Below w.heap.size w w' := by
  obtain ⟨n, hn⟩ := ends_ex x
  cases hm : meterB step start l
  · by_cases hz : rErr x n = 0
    · exact walk_io step start v l x n w h ht hreach hx hn hm hz
    · exact walk_in step start v l x n w h ht hreach hx hn hm hz
  · by_cases hz : rErr x n = 0
    · exact walk_vo step start v l x n w h ht hreach hx hn hm hz
    · exact walk_vn step start v l x n w h ht hreach hx hn hm hz
end meterBack
end Go.Proofs.YtjaffmmocbplaaaDoor
