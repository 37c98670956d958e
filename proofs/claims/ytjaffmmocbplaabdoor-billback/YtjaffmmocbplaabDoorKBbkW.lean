/-
  BillBack: the law's walk (made by tools/genbbk.py).
-/
import Derived.Test.YtjaffmmocbplaabDoorK18
import Derived.Test.YtjaffmmocbplaabDoorK20
import Derived.Test.YtjaffmmocbplaabDoorKRunW
import Derived.Test.YtjaffmmocbplaabDoorK23
import Derived.Test.YtjaffmmocbplaabDoorKBakT
import Derived.Test.YtjaffmmocbplaabDoorKPrtZ
import Derived.Test.YtjaffmmocbplaabDoorK24
namespace Go.Proofs.YtjaffmmocbplaabDoor
open Go.RowKit Go.Shelf Bil
set_option linter.unusedVariables false
attribute [local go_sem ↓] Go.wp_at_zero Go.wp_at_succ
namespace billBack
open run
def mA (step start : Int) (l : List Txt.Val) : ByteArray := if meterB step start l then mS step start l else ByteArray.empty
def tA (t : Trf) : ByteArray := if badN t < 13 then ByteArray.empty else tPT t
theorem tPT_one (t : Trf) : 0 < (tPT t).size := by
  unfold tPT; rw [app_size]; show 0 < _ + 1; omega
theorem mS_one (step start : Int) (l : List Txt.Val) : 0 < (mS step start l).size := by
  unfold mS; rw [app_size]; show 0 < _ + 1; omega
theorem mA_size (step start : Int) (l : List Txt.Val) : (mA step start l).size ≤ maxLen := by
  unfold mA
  by_cases hm : meterB step start l = true
  · rw [if_pos hm]; have := mS_len hm; unfold maxLen; omega
  · rw [if_neg hm]; unfold maxLen; decide
theorem tA_size (t : Trf) : (tA t).size ≤ maxLen := by
  unfold tA
  by_cases hn : badN t < 13
  · rw [if_pos hn]; unfold maxLen; decide
  · rw [if_neg hn]
    have := (tariff_forth (x := t) (by have := badN_le t; omega)).2.2
    unfold maxLen; omega
/-- a good bill: what Run answers of the two texts -/
theorem run_yes {t : Trf} {step start : Int} {l : List Txt.Val} (hz : spE t step start l = 0) : Ends (mA step start l) l.length ∧ runE (mA step start l) (tA t) l.length = 0 ∧ runA (mA step start l) (tA t) l.length = 0 ∧ runS (mA step start l) (tA t) l.length = pB (blL t step start l) := by
  obtain ⟨hm, hb13, _⟩ := sp_ok hz
  obtain ⟨f1, f2, f3, f4, f5⟩ := meter_forth hm
  have ea : mA step start l = mS step start l := by unfold mA; rw [if_pos hm]
  have eb : tA t = tPT t := by unfold tA; rw [if_neg (by omega)]
  obtain ⟨g1, g2, _⟩ := tariff_forth (x := t) (by have := badN_le t; omega)
  rw [ea, eb]
  refine ⟨f1, ?_, ?_, ?_⟩
  · unfold runE; rw [if_pos f2, g1, if_pos g2, f3, f4, f5, hz]
  · unfold runA; rw [if_pos f2, g1, if_pos g2, f3, f4, f5, spA_ok hz]
  · unfold runS; rw [if_pos f2, g1, if_pos g2, f3, f4, f5]
/-- no bill: no text -/
theorem run_no {t : Trf} {step start : Int} {l : List Txt.Val} (hz : ¬ spE t step start l = 0) : ∃ n, Ends (mA step start l) n ∧ ¬ runE (mA step start l) (tA t) n = 0 ∧ runS (mA step start l) (tA t) n = ⟨#[]⟩ := by
  by_cases hm : meterB step start l = true
  · have ea : mA step start l = mS step start l := by unfold mA; rw [if_pos hm]
    obtain ⟨f1, f2, f3, f4, f5⟩ := meter_forth hm
    rw [ea]
    refine ⟨l.length, f1, ?_⟩
    by_cases hn : badN t < 13
    · have eb : tA t = ByteArray.empty := by unfold tA; rw [if_pos hn]
      have ne : ¬ rtE ByteArray.empty (rdT ByteArray.empty (hrP ByteArray.empty)) = 0 := fun e => by
        have q := (tariff_back e).1
        have p := tPT_one (rdT ByteArray.empty (hrP ByteArray.empty))
        rw [← q] at p; exact absurd p (by decide)
      rw [eb]
      exact ⟨by unfold runE; rw [if_pos f2, if_neg ne]; exact ne, by unfold runS; rw [if_pos f2, if_neg ne]⟩
    · have eb : tA t = tPT t := by unfold tA; rw [if_neg hn]
      obtain ⟨g1, g2, _⟩ := tariff_forth (x := t) (by have := badN_le t; omega)
      rw [eb]
      refine ⟨?_, ?_⟩
      · unfold runE; rw [if_pos f2, g1, if_pos g2, f3, f4, f5]; exact hz
      · unfold runS; rw [if_pos f2, g1, if_pos g2, f3, f4, f5]; unfold blL; rw [if_neg hz]; rfl
  · have ea : mA step start l = ByteArray.empty := by unfold mA; rw [if_neg hm]
    rw [ea]
    obtain ⟨n, hn⟩ := ends_ex ByteArray.empty
    have ne : ¬ rErr ByteArray.empty n = 0 := fun e => by
      have q := (meter_back e).1
      have p := mS_one (rStep ByteArray.empty) (rStart ByteArray.empty) (rL ByteArray.empty n)
      rw [← q] at p; exact absurd p (by decide)
    exact ⟨n, hn, by unfold runE; rw [if_neg ne]; exact ne, by unfold runS; rw [if_neg ne]⟩

set_option maxRecDepth 1000000 in
set_option maxHeartbeats 2000000 in
theorem bb_no (t : Trf) (step start : Int) (v : Value) (l : List Txt.Val) (w : World) (h : VRow w v l) (ht : TB w) (s0 : t.h0.size ≤ maxLen) (s1 : t.h1.size ≤ maxLen) (s2 : t.h2.size ≤ maxLen) (s3 : t.h3.size ≤ maxLen) (hz : ¬ spE t step start l = 0) :
    Calls Tryd.prog 4 #[.agg #[.int .i64 step, .int .i64 start, v], .agg #[.int .i64 t.z.off, .int .i64 t.z.f.m, .int .i64 t.z.f.w, .int .i64 t.z.f.d, .int .i64 t.z.f.h, .int .i64 t.z.t.m, .int .i64 t.z.t.w, .int .i64 t.z.t.d, .int .i64 t.z.t.h, .int .i64 t.days, .int .i64 t.gap, .int .i64 t.first, .int .i64 t.last, .string t.h0, .string t.h1, .string t.h2, .string t.h3, .int .i64 t.b0.x, .int .i64 t.b0.y, .int .i64 t.b0.z, .int .i64 t.b1.x, .int .i64 t.b1.y, .int .i64 t.b1.z, .int .i64 t.b2.x, .int .i64 t.b2.y, .int .i64 t.b2.z, .int .i64 t.d.x, .int .i64 t.d.y, .int .i64 t.d.z, .int .i64 t.np, .int .i64 t.nn, .int .i64 t.fix, .int .i64 t.min, .int .i64 t.tax]] w fun e w' => e = .returned (.bool true) ∧ Below w.heap.size w w' := by
  obtain ⟨n, hn, hE, hS⟩ := run_no hz
  have pm : ∀ w1, Below w.heap.size w w1 → Calls Tryd.prog 12 #[.agg #[.int .i64 step, .int .i64 start, v]] w1 fun e w' => e = .returned (.string (mA step start l)) ∧ Below w1.heap.size w1 w' := fun w1 hb => PrintMeter_any step start v l w1 (h.below hb) (ht.below hb)
  have pt : ∀ w1, Below w.heap.size w w1 → Calls Tryd.prog 13 #[.agg #[.int .i64 t.z.off, .int .i64 t.z.f.m, .int .i64 t.z.f.w, .int .i64 t.z.f.d, .int .i64 t.z.f.h, .int .i64 t.z.t.m, .int .i64 t.z.t.w, .int .i64 t.z.t.d, .int .i64 t.z.t.h, .int .i64 t.days, .int .i64 t.gap, .int .i64 t.first, .int .i64 t.last, .string t.h0, .string t.h1, .string t.h2, .string t.h3, .int .i64 t.b0.x, .int .i64 t.b0.y, .int .i64 t.b0.z, .int .i64 t.b1.x, .int .i64 t.b1.y, .int .i64 t.b1.z, .int .i64 t.b2.x, .int .i64 t.b2.y, .int .i64 t.b2.z, .int .i64 t.d.x, .int .i64 t.d.y, .int .i64 t.d.z, .int .i64 t.np, .int .i64 t.nn, .int .i64 t.fix, .int .i64 t.min, .int .i64 t.tax]] w1 fun e w' => e = .returned (.string (tA t)) ∧ Below w1.heap.size w1 w' := fun w1 hb => PrintTariff_any t w1 (ht.below hb) s0 s1 s2 s3
  have rn := fun w1 (hb : Below w.heap.size w w1) => Run_any (mA step start l) (tA t) n hn w1 (ht.below hb) (mA_size step start l) (tA_size t)
  have bi := fun w1 (hb : Below w.heap.size w w1) => Bill_no t step start v l w1 (h.below hb) s0 s1 s2 s3 hz
  rw [hS] at rn
  obtain ⟨X, hX⟩ : ∃ X, X = mA step start l := ⟨_, rfl⟩
  obtain ⟨Y, hY⟩ : ∃ Y, Y = tA t := ⟨_, rfl⟩
  rw [← hX, ← hY] at rn hE
  rw [← hX] at pm
  rw [← hY] at pt
  obtain ⟨E, hEe⟩ : ∃ E, E = runE X Y n := ⟨_, rfl⟩
  obtain ⟨A, hAe⟩ : ∃ A, A = runA X Y n := ⟨_, rfl⟩
  rw [← hEe, ← hAe] at rn
  rw [← hEe] at hE
  obtain ⟨F, hFe⟩ : ∃ F, F = spE t step start l := ⟨_, rfl⟩
  obtain ⟨G, hGe⟩ : ∃ G, G = spA t step start l := ⟨_, rfl⟩
  rw [← hFe, ← hGe] at bi
  rw [← hFe] at hz
  have hEB : (E != 0) = true := by simpa using hE
  have hFB : (F != 0) = true := by simpa using hz
  obtain ⟨a, cap, rfl⟩ := h.form
  have B0 : Below w.heap.size w ((w.alloc (.cells #[.int .i64 step, .int .i64 start, .slice a l.length cap] 40)).alloc (.cells #[.int .i64 t.z.off, .int .i64 t.z.f.m, .int .i64 t.z.f.w, .int .i64 t.z.f.d, .int .i64 t.z.f.h, .int .i64 t.z.t.m, .int .i64 t.z.t.w, .int .i64 t.z.t.d, .int .i64 t.z.t.h, .int .i64 t.days, .int .i64 t.gap, .int .i64 t.first, .int .i64 t.last, .string t.h0, .string t.h1, .string t.h2, .string t.h3, .int .i64 t.b0.x, .int .i64 t.b0.y, .int .i64 t.b0.z, .int .i64 t.b1.x, .int .i64 t.b1.y, .int .i64 t.b1.z, .int .i64 t.b2.x, .int .i64 t.b2.y, .int .i64 t.b2.z, .int .i64 t.d.x, .int .i64 t.d.y, .int .i64 t.d.z, .int .i64 t.np, .int .i64 t.nn, .int .i64 t.fix, .int .i64 t.min, .int .i64 t.tax] 54)) := below_more (below_more (Below.refl _ _) _) _
  have MT0 : ((w.alloc (.cells #[.int .i64 step, .int .i64 start, .slice a l.length cap] 40)).alloc (.cells #[.int .i64 t.z.off, .int .i64 t.z.f.m, .int .i64 t.z.f.w, .int .i64 t.z.f.d, .int .i64 t.z.f.h, .int .i64 t.z.t.m, .int .i64 t.z.t.w, .int .i64 t.z.t.d, .int .i64 t.z.t.h, .int .i64 t.days, .int .i64 t.gap, .int .i64 t.first, .int .i64 t.last, .string t.h0, .string t.h1, .string t.h2, .string t.h3, .int .i64 t.b0.x, .int .i64 t.b0.y, .int .i64 t.b0.z, .int .i64 t.b1.x, .int .i64 t.b1.y, .int .i64 t.b1.z, .int .i64 t.b2.x, .int .i64 t.b2.y, .int .i64 t.b2.z, .int .i64 t.d.x, .int .i64 t.d.y, .int .i64 t.d.z, .int .i64 t.np, .int .i64 t.nn, .int .i64 t.fix, .int .i64 t.min, .int .i64 t.tax] 54)).heap[w.heap.size + 1]? = some (.cells #[.int .i64 t.z.off, .int .i64 t.z.f.m, .int .i64 t.z.f.w, .int .i64 t.z.f.d, .int .i64 t.z.f.h, .int .i64 t.z.t.m, .int .i64 t.z.t.w, .int .i64 t.z.t.d, .int .i64 t.z.t.h, .int .i64 t.days, .int .i64 t.gap, .int .i64 t.first, .int .i64 t.last, .string t.h0, .string t.h1, .string t.h2, .string t.h3, .int .i64 t.b0.x, .int .i64 t.b0.y, .int .i64 t.b0.z, .int .i64 t.b1.x, .int .i64 t.b1.y, .int .i64 t.b1.z, .int .i64 t.b2.x, .int .i64 t.b2.y, .int .i64 t.b2.z, .int .i64 t.d.x, .int .i64 t.d.y, .int .i64 t.d.z, .int .i64 t.np, .int .i64 t.nn, .int .i64 t.fix, .int .i64 t.min, .int .i64 t.tax] 54) := heap_alloc2_new _ _ _
  have MM0 : ((w.alloc (.cells #[.int .i64 step, .int .i64 start, .slice a l.length cap] 40)).alloc (.cells #[.int .i64 t.z.off, .int .i64 t.z.f.m, .int .i64 t.z.f.w, .int .i64 t.z.f.d, .int .i64 t.z.f.h, .int .i64 t.z.t.m, .int .i64 t.z.t.w, .int .i64 t.z.t.d, .int .i64 t.z.t.h, .int .i64 t.days, .int .i64 t.gap, .int .i64 t.first, .int .i64 t.last, .string t.h0, .string t.h1, .string t.h2, .string t.h3, .int .i64 t.b0.x, .int .i64 t.b0.y, .int .i64 t.b0.z, .int .i64 t.b1.x, .int .i64 t.b1.y, .int .i64 t.b1.z, .int .i64 t.b2.x, .int .i64 t.b2.y, .int .i64 t.b2.z, .int .i64 t.d.x, .int .i64 t.d.y, .int .i64 t.d.z, .int .i64 t.np, .int .i64 t.nn, .int .i64 t.fix, .int .i64 t.min, .int .i64 t.tax] 54)).heap[w.heap.size]? = some (.cells #[.int .i64 step, .int .i64 start, .slice a l.length cap] 40) := (heap_alloc_old _ _ (by simp)).trans (heap_alloc_new _ _)
  clear hX hY hEe hAe hFe hGe hE hz hn hS h ht s0 s1 s2 s3
  go_enter Tryd.func4, Tryd.ntmps4
  go_upto_region 5 with (first
    | (with_reducible show wpList _ _ _ _ _ w3; refine wpList_load_row rfl 54 _ rfl (w.heap.size + 1) rfl 54 _ (0, 0) _ MT3 Tryd.underlying54 rfl (by kernel_rfl) ?_)
    | (with_reducible show wpList _ _ _ _ _ w1; refine wpList_load_row rfl 54 _ rfl (w.heap.size + 1) rfl 54 _ (0, 0) _ MT1 Tryd.underlying54 rfl (by kernel_rfl) ?_)
    | (go_at_call 15; refine (bi _ B3).mono ?_; rintro e w4 ⟨rfl, hb4⟩; have B4 := below_then B3 hb4)
    | (go_at_call 14; refine (rn _ B2).mono ?_; rintro e w3 ⟨rfl, hb3⟩; have Z3 : w.heap.size + 1 < w3.heap.size := (by have := hb3.size; first | omega | (simp at this; omega)); have MM3 : w3.heap[w.heap.size]? = some (.cells #[.int .i64 step, .int .i64 start, .slice a l.length cap] 40) := (hb3.block w.heap.size (by first | omega | (simp; done) | (simp; omega))).trans MM2; have MT3 : w3.heap[w.heap.size + 1]? = some (.cells #[.int .i64 t.z.off, .int .i64 t.z.f.m, .int .i64 t.z.f.w, .int .i64 t.z.f.d, .int .i64 t.z.f.h, .int .i64 t.z.t.m, .int .i64 t.z.t.w, .int .i64 t.z.t.d, .int .i64 t.z.t.h, .int .i64 t.days, .int .i64 t.gap, .int .i64 t.first, .int .i64 t.last, .string t.h0, .string t.h1, .string t.h2, .string t.h3, .int .i64 t.b0.x, .int .i64 t.b0.y, .int .i64 t.b0.z, .int .i64 t.b1.x, .int .i64 t.b1.y, .int .i64 t.b1.z, .int .i64 t.b2.x, .int .i64 t.b2.y, .int .i64 t.b2.z, .int .i64 t.d.x, .int .i64 t.d.y, .int .i64 t.d.z, .int .i64 t.np, .int .i64 t.nn, .int .i64 t.fix, .int .i64 t.min, .int .i64 t.tax] 54) := (hb3.block (w.heap.size + 1) (by first | omega | (simp; done) | (simp; omega))).trans MT2; have B3 := below_then B2 hb3; have m0_3 : w3.cell? ⟨w.heap.size, 0, none⟩ = some (.int .i64 step) := cell_in_row MM3 rfl; have m1_3 : w3.cell? ⟨w.heap.size, 1, none⟩ = some (.int .i64 start) := cell_in_row MM3 rfl; have m2_3 : w3.cell? ⟨w.heap.size, 2, none⟩ = some (.slice a l.length cap) := cell_in_row MM3 rfl)
    | (go_at_call 13; refine (pt _ B1).mono ?_; rintro e w2 ⟨rfl, hb2⟩; have Z2 : w.heap.size + 1 < w2.heap.size := (by have := hb2.size; first | omega | (simp at this; omega)); have MM2 : w2.heap[w.heap.size]? = some (.cells #[.int .i64 step, .int .i64 start, .slice a l.length cap] 40) := (hb2.block w.heap.size (by first | omega | (simp; done) | (simp; omega))).trans MM1; have MT2 : w2.heap[w.heap.size + 1]? = some (.cells #[.int .i64 t.z.off, .int .i64 t.z.f.m, .int .i64 t.z.f.w, .int .i64 t.z.f.d, .int .i64 t.z.f.h, .int .i64 t.z.t.m, .int .i64 t.z.t.w, .int .i64 t.z.t.d, .int .i64 t.z.t.h, .int .i64 t.days, .int .i64 t.gap, .int .i64 t.first, .int .i64 t.last, .string t.h0, .string t.h1, .string t.h2, .string t.h3, .int .i64 t.b0.x, .int .i64 t.b0.y, .int .i64 t.b0.z, .int .i64 t.b1.x, .int .i64 t.b1.y, .int .i64 t.b1.z, .int .i64 t.b2.x, .int .i64 t.b2.y, .int .i64 t.b2.z, .int .i64 t.d.x, .int .i64 t.d.y, .int .i64 t.d.z, .int .i64 t.np, .int .i64 t.nn, .int .i64 t.fix, .int .i64 t.min, .int .i64 t.tax] 54) := (hb2.block (w.heap.size + 1) (by first | omega | (simp; done) | (simp; omega))).trans MT1; have B2 := below_then B1 hb2)
    | (go_at_call 12; refine (pm _ B0).mono ?_; rintro e w1 ⟨rfl, hb1⟩; have Z1 : w.heap.size + 1 < w1.heap.size := (by have := hb1.size; first | omega | (simp at this; omega)); have MM1 : w1.heap[w.heap.size]? = some (.cells #[.int .i64 step, .int .i64 start, .slice a l.length cap] 40) := (hb1.block w.heap.size (by first | omega | (simp; done) | (simp; omega))).trans MM0; have MT1 : w1.heap[w.heap.size + 1]? = some (.cells #[.int .i64 t.z.off, .int .i64 t.z.f.m, .int .i64 t.z.f.w, .int .i64 t.z.f.d, .int .i64 t.z.f.h, .int .i64 t.z.t.m, .int .i64 t.z.t.w, .int .i64 t.z.t.d, .int .i64 t.z.t.h, .int .i64 t.days, .int .i64 t.gap, .int .i64 t.first, .int .i64 t.last, .string t.h0, .string t.h1, .string t.h2, .string t.h3, .int .i64 t.b0.x, .int .i64 t.b0.y, .int .i64 t.b0.z, .int .i64 t.b1.x, .int .i64 t.b1.y, .int .i64 t.b1.z, .int .i64 t.b2.x, .int .i64 t.b2.y, .int .i64 t.b2.z, .int .i64 t.d.x, .int .i64 t.d.y, .int .i64 t.d.z, .int .i64 t.np, .int .i64 t.nn, .int .i64 t.fix, .int .i64 t.min, .int .i64 t.tax] 54) := (hb1.block (w.heap.size + 1) (by first | omega | (simp; done) | (simp; omega))).trans MT0; have B1 := below_then B0 hb1))
  clear MM0 MT0 MM1 MT1 MM2 MT2 MM3 MT3 m0_3 m1_3 m2_3 B0 B1 B2 B3 hb1 hb2 hb3 hb4 pm pt rn bi
  go_wp2_with (go_at_call 11; refine (num_any _ _).mono ?_; rintro e wn ⟨rfl, h9⟩; have h10 := h9.symm; subst h10)
  go_ret
  exact ⟨ret_bool (by simp), B4⟩

set_option maxRecDepth 1000000 in
set_option maxHeartbeats 2000000 in
theorem bb_yes (t : Trf) (step start : Int) (v : Value) (l : List Txt.Val) (w : World) (h : VRow w v l) (ht : TB w) (s0 : t.h0.size ≤ maxLen) (s1 : t.h1.size ≤ maxLen) (s2 : t.h2.size ≤ maxLen) (s3 : t.h3.size ≤ maxLen) (hz : spE t step start l = 0) :
    Calls Tryd.prog 4 #[.agg #[.int .i64 step, .int .i64 start, v], .agg #[.int .i64 t.z.off, .int .i64 t.z.f.m, .int .i64 t.z.f.w, .int .i64 t.z.f.d, .int .i64 t.z.f.h, .int .i64 t.z.t.m, .int .i64 t.z.t.w, .int .i64 t.z.t.d, .int .i64 t.z.t.h, .int .i64 t.days, .int .i64 t.gap, .int .i64 t.first, .int .i64 t.last, .string t.h0, .string t.h1, .string t.h2, .string t.h3, .int .i64 t.b0.x, .int .i64 t.b0.y, .int .i64 t.b0.z, .int .i64 t.b1.x, .int .i64 t.b1.y, .int .i64 t.b1.z, .int .i64 t.b2.x, .int .i64 t.b2.y, .int .i64 t.b2.z, .int .i64 t.d.x, .int .i64 t.d.y, .int .i64 t.d.z, .int .i64 t.np, .int .i64 t.nn, .int .i64 t.fix, .int .i64 t.min, .int .i64 t.tax]] w fun e w' => e = .returned (.bool true) ∧ Below w.heap.size w w' := by
  obtain ⟨hn, hE, hA, hS⟩ := run_yes hz
  have pm : ∀ w1, Below w.heap.size w w1 → Calls Tryd.prog 12 #[.agg #[.int .i64 step, .int .i64 start, v]] w1 fun e w' => e = .returned (.string (mA step start l)) ∧ Below w1.heap.size w1 w' := fun w1 hb => PrintMeter_any step start v l w1 (h.below hb) (ht.below hb)
  have pt : ∀ w1, Below w.heap.size w w1 → Calls Tryd.prog 13 #[.agg #[.int .i64 t.z.off, .int .i64 t.z.f.m, .int .i64 t.z.f.w, .int .i64 t.z.f.d, .int .i64 t.z.f.h, .int .i64 t.z.t.m, .int .i64 t.z.t.w, .int .i64 t.z.t.d, .int .i64 t.z.t.h, .int .i64 t.days, .int .i64 t.gap, .int .i64 t.first, .int .i64 t.last, .string t.h0, .string t.h1, .string t.h2, .string t.h3, .int .i64 t.b0.x, .int .i64 t.b0.y, .int .i64 t.b0.z, .int .i64 t.b1.x, .int .i64 t.b1.y, .int .i64 t.b1.z, .int .i64 t.b2.x, .int .i64 t.b2.y, .int .i64 t.b2.z, .int .i64 t.d.x, .int .i64 t.d.y, .int .i64 t.d.z, .int .i64 t.np, .int .i64 t.nn, .int .i64 t.fix, .int .i64 t.min, .int .i64 t.tax]] w1 fun e w' => e = .returned (.string (tA t)) ∧ Below w1.heap.size w1 w' := fun w1 hb => PrintTariff_any t w1 (ht.below hb) s0 s1 s2 s3
  have rn := fun w1 (hb : Below w.heap.size w w1) => Run_any (mA step start l) (tA t) l.length hn w1 (ht.below hb) (mA_size step start l) (tA_size t)
  rw [hS, hE, hA] at rn
  have bi := fun w1 (hb : Below w.heap.size w w1) => Bill_yes t step start v l w1 (h.below hb) s0 s1 s2 s3 hz
  have ebl : lnR t (spL t step start l) (spL t step start l).length = blL t step start l := by unfold blL; rw [if_pos hz]
  have eln : (spL t step start l).length = (blL t step start l).length := by rw [← ebl, lnR_len]
  obtain ⟨pv, pl⟩ := bill_prints hz
  rw [ebl] at pv pl bi
  rw [eln] at bi
  have hp200 := (pbB_bd pv).1
  obtain ⟨e1, e2, e3, e4, e5⟩ := bill_forth pv
  have rb := fun w1 (hb : Below w.heap.size w w1) => ReadBill_any (pB (blL t step start l)) (blL t step start l).length e1 w1 (ht.below hb) (by unfold maxLen; omega)
  rw [e2, e3, e4] at rb
  obtain ⟨bl, hble⟩ : ∃ bl, bl = blL t step start l := ⟨_, rfl⟩
  rw [← hble] at rn bi rb pl hp200
  have pb := fun w1 v' (hb : Below w.heap.size w w1) (V : LRow w1 v' bl) => PrintBill_any v' bl w1 V (ht.below hb) (by unfold maxLen; omega)
  have lns := fun w1 v1 (V : LRow w1 v1 bl) => lines_any v1 bl w1 V (by omega)
  have sml := fun w1 v1 v2 (V1 : LRow w1 v1 bl) (V2 : LRow w1 v2 bl) => sameLines_any v1 v2 bl w1 V1 V2 (by omega)
  obtain ⟨X, hX⟩ : ∃ X, X = mA step start l := ⟨_, rfl⟩
  obtain ⟨Y, hY⟩ : ∃ Y, Y = tA t := ⟨_, rfl⟩
  obtain ⟨P, hP⟩ : ∃ P, P = pB bl := ⟨_, rfl⟩
  rw [← hX, ← hY, ← hP] at rn
  rw [← hX] at pm
  rw [← hY] at pt
  rw [← hP] at rb pb
  have hn0 : ((bl.length : Int) == 0) = false := by simp; intro q; rw [q] at pl; simp at pl
  obtain ⟨a, cap, rfl⟩ := h.form
  have B0 : Below w.heap.size w ((w.alloc (.cells #[.int .i64 step, .int .i64 start, .slice a l.length cap] 40)).alloc (.cells #[.int .i64 t.z.off, .int .i64 t.z.f.m, .int .i64 t.z.f.w, .int .i64 t.z.f.d, .int .i64 t.z.f.h, .int .i64 t.z.t.m, .int .i64 t.z.t.w, .int .i64 t.z.t.d, .int .i64 t.z.t.h, .int .i64 t.days, .int .i64 t.gap, .int .i64 t.first, .int .i64 t.last, .string t.h0, .string t.h1, .string t.h2, .string t.h3, .int .i64 t.b0.x, .int .i64 t.b0.y, .int .i64 t.b0.z, .int .i64 t.b1.x, .int .i64 t.b1.y, .int .i64 t.b1.z, .int .i64 t.b2.x, .int .i64 t.b2.y, .int .i64 t.b2.z, .int .i64 t.d.x, .int .i64 t.d.y, .int .i64 t.d.z, .int .i64 t.np, .int .i64 t.nn, .int .i64 t.fix, .int .i64 t.min, .int .i64 t.tax] 54)) := below_more (below_more (Below.refl _ _) _) _
  have MT0 : ((w.alloc (.cells #[.int .i64 step, .int .i64 start, .slice a l.length cap] 40)).alloc (.cells #[.int .i64 t.z.off, .int .i64 t.z.f.m, .int .i64 t.z.f.w, .int .i64 t.z.f.d, .int .i64 t.z.f.h, .int .i64 t.z.t.m, .int .i64 t.z.t.w, .int .i64 t.z.t.d, .int .i64 t.z.t.h, .int .i64 t.days, .int .i64 t.gap, .int .i64 t.first, .int .i64 t.last, .string t.h0, .string t.h1, .string t.h2, .string t.h3, .int .i64 t.b0.x, .int .i64 t.b0.y, .int .i64 t.b0.z, .int .i64 t.b1.x, .int .i64 t.b1.y, .int .i64 t.b1.z, .int .i64 t.b2.x, .int .i64 t.b2.y, .int .i64 t.b2.z, .int .i64 t.d.x, .int .i64 t.d.y, .int .i64 t.d.z, .int .i64 t.np, .int .i64 t.nn, .int .i64 t.fix, .int .i64 t.min, .int .i64 t.tax] 54)).heap[w.heap.size + 1]? = some (.cells #[.int .i64 t.z.off, .int .i64 t.z.f.m, .int .i64 t.z.f.w, .int .i64 t.z.f.d, .int .i64 t.z.f.h, .int .i64 t.z.t.m, .int .i64 t.z.t.w, .int .i64 t.z.t.d, .int .i64 t.z.t.h, .int .i64 t.days, .int .i64 t.gap, .int .i64 t.first, .int .i64 t.last, .string t.h0, .string t.h1, .string t.h2, .string t.h3, .int .i64 t.b0.x, .int .i64 t.b0.y, .int .i64 t.b0.z, .int .i64 t.b1.x, .int .i64 t.b1.y, .int .i64 t.b1.z, .int .i64 t.b2.x, .int .i64 t.b2.y, .int .i64 t.b2.z, .int .i64 t.d.x, .int .i64 t.d.y, .int .i64 t.d.z, .int .i64 t.np, .int .i64 t.nn, .int .i64 t.fix, .int .i64 t.min, .int .i64 t.tax] 54) := heap_alloc2_new _ _ _
  have MM0 : ((w.alloc (.cells #[.int .i64 step, .int .i64 start, .slice a l.length cap] 40)).alloc (.cells #[.int .i64 t.z.off, .int .i64 t.z.f.m, .int .i64 t.z.f.w, .int .i64 t.z.f.d, .int .i64 t.z.f.h, .int .i64 t.z.t.m, .int .i64 t.z.t.w, .int .i64 t.z.t.d, .int .i64 t.z.t.h, .int .i64 t.days, .int .i64 t.gap, .int .i64 t.first, .int .i64 t.last, .string t.h0, .string t.h1, .string t.h2, .string t.h3, .int .i64 t.b0.x, .int .i64 t.b0.y, .int .i64 t.b0.z, .int .i64 t.b1.x, .int .i64 t.b1.y, .int .i64 t.b1.z, .int .i64 t.b2.x, .int .i64 t.b2.y, .int .i64 t.b2.z, .int .i64 t.d.x, .int .i64 t.d.y, .int .i64 t.d.z, .int .i64 t.np, .int .i64 t.nn, .int .i64 t.fix, .int .i64 t.min, .int .i64 t.tax] 54)).heap[w.heap.size]? = some (.cells #[.int .i64 step, .int .i64 start, .slice a l.length cap] 40) := (heap_alloc_old _ _ (by simp)).trans (heap_alloc_new _ _)
  clear hX hY hP hble hn hE hA hS hz e1 e2 e3 e4 e5 pv ebl eln h ht s0 s1 s2 s3
  go_enter Tryd.func4, Tryd.ntmps4
  go_upto_region 5 with (first
    | (with_reducible show wpList _ _ _ _ _ w3; refine wpList_load_row rfl 54 _ rfl (w.heap.size + 1) rfl 54 _ (0, 0) _ MT3 Tryd.underlying54 rfl (by kernel_rfl) ?_)
    | (with_reducible show wpList _ _ _ _ _ w1; refine wpList_load_row rfl 54 _ rfl (w.heap.size + 1) rfl 54 _ (0, 0) _ MT1 Tryd.underlying54 rfl (by kernel_rfl) ?_)
    | (go_at_call 15; refine (bi _ B3).mono ?_; rintro e w4 ⟨v4, rfl, own4, hb4⟩; obtain ⟨a4, c4, rfl⟩ := own_slice own4; have B4 := below_then B3 hb4)
    | (go_at_call 14; refine (rn _ B2).mono ?_; rintro e w3 ⟨rfl, hb3⟩; have Z3 : w.heap.size + 1 < w3.heap.size := (by have := hb3.size; first | omega | (simp at this; omega)); have MM3 : w3.heap[w.heap.size]? = some (.cells #[.int .i64 step, .int .i64 start, .slice a l.length cap] 40) := (hb3.block w.heap.size (by first | omega | (simp; done) | (simp; omega))).trans MM2; have MT3 : w3.heap[w.heap.size + 1]? = some (.cells #[.int .i64 t.z.off, .int .i64 t.z.f.m, .int .i64 t.z.f.w, .int .i64 t.z.f.d, .int .i64 t.z.f.h, .int .i64 t.z.t.m, .int .i64 t.z.t.w, .int .i64 t.z.t.d, .int .i64 t.z.t.h, .int .i64 t.days, .int .i64 t.gap, .int .i64 t.first, .int .i64 t.last, .string t.h0, .string t.h1, .string t.h2, .string t.h3, .int .i64 t.b0.x, .int .i64 t.b0.y, .int .i64 t.b0.z, .int .i64 t.b1.x, .int .i64 t.b1.y, .int .i64 t.b1.z, .int .i64 t.b2.x, .int .i64 t.b2.y, .int .i64 t.b2.z, .int .i64 t.d.x, .int .i64 t.d.y, .int .i64 t.d.z, .int .i64 t.np, .int .i64 t.nn, .int .i64 t.fix, .int .i64 t.min, .int .i64 t.tax] 54) := (hb3.block (w.heap.size + 1) (by first | omega | (simp; done) | (simp; omega))).trans MT2; have B3 := below_then B2 hb3; have m0_3 : w3.cell? ⟨w.heap.size, 0, none⟩ = some (.int .i64 step) := cell_in_row MM3 rfl; have m1_3 : w3.cell? ⟨w.heap.size, 1, none⟩ = some (.int .i64 start) := cell_in_row MM3 rfl; have m2_3 : w3.cell? ⟨w.heap.size, 2, none⟩ = some (.slice a l.length cap) := cell_in_row MM3 rfl)
    | (go_at_call 13; refine (pt _ B1).mono ?_; rintro e w2 ⟨rfl, hb2⟩; have Z2 : w.heap.size + 1 < w2.heap.size := (by have := hb2.size; first | omega | (simp at this; omega)); have MM2 : w2.heap[w.heap.size]? = some (.cells #[.int .i64 step, .int .i64 start, .slice a l.length cap] 40) := (hb2.block w.heap.size (by first | omega | (simp; done) | (simp; omega))).trans MM1; have MT2 : w2.heap[w.heap.size + 1]? = some (.cells #[.int .i64 t.z.off, .int .i64 t.z.f.m, .int .i64 t.z.f.w, .int .i64 t.z.f.d, .int .i64 t.z.f.h, .int .i64 t.z.t.m, .int .i64 t.z.t.w, .int .i64 t.z.t.d, .int .i64 t.z.t.h, .int .i64 t.days, .int .i64 t.gap, .int .i64 t.first, .int .i64 t.last, .string t.h0, .string t.h1, .string t.h2, .string t.h3, .int .i64 t.b0.x, .int .i64 t.b0.y, .int .i64 t.b0.z, .int .i64 t.b1.x, .int .i64 t.b1.y, .int .i64 t.b1.z, .int .i64 t.b2.x, .int .i64 t.b2.y, .int .i64 t.b2.z, .int .i64 t.d.x, .int .i64 t.d.y, .int .i64 t.d.z, .int .i64 t.np, .int .i64 t.nn, .int .i64 t.fix, .int .i64 t.min, .int .i64 t.tax] 54) := (hb2.block (w.heap.size + 1) (by first | omega | (simp; done) | (simp; omega))).trans MT1; have B2 := below_then B1 hb2)
    | (go_at_call 12; refine (pm _ B0).mono ?_; rintro e w1 ⟨rfl, hb1⟩; have Z1 : w.heap.size + 1 < w1.heap.size := (by have := hb1.size; first | omega | (simp at this; omega)); have MM1 : w1.heap[w.heap.size]? = some (.cells #[.int .i64 step, .int .i64 start, .slice a l.length cap] 40) := (hb1.block w.heap.size (by first | omega | (simp; done) | (simp; omega))).trans MM0; have MT1 : w1.heap[w.heap.size + 1]? = some (.cells #[.int .i64 t.z.off, .int .i64 t.z.f.m, .int .i64 t.z.f.w, .int .i64 t.z.f.d, .int .i64 t.z.f.h, .int .i64 t.z.t.m, .int .i64 t.z.t.w, .int .i64 t.z.t.d, .int .i64 t.z.t.h, .int .i64 t.days, .int .i64 t.gap, .int .i64 t.first, .int .i64 t.last, .string t.h0, .string t.h1, .string t.h2, .string t.h3, .int .i64 t.b0.x, .int .i64 t.b0.y, .int .i64 t.b0.z, .int .i64 t.b1.x, .int .i64 t.b1.y, .int .i64 t.b1.z, .int .i64 t.b2.x, .int .i64 t.b2.y, .int .i64 t.b2.z, .int .i64 t.d.x, .int .i64 t.d.y, .int .i64 t.d.z, .int .i64 t.np, .int .i64 t.nn, .int .i64 t.fix, .int .i64 t.min, .int .i64 t.tax] 54) := (hb1.block (w.heap.size + 1) (by first | omega | (simp; done) | (simp; omega))).trans MT0; have B1 := below_then B0 hb1))
  have U4 := hideP (LRow.of_own own4 rfl)
  clear own4 MM0 MT0 MM1 MT1 MM2 MT2 MM3 MT3 m0_3 m1_3 m2_3 B0 B1 B2 B3 hb1 hb2 hb3 hb4 pm pt rn bi
  go_wp2_with (first
    | (go_at_call 5; refine (pb _ _ B8 V5).mono ?_; rintro e w9 ⟨rfl, hb9⟩)
    | (go_at_call 10; refine (sml _ _ _ ((LRow.of_own own6 rfl).below hb7) (LRow.of_own own7 rfl)).mono ?_; rintro e w8 ⟨rfl, hb8⟩; have B8 := below_then B7 hb8; have V5 := (((LRow.of_own own5 rfl).below hb6).below hb7).below hb8)
    | (go_at_call 7; have _ := hb6; refine (lns _ _ ((LRow.of_own own5 rfl).below hb6)).mono ?_; rintro e w7 ⟨v7, rfl, own7, hb7⟩; obtain ⟨a7, c7, rfl⟩ := own_slice own7; have B7 := below_then B6 hb7)
    | (go_at_call 7; refine (lns _ _ (U4.out.below hb5)).mono ?_; rintro e w6 ⟨v6, rfl, own6, hb6⟩; obtain ⟨a6, c6, rfl⟩ := own_slice own6; have B6 := below_then B5 hb6)
    | (go_at_call 8; refine (rb _ B4).mono ?_; rintro e w5 ⟨v5, rfl, own5, hb5⟩; obtain ⟨a5, c5, rfl⟩ := own_slice own5; have B5 := below_then B4 hb5)
    | (go_at_call 11; refine (num_any _ _).mono ?_; rintro e wn ⟨rfl, h9⟩; have h10 := h9.symm; subst h10))
  go_ret
  exact ⟨ret_bool (by simp), below_then B8 hb9⟩

theorem bb_walk (t : Trf) (step start : Int) (v : Value) (l : List Txt.Val) (w : World) (h : VRow w v l) (ht : TB w) (hreach : l.length * 24 ≤ 140737488351232) (s0 : t.h0.size ≤ maxLen) (s1 : t.h1.size ≤ maxLen) (s2 : t.h2.size ≤ maxLen) (s3 : t.h3.size ≤ maxLen) :
    Calls Tryd.prog 4 #[.agg #[.int .i64 step, .int .i64 start, v], .agg #[.int .i64 t.z.off, .int .i64 t.z.f.m, .int .i64 t.z.f.w, .int .i64 t.z.f.d, .int .i64 t.z.f.h, .int .i64 t.z.t.m, .int .i64 t.z.t.w, .int .i64 t.z.t.d, .int .i64 t.z.t.h, .int .i64 t.days, .int .i64 t.gap, .int .i64 t.first, .int .i64 t.last, .string t.h0, .string t.h1, .string t.h2, .string t.h3, .int .i64 t.b0.x, .int .i64 t.b0.y, .int .i64 t.b0.z, .int .i64 t.b1.x, .int .i64 t.b1.y, .int .i64 t.b1.z, .int .i64 t.b2.x, .int .i64 t.b2.y, .int .i64 t.b2.z, .int .i64 t.d.x, .int .i64 t.d.y, .int .i64 t.d.z, .int .i64 t.np, .int .i64 t.nn, .int .i64 t.fix, .int .i64 t.min, .int .i64 t.tax]] w fun e w' => e = .returned (.bool true) ∧ Below w.heap.size w w' := by
  by_cases hz : spE t step start l = 0
  · exact bb_yes t step start v l w h ht s0 s1 s2 s3 hz
  · exact bb_no t step start v l w h ht s0 s1 s2 s3 hz
end billBack
end Go.Proofs.YtjaffmmocbplaabDoor
