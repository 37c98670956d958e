/-
  The document's Split.
-/
import Derived.Test.YtjaffmmocbplaabRspW
namespace Go.Proofs.Ytjaffmmocbplaab
open Go.RowKit
set_option linter.unusedVariables false
attribute [local go_sem ↓] Go.wp_at_zero Go.wp_at_succ

set_option maxRecDepth 1000000 in
set_option maxHeartbeats 2000000 in
theorem refSplit_no (t : Trf) (step start : Int) (v : Value) (l : List Txt.Val) (w : World) (h : VRow w v l) (s0 : t.h0.size ≤ maxLen) (s1 : t.h1.size ≤ maxLen) (s2 : t.h2.size ≤ maxLen) (s3 : t.h3.size ≤ maxLen) (hno : meterB step start l = false ∨ badN t < 13 ∨ ¬ fE step start t.gap l = 0) :
    Calls Try.prog 12 #[.agg #[.int .i64 step, .int .i64 start, v], .agg #[.int .i64 t.z.off, .int .i64 t.z.f.m, .int .i64 t.z.f.w, .int .i64 t.z.f.d, .int .i64 t.z.f.h, .int .i64 t.z.t.m, .int .i64 t.z.t.w, .int .i64 t.z.t.d, .int .i64 t.z.t.h, .int .i64 t.days, .int .i64 t.gap, .int .i64 t.first, .int .i64 t.last, .string t.h0, .string t.h1, .string t.h2, .string t.h3, .int .i64 t.b0.x, .int .i64 t.b0.y, .int .i64 t.b0.z, .int .i64 t.b1.x, .int .i64 t.b1.y, .int .i64 t.b1.z, .int .i64 t.b2.x, .int .i64 t.b2.y, .int .i64 t.b2.z, .int .i64 t.d.x, .int .i64 t.d.y, .int .i64 t.d.z, .int .i64 t.np, .int .i64 t.nn, .int .i64 t.fix, .int .i64 t.min, .int .i64 t.tax]] w fun e w' => e = .returned (.tuple #[.slice none 0 0, .int .i64 (spE t step start l), .int .i64 (spA t step start l)]) ∧ Below w.heap.size w w' := by
  have vm := fun w1 (hb : Below w.heap.size w w1) => GoodMeter_any step start v l w1 (h.below hb)
  have bl := fun w1 => GoodTariff_any t w1 s0 s1 s2 s3
  have fl1 := fun w1 (hb : Below w.heap.size w w1) => refFill_any step start t.gap v l w1 (h.below hb)
  obtain ⟨a, cap, rfl⟩ := h.form
  have B0 : Below w.heap.size w ((w.alloc (.cells #[.int .i64 step, .int .i64 start, .slice a l.length cap] 51)).alloc (.cells #[.int .i64 t.z.off, .int .i64 t.z.f.m, .int .i64 t.z.f.w, .int .i64 t.z.f.d, .int .i64 t.z.f.h, .int .i64 t.z.t.m, .int .i64 t.z.t.w, .int .i64 t.z.t.d, .int .i64 t.z.t.h, .int .i64 t.days, .int .i64 t.gap, .int .i64 t.first, .int .i64 t.last, .string t.h0, .string t.h1, .string t.h2, .string t.h3, .int .i64 t.b0.x, .int .i64 t.b0.y, .int .i64 t.b0.z, .int .i64 t.b1.x, .int .i64 t.b1.y, .int .i64 t.b1.z, .int .i64 t.b2.x, .int .i64 t.b2.y, .int .i64 t.b2.z, .int .i64 t.d.x, .int .i64 t.d.y, .int .i64 t.d.z, .int .i64 t.np, .int .i64 t.nn, .int .i64 t.fix, .int .i64 t.min, .int .i64 t.tax] 61)) := below_more (below_more (Below.refl _ _) _) _
  have MT : ((w.alloc (.cells #[.int .i64 step, .int .i64 start, .slice a l.length cap] 51)).alloc (.cells #[.int .i64 t.z.off, .int .i64 t.z.f.m, .int .i64 t.z.f.w, .int .i64 t.z.f.d, .int .i64 t.z.f.h, .int .i64 t.z.t.m, .int .i64 t.z.t.w, .int .i64 t.z.t.d, .int .i64 t.z.t.h, .int .i64 t.days, .int .i64 t.gap, .int .i64 t.first, .int .i64 t.last, .string t.h0, .string t.h1, .string t.h2, .string t.h3, .int .i64 t.b0.x, .int .i64 t.b0.y, .int .i64 t.b0.z, .int .i64 t.b1.x, .int .i64 t.b1.y, .int .i64 t.b1.z, .int .i64 t.b2.x, .int .i64 t.b2.y, .int .i64 t.b2.z, .int .i64 t.d.x, .int .i64 t.d.y, .int .i64 t.d.z, .int .i64 t.np, .int .i64 t.nn, .int .i64 t.fix, .int .i64 t.min, .int .i64 t.tax] 61)).heap[w.heap.size + 1]? = some (.cells #[.int .i64 t.z.off, .int .i64 t.z.f.m, .int .i64 t.z.f.w, .int .i64 t.z.f.d, .int .i64 t.z.f.h, .int .i64 t.z.t.m, .int .i64 t.z.t.w, .int .i64 t.z.t.d, .int .i64 t.z.t.h, .int .i64 t.days, .int .i64 t.gap, .int .i64 t.first, .int .i64 t.last, .string t.h0, .string t.h1, .string t.h2, .string t.h3, .int .i64 t.b0.x, .int .i64 t.b0.y, .int .i64 t.b0.z, .int .i64 t.b1.x, .int .i64 t.b1.y, .int .i64 t.b1.z, .int .i64 t.b2.x, .int .i64 t.b2.y, .int .i64 t.b2.z, .int .i64 t.d.x, .int .i64 t.d.y, .int .i64 t.d.z, .int .i64 t.np, .int .i64 t.nn, .int .i64 t.fix, .int .i64 t.min, .int .i64 t.tax] 61) := heap_alloc2_new _ _ _
  cases hm : meterB step start l
  case false =>
    have HG : Hid (spE t step start l = 3 ∧ spA t step start l = 0) := by show _ ∧ _; unfold spE spA; rw [hm]; exact ⟨rfl, rfl⟩
    rw [HG.out.1, HG.out.2]
    rw [hm] at vm
    clear bl fl1 MT h
    go_enter Try.func12, Try.ntmps12
    go_wp2_with (go_at_call 27; refine (vm _ B0).mono ?_; rintro e w1 ⟨rfl, hb1⟩)
    exact bodyPost_ret (v := .tuple #[.slice none 0 0, .int .i64 3, .int .i64 0]) (by simp [results, Try.results12, go_sem]) rfl ⟨rfl, below_then B0 hb1⟩
  case true =>
    rw [hm] at vm
    by_cases hbd : badN t < 13
    case pos =>
      have HG : Hid (spE t step start l = 5 ∧ spA t step start l = 0) := by show _ ∧ _; unfold spE spA; rw [hm]; simp [hbd]
      rw [HG.out.1, HG.out.2]
      have hgb : goodB t = false := by unfold goodB; simp; omega
      rw [hgb] at bl
      clear fl1 h hbd hm hgb
      go_enter Try.func12, Try.ntmps12
      go_wp2_with (first
        | (refine wpList_load_row rfl 61 _ rfl (w.heap.size + 1) rfl 61 _ (0, 0) _ mt1 Try.underlying61 rfl (by kernel_rfl) ?_)
        | (go_at_call 27; refine (vm _ B0).mono ?_; rintro e w1 ⟨rfl, hb1⟩; have mt1 := (hb1.block (w.heap.size + 1) (by simp)).trans MT)
        | (go_at_call 28; refine (bl _).mono ?_; rintro e w2 ⟨rfl, hb2⟩))
      exact bodyPost_ret (v := .tuple #[.slice none 0 0, .int .i64 5, .int .i64 0]) (by simp [results, Try.results12, go_sem]) rfl ⟨rfl, below_then (below_then B0 hb1) hb2⟩
    case neg =>
      have hfe : ¬ fE step start t.gap l = 0 := by
        rcases hno with h' | h' | h'
        · rw [hm] at h'; cases h'
        · exact absurd h' hbd
        · exact h'
      have HG : Hid (spE t step start l = fE step start t.gap l ∧ spA t step start l = fA step start t.gap l) := by show _ ∧ _; unfold spE spA; rw [hm]; simp [hbd, hfe]
      rw [HG.out.1, HG.out.2]
      have hgb : goodB t = true := by unfold goodB; have := badN_le t; simp; omega
      rw [hgb] at bl
      obtain ⟨E, hE⟩ : ∃ E, E = fE step start t.gap l := ⟨_, rfl⟩
      obtain ⟨A, hA⟩ : ∃ A, A = fA step start t.gap l := ⟨_, rfl⟩
      rw [← hE, ← hA] at fl1
      rw [← hE] at hfe
      rw [← hE, ← hA]
      have hEB : (E != 0) = true := by simpa using hfe
      clear hE hA hfe h hm hbd hno hgb
      go_enter Try.func12, Try.ntmps12
      go_wp2_with (first
        | (refine wpList_load_row rfl 61 _ rfl (w.heap.size + 1) rfl 61 _ (0, 0) _ mt1 Try.underlying61 rfl (by kernel_rfl) ?_)
        | (go_at_call 27; refine (vm _ B0).mono ?_; rintro e w1 ⟨rfl, hb1⟩; obtain ⟨hc1, hf1⟩ := bcell hb1; have mt1 := (hb1.block (w.heap.size + 1) (by simp)).trans MT; have hs1 : w.heap.size + 1 < w1.heap.size := (by have := hb1.size; simp at this; omega); have hs1' : w.heap.size < w1.heap.size := (by omega))
        | (go_at_call 28; refine (bl _).mono ?_; rintro e w2 ⟨rfl, hb2⟩; obtain ⟨hc2, hf2⟩ := bcell hb2)
        | (go_at_call 29; refine (fl1 _ (below_then (below_then B0 hb1) hb2)).mono ?_; rintro e w3 ⟨v3, rfl, own3, hb3⟩; obtain ⟨a3, cap3, rfl⟩ := own_slice own3))
      exact bodyPost_ret (v := .tuple #[.slice none 0 0, .int .i64 E, .int .i64 A]) (by simp [results, Try.results12, go_sem]) rfl ⟨rfl, below_then (below_then (below_then B0 hb1) hb2) hb3⟩

end Go.Proofs.Ytjaffmmocbplaab
