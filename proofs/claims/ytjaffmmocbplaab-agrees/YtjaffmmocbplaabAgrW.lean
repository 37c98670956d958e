/-
  Agrees: the law's walk.
-/
import Derived.Test.YtjaffmmocbplaabLinR
import Derived.BigQuiet
namespace Go.Proofs.Ytjaffmmocbplaab.agrees
open Go.RowKit Bil
set_option linter.unusedVariables false
attribute [local go_sem ↓] Go.wp_at_zero Go.wp_at_succ

set_option maxRecDepth 1000000 in
set_option maxHeartbeats 1500000 in
theorem walk_no (t : Trf) (step start : Int) (v : Value) (l : List Txt.Val) (w : World) (h : VRow w v l) (s0 : t.h0.size ≤ maxLen) (s1 : t.h1.size ≤ maxLen) (s2 : t.h2.size ≤ maxLen) (s3 : t.h3.size ≤ maxLen) (hne : ¬ spE t step start l = 0) :
    Calls Try.prog 6 #[.agg #[.int .i64 step, .int .i64 start, v], .agg #[.int .i64 t.z.off, .int .i64 t.z.f.m, .int .i64 t.z.f.w, .int .i64 t.z.f.d, .int .i64 t.z.f.h, .int .i64 t.z.t.m, .int .i64 t.z.t.w, .int .i64 t.z.t.d, .int .i64 t.z.t.h, .int .i64 t.days, .int .i64 t.gap, .int .i64 t.first, .int .i64 t.last, .string t.h0, .string t.h1, .string t.h2, .string t.h3, .int .i64 t.b0.x, .int .i64 t.b0.y, .int .i64 t.b0.z, .int .i64 t.b1.x, .int .i64 t.b1.y, .int .i64 t.b1.z, .int .i64 t.b2.x, .int .i64 t.b2.y, .int .i64 t.b2.z, .int .i64 t.d.x, .int .i64 t.d.y, .int .i64 t.d.z, .int .i64 t.np, .int .i64 t.nn, .int .i64 t.fix, .int .i64 t.min, .int .i64 t.tax]] w fun e w' => e = .returned (.bool true) ∧ Below w.heap.size w w' := by
  have sp := fun w1 (hb : Below w.heap.size w w1) => Split_any t step start v l w1 (h.below hb) s0 s1 s2 s3
  have bn := fun w1 (hb : Below w.heap.size w w1) => Bill_no t step start v l w1 (h.below hb) s0 s1 s2 s3 hne
  obtain ⟨a, cap, rfl⟩ := h.form
  rw [sp_no hne] at sp
  obtain ⟨E, hE⟩ : ∃ E, E = spE t step start l := ⟨_, rfl⟩
  obtain ⟨A, hA⟩ : ∃ A, A = spA t step start l := ⟨_, rfl⟩
  rw [← hE, ← hA] at sp bn
  rw [← hE] at hne
  have hEB : (E == 0) = false := by simpa using hne
  have B0 : Below w.heap.size w ((w.alloc (.cells #[.int .i64 step, .int .i64 start, .slice a l.length cap] 24)).alloc (.cells #[.int .i64 t.z.off, .int .i64 t.z.f.m, .int .i64 t.z.f.w, .int .i64 t.z.f.d, .int .i64 t.z.f.h, .int .i64 t.z.t.m, .int .i64 t.z.t.w, .int .i64 t.z.t.d, .int .i64 t.z.t.h, .int .i64 t.days, .int .i64 t.gap, .int .i64 t.first, .int .i64 t.last, .string t.h0, .string t.h1, .string t.h2, .string t.h3, .int .i64 t.b0.x, .int .i64 t.b0.y, .int .i64 t.b0.z, .int .i64 t.b1.x, .int .i64 t.b1.y, .int .i64 t.b1.z, .int .i64 t.b2.x, .int .i64 t.b2.y, .int .i64 t.b2.z, .int .i64 t.d.x, .int .i64 t.d.y, .int .i64 t.d.z, .int .i64 t.np, .int .i64 t.nn, .int .i64 t.fix, .int .i64 t.min, .int .i64 t.tax] 38)) := below_more (below_more (Below.refl _ _) _) _
  have MT : ((w.alloc (.cells #[.int .i64 step, .int .i64 start, .slice a l.length cap] 24)).alloc (.cells #[.int .i64 t.z.off, .int .i64 t.z.f.m, .int .i64 t.z.f.w, .int .i64 t.z.f.d, .int .i64 t.z.f.h, .int .i64 t.z.t.m, .int .i64 t.z.t.w, .int .i64 t.z.t.d, .int .i64 t.z.t.h, .int .i64 t.days, .int .i64 t.gap, .int .i64 t.first, .int .i64 t.last, .string t.h0, .string t.h1, .string t.h2, .string t.h3, .int .i64 t.b0.x, .int .i64 t.b0.y, .int .i64 t.b0.z, .int .i64 t.b1.x, .int .i64 t.b1.y, .int .i64 t.b1.z, .int .i64 t.b2.x, .int .i64 t.b2.y, .int .i64 t.b2.z, .int .i64 t.d.x, .int .i64 t.d.y, .int .i64 t.d.z, .int .i64 t.np, .int .i64 t.nn, .int .i64 t.fix, .int .i64 t.min, .int .i64 t.tax] 38)).heap[w.heap.size + 1]? = some (.cells #[.int .i64 t.z.off, .int .i64 t.z.f.m, .int .i64 t.z.f.w, .int .i64 t.z.f.d, .int .i64 t.z.f.h, .int .i64 t.z.t.m, .int .i64 t.z.t.w, .int .i64 t.z.t.d, .int .i64 t.z.t.h, .int .i64 t.days, .int .i64 t.gap, .int .i64 t.first, .int .i64 t.last, .string t.h0, .string t.h1, .string t.h2, .string t.h3, .int .i64 t.b0.x, .int .i64 t.b0.y, .int .i64 t.b0.z, .int .i64 t.b1.x, .int .i64 t.b1.y, .int .i64 t.b1.z, .int .i64 t.b2.x, .int .i64 t.b2.y, .int .i64 t.b2.z, .int .i64 t.d.x, .int .i64 t.d.y, .int .i64 t.d.z, .int .i64 t.np, .int .i64 t.nn, .int .i64 t.fix, .int .i64 t.min, .int .i64 t.tax] 38) := heap_alloc2_new _ _ _
  clear hE hA hne h
  go_enter Try.func6, Try.ntmps6
  go_wp2_with (first
    | (refine wpList_load_row rfl 38 _ rfl (w.heap.size + 1) rfl 38 _ (0, 0) _ mt1 Try.underlying38 rfl (by kernel_rfl) ?_)
    | (refine wpList_load_row rfl 38 _ rfl (w.heap.size + 1) rfl 38 _ (0, 0) _ MT Try.underlying38 rfl (by kernel_rfl) ?_)
    | (go_at_call 19; refine (bn _ B0).mono ?_; rintro e w1 ⟨rfl, hb1⟩; obtain ⟨hc1, hf1⟩ := bcell hb1; have hs1 : w.heap.size + 1 < w1.heap.size := (by have := hb1.size; simp at this; omega); have hs1' : w.heap.size < w1.heap.size := (by omega); have mt1 := (hb1.block (w.heap.size + 1) (by simp)).trans MT)
    | (go_at_call 11; refine (sp _ (below_then B0 hb1)).mono ?_; rintro e w2 ⟨v2, rfl, own2, hb2⟩; obtain ⟨a2, cap2, rfl⟩ := own_slice own2)
    | (go_at_call 16; refine (num_any _ _).mono ?_; rintro e w7 ⟨rfl, h7⟩; have h8 := h7.symm; subst h8))
  go_loopw [11] (fun p wr => p = .int .i64 0 ∧ wr = w2) (fun _ _ => 0)
  case atStart => exact ⟨rfl, rfl⟩
  case round =>
    obtain ⟨rfl, rfl⟩ := hrel
    go_wp2_with fail
    go_ret
    exact ⟨rfl, below_then (below_then B0 hb1) hb2⟩

set_option maxRecDepth 1000000 in
set_option maxHeartbeats 1500000 in
theorem walk_yes (t : Trf) (step start : Int) (v : Value) (l : List Txt.Val) (w : World) (h : VRow w v l) (s0 : t.h0.size ≤ maxLen) (s1 : t.h1.size ≤ maxLen) (s2 : t.h2.size ≤ maxLen) (s3 : t.h3.size ≤ maxLen) (hz : spE t step start l = 0) :
    Calls Try.prog 6 #[.agg #[.int .i64 step, .int .i64 start, v], .agg #[.int .i64 t.z.off, .int .i64 t.z.f.m, .int .i64 t.z.f.w, .int .i64 t.z.f.d, .int .i64 t.z.f.h, .int .i64 t.z.t.m, .int .i64 t.z.t.w, .int .i64 t.z.t.d, .int .i64 t.z.t.h, .int .i64 t.days, .int .i64 t.gap, .int .i64 t.first, .int .i64 t.last, .string t.h0, .string t.h1, .string t.h2, .string t.h3, .int .i64 t.b0.x, .int .i64 t.b0.y, .int .i64 t.b0.z, .int .i64 t.b1.x, .int .i64 t.b1.y, .int .i64 t.b1.z, .int .i64 t.b2.x, .int .i64 t.b2.y, .int .i64 t.b2.z, .int .i64 t.d.x, .int .i64 t.d.y, .int .i64 t.d.z, .int .i64 t.np, .int .i64 t.nn, .int .i64 t.fix, .int .i64 t.min, .int .i64 t.tax]] w fun e w' => e = .returned (.bool true) ∧ Below w.heap.size w w' := by
  have sp := fun w1 (hb : Below w.heap.size w w1) => Split_any t step start v l w1 (h.below hb) s0 s1 s2 s3
  have bn := fun w1 (hb : Below w.heap.size w w1) => Bill_yes t step start v l w1 (h.below hb) s0 s1 s2 s3 hz
  have ok := bok hz
  obtain ⟨a, cap, rfl⟩ := h.form
  rw [hz, spA_ok hz] at sp
  obtain ⟨ps, hps⟩ : ∃ ps, ps = spL t step start l := ⟨_, rfl⟩
  rw [← hps] at sp bn ok
  obtain ⟨pn1, pn2⟩ := ok.n
  have pnB : ((ps.length : Int) == 0) = false := by rw [beq_eq_false_iff_ne]; omega
  have B0 : Below w.heap.size w ((w.alloc (.cells #[.int .i64 step, .int .i64 start, .slice a l.length cap] 24)).alloc (.cells #[.int .i64 t.z.off, .int .i64 t.z.f.m, .int .i64 t.z.f.w, .int .i64 t.z.f.d, .int .i64 t.z.f.h, .int .i64 t.z.t.m, .int .i64 t.z.t.w, .int .i64 t.z.t.d, .int .i64 t.z.t.h, .int .i64 t.days, .int .i64 t.gap, .int .i64 t.first, .int .i64 t.last, .string t.h0, .string t.h1, .string t.h2, .string t.h3, .int .i64 t.b0.x, .int .i64 t.b0.y, .int .i64 t.b0.z, .int .i64 t.b1.x, .int .i64 t.b1.y, .int .i64 t.b1.z, .int .i64 t.b2.x, .int .i64 t.b2.y, .int .i64 t.b2.z, .int .i64 t.d.x, .int .i64 t.d.y, .int .i64 t.d.z, .int .i64 t.np, .int .i64 t.nn, .int .i64 t.fix, .int .i64 t.min, .int .i64 t.tax] 38)) := below_more (below_more (Below.refl _ _) _) _
  have MT : ((w.alloc (.cells #[.int .i64 step, .int .i64 start, .slice a l.length cap] 24)).alloc (.cells #[.int .i64 t.z.off, .int .i64 t.z.f.m, .int .i64 t.z.f.w, .int .i64 t.z.f.d, .int .i64 t.z.f.h, .int .i64 t.z.t.m, .int .i64 t.z.t.w, .int .i64 t.z.t.d, .int .i64 t.z.t.h, .int .i64 t.days, .int .i64 t.gap, .int .i64 t.first, .int .i64 t.last, .string t.h0, .string t.h1, .string t.h2, .string t.h3, .int .i64 t.b0.x, .int .i64 t.b0.y, .int .i64 t.b0.z, .int .i64 t.b1.x, .int .i64 t.b1.y, .int .i64 t.b1.z, .int .i64 t.b2.x, .int .i64 t.b2.y, .int .i64 t.b2.z, .int .i64 t.d.x, .int .i64 t.d.y, .int .i64 t.d.z, .int .i64 t.np, .int .i64 t.nn, .int .i64 t.fix, .int .i64 t.min, .int .i64 t.tax] 38)).heap[w.heap.size + 1]? = some (.cells #[.int .i64 t.z.off, .int .i64 t.z.f.m, .int .i64 t.z.f.w, .int .i64 t.z.f.d, .int .i64 t.z.f.h, .int .i64 t.z.t.m, .int .i64 t.z.t.w, .int .i64 t.z.t.d, .int .i64 t.z.t.h, .int .i64 t.days, .int .i64 t.gap, .int .i64 t.first, .int .i64 t.last, .string t.h0, .string t.h1, .string t.h2, .string t.h3, .int .i64 t.b0.x, .int .i64 t.b0.y, .int .i64 t.b0.z, .int .i64 t.b1.x, .int .i64 t.b1.y, .int .i64 t.b1.z, .int .i64 t.b2.x, .int .i64 t.b2.y, .int .i64 t.b2.z, .int .i64 t.d.x, .int .i64 t.d.y, .int .i64 t.d.z, .int .i64 t.np, .int .i64 t.nn, .int .i64 t.fix, .int .i64 t.min, .int .i64 t.tax] 38) := heap_alloc2_new _ _ _
  clear hps hz h ok
  go_enter Try.func6, Try.ntmps6
  go_wp2_with (first
    | (refine wpList_load_row rfl 38 _ rfl (w.heap.size + 1) rfl 38 _ (0, 0) _ mt1 Try.underlying38 rfl (by kernel_rfl) ?_)
    | (refine wpList_load_row rfl 38 _ rfl (w.heap.size + 1) rfl 38 _ (0, 0) _ MT Try.underlying38 rfl (by kernel_rfl) ?_)
    | (go_at_call 19; refine (bn _ B0).mono ?_; rintro e w1 ⟨v1, rfl, own1, hb1⟩; obtain ⟨a1, cap1, rfl⟩ := own_slice own1; obtain ⟨hc1, hf1⟩ := bcell hb1; have hs1 : w.heap.size + 1 < w1.heap.size := (by have := hb1.size; simp at this; omega); have hs1' : w.heap.size < w1.heap.size := (by omega); have mt1 := (hb1.block (w.heap.size + 1) (by simp)).trans MT)
    | (go_at_call 11; refine (sp _ (below_then B0 hb1)).mono ?_; rintro e w2 ⟨v2, rfl, own2, hb2⟩; obtain ⟨a2, cap2, rfl⟩ := own_slice own2)
    | (go_at_call 16; refine (num_any _ _).mono ?_; rintro e w7 ⟨rfl, h7⟩; have h8 := h7.symm; subst h8))
  have BW := below_then (below_then B0 hb1) hb2
  have UL := hideF (LRow.below (LRow.of_own own1 (lnR_len t ps _)) hb2)
  have UP := hideF (PRow.of_own own2 rfl)
  clear hc1 hf1 own1 own2 hb1 hb2 sp bn MT B0 mt1
  go_loopw [11] (fun p wr => ∃ k : Nat, p = .int .i64 k ∧ k ≤ ps.length ∧ Below w2.heap.size w2 wr) (fun p _ => ps.length - (intOf p).toNat)
  case atStart => exact ⟨0, rfl, by omega, Below.refl _ _⟩
  case round =>
    obtain ⟨k, rfl, hk, hbw⟩ := hrel
    by_cases hlt : k < ps.length
    · have hlt' : (k : Int) < (ps.length : Int) := by omega
      have hk0 : (0 : Int) ≤ (k : Int) := by omega
      obtain ⟨b, rfl, hcap, hblt, cc⟩ := (UL.out.below hbw).at (lnR_get t ps ps.length k hlt)
      obtain ⟨g, rfl, hcap2, hglt, p0, p1, p2, p3, p4⟩ := (UP.out.below hbw).at (pAt_get hlt)
      have c0 : wr.cell? ⟨b, k * 15, none⟩ = some (.int .i64 (pAt ps k).i0) := cc 0 _ rfl
      have c1 : wr.cell? ⟨b, k * 15 + 1, none⟩ = some (.int .i64 (pAt ps k).i1) := cc 1 _ rfl
      have c2 : wr.cell? ⟨b, k * 15 + 2, none⟩ = some (.int .i64 (pAt ps k).i2) := cc 2 _ rfl
      have c3 : wr.cell? ⟨b, k * 15 + 3, none⟩ = some (.int .i64 (pAt ps k).o) := cc 3 _ rfl
      have c4 : wr.cell? ⟨b, k * 15 + 4, none⟩ = some (.int .i64 (pAt ps k).pk) := cc 4 _ rfl
      have hcap' : (ps.length : Int) ≤ (cap1 : Int) := by omega
      have hcap2' : (ps.length : Int) ≤ (cap2 : Int) := by omega
      clear cc
      obtain ⟨x, hx⟩ : ∃ x, x = pAt ps k := ⟨_, rfl⟩
      rw [← hx] at c0 c1 c2 c3 c4 p0 p1 p2 p3 p4
      clear hx
      go_wp2_with fail
      go_quiet (fail)
      go_wp2_with fail
      go_roundw
      case rel => exact ⟨k + 1, by go_num, by omega, by first | exact below_drewN hbw _ | exact Below.drew hbw⟩
      case measure => simp [intOf]; omega
    · have hlt' : ¬ (k : Int) < (ps.length : Int) := by omega
      go_wp2_with fail
      go_ret
      exact ⟨rfl, below_then BW hbw⟩

theorem walk (t : Trf) (step start : Int) (v : Value) (l : List Txt.Val) (w : World) (h : VRow w v l) (s0 : t.h0.size ≤ maxLen) (s1 : t.h1.size ≤ maxLen) (s2 : t.h2.size ≤ maxLen) (s3 : t.h3.size ≤ maxLen) :
    Calls Try.prog 6 #[.agg #[.int .i64 step, .int .i64 start, v], .agg #[.int .i64 t.z.off, .int .i64 t.z.f.m, .int .i64 t.z.f.w, .int .i64 t.z.f.d, .int .i64 t.z.f.h, .int .i64 t.z.t.m, .int .i64 t.z.t.w, .int .i64 t.z.t.d, .int .i64 t.z.t.h, .int .i64 t.days, .int .i64 t.gap, .int .i64 t.first, .int .i64 t.last, .string t.h0, .string t.h1, .string t.h2, .string t.h3, .int .i64 t.b0.x, .int .i64 t.b0.y, .int .i64 t.b0.z, .int .i64 t.b1.x, .int .i64 t.b1.y, .int .i64 t.b1.z, .int .i64 t.b2.x, .int .i64 t.b2.y, .int .i64 t.b2.z, .int .i64 t.d.x, .int .i64 t.d.y, .int .i64 t.d.z, .int .i64 t.np, .int .i64 t.nn, .int .i64 t.fix, .int .i64 t.min, .int .i64 t.tax]] w fun e w' => e = .returned (.bool true) ∧ Below w.heap.size w w' := by
  by_cases hz : spE t step start l = 0
  · exact walk_yes t step start v l w h s0 s1 s2 s3 hz
  · exact walk_no t step start v l w h s0 s1 s2 s3 hz

end Go.Proofs.Ytjaffmmocbplaab.agrees
