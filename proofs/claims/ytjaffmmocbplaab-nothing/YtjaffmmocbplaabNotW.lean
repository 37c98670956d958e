/-
  Nothing: the law's walk.
-/
import Derived.Test.YtjaffmmocbplaabNotM
import Derived.BigQuiet
namespace Go.Proofs.Ytjaffmmocbplaab.nothing
open Go.RowKit
set_option linter.unusedVariables false
attribute [local go_sem ↓] Go.wp_at_zero Go.wp_at_succ

theorem most_any (a b : Int) (w : World) : Calls Try.prog 18 #[.int .i64 a, .int .i64 b] w fun e w' => e = .returned (.int .i64 (mx a b)) ∧ w' = w := by
  by_cases h : b < a
  all_goals
    go_enter Try.func18, Try.ntmps18
    go_wp2
    go_ret
    exact ⟨ret_int (by unfold mx; split <;> omega), rfl⟩

set_option maxRecDepth 1000000 in
set_option maxHeartbeats 1500000 in
theorem walk_no (t : Trf) (step start : Int) (v : Value) (l : List Txt.Val) (w : World) (h : VRow w v l) (s0 : t.h0.size ≤ maxLen) (s1 : t.h1.size ≤ maxLen) (s2 : t.h2.size ≤ maxLen) (s3 : t.h3.size ≤ maxLen) (hne : ¬ spE t step start l = 0) :
    Calls Try.prog 4 #[.agg #[.int .i64 step, .int .i64 start, v], .agg #[.int .i64 t.z.off, .int .i64 t.z.f.m, .int .i64 t.z.f.w, .int .i64 t.z.f.d, .int .i64 t.z.f.h, .int .i64 t.z.t.m, .int .i64 t.z.t.w, .int .i64 t.z.t.d, .int .i64 t.z.t.h, .int .i64 t.days, .int .i64 t.gap, .int .i64 t.first, .int .i64 t.last, .string t.h0, .string t.h1, .string t.h2, .string t.h3, .int .i64 t.b0.x, .int .i64 t.b0.y, .int .i64 t.b0.z, .int .i64 t.b1.x, .int .i64 t.b1.y, .int .i64 t.b1.z, .int .i64 t.b2.x, .int .i64 t.b2.y, .int .i64 t.b2.z, .int .i64 t.d.x, .int .i64 t.d.y, .int .i64 t.d.z, .int .i64 t.np, .int .i64 t.nn, .int .i64 t.fix, .int .i64 t.min, .int .i64 t.tax]] w fun e w' => e = .returned (.bool true) ∧ Below w.heap.size w w' := by
  have sp := fun w1 (hb : Below w.heap.size w w1) => Split_any t step start v l w1 (h.below hb) s0 s1 s2 s3
  have fl1 := fun w1 (hb : Below w.heap.size w w1) => Fill_any step start t.gap v l w1 (h.below hb)
  obtain ⟨a, cap, rfl⟩ := h.form
  rw [sp_no hne] at sp
  obtain ⟨E, hE⟩ : ∃ E, E = spE t step start l := ⟨_, rfl⟩
  obtain ⟨A, hA⟩ : ∃ A, A = spA t step start l := ⟨_, rfl⟩
  obtain ⟨E2, hE2⟩ : ∃ E, E = fE step start t.gap l := ⟨_, rfl⟩
  obtain ⟨A2, hA2⟩ : ∃ A, A = fA step start t.gap l := ⟨_, rfl⟩
  rw [← hE, ← hA] at sp
  rw [← hE2, ← hA2] at fl1
  rw [← hE] at hne
  have hEB : (E != 0) = true := by simpa using hne
  have B0 : Below w.heap.size w ((w.alloc (.cells #[.int .i64 step, .int .i64 start, .slice a l.length cap] 24)).alloc (.cells #[.int .i64 t.z.off, .int .i64 t.z.f.m, .int .i64 t.z.f.w, .int .i64 t.z.f.d, .int .i64 t.z.f.h, .int .i64 t.z.t.m, .int .i64 t.z.t.w, .int .i64 t.z.t.d, .int .i64 t.z.t.h, .int .i64 t.days, .int .i64 t.gap, .int .i64 t.first, .int .i64 t.last, .string t.h0, .string t.h1, .string t.h2, .string t.h3, .int .i64 t.b0.x, .int .i64 t.b0.y, .int .i64 t.b0.z, .int .i64 t.b1.x, .int .i64 t.b1.y, .int .i64 t.b1.z, .int .i64 t.b2.x, .int .i64 t.b2.y, .int .i64 t.b2.z, .int .i64 t.d.x, .int .i64 t.d.y, .int .i64 t.d.z, .int .i64 t.np, .int .i64 t.nn, .int .i64 t.fix, .int .i64 t.min, .int .i64 t.tax] 38)) := below_more (below_more (Below.refl _ _) _) _
  have MT : ((w.alloc (.cells #[.int .i64 step, .int .i64 start, .slice a l.length cap] 24)).alloc (.cells #[.int .i64 t.z.off, .int .i64 t.z.f.m, .int .i64 t.z.f.w, .int .i64 t.z.f.d, .int .i64 t.z.f.h, .int .i64 t.z.t.m, .int .i64 t.z.t.w, .int .i64 t.z.t.d, .int .i64 t.z.t.h, .int .i64 t.days, .int .i64 t.gap, .int .i64 t.first, .int .i64 t.last, .string t.h0, .string t.h1, .string t.h2, .string t.h3, .int .i64 t.b0.x, .int .i64 t.b0.y, .int .i64 t.b0.z, .int .i64 t.b1.x, .int .i64 t.b1.y, .int .i64 t.b1.z, .int .i64 t.b2.x, .int .i64 t.b2.y, .int .i64 t.b2.z, .int .i64 t.d.x, .int .i64 t.d.y, .int .i64 t.d.z, .int .i64 t.np, .int .i64 t.nn, .int .i64 t.fix, .int .i64 t.min, .int .i64 t.tax] 38)).heap[w.heap.size + 1]? = some (.cells #[.int .i64 t.z.off, .int .i64 t.z.f.m, .int .i64 t.z.f.w, .int .i64 t.z.f.d, .int .i64 t.z.f.h, .int .i64 t.z.t.m, .int .i64 t.z.t.w, .int .i64 t.z.t.d, .int .i64 t.z.t.h, .int .i64 t.days, .int .i64 t.gap, .int .i64 t.first, .int .i64 t.last, .string t.h0, .string t.h1, .string t.h2, .string t.h3, .int .i64 t.b0.x, .int .i64 t.b0.y, .int .i64 t.b0.z, .int .i64 t.b1.x, .int .i64 t.b1.y, .int .i64 t.b1.z, .int .i64 t.b2.x, .int .i64 t.b2.y, .int .i64 t.b2.z, .int .i64 t.d.x, .int .i64 t.d.y, .int .i64 t.d.z, .int .i64 t.np, .int .i64 t.nn, .int .i64 t.fix, .int .i64 t.min, .int .i64 t.tax] 38) := heap_alloc2_new _ _ _
  clear hE hA hE2 hA2 hne h
  go_enter Try.func4, Try.ntmps4
  go_wp2_with (first
    | (refine wpList_load_row rfl 38 _ rfl (w.heap.size + 1) rfl 38 _ (0, 0) _ MT Try.underlying38 rfl (by kernel_rfl) ?_)
    | (go_at_call 11; refine (sp _ B0).mono ?_; rintro e w1 ⟨v1, rfl, own1, hb1⟩; obtain ⟨a1, cap1, rfl⟩ := own_slice own1; obtain ⟨hc1, hf1⟩ := bcell hb1; have hs1 : w.heap.size + 1 < w1.heap.size := (by have := hb1.size; simp at this; omega); have hs1' : w.heap.size < w1.heap.size := (by omega))
    | (go_at_call 17; refine (fl1 _ (below_then B0 hb1)).mono ?_; rintro e w2 ⟨v2, rfl, own2, hb2⟩; obtain ⟨a2, cap2, rfl⟩ := own_slice own2; obtain ⟨hc2, hf2⟩ := bcell hb2)
    | (go_at_call 16; refine (num_any _ _).mono ?_; rintro e w7 ⟨rfl, h7⟩; have h8 := h7.symm; subst h8))
  go_ret
  exact ⟨rfl, below_then (below_then B0 hb1) hb2⟩

set_option maxRecDepth 1000000 in
set_option maxHeartbeats 1500000 in
theorem walk_yes (t : Trf) (step start : Int) (v : Value) (l : List Txt.Val) (w : World) (h : VRow w v l) (s0 : t.h0.size ≤ maxLen) (s1 : t.h1.size ≤ maxLen) (s2 : t.h2.size ≤ maxLen) (s3 : t.h3.size ≤ maxLen) (hz : spE t step start l = 0) :
    Calls Try.prog 4 #[.agg #[.int .i64 step, .int .i64 start, v], .agg #[.int .i64 t.z.off, .int .i64 t.z.f.m, .int .i64 t.z.f.w, .int .i64 t.z.f.d, .int .i64 t.z.f.h, .int .i64 t.z.t.m, .int .i64 t.z.t.w, .int .i64 t.z.t.d, .int .i64 t.z.t.h, .int .i64 t.days, .int .i64 t.gap, .int .i64 t.first, .int .i64 t.last, .string t.h0, .string t.h1, .string t.h2, .string t.h3, .int .i64 t.b0.x, .int .i64 t.b0.y, .int .i64 t.b0.z, .int .i64 t.b1.x, .int .i64 t.b1.y, .int .i64 t.b1.z, .int .i64 t.b2.x, .int .i64 t.b2.y, .int .i64 t.b2.z, .int .i64 t.d.x, .int .i64 t.d.y, .int .i64 t.d.z, .int .i64 t.np, .int .i64 t.nn, .int .i64 t.fix, .int .i64 t.min, .int .i64 t.tax]] w fun e w' => e = .returned (.bool true) ∧ Below w.heap.size w w' := by
  have sp := fun w1 (hb : Below w.heap.size w w1) => Split_any t step start v l w1 (h.below hb) s0 s1 s2 s3
  have fl1 := fun w1 (hb : Below w.heap.size w w1) => Fill_any step start t.gap v l w1 (h.below hb)
  obtain ⟨hm, hb13, hfe, hokc, hsl⟩ := sp_ok hz
  obtain ⟨hst, hsa⟩ := meterB_step hm
  obtain ⟨len1, len2, hall⟩ := meterB_fit hm
  have hLn := (fL_len step start t.gap l).2
  have hLv : (fL step start t.gap l).all valB = true := by
    unfold fL; split
    · split
      · rename_i hr; exact fl_valB hall hr
      · rfl
    · rfl
  obtain ⟨T1, T2, T3⟩ := perL_tot hb13 hokc
  obtain ⟨PA, PL⟩ := perL_all hb13 hst hLv hLn hokc
  have PN : 1 ≤ (perL t step start (fL step start t.gap l)).length := by unfold perL; simp
  obtain ⟨a, cap, rfl⟩ := h.form
  rw [hsl, hz] at sp
  rw [hfe] at fl1
  obtain ⟨L, hL⟩ : ∃ L, L = fL step start t.gap l := ⟨_, rfl⟩
  rw [← hL] at sp fl1 T1 T2 T3 PA PL PN hLn hLv
  obtain ⟨ps, hps⟩ : ∃ ps, ps = perL t step start L := ⟨_, rfl⟩
  rw [← hps] at sp T1 T2 T3 PA PL PN
  obtain ⟨A, hA⟩ : ∃ A, A = spA t step start l := ⟨_, rfl⟩
  obtain ⟨A2, hA2⟩ : ∃ A, A = fA step start t.gap l := ⟨_, rfl⟩
  rw [← hA] at sp
  rw [← hA2] at fl1
  have VB := hideF (v_bd (step := step) hLv hst)
  have TB := hideF (t_bd PA)
  have HT1 := hideF T1
  have HT2 := hideF T2
  have HT3 := hideF T3
  have HLV := hideF hLv
  have HPA := hideF PA
  have pnB : ((ps.length : Int) == 0) = false := by rw [beq_eq_false_iff_ne]; omega
  have B0 : Below w.heap.size w ((w.alloc (.cells #[.int .i64 step, .int .i64 start, .slice a l.length cap] 24)).alloc (.cells #[.int .i64 t.z.off, .int .i64 t.z.f.m, .int .i64 t.z.f.w, .int .i64 t.z.f.d, .int .i64 t.z.f.h, .int .i64 t.z.t.m, .int .i64 t.z.t.w, .int .i64 t.z.t.d, .int .i64 t.z.t.h, .int .i64 t.days, .int .i64 t.gap, .int .i64 t.first, .int .i64 t.last, .string t.h0, .string t.h1, .string t.h2, .string t.h3, .int .i64 t.b0.x, .int .i64 t.b0.y, .int .i64 t.b0.z, .int .i64 t.b1.x, .int .i64 t.b1.y, .int .i64 t.b1.z, .int .i64 t.b2.x, .int .i64 t.b2.y, .int .i64 t.b2.z, .int .i64 t.d.x, .int .i64 t.d.y, .int .i64 t.d.z, .int .i64 t.np, .int .i64 t.nn, .int .i64 t.fix, .int .i64 t.min, .int .i64 t.tax] 38)) := below_more (below_more (Below.refl _ _) _) _
  have MT : ((w.alloc (.cells #[.int .i64 step, .int .i64 start, .slice a l.length cap] 24)).alloc (.cells #[.int .i64 t.z.off, .int .i64 t.z.f.m, .int .i64 t.z.f.w, .int .i64 t.z.f.d, .int .i64 t.z.f.h, .int .i64 t.z.t.m, .int .i64 t.z.t.w, .int .i64 t.z.t.d, .int .i64 t.z.t.h, .int .i64 t.days, .int .i64 t.gap, .int .i64 t.first, .int .i64 t.last, .string t.h0, .string t.h1, .string t.h2, .string t.h3, .int .i64 t.b0.x, .int .i64 t.b0.y, .int .i64 t.b0.z, .int .i64 t.b1.x, .int .i64 t.b1.y, .int .i64 t.b1.z, .int .i64 t.b2.x, .int .i64 t.b2.y, .int .i64 t.b2.z, .int .i64 t.d.x, .int .i64 t.d.y, .int .i64 t.d.z, .int .i64 t.np, .int .i64 t.nn, .int .i64 t.fix, .int .i64 t.min, .int .i64 t.tax] 38)).heap[w.heap.size + 1]? = some (.cells #[.int .i64 t.z.off, .int .i64 t.z.f.m, .int .i64 t.z.f.w, .int .i64 t.z.f.d, .int .i64 t.z.f.h, .int .i64 t.z.t.m, .int .i64 t.z.t.w, .int .i64 t.z.t.d, .int .i64 t.z.t.h, .int .i64 t.days, .int .i64 t.gap, .int .i64 t.first, .int .i64 t.last, .string t.h0, .string t.h1, .string t.h2, .string t.h3, .int .i64 t.b0.x, .int .i64 t.b0.y, .int .i64 t.b0.z, .int .i64 t.b1.x, .int .i64 t.b1.y, .int .i64 t.b1.z, .int .i64 t.b2.x, .int .i64 t.b2.y, .int .i64 t.b2.z, .int .i64 t.d.x, .int .i64 t.d.y, .int .i64 t.d.z, .int .i64 t.np, .int .i64 t.nn, .int .i64 t.fix, .int .i64 t.min, .int .i64 t.tax] 38) := heap_alloc2_new _ _ _
  have hst0 : ¬ step = 0 := by omega
  clear hz hm hb13 hfe hokc hsl hall hLv T1 T2 T3 PA hL hps hA hA2 h
  go_enter Try.func4, Try.ntmps4
  go_wp2_with (first
    | (refine wpList_load_row rfl 38 _ rfl (w.heap.size + 1) rfl 38 _ (0, 0) _ MT Try.underlying38 rfl (by kernel_rfl) ?_)
    | (go_at_call 11; refine (sp _ B0).mono ?_; rintro e w1 ⟨v1, rfl, own1, hb1⟩; obtain ⟨a1, cap1, rfl⟩ := own_slice own1; obtain ⟨hc1, hf1⟩ := bcell hb1; have hs1 : w.heap.size + 1 < w1.heap.size := (by have := hb1.size; simp at this; omega); have hs1' : w.heap.size < w1.heap.size := (by omega))
    | (go_at_call 17; refine (fl1 _ (below_then B0 hb1)).mono ?_; rintro e w2 ⟨v2, rfl, own2, hb2⟩; obtain ⟨a2, cap2, rfl⟩ := own_slice own2; obtain ⟨hc2, hf2⟩ := bcell hb2)
    | (go_at_call 16; refine (num_any _ _).mono ?_; rintro e w7 ⟨rfl, h7⟩; have h8 := h7.symm; subst h8))
  have M0 : w2.cell? ⟨w.heap.size, 0, none⟩ = some (.int .i64 step) := by simp [go_sem, hc1, hc2, hs1']
  have hw2 : w.heap.size < w2.heap.size := by have := hb2.size; omega
  have U2 := hideF (VRow.of_own own2 rfl)
  have BW := below_then (below_then B0 hb1) hb2
  obtain ⟨g, cap', eg, hgb, hglt⟩ := own1.form (by omega)
  cases eg
  have hcapP : (ps.length : Int) ≤ (cap1 : Int) := by
    rcases own1.2 with ⟨h1, _⟩ | ⟨g', cap', cur, hv, _, _, hc, _⟩
    · cases h1
    · cases hv; omega
  have PC : Hid (∀ k x, ps[k]? = some x → w2.cell? ⟨g, k * 5, none⟩ = some (.int .i64 x.i0) ∧ w2.cell? ⟨g, k * 5 + 1, none⟩ = some (.int .i64 x.i1) ∧ w2.cell? ⟨g, k * 5 + 2, none⟩ = some (.int .i64 x.i2) ∧ w2.cell? ⟨g, k * 5 + 3, none⟩ = some (.int .i64 x.o) ∧ w2.cell? ⟨g, k * 5 + 4, none⟩ = some (.int .i64 x.pk)) := fun k x hx => by
    have hk : k < ps.length := by
      rcases Nat.lt_or_ge k ps.length with q | q
      · exact q
      · rw [List.getElem?_eq_none q] at hx; cases hx
    obtain ⟨h1, h2, h3, h4, h5⟩ := pcs_get ps k x hx
    exact ⟨vcell_below hb2 hglt (by rw [own1.cellAt _ (by omega)]; exact h1), vcell_below hb2 hglt (by rw [own1.cellAt _ (by omega)]; exact h2), vcell_below hb2 hglt (by rw [own1.cellAt _ (by omega)]; exact h3), vcell_below hb2 hglt (by rw [own1.cellAt _ (by omega)]; exact h4), vcell_below hb2 hglt (by rw [own1.cellAt _ (by omega)]; exact h5)⟩
  have hg2 : g < w2.heap.size := by have := hb2.size; omega
  clear hc1 hf1 hc2 hf2 own1 own2 hb1 hb2 sp fl1 MT B0
  go_loopw [11, 12, 13, 14] (fun x1 x2 x3 p wr => ∃ k : Nat, p = .int .i64 k ∧ k ≤ L.length ∧ x1 = .int .i64 (vI (L.take k)) ∧ x2 = .int .i64 (vO (L.take k)) ∧ x3 = .int .i64 (vP step (L.take k)) ∧ Below w2.heap.size w2 wr) (fun _ _ _ p _ => L.length - (intOf p).toNat)
  case atStart => exact ⟨0, rfl, by omega, rfl, rfl, rfl, Below.refl _ _⟩
  case round =>
    obtain ⟨k, rfl, hk, rfl, rfl, rfl, hbw⟩ := hrel
    have m0 := vcell_below hbw hw2 M0
    obtain ⟨q1, q2, q3⟩ := VB.out k hk
    by_cases hlt : k < L.length
    · have hlt' : (k : Int) < (L.length : Int) := by omega
      have hk0 : (0 : Int) ≤ (k : Int) := by omega
      obtain ⟨x, hx⟩ : ∃ x, L[k]? = some x := ⟨L[k], List.getElem?_eq_getElem hlt⟩
      obtain ⟨b, off, rfl, hcap, hblt, c0, c1, c2⟩ := (U2.out.below hbw).at hx
      have hcap' : (L.length : Int) ≤ (cap2 : Int) := by omega
      have vx := valB_bd (List.all_eq_true.mp HLV.out x (List.mem_of_getElem? hx))
      have hpw := pw_bd vx.1 hst
      have ht : (60 * x.i).tdiv step = pw x step := Int.tdiv_eq_ediv_of_nonneg (by omega)
      have HN : Hid (vI (L.take (k + 1)) = vI (L.take k) + x.i ∧ vO (L.take (k + 1)) = vO (L.take k) + x.o ∧ vP step (L.take (k + 1)) = mx (vP step (L.take k)) (pw x step)) := by
        show _ ∧ _ ∧ _
        rw [take_snoc hx, vI_snoc, vO_snoc, vP_snoc]; exact ⟨rfl, rfl, rfl⟩
      obtain ⟨P, hP⟩ : ∃ P, P = pw x step := ⟨_, rfl⟩
      rw [← hP] at hpw ht HN
      have kw1 : IntKind.i64.wrap (60 * x.i) = 60 * x.i := Go.IntWalk.i64_in _ (by omega)
      have kw2 : IntKind.i64.wrap P = P := Go.IntWalk.i64_in _ (by omega)
      clear hx hP
      go_wp2_with fail
      go_quiet ((go_at_call 18; exact Calls.quiet_of_same (most_any _ _ _)))
      go_wp2_with fail
      go_roundw
      case rel => exact ⟨k + 1, by go_num, by omega, by rw [HN.out.1], by rw [HN.out.2.1], by rw [HN.out.2.2], below_drewN hbw _⟩
      case measure => simp [intOf]; omega
    · have hlt' : ¬ (k : Int) < (L.length : Int) := by omega
      rw [List.take_of_length_le (by omega : L.length ≤ k)] at q1 q2 q3
      have HK : Hid (L.take k = L) := List.take_of_length_le (by omega)
      rw [HK.out]
      go_wp2_with fail
      go_loopw [11, 12, 15, 16] (fun x1 x2 x3 p wi => ∃ j : Nat, p = .int .i64 j ∧ j ≤ ps.length ∧ x1 = .int .i64 (vI L - tI (ps.take j)) ∧ x2 = .int .i64 (vO L - tO (ps.take j)) ∧ x3 = .int .i64 (tP (ps.take j)) ∧ Below w2.heap.size w2 wi) (fun _ _ _ p _ => ps.length - (intOf p).toNat)
      case atStart => exact ⟨0, rfl, by omega, by simp [tI], by simp [tO], rfl, hbw⟩
      case round =>
        clear hbw m0
        obtain ⟨j, rfl, hj, rfl, rfl, rfl, hbw⟩ := hrel
        obtain ⟨r1, r2⟩ := TB.out j hj
        by_cases hjl : j < ps.length
        · have hjl' : (j : Int) < (ps.length : Int) := by omega
          have hj0 : (0 : Int) ≤ (j : Int) := by omega
          obtain ⟨x, hx⟩ : ∃ x, ps[j]? = some x := ⟨ps[j], List.getElem?_eq_getElem hjl⟩
          obtain ⟨c0', c1', c2', c3', c4'⟩ := PC.out j x hx
          have c0 := vcell_below hbw hg2 c0'
          have c1 := vcell_below hbw hg2 c1'
          have c2 := vcell_below hbw hg2 c2'
          have c3 := vcell_below hbw hg2 c3'
          have c4 := vcell_below hbw hg2 c4'
          clear c0' c1' c2' c3' c4'
          have ok := HPA.out x (List.mem_of_getElem? hx)
          simp only [okP] at ok
          have HN : Hid (tI (ps.take (j + 1)) = tI (ps.take j) + pI x ∧ tO (ps.take (j + 1)) = tO (ps.take j) + x.o ∧ tP (ps.take (j + 1)) = mx (tP (ps.take j)) x.pk) := by
            show _ ∧ _ ∧ _
            rw [take_snoc hx, tI_snoc, tO_snoc, tP_snoc]; exact ⟨rfl, rfl, rfl⟩
          obtain ⟨X, hX⟩ : ∃ X, X = vI L - tI (ps.take j) := ⟨_, rfl⟩
          obtain ⟨Y, hY⟩ : ∃ Y, Y = vO L - tO (ps.take j) := ⟨_, rfl⟩
          have X1 : -40000000000000000 ≤ X := by omega
          have X2 : X ≤ 40000000000000000 := by omega
          have Y1 : -40000000000000000 ≤ Y := by omega
          have Y2 : Y ≤ 40000000000000000 := by omega
          have kw1 : IntKind.i64.wrap (X - x.i0) = X - x.i0 := Go.IntWalk.i64_in _ (by omega)
          have kw2 : IntKind.i64.wrap (X - x.i0 - x.i1) = X - x.i0 - x.i1 := Go.IntWalk.i64_in _ (by omega)
          have kw3 : IntKind.i64.wrap (X - x.i0 - x.i1 - x.i2) = X - x.i0 - x.i1 - x.i2 := Go.IntWalk.i64_in _ (by omega)
          have HX : Hid (X = vI L - tI (ps.take j)) := hX
          have HY : Hid (Y = vO L - tO (ps.take j)) := hY
          rw [← hX, ← hY]
          clear hx hX hY
          go_wp2_with fail
          go_quiet (fail)
          go_wp2_with (go_at_call 18; refine (most_any _ _ _).mono ?_; rintro e w9 ⟨rfl, h9⟩; have h10 := h9.symm; subst h10)
          go_roundw
          case rel => exact ⟨j + 1, by go_num, by omega, by rw [HN.out.1]; have := HX.out; unfold pI; congr 1; omega, by rw [HN.out.2.1]; have := HY.out; congr 1; omega, by rw [HN.out.2.2], below_drewN hbw _⟩
          case measure => simp [intOf]; omega
        · have hjl' : ¬ (j : Int) < (ps.length : Int) := by omega
          have HK2 : Hid (ps.take j = ps) := List.take_of_length_le (by omega)
          rw [HK2.out, HT1.out, HT2.out, HT3.out]
          go_wp2_with fail
          go_ret
          exact ⟨ret_bool (by simp), below_then BW hbw⟩

theorem walk (t : Trf) (step start : Int) (v : Value) (l : List Txt.Val) (w : World) (h : VRow w v l) (s0 : t.h0.size ≤ maxLen) (s1 : t.h1.size ≤ maxLen) (s2 : t.h2.size ≤ maxLen) (s3 : t.h3.size ≤ maxLen) :
    Calls Try.prog 4 #[.agg #[.int .i64 step, .int .i64 start, v], .agg #[.int .i64 t.z.off, .int .i64 t.z.f.m, .int .i64 t.z.f.w, .int .i64 t.z.f.d, .int .i64 t.z.f.h, .int .i64 t.z.t.m, .int .i64 t.z.t.w, .int .i64 t.z.t.d, .int .i64 t.z.t.h, .int .i64 t.days, .int .i64 t.gap, .int .i64 t.first, .int .i64 t.last, .string t.h0, .string t.h1, .string t.h2, .string t.h3, .int .i64 t.b0.x, .int .i64 t.b0.y, .int .i64 t.b0.z, .int .i64 t.b1.x, .int .i64 t.b1.y, .int .i64 t.b1.z, .int .i64 t.b2.x, .int .i64 t.b2.y, .int .i64 t.b2.z, .int .i64 t.d.x, .int .i64 t.d.y, .int .i64 t.d.z, .int .i64 t.np, .int .i64 t.nn, .int .i64 t.fix, .int .i64 t.min, .int .i64 t.tax]] w fun e w' => e = .returned (.bool true) ∧ Below w.heap.size w w' := by
  by_cases hz : spE t step start l = 0
  · exact walk_yes t step start v l w h s0 s1 s2 s3 hz
  · exact walk_no t step start v l w h s0 s1 s2 s3 hz

end Go.Proofs.Ytjaffmmocbplaab.nothing
