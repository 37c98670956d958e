/-
  The program's Split.
-/
import Derived.Test.YtjaffmmocbplaabGreatDoorJ12
import Derived.Test.YtjaffmmocbplaabGreatDoorJ13
namespace Go.Proofs.YtjaffmmocbplaabGreatDoor
open Go.RowKit
set_option linter.unusedVariables false

theorem cmp_lt {a b : Nat} : decide ((a : Int) < (b : Int)) = decide (a < b) := by simp

set_option maxRecDepth 1000000 in
set_option maxHeartbeats 1500000 in
theorem Split_any (t : Trf) (step start : Int) (v : Value) (l : List Txt.Val) (w : World) (h : VRow w v l) (s0 : t.h0.size ≤ maxLen) (s1 : t.h1.size ≤ maxLen) (s2 : t.h2.size ≤ maxLen) (s3 : t.h3.size ≤ maxLen) :
    Calls Tryz.prog 24 #[.agg #[.int .i64 step, .int .i64 start, v], .agg #[.int .i64 t.z.off, .int .i64 t.z.f.m, .int .i64 t.z.f.w, .int .i64 t.z.f.d, .int .i64 t.z.f.h, .int .i64 t.z.t.m, .int .i64 t.z.t.w, .int .i64 t.z.t.d, .int .i64 t.z.t.h, .int .i64 t.days, .int .i64 t.gap, .int .i64 t.first, .int .i64 t.last, .string t.h0, .string t.h1, .string t.h2, .string t.h3, .int .i64 t.b0.x, .int .i64 t.b0.y, .int .i64 t.b0.z, .int .i64 t.b1.x, .int .i64 t.b1.y, .int .i64 t.b1.z, .int .i64 t.b2.x, .int .i64 t.b2.y, .int .i64 t.b2.z, .int .i64 t.d.x, .int .i64 t.d.y, .int .i64 t.d.z, .int .i64 t.np, .int .i64 t.nn, .int .i64 t.fix, .int .i64 t.min, .int .i64 t.tax]] w fun e w' => ∃ v', e = .returned (.tuple #[v', .int .i64 (spE t step start l), .int .i64 (spA t step start l)]) ∧
      w'.ownsRow w.heap.size 92 5 v' (spL t step start l).length (pcs (spL t step start l)) ∧ Below w.heap.size w w' := by
  have vm := fun w1 (hb : Below w.heap.size w w1) => validMeter_any step start v l w1 (h.below hb)
  have bl := fun w1 => badLine_any t w1 s0 s1 s2 s3
  have fl1 := fun w1 (hb : Below w.heap.size w w1) => Fill_any step start t.gap v l w1 (h.below hb)
  obtain ⟨a, cap, rfl⟩ := h.form
  have B0 : Below w.heap.size w ((w.alloc (.cells #[.int .i64 step, .int .i64 start, .slice a l.length cap] 31)).alloc (.cells #[.int .i64 t.z.off, .int .i64 t.z.f.m, .int .i64 t.z.f.w, .int .i64 t.z.f.d, .int .i64 t.z.f.h, .int .i64 t.z.t.m, .int .i64 t.z.t.w, .int .i64 t.z.t.d, .int .i64 t.z.t.h, .int .i64 t.days, .int .i64 t.gap, .int .i64 t.first, .int .i64 t.last, .string t.h0, .string t.h1, .string t.h2, .string t.h3, .int .i64 t.b0.x, .int .i64 t.b0.y, .int .i64 t.b0.z, .int .i64 t.b1.x, .int .i64 t.b1.y, .int .i64 t.b1.z, .int .i64 t.b2.x, .int .i64 t.b2.y, .int .i64 t.b2.z, .int .i64 t.d.x, .int .i64 t.d.y, .int .i64 t.d.z, .int .i64 t.np, .int .i64 t.nn, .int .i64 t.fix, .int .i64 t.min, .int .i64 t.tax] 47)) := below_more (below_more (Below.refl _ _) _) _
  have MT : ((w.alloc (.cells #[.int .i64 step, .int .i64 start, .slice a l.length cap] 31)).alloc (.cells #[.int .i64 t.z.off, .int .i64 t.z.f.m, .int .i64 t.z.f.w, .int .i64 t.z.f.d, .int .i64 t.z.f.h, .int .i64 t.z.t.m, .int .i64 t.z.t.w, .int .i64 t.z.t.d, .int .i64 t.z.t.h, .int .i64 t.days, .int .i64 t.gap, .int .i64 t.first, .int .i64 t.last, .string t.h0, .string t.h1, .string t.h2, .string t.h3, .int .i64 t.b0.x, .int .i64 t.b0.y, .int .i64 t.b0.z, .int .i64 t.b1.x, .int .i64 t.b1.y, .int .i64 t.b1.z, .int .i64 t.b2.x, .int .i64 t.b2.y, .int .i64 t.b2.z, .int .i64 t.d.x, .int .i64 t.d.y, .int .i64 t.d.z, .int .i64 t.np, .int .i64 t.nn, .int .i64 t.fix, .int .i64 t.min, .int .i64 t.tax] 47)).heap[w.heap.size + 1]? = some (.cells #[.int .i64 t.z.off, .int .i64 t.z.f.m, .int .i64 t.z.f.w, .int .i64 t.z.f.d, .int .i64 t.z.f.h, .int .i64 t.z.t.m, .int .i64 t.z.t.w, .int .i64 t.z.t.d, .int .i64 t.z.t.h, .int .i64 t.days, .int .i64 t.gap, .int .i64 t.first, .int .i64 t.last, .string t.h0, .string t.h1, .string t.h2, .string t.h3, .int .i64 t.b0.x, .int .i64 t.b0.y, .int .i64 t.b0.z, .int .i64 t.b1.x, .int .i64 t.b1.y, .int .i64 t.b1.z, .int .i64 t.b2.x, .int .i64 t.b2.y, .int .i64 t.b2.z, .int .i64 t.d.x, .int .i64 t.d.y, .int .i64 t.d.z, .int .i64 t.np, .int .i64 t.nn, .int .i64 t.fix, .int .i64 t.min, .int .i64 t.tax] 47) := heap_alloc2_new _ _ _
  cases hm : meterB step start l
  case false =>
    have HG : Hid (3 = spE t step start l ∧ 0 = spA t step start l ∧ spL t step start l = []) := by show _ ∧ _ ∧ _; unfold spE spA spL; rw [hm]; exact ⟨rfl, rfl, rfl⟩
    rw [hm] at vm
    clear bl fl1 MT h
    go_enter Tryz.func24, Tryz.ntmps24
    go_wp2_with (go_at_call 19; refine (vm _ B0).mono ?_; rintro e w1 ⟨rfl, hb1⟩)
    exact bodyPost_ret (v := .tuple #[.slice none 0 0, .int .i64 3, .int .i64 0]) (by simp [results, Tryz.results24, go_sem]) rfl ⟨_, ret_fill rfl HG.out.1 HG.out.2.1, by rw [HG.out.2.2]; exact World.ownsRow_nil _ _ _ _, below_then B0 hb1⟩
  case true =>
    rw [hm] at vm
    by_cases hbd : badN t < 13
    case pos =>
      have HG : Hid (5 = spE t step start l ∧ 0 = spA t step start l ∧ spL t step start l = []) := by show _ ∧ _ ∧ _; unfold spE spA spL; rw [hm]; simp [hbd]
      have hbd' : (badN t : Int) < 13 := by omega
      clear fl1 h hbd hm
      go_enter Tryz.func24, Tryz.ntmps24
      go_wp2_with (first
        | (refine wpList_load_row rfl 47 _ rfl (w.heap.size + 1) rfl 47 _ (0, 0) _ mt1 Tryz.underlying47 rfl (by kernel_rfl) ?_)
        | (go_at_call 19; refine (vm _ B0).mono ?_; rintro e w1 ⟨rfl, hb1⟩; have mt1 := (hb1.block (w.heap.size + 1) (by simp)).trans MT)
        | (go_at_call 22; refine (bl _).mono ?_; rintro e w2 ⟨rfl, hb2⟩))
      exact bodyPost_ret (v := .tuple #[.slice none 0 0, .int .i64 5, .int .i64 0]) (by simp [results, Tryz.results24, go_sem]) rfl ⟨_, ret_fill rfl HG.out.1 HG.out.2.1, by rw [HG.out.2.2]; exact World.ownsRow_nil _ _ _ _, below_then (below_then B0 hb1) hb2⟩
    case neg =>
      have hb13 : badN t = 13 := by have := badN_le t; omega
      have hbd' : ¬ (badN t : Int) < 13 := by omega
      obtain ⟨hst, hsa⟩ := meterB_step hm
      obtain ⟨len1, len2, hall⟩ := meterB_fit hm
      by_cases hfe : fE step start t.gap l = 0
      case neg =>
        have HG : Hid (fE step start t.gap l = spE t step start l ∧ fA step start t.gap l = spA t step start l ∧ spL t step start l = []) := by show _ ∧ _ ∧ _; unfold spE spA spL; rw [hm]; simp [hbd, hfe]
        obtain ⟨E, hE⟩ : ∃ E, E = fE step start t.gap l := ⟨_, rfl⟩
        obtain ⟨A, hA⟩ : ∃ A, A = fA step start t.gap l := ⟨_, rfl⟩
        rw [← hE, ← hA] at fl1 HG
        rw [← hE] at hfe
        have hEB : (E != 0) = true := by simpa using hfe
        clear hE hA hfe h hm hbd hb13
        go_enter Tryz.func24, Tryz.ntmps24
        go_wp2_with (first
          | (refine wpList_load_row rfl 47 _ rfl (w.heap.size + 1) rfl 47 _ (0, 0) _ mt1 Tryz.underlying47 rfl (by kernel_rfl) ?_)
          | (go_at_call 19; refine (vm _ B0).mono ?_; rintro e w1 ⟨rfl, hb1⟩; obtain ⟨hc1, hf1⟩ := bcell hb1; have mt1 := (hb1.block (w.heap.size + 1) (by simp)).trans MT; have hs1 : w.heap.size + 1 < w1.heap.size := (by have := hb1.size; simp at this; omega); have hs1' : w.heap.size < w1.heap.size := (by omega))
          | (go_at_call 22; refine (bl _).mono ?_; rintro e w2 ⟨rfl, hb2⟩; obtain ⟨hc2, hf2⟩ := bcell hb2)
          | (go_at_call 65; refine (fl1 _ (below_then (below_then B0 hb1) hb2)).mono ?_; rintro e w3 ⟨v3, rfl, own3, hb3⟩; obtain ⟨a3, cap3, rfl⟩ := own_slice own3))
        exact bodyPost_ret (v := .tuple #[.slice none 0 0, .int .i64 E, .int .i64 A]) (by simp [results, Tryz.results24, go_sem]) rfl ⟨_, ret_fill rfl HG.out.1 HG.out.2.1, by rw [HG.out.2.2]; exact World.ownsRow_nil _ _ _ _, below_then (below_then (below_then B0 hb1) hb2) hb3⟩
      case pos =>
        have HG : Hid (ppE t step start (fL step start t.gap l) = spE t step start l ∧ ppA t step start (fL step start t.gap l) = spA t step start l ∧ spL t step start l = ppL t step start (fL step start t.gap l)) := by show _ ∧ _ ∧ _; unfold spE spA spL; rw [hm]; simp [hbd, hfe]
        have hLn := (fL_len step start t.gap l).2
        have hLv : (fL step start t.gap l).all valB = true := by
          unfold fL; split
          · split
            · rename_i hr; exact fl_valB hall hr
            · rfl
          · rfl
        have pr := fun w1 v1 (V : VRow w1 v1 (fL step start t.gap l)) => periods_any t step start v1 (fL step start t.gap l) w1 V hb13 hst hsa hLv hLn
        rw [hfe] at fl1
        obtain ⟨L, hL⟩ : ∃ L, L = fL step start t.gap l := ⟨_, rfl⟩
        obtain ⟨A, hA⟩ : ∃ A, A = fA step start t.gap l := ⟨_, rfl⟩
        rw [← hL] at fl1 HG pr
        rw [← hA] at fl1
        obtain ⟨PE, hPE⟩ : ∃ PE, PE = ppE t step start L := ⟨_, rfl⟩
        obtain ⟨PA, hPA⟩ : ∃ PA, PA = ppA t step start L := ⟨_, rfl⟩
        rw [← hPE, ← hPA] at pr HG
        clear hL hA hfe h hm hbd hb13 hLv hPE hPA hall
        go_enter Tryz.func24, Tryz.ntmps24
        go_wp2_with (first
          | (refine wpList_load_row rfl 47 _ rfl (w.heap.size + 1) rfl 47 _ (0, 0) _ mt3 Tryz.underlying47 rfl (by kernel_rfl) ?_)
          | (refine wpList_load_row rfl 47 _ rfl (w.heap.size + 1) rfl 47 _ (0, 0) _ mt1 Tryz.underlying47 rfl (by kernel_rfl) ?_)
          | (go_at_call 19; refine (vm _ B0).mono ?_; rintro e w1 ⟨rfl, hb1⟩; obtain ⟨hc1, hf1⟩ := bcell hb1; have mt1 := (hb1.block (w.heap.size + 1) (by simp)).trans MT; have hs1 : w.heap.size + 1 < w1.heap.size := (by have := hb1.size; simp at this; omega); have hs1' : w.heap.size < w1.heap.size := (by omega))
          | (go_at_call 22; refine (bl _).mono ?_; rintro e w2 ⟨rfl, hb2⟩; obtain ⟨hc2, hf2⟩ := bcell hb2; have hs2 := hb2.size; have mt2 := (hb2.block (w.heap.size + 1) (by omega)).trans mt1; have hs2' : w.heap.size < w2.heap.size := (by omega))
          | (go_at_call 65; refine (fl1 _ (below_then (below_then B0 hb1) hb2)).mono ?_; rintro e w3 ⟨v3, rfl, own3, hb3⟩; obtain ⟨a3, cap3, rfl⟩ := own_slice own3; obtain ⟨hc3, hf3⟩ := bcell hb3; have mt3 := (hb3.block (w.heap.size + 1) (by omega)).trans mt2)
          | (go_at_call 66; refine (pr _ _ (VRow.of_own own3 rfl)).mono ?_; rintro e w4 ⟨v4, rfl, own4, hb4⟩; obtain ⟨a4, cap4, rfl⟩ := own_slice own4))
        exact bodyPost_ret (v := .tuple #[.slice a4 (ppL t step start L).length cap4, .int .i64 PE, .int .i64 PA]) (by simp [results, Tryz.results24, go_sem]) rfl ⟨_, ret_fill rfl HG.out.1 HG.out.2.1, by rw [HG.out.2.2]; exact own_base own4 (by have := hb3.size; omega), below_then (below_then (below_then (below_then B0 hb1) hb2) hb3) hb4⟩

end Go.Proofs.YtjaffmmocbplaabGreatDoor
