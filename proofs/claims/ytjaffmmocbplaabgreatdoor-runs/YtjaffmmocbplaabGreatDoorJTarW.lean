/-
  The walks of the program's scanner: the parts of a tariff that are numbers alone.
-/
import Derived.Test.YtjaffmmocbplaabGreatDoorJValW
namespace Go.Proofs.YtjaffmmocbplaabGreatDoor
open Go.RowKit
set_option linter.unusedVariables false

set_option maxRecDepth 1000000 in
set_option maxHeartbeats 2000000 in
theorem scan_rule_any (t : ByteArray) (s : Txt.Sc) (b : Nat) (w : World) (h : ScanAt w b t s) (hs : s.pos ≤ t.size) (ht : t.size ≤ 100000) :
    Calls Tryz.prog 81 #[.pointer (some ⟨b, 0, none⟩)] w fun e w' => e = .returned (.agg #[.int .i64 (Txt.field t 9 (fldS t 9 s 0)).1, .int .i64 (Txt.field t 9 (fldS t 9 s 1)).1, .int .i64 (Txt.field t 9 (fldS t 9 s 2)).1, .int .i64 (Txt.field t 9 (fldS t 9 s 3)).1]) ∧ w.grownBy w' (some b) ∧ ScanAt w' b t (fldS t 9 s 4) := by
  have hb := h.lt
  have hb0 : ¬ w.heap.size = b := by omega
  have hb1 : ¬ w.heap.size + 1 = b := by omega
  have hA := (h.alloc (.cells #[.int .i64 0, .int .i64 0, .int .i64 0, .int .i64 0] 35)).alloc (.cells #[.int .i64 0, .int .i64 0, .int .i64 0, .int .i64 0] 35)
  have l0 : s.pos ≤ t.size := hs
  have l1 : (fldS t 9 s 1).pos ≤ t.size := Txt.field_le l0
  have fd0 : ∀ W, ScanAt W b t (fldS t 9 s 0) → Calls Tryz.prog 17 #[.pointer (some ⟨b, 0, none⟩)] W fun e w' => e = .returned (.int .i64 (Txt.field t 9 (fldS t 9 s 0)).1) ∧ W.grownBy w' (some b) ∧ ScanAt w' b t (fldS t 9 s 1) := fun W h => field_any t _ b W h l0 ht
  have l2 : (fldS t 9 s 2).pos ≤ t.size := Txt.field_le l1
  have fd1 : ∀ W, ScanAt W b t (fldS t 9 s 1) → Calls Tryz.prog 17 #[.pointer (some ⟨b, 0, none⟩)] W fun e w' => e = .returned (.int .i64 (Txt.field t 9 (fldS t 9 s 1)).1) ∧ W.grownBy w' (some b) ∧ ScanAt w' b t (fldS t 9 s 2) := fun W h => field_any t _ b W h l1 ht
  have l3 : (fldS t 9 s 3).pos ≤ t.size := Txt.field_le l2
  have fd2 : ∀ W, ScanAt W b t (fldS t 9 s 2) → Calls Tryz.prog 17 #[.pointer (some ⟨b, 0, none⟩)] W fun e w' => e = .returned (.int .i64 (Txt.field t 9 (fldS t 9 s 2)).1) ∧ W.grownBy w' (some b) ∧ ScanAt w' b t (fldS t 9 s 3) := fun W h => field_any t _ b W h l2 ht
  have l4 : (fldS t 9 s 4).pos ≤ t.size := Txt.field_le l3
  have fd3 : ∀ W, ScanAt W b t (fldS t 9 s 3) → Calls Tryz.prog 17 #[.pointer (some ⟨b, 0, none⟩)] W fun e w' => e = .returned (.int .i64 (Txt.field t 9 (fldS t 9 s 3)).1) ∧ W.grownBy w' (some b) ∧ ScanAt w' b t (fldS t 9 s 4) := fun W h => field_any t _ b W h l3 ht
  obtain ⟨x0, hx0⟩ : ∃ x, x = (Txt.field t 9 (fldS t 9 s 0)).1 := ⟨_, rfl⟩
  obtain ⟨x1, hx1⟩ : ∃ x, x = (Txt.field t 9 (fldS t 9 s 1)).1 := ⟨_, rfl⟩
  obtain ⟨x2, hx2⟩ : ∃ x, x = (Txt.field t 9 (fldS t 9 s 2)).1 := ⟨_, rfl⟩
  obtain ⟨x3, hx3⟩ : ∃ x, x = (Txt.field t 9 (fldS t 9 s 3)).1 := ⟨_, rfl⟩
  rw [← hx0, ← hx1, ← hx2, ← hx3]
  rw [← hx0] at fd0
  rw [← hx1] at fd1
  rw [← hx2] at fd2
  rw [← hx3] at fd3
  clear hx0 hx1 hx2 hx3 l0 l1 l2 l3 l4
  obtain ⟨q4, hq4⟩ : ∃ q, q = fldS t 9 s 4 := ⟨_, rfl⟩
  rw [← hq4] at fd3 ⊢
  clear hq4
  obtain ⟨q3, hq3⟩ : ∃ q, q = fldS t 9 s 3 := ⟨_, rfl⟩
  rw [← hq3] at fd3 fd2
  clear hq3
  obtain ⟨q2, hq2⟩ : ∃ q, q = fldS t 9 s 2 := ⟨_, rfl⟩
  rw [← hq2] at fd2 fd1
  clear hq2
  obtain ⟨q1, hq1⟩ : ∃ q, q = fldS t 9 s 1 := ⟨_, rfl⟩
  rw [← hq1] at fd1 fd0
  clear hq1
  go_enter Tryz.func81, Tryz.ntmps81
  go_wp2_with (first
    | (go_at_call 17; have _ := s3; refine (fd3 _ (s3.other hb1 _ _)).mono ?_; rintro e w4 ⟨rfl, g4, s4⟩; obtain ⟨hc4, hf4⟩ := gcell g4; have hz4 : w.heap.size + 1 < w4.heap.size := (by have := g4.size; (try simp at this); omega); have hy4 : w.heap.size < w4.heap.size := (by omega))
    | (go_at_call 17; have _ := s2; refine (fd2 _ (s2.other hb1 _ _)).mono ?_; rintro e w3 ⟨rfl, g3, s3⟩; obtain ⟨hc3, hf3⟩ := gcell g3; have hz3 : w.heap.size + 1 < w3.heap.size := (by have := g3.size; (try simp at this); omega); have hy3 : w.heap.size < w3.heap.size := (by omega))
    | (go_at_call 17; have _ := s1; refine (fd1 _ (s1.other hb1 _ _)).mono ?_; rintro e w2 ⟨rfl, g2, s2⟩; obtain ⟨hc2, hf2⟩ := gcell g2; have hz2 : w.heap.size + 1 < w2.heap.size := (by have := g2.size; (try simp at this); omega); have hy2 : w.heap.size < w2.heap.size := (by omega))
    | (go_at_call 17; refine (fd0 _ hA).mono ?_; rintro e w1 ⟨rfl, g1, s1⟩; obtain ⟨hc1, hf1⟩ := gcell g1; have hz1 : w.heap.size + 1 < w1.heap.size := (by have := g1.size; (try simp at this); omega); have hy1 : w.heap.size < w1.heap.size := (by omega)))
  have r0 : w4.cell? ⟨w.heap.size, 0, none⟩ = some (.int .i64 0) := by simp [go_sem, *]
  have r1 : w4.cell? ⟨w.heap.size, 1, none⟩ = some (.int .i64 0) := by simp [go_sem, *]
  have r2 : w4.cell? ⟨w.heap.size, 2, none⟩ = some (.int .i64 0) := by simp [go_sem, *]
  have r3 : w4.cell? ⟨w.heap.size, 3, none⟩ = some (.int .i64 0) := by simp [go_sem, *]
  refine bodyPost_ret (v := .agg #[.int .i64 x0, .int .i64 x1, .int .i64 x2, .int .i64 x3]) (by simp [results, Tryz.results81, go_sem, r0, r1, r2, r3]) rfl ⟨rfl, ?_, ?_⟩
  · have G := grown_trans (grown_own (grown_trans (grown_own (grown_trans (grown_own (grown_trans (grown_alloc (grown_alloc (grown_refl w (some b)) _) _) g1) (k := w.heap.size + 1) (by omega) _) g2) (k := w.heap.size + 1) (by omega) _) g3) (k := w.heap.size + 1) (by omega) _) g4
    repeat (first | refine grown_own (k := w.heap.size) ?_ (by omega) _ | refine grown_own (k := w.heap.size + 1) ?_ (by omega) _ | exact G)
  · repeat (first | refine ScanAt.other ?_ hb0 _ _ | refine ScanAt.other ?_ hb1 _ _ | exact s4)

set_option maxRecDepth 1000000 in
set_option maxHeartbeats 2000000 in
theorem scan_zone_any (t : ByteArray) (s : Txt.Sc) (b : Nat) (w : World) (h : ScanAt w b t s) (hs : s.pos ≤ t.size) (ht : t.size ≤ 100000) :
    Calls Tryz.prog 56 #[.pointer (some ⟨b, 0, none⟩)] w fun e w' => e = .returned (.agg #[.int .i64 ((Txt.field t 9 (fldS t 9 (Txt.take t s 90) 0)).1 - 720), .int .i64 (Txt.field t 9 (fldS t 9 (Txt.take t s 90) 1)).1, .int .i64 (Txt.field t 9 (fldS t 9 (Txt.take t s 90) 2)).1, .int .i64 (Txt.field t 9 (fldS t 9 (Txt.take t s 90) 3)).1, .int .i64 (Txt.field t 9 (fldS t 9 (Txt.take t s 90) 4)).1, .int .i64 (Txt.field t 9 (fldS t 9 (Txt.take t s 90) 5)).1, .int .i64 (Txt.field t 9 (fldS t 9 (Txt.take t s 90) 6)).1, .int .i64 (Txt.field t 9 (fldS t 9 (Txt.take t s 90) 7)).1, .int .i64 (Txt.field t 9 (fldS t 9 (Txt.take t s 90) 8)).1]) ∧ w.grownBy w' (some b) ∧ ScanAt w' b t (Txt.take t (fldS t 9 (Txt.take t s 90) 9) 10) := by
  have hb := h.lt
  have hb0 : ¬ w.heap.size = b := by omega
  have hb1 : ¬ w.heap.size + 1 = b := by omega
  have hA := (h.alloc (.cells #[.int .i64 0, .int .i64 0, .int .i64 0, .int .i64 0, .int .i64 0, .int .i64 0, .int .i64 0, .int .i64 0, .int .i64 0] 37)).alloc (.cells #[.int .i64 0, .int .i64 0, .int .i64 0, .int .i64 0, .int .i64 0, .int .i64 0, .int .i64 0, .int .i64 0, .int .i64 0] 37)
  have l0 : (Txt.take t s 90).pos ≤ t.size := Txt.take_le (by omega) hs
  have l1 : (fldS t 9 (Txt.take t s 90) 1).pos ≤ t.size := fldS_le t 9 _ l0 1
  have l5 : (fldS t 9 (Txt.take t s 90) 5).pos ≤ t.size := fldS_le t 9 _ l0 5
  have l9 : (fldS t 9 (Txt.take t s 90) 9).pos ≤ t.size := fldS_le t 9 _ l0 9
  have xb := Txt.field_bd t 9 (fldS t 9 (Txt.take t s 90) 0)
  have c0 : ∀ W, ScanAt W b t s → Calls Tryz.prog 16 #[.pointer (some ⟨b, 0, none⟩), .int .u8 90] W fun e w' => e = .returned (.tuple #[]) ∧ W.grownBy w' (some b) ∧ ScanAt w' b t (Txt.take t s 90) := fun W h => take_any t s 90 b W h (by omega) hs ht
  have c1 : ∀ W, ScanAt W b t (Txt.take t s 90) → Calls Tryz.prog 17 #[.pointer (some ⟨b, 0, none⟩)] W fun e w' => e = .returned (.int .i64 (Txt.field t 9 (fldS t 9 (Txt.take t s 90) 0)).1) ∧ W.grownBy w' (some b) ∧ ScanAt w' b t (fldS t 9 (Txt.take t s 90) 1) := fun W h => field_any t _ b W h l0 ht
  have c2 : ∀ W, ScanAt W b t (fldS t 9 (Txt.take t s 90) 1) → Calls Tryz.prog 81 #[.pointer (some ⟨b, 0, none⟩)] W fun e w' => e = .returned (.agg #[.int .i64 (Txt.field t 9 (fldS t 9 (Txt.take t s 90) 1)).1, .int .i64 (Txt.field t 9 (fldS t 9 (Txt.take t s 90) 2)).1, .int .i64 (Txt.field t 9 (fldS t 9 (Txt.take t s 90) 3)).1, .int .i64 (Txt.field t 9 (fldS t 9 (Txt.take t s 90) 4)).1]) ∧ W.grownBy w' (some b) ∧ ScanAt w' b t (fldS t 9 (Txt.take t s 90) 5) := fun W h => scan_rule_any t _ b W h l1 ht
  have c3 : ∀ W, ScanAt W b t (fldS t 9 (Txt.take t s 90) 5) → Calls Tryz.prog 81 #[.pointer (some ⟨b, 0, none⟩)] W fun e w' => e = .returned (.agg #[.int .i64 (Txt.field t 9 (fldS t 9 (Txt.take t s 90) 5)).1, .int .i64 (Txt.field t 9 (fldS t 9 (Txt.take t s 90) 6)).1, .int .i64 (Txt.field t 9 (fldS t 9 (Txt.take t s 90) 7)).1, .int .i64 (Txt.field t 9 (fldS t 9 (Txt.take t s 90) 8)).1]) ∧ W.grownBy w' (some b) ∧ ScanAt w' b t (fldS t 9 (Txt.take t s 90) 9) := fun W h => scan_rule_any t _ b W h l5 ht
  have c4 : ∀ W, ScanAt W b t (fldS t 9 (Txt.take t s 90) 9) → Calls Tryz.prog 16 #[.pointer (some ⟨b, 0, none⟩), .int .u8 10] W fun e w' => e = .returned (.tuple #[]) ∧ W.grownBy w' (some b) ∧ ScanAt w' b t (Txt.take t (fldS t 9 (Txt.take t s 90) 9) 10) := fun W h => take_any t _ 10 b W h (by omega) l9 ht
  obtain ⟨x0, hx0⟩ : ∃ x, x = (Txt.field t 9 (fldS t 9 (Txt.take t s 90) 0)).1 := ⟨_, rfl⟩
  obtain ⟨x1, hx1⟩ : ∃ x, x = (Txt.field t 9 (fldS t 9 (Txt.take t s 90) 1)).1 := ⟨_, rfl⟩
  obtain ⟨x2, hx2⟩ : ∃ x, x = (Txt.field t 9 (fldS t 9 (Txt.take t s 90) 2)).1 := ⟨_, rfl⟩
  obtain ⟨x3, hx3⟩ : ∃ x, x = (Txt.field t 9 (fldS t 9 (Txt.take t s 90) 3)).1 := ⟨_, rfl⟩
  obtain ⟨x4, hx4⟩ : ∃ x, x = (Txt.field t 9 (fldS t 9 (Txt.take t s 90) 4)).1 := ⟨_, rfl⟩
  obtain ⟨x5, hx5⟩ : ∃ x, x = (Txt.field t 9 (fldS t 9 (Txt.take t s 90) 5)).1 := ⟨_, rfl⟩
  obtain ⟨x6, hx6⟩ : ∃ x, x = (Txt.field t 9 (fldS t 9 (Txt.take t s 90) 6)).1 := ⟨_, rfl⟩
  obtain ⟨x7, hx7⟩ : ∃ x, x = (Txt.field t 9 (fldS t 9 (Txt.take t s 90) 7)).1 := ⟨_, rfl⟩
  obtain ⟨x8, hx8⟩ : ∃ x, x = (Txt.field t 9 (fldS t 9 (Txt.take t s 90) 8)).1 := ⟨_, rfl⟩
  rw [← hx0, ← hx1, ← hx2, ← hx3, ← hx4, ← hx5, ← hx6, ← hx7, ← hx8]
  rw [← hx0] at c1 xb
  rw [← hx1, ← hx2, ← hx3, ← hx4] at c2
  rw [← hx5, ← hx6, ← hx7, ← hx8] at c3
  clear hx0 hx1 hx2 hx3 hx4 hx5 hx6 hx7 hx8 l0 l1 l5 l9
  obtain ⟨z, hz⟩ : ∃ z, z = Txt.take t (fldS t 9 (Txt.take t s 90) 9) 10 := ⟨_, rfl⟩
  rw [← hz] at c4 ⊢
  clear hz
  obtain ⟨z9, hz9⟩ : ∃ z, z = fldS t 9 (Txt.take t s 90) 9 := ⟨_, rfl⟩
  rw [← hz9] at c3 c4
  clear hz9
  obtain ⟨z5, hz5⟩ : ∃ z, z = fldS t 9 (Txt.take t s 90) 5 := ⟨_, rfl⟩
  rw [← hz5] at c2 c3
  clear hz5
  obtain ⟨z1, hz1⟩ : ∃ z, z = fldS t 9 (Txt.take t s 90) 1 := ⟨_, rfl⟩
  rw [← hz1] at c1 c2
  clear hz1
  obtain ⟨z0, hz0⟩ : ∃ z, z = (Txt.take t s 90) := ⟨_, rfl⟩
  rw [← hz0] at c0 c1
  clear hz0
  go_enter Tryz.func56, Tryz.ntmps56
  go_wp2_with (first
    | (go_at_call 16; have _ := s4; refine (c4 _ ((((s4.other hb1 _ _).other hb1 _ _).other hb1 _ _).other hb1 _ _)).mono ?_; rintro e w5 ⟨rfl, g5, s5⟩; obtain ⟨hc5, hf5⟩ := gcell g5; have hz5 : w.heap.size + 1 < w5.heap.size := (by have := g5.size; (try simp at this); omega); have hy5 : w.heap.size < w5.heap.size := (by omega))
    | (go_at_call 81; have _ := s3; refine (c3 _ ((((s3.other hb1 _ _).other hb1 _ _).other hb1 _ _).other hb1 _ _)).mono ?_; rintro e w4 ⟨rfl, g4, s4⟩; obtain ⟨hc4, hf4⟩ := gcell g4; have hz4 : w.heap.size + 1 < w4.heap.size := (by have := g4.size; (try simp at this); omega); have hy4 : w.heap.size < w4.heap.size := (by omega))
    | (go_at_call 81; have _ := s2; refine (c2 _ (s2.other hb1 _ _)).mono ?_; rintro e w3 ⟨rfl, g3, s3⟩; obtain ⟨hc3, hf3⟩ := gcell g3; have hz3 : w.heap.size + 1 < w3.heap.size := (by have := g3.size; (try simp at this); omega); have hy3 : w.heap.size < w3.heap.size := (by omega))
    | (go_at_call 17; have _ := s1; refine (c1 _ s1).mono ?_; rintro e w2 ⟨rfl, g2, s2⟩; obtain ⟨hc2, hf2⟩ := gcell g2; have hz2 : w.heap.size + 1 < w2.heap.size := (by have := g2.size; (try simp at this); omega); have hy2 : w.heap.size < w2.heap.size := (by omega))
    | (go_at_call 16; refine (c0 _ hA).mono ?_; rintro e w1 ⟨rfl, g1, s1⟩; obtain ⟨hc1, hf1⟩ := gcell g1; have hz1 : w.heap.size + 1 < w1.heap.size := (by have := g1.size; (try simp at this); omega); have hy1 : w.heap.size < w1.heap.size := (by omega)))
  have r0 : w5.cell? ⟨w.heap.size, 0, none⟩ = some (.int .i64 0) := by simp [go_sem, *]
  have r1 : w5.cell? ⟨w.heap.size, 1, none⟩ = some (.int .i64 0) := by simp [go_sem, *]
  have r2 : w5.cell? ⟨w.heap.size, 2, none⟩ = some (.int .i64 0) := by simp [go_sem, *]
  have r3 : w5.cell? ⟨w.heap.size, 3, none⟩ = some (.int .i64 0) := by simp [go_sem, *]
  have r4 : w5.cell? ⟨w.heap.size, 4, none⟩ = some (.int .i64 0) := by simp [go_sem, *]
  have r5 : w5.cell? ⟨w.heap.size, 5, none⟩ = some (.int .i64 0) := by simp [go_sem, *]
  have r6 : w5.cell? ⟨w.heap.size, 6, none⟩ = some (.int .i64 0) := by simp [go_sem, *]
  have r7 : w5.cell? ⟨w.heap.size, 7, none⟩ = some (.int .i64 0) := by simp [go_sem, *]
  have r8 : w5.cell? ⟨w.heap.size, 8, none⟩ = some (.int .i64 0) := by simp [go_sem, *]
  refine bodyPost_ret (v := .agg #[.int .i64 (x0 - 720), .int .i64 x1, .int .i64 x2, .int .i64 x3, .int .i64 x4, .int .i64 x5, .int .i64 x6, .int .i64 x7, .int .i64 x8]) (by simp [results, Tryz.results56, go_sem, r0, r1, r2, r3, r4, r5, r6, r7, r8]) rfl ⟨rfl, ?_, ?_⟩
  · have G := grown_trans (grown_own (grown_own (grown_own (grown_own (grown_trans (grown_own (grown_own (grown_own (grown_own (grown_trans (grown_own (grown_trans (grown_trans (grown_alloc (grown_alloc (grown_refl w (some b)) _) _) g1) g2) (k := w.heap.size + 1) (by omega) _) g3) (k := w.heap.size + 1) (by omega) _) (k := w.heap.size + 1) (by omega) _) (k := w.heap.size + 1) (by omega) _) (k := w.heap.size + 1) (by omega) _) g4) (k := w.heap.size + 1) (by omega) _) (k := w.heap.size + 1) (by omega) _) (k := w.heap.size + 1) (by omega) _) (k := w.heap.size + 1) (by omega) _) g5
    repeat (first | refine grown_own (k := w.heap.size) ?_ (by omega) _ | refine grown_own (k := w.heap.size + 1) ?_ (by omega) _ | exact G)
  · repeat (first | refine ScanAt.other ?_ hb0 _ _ | exact s5)

set_option maxRecDepth 1000000 in
set_option maxHeartbeats 2000000 in
theorem scan_block_any (t : ByteArray) (s : Txt.Sc) (b : Nat) (w : World) (h : ScanAt w b t s) (hs : s.pos ≤ t.size) (ht : t.size ≤ 100000) :
    Calls Tryz.prog 58 #[.pointer (some ⟨b, 0, none⟩)] w fun e w' => e = .returned (.agg #[.int .i64 (Txt.field t 9 (fldS t 9 (Txt.take t s 66) 0)).1, .int .i64 (Txt.field t 9 (fldS t 9 (Txt.take t s 66) 1)).1, .int .i64 (Txt.field t 9 (fldS t 9 (Txt.take t s 66) 2)).1]) ∧ w.grownBy w' (some b) ∧ ScanAt w' b t (Txt.take t (fldS t 9 (Txt.take t s 66) 3) 10) := by
  have hb := h.lt
  have hb0 : ¬ w.heap.size = b := by omega
  have hb1 : ¬ w.heap.size + 1 = b := by omega
  have hA := (h.alloc (.cells #[.int .i64 0, .int .i64 0, .int .i64 0] 40)).alloc (.cells #[.int .i64 0, .int .i64 0, .int .i64 0] 40)
  have tk0 := fun W h => take_any t s 66 b W h (by omega) hs ht
  have l0 : (Txt.take t s 66).pos ≤ t.size := Txt.take_le (by omega) hs
  have l1 : (fldS t 9 (Txt.take t s 66) 1).pos ≤ t.size := Txt.field_le l0
  have fd0 : ∀ W, ScanAt W b t (fldS t 9 (Txt.take t s 66) 0) → Calls Tryz.prog 17 #[.pointer (some ⟨b, 0, none⟩)] W fun e w' => e = .returned (.int .i64 (Txt.field t 9 (fldS t 9 (Txt.take t s 66) 0)).1) ∧ W.grownBy w' (some b) ∧ ScanAt w' b t (fldS t 9 (Txt.take t s 66) 1) := fun W h => field_any t _ b W h l0 ht
  have l2 : (fldS t 9 (Txt.take t s 66) 2).pos ≤ t.size := Txt.field_le l1
  have fd1 : ∀ W, ScanAt W b t (fldS t 9 (Txt.take t s 66) 1) → Calls Tryz.prog 17 #[.pointer (some ⟨b, 0, none⟩)] W fun e w' => e = .returned (.int .i64 (Txt.field t 9 (fldS t 9 (Txt.take t s 66) 1)).1) ∧ W.grownBy w' (some b) ∧ ScanAt w' b t (fldS t 9 (Txt.take t s 66) 2) := fun W h => field_any t _ b W h l1 ht
  have l3 : (fldS t 9 (Txt.take t s 66) 3).pos ≤ t.size := Txt.field_le l2
  have fd2 : ∀ W, ScanAt W b t (fldS t 9 (Txt.take t s 66) 2) → Calls Tryz.prog 17 #[.pointer (some ⟨b, 0, none⟩)] W fun e w' => e = .returned (.int .i64 (Txt.field t 9 (fldS t 9 (Txt.take t s 66) 2)).1) ∧ W.grownBy w' (some b) ∧ ScanAt w' b t (fldS t 9 (Txt.take t s 66) 3) := fun W h => field_any t _ b W h l2 ht
  have tk1 := fun W h => take_any t (fldS t 9 (Txt.take t s 66) 3) 10 b W h (by omega) l3 ht
  obtain ⟨x0, hx0⟩ : ∃ x, x = (Txt.field t 9 (fldS t 9 (Txt.take t s 66) 0)).1 := ⟨_, rfl⟩
  obtain ⟨x1, hx1⟩ : ∃ x, x = (Txt.field t 9 (fldS t 9 (Txt.take t s 66) 1)).1 := ⟨_, rfl⟩
  obtain ⟨x2, hx2⟩ : ∃ x, x = (Txt.field t 9 (fldS t 9 (Txt.take t s 66) 2)).1 := ⟨_, rfl⟩
  rw [← hx0, ← hx1, ← hx2]
  rw [← hx0] at fd0
  rw [← hx1] at fd1
  rw [← hx2] at fd2
  clear hx0 hx1 hx2 l0 l1 l2 l3
  obtain ⟨q3, hq3⟩ : ∃ q, q = fldS t 9 (Txt.take t s 66) 3 := ⟨_, rfl⟩
  rw [← hq3] at fd2 tk1 ⊢
  clear hq3
  obtain ⟨q2, hq2⟩ : ∃ q, q = fldS t 9 (Txt.take t s 66) 2 := ⟨_, rfl⟩
  rw [← hq2] at fd2 fd1
  clear hq2
  obtain ⟨q1, hq1⟩ : ∃ q, q = fldS t 9 (Txt.take t s 66) 1 := ⟨_, rfl⟩
  rw [← hq1] at fd1 fd0
  clear hq1
  obtain ⟨q0, hq0⟩ : ∃ q, q = fldS t 9 (Txt.take t s 66) 0 := ⟨_, rfl⟩
  rw [← hq0] at fd0
  have tk0' : ∀ W, ScanAt W b t s → Calls Tryz.prog 16 #[.pointer (some ⟨b, 0, none⟩), .int .u8 66] W fun e w' => e = .returned (.tuple #[]) ∧ W.grownBy w' (some b) ∧ ScanAt w' b t q0 := fun W h => by rw [hq0]; exact tk0 W h
  clear tk0
  clear hq0
  go_enter Tryz.func58, Tryz.ntmps58
  go_wp2_with (first
    | (go_at_call 16; have _ := s4; refine (tk1 _ (s4.other hb1 _ _)).mono ?_; rintro e w5 ⟨rfl, g5, s5⟩; obtain ⟨hc5, hf5⟩ := gcell g5; have hz5 : w.heap.size + 1 < w5.heap.size := (by have := g5.size; (try simp at this); omega); have hy5 : w.heap.size < w5.heap.size := (by omega))
    | (go_at_call 17; have _ := s3; refine (fd2 _ (s3.other hb1 _ _)).mono ?_; rintro e w4 ⟨rfl, g4, s4⟩; obtain ⟨hc4, hf4⟩ := gcell g4; have hz4 : w.heap.size + 1 < w4.heap.size := (by have := g4.size; (try simp at this); omega); have hy4 : w.heap.size < w4.heap.size := (by omega))
    | (go_at_call 17; have _ := s2; refine (fd1 _ (s2.other hb1 _ _)).mono ?_; rintro e w3 ⟨rfl, g3, s3⟩; obtain ⟨hc3, hf3⟩ := gcell g3; have hz3 : w.heap.size + 1 < w3.heap.size := (by have := g3.size; (try simp at this); omega); have hy3 : w.heap.size < w3.heap.size := (by omega))
    | (go_at_call 17; have _ := s1; refine (fd0 _ s1).mono ?_; rintro e w2 ⟨rfl, g2, s2⟩; obtain ⟨hc2, hf2⟩ := gcell g2; have hz2 : w.heap.size + 1 < w2.heap.size := (by have := g2.size; (try simp at this); omega); have hy2 : w.heap.size < w2.heap.size := (by omega))
    | (go_at_call 16; refine (tk0' _ hA).mono ?_; rintro e w1 ⟨rfl, g1, s1⟩; obtain ⟨hc1, hf1⟩ := gcell g1; have hz1 : w.heap.size + 1 < w1.heap.size := (by have := g1.size; (try simp at this); omega); have hy1 : w.heap.size < w1.heap.size := (by omega)))
  have r0 : w5.cell? ⟨w.heap.size, 0, none⟩ = some (.int .i64 0) := by simp [go_sem, *]
  have r1 : w5.cell? ⟨w.heap.size, 1, none⟩ = some (.int .i64 0) := by simp [go_sem, *]
  have r2 : w5.cell? ⟨w.heap.size, 2, none⟩ = some (.int .i64 0) := by simp [go_sem, *]
  refine bodyPost_ret (v := .agg #[.int .i64 x0, .int .i64 x1, .int .i64 x2]) (by simp [results, Tryz.results58, go_sem, r0, r1, r2]) rfl ⟨rfl, ?_, ?_⟩
  · have G := grown_trans (grown_own (grown_trans (grown_own (grown_trans (grown_own (grown_trans (grown_trans (grown_alloc (grown_alloc (grown_refl w (some b)) _) _) g1) g2) (k := w.heap.size + 1) (by omega) _) g3) (k := w.heap.size + 1) (by omega) _) g4) (k := w.heap.size + 1) (by omega) _) g5
    repeat (first | refine grown_own (k := w.heap.size) ?_ (by omega) _ | refine grown_own (k := w.heap.size + 1) ?_ (by omega) _ | exact G)
  · repeat (first | refine ScanAt.other ?_ hb0 _ _ | refine ScanAt.other ?_ hb1 _ _ | exact s5)

set_option maxRecDepth 1000000 in
set_option maxHeartbeats 2000000 in
theorem scan_demand_any (t : ByteArray) (s : Txt.Sc) (b : Nat) (w : World) (h : ScanAt w b t s) (hs : s.pos ≤ t.size) (ht : t.size ≤ 100000) :
    Calls Tryz.prog 59 #[.pointer (some ⟨b, 0, none⟩)] w fun e w' => e = .returned (.agg #[.int .i64 (Txt.field t 9 (fldS t 9 (Txt.take t s 77) 0)).1, .int .i64 (Txt.field t 9 (fldS t 9 (Txt.take t s 77) 1)).1, .int .i64 (Txt.field t 9 (fldS t 9 (Txt.take t s 77) 2)).1]) ∧ w.grownBy w' (some b) ∧ ScanAt w' b t (Txt.take t (fldS t 9 (Txt.take t s 77) 3) 10) := by
  have hb := h.lt
  have hb0 : ¬ w.heap.size = b := by omega
  have hb1 : ¬ w.heap.size + 1 = b := by omega
  have hA := (h.alloc (.cells #[.int .i64 0, .int .i64 0, .int .i64 0] 43)).alloc (.cells #[.int .i64 0, .int .i64 0, .int .i64 0] 43)
  have tk0 := fun W h => take_any t s 77 b W h (by omega) hs ht
  have l0 : (Txt.take t s 77).pos ≤ t.size := Txt.take_le (by omega) hs
  have l1 : (fldS t 9 (Txt.take t s 77) 1).pos ≤ t.size := Txt.field_le l0
  have fd0 : ∀ W, ScanAt W b t (fldS t 9 (Txt.take t s 77) 0) → Calls Tryz.prog 17 #[.pointer (some ⟨b, 0, none⟩)] W fun e w' => e = .returned (.int .i64 (Txt.field t 9 (fldS t 9 (Txt.take t s 77) 0)).1) ∧ W.grownBy w' (some b) ∧ ScanAt w' b t (fldS t 9 (Txt.take t s 77) 1) := fun W h => field_any t _ b W h l0 ht
  have l2 : (fldS t 9 (Txt.take t s 77) 2).pos ≤ t.size := Txt.field_le l1
  have fd1 : ∀ W, ScanAt W b t (fldS t 9 (Txt.take t s 77) 1) → Calls Tryz.prog 17 #[.pointer (some ⟨b, 0, none⟩)] W fun e w' => e = .returned (.int .i64 (Txt.field t 9 (fldS t 9 (Txt.take t s 77) 1)).1) ∧ W.grownBy w' (some b) ∧ ScanAt w' b t (fldS t 9 (Txt.take t s 77) 2) := fun W h => field_any t _ b W h l1 ht
  have l3 : (fldS t 9 (Txt.take t s 77) 3).pos ≤ t.size := Txt.field_le l2
  have fd2 : ∀ W, ScanAt W b t (fldS t 9 (Txt.take t s 77) 2) → Calls Tryz.prog 17 #[.pointer (some ⟨b, 0, none⟩)] W fun e w' => e = .returned (.int .i64 (Txt.field t 9 (fldS t 9 (Txt.take t s 77) 2)).1) ∧ W.grownBy w' (some b) ∧ ScanAt w' b t (fldS t 9 (Txt.take t s 77) 3) := fun W h => field_any t _ b W h l2 ht
  have tk1 := fun W h => take_any t (fldS t 9 (Txt.take t s 77) 3) 10 b W h (by omega) l3 ht
  obtain ⟨x0, hx0⟩ : ∃ x, x = (Txt.field t 9 (fldS t 9 (Txt.take t s 77) 0)).1 := ⟨_, rfl⟩
  obtain ⟨x1, hx1⟩ : ∃ x, x = (Txt.field t 9 (fldS t 9 (Txt.take t s 77) 1)).1 := ⟨_, rfl⟩
  obtain ⟨x2, hx2⟩ : ∃ x, x = (Txt.field t 9 (fldS t 9 (Txt.take t s 77) 2)).1 := ⟨_, rfl⟩
  rw [← hx0, ← hx1, ← hx2]
  rw [← hx0] at fd0
  rw [← hx1] at fd1
  rw [← hx2] at fd2
  clear hx0 hx1 hx2 l0 l1 l2 l3
  obtain ⟨q3, hq3⟩ : ∃ q, q = fldS t 9 (Txt.take t s 77) 3 := ⟨_, rfl⟩
  rw [← hq3] at fd2 tk1 ⊢
  clear hq3
  obtain ⟨q2, hq2⟩ : ∃ q, q = fldS t 9 (Txt.take t s 77) 2 := ⟨_, rfl⟩
  rw [← hq2] at fd2 fd1
  clear hq2
  obtain ⟨q1, hq1⟩ : ∃ q, q = fldS t 9 (Txt.take t s 77) 1 := ⟨_, rfl⟩
  rw [← hq1] at fd1 fd0
  clear hq1
  obtain ⟨q0, hq0⟩ : ∃ q, q = fldS t 9 (Txt.take t s 77) 0 := ⟨_, rfl⟩
  rw [← hq0] at fd0
  have tk0' : ∀ W, ScanAt W b t s → Calls Tryz.prog 16 #[.pointer (some ⟨b, 0, none⟩), .int .u8 77] W fun e w' => e = .returned (.tuple #[]) ∧ W.grownBy w' (some b) ∧ ScanAt w' b t q0 := fun W h => by rw [hq0]; exact tk0 W h
  clear tk0
  clear hq0
  go_enter Tryz.func59, Tryz.ntmps59
  go_wp2_with (first
    | (go_at_call 16; have _ := s4; refine (tk1 _ (s4.other hb1 _ _)).mono ?_; rintro e w5 ⟨rfl, g5, s5⟩; obtain ⟨hc5, hf5⟩ := gcell g5; have hz5 : w.heap.size + 1 < w5.heap.size := (by have := g5.size; (try simp at this); omega); have hy5 : w.heap.size < w5.heap.size := (by omega))
    | (go_at_call 17; have _ := s3; refine (fd2 _ (s3.other hb1 _ _)).mono ?_; rintro e w4 ⟨rfl, g4, s4⟩; obtain ⟨hc4, hf4⟩ := gcell g4; have hz4 : w.heap.size + 1 < w4.heap.size := (by have := g4.size; (try simp at this); omega); have hy4 : w.heap.size < w4.heap.size := (by omega))
    | (go_at_call 17; have _ := s2; refine (fd1 _ (s2.other hb1 _ _)).mono ?_; rintro e w3 ⟨rfl, g3, s3⟩; obtain ⟨hc3, hf3⟩ := gcell g3; have hz3 : w.heap.size + 1 < w3.heap.size := (by have := g3.size; (try simp at this); omega); have hy3 : w.heap.size < w3.heap.size := (by omega))
    | (go_at_call 17; have _ := s1; refine (fd0 _ s1).mono ?_; rintro e w2 ⟨rfl, g2, s2⟩; obtain ⟨hc2, hf2⟩ := gcell g2; have hz2 : w.heap.size + 1 < w2.heap.size := (by have := g2.size; (try simp at this); omega); have hy2 : w.heap.size < w2.heap.size := (by omega))
    | (go_at_call 16; refine (tk0' _ hA).mono ?_; rintro e w1 ⟨rfl, g1, s1⟩; obtain ⟨hc1, hf1⟩ := gcell g1; have hz1 : w.heap.size + 1 < w1.heap.size := (by have := g1.size; (try simp at this); omega); have hy1 : w.heap.size < w1.heap.size := (by omega)))
  have r0 : w5.cell? ⟨w.heap.size, 0, none⟩ = some (.int .i64 0) := by simp [go_sem, *]
  have r1 : w5.cell? ⟨w.heap.size, 1, none⟩ = some (.int .i64 0) := by simp [go_sem, *]
  have r2 : w5.cell? ⟨w.heap.size, 2, none⟩ = some (.int .i64 0) := by simp [go_sem, *]
  refine bodyPost_ret (v := .agg #[.int .i64 x0, .int .i64 x1, .int .i64 x2]) (by simp [results, Tryz.results59, go_sem, r0, r1, r2]) rfl ⟨rfl, ?_, ?_⟩
  · have G := grown_trans (grown_own (grown_trans (grown_own (grown_trans (grown_own (grown_trans (grown_trans (grown_alloc (grown_alloc (grown_refl w (some b)) _) _) g1) g2) (k := w.heap.size + 1) (by omega) _) g3) (k := w.heap.size + 1) (by omega) _) g4) (k := w.heap.size + 1) (by omega) _) g5
    repeat (first | refine grown_own (k := w.heap.size) ?_ (by omega) _ | refine grown_own (k := w.heap.size + 1) ?_ (by omega) _ | exact G)
  · repeat (first | refine ScanAt.other ?_ hb0 _ _ | refine ScanAt.other ?_ hb1 _ _ | exact s5)

set_option maxRecDepth 1000000 in
set_option maxHeartbeats 2000000 in
theorem scan_net_any (t : ByteArray) (s : Txt.Sc) (b : Nat) (w : World) (h : ScanAt w b t s) (hs : s.pos ≤ t.size) (ht : t.size ≤ 100000) :
    Calls Tryz.prog 60 #[.pointer (some ⟨b, 0, none⟩)] w fun e w' => e = .returned (.agg #[.int .i64 (Txt.field t 9 (fldS t 9 (Txt.take t s 78) 0)).1, .int .i64 (Txt.field t 9 (fldS t 9 (Txt.take t s 78) 1)).1]) ∧ w.grownBy w' (some b) ∧ ScanAt w' b t (Txt.take t (fldS t 9 (Txt.take t s 78) 2) 10) := by
  have hb := h.lt
  have hb0 : ¬ w.heap.size = b := by omega
  have hb1 : ¬ w.heap.size + 1 = b := by omega
  have hA := (h.alloc (.cells #[.int .i64 0, .int .i64 0] 45)).alloc (.cells #[.int .i64 0, .int .i64 0] 45)
  have tk0 := fun W h => take_any t s 78 b W h (by omega) hs ht
  have l0 : (Txt.take t s 78).pos ≤ t.size := Txt.take_le (by omega) hs
  have l1 : (fldS t 9 (Txt.take t s 78) 1).pos ≤ t.size := Txt.field_le l0
  have fd0 : ∀ W, ScanAt W b t (fldS t 9 (Txt.take t s 78) 0) → Calls Tryz.prog 17 #[.pointer (some ⟨b, 0, none⟩)] W fun e w' => e = .returned (.int .i64 (Txt.field t 9 (fldS t 9 (Txt.take t s 78) 0)).1) ∧ W.grownBy w' (some b) ∧ ScanAt w' b t (fldS t 9 (Txt.take t s 78) 1) := fun W h => field_any t _ b W h l0 ht
  have l2 : (fldS t 9 (Txt.take t s 78) 2).pos ≤ t.size := Txt.field_le l1
  have fd1 : ∀ W, ScanAt W b t (fldS t 9 (Txt.take t s 78) 1) → Calls Tryz.prog 17 #[.pointer (some ⟨b, 0, none⟩)] W fun e w' => e = .returned (.int .i64 (Txt.field t 9 (fldS t 9 (Txt.take t s 78) 1)).1) ∧ W.grownBy w' (some b) ∧ ScanAt w' b t (fldS t 9 (Txt.take t s 78) 2) := fun W h => field_any t _ b W h l1 ht
  have tk1 := fun W h => take_any t (fldS t 9 (Txt.take t s 78) 2) 10 b W h (by omega) l2 ht
  obtain ⟨x0, hx0⟩ : ∃ x, x = (Txt.field t 9 (fldS t 9 (Txt.take t s 78) 0)).1 := ⟨_, rfl⟩
  obtain ⟨x1, hx1⟩ : ∃ x, x = (Txt.field t 9 (fldS t 9 (Txt.take t s 78) 1)).1 := ⟨_, rfl⟩
  rw [← hx0, ← hx1]
  rw [← hx0] at fd0
  rw [← hx1] at fd1
  clear hx0 hx1 l0 l1 l2
  obtain ⟨q2, hq2⟩ : ∃ q, q = fldS t 9 (Txt.take t s 78) 2 := ⟨_, rfl⟩
  rw [← hq2] at fd1 tk1 ⊢
  clear hq2
  obtain ⟨q1, hq1⟩ : ∃ q, q = fldS t 9 (Txt.take t s 78) 1 := ⟨_, rfl⟩
  rw [← hq1] at fd1 fd0
  clear hq1
  obtain ⟨q0, hq0⟩ : ∃ q, q = fldS t 9 (Txt.take t s 78) 0 := ⟨_, rfl⟩
  rw [← hq0] at fd0
  have tk0' : ∀ W, ScanAt W b t s → Calls Tryz.prog 16 #[.pointer (some ⟨b, 0, none⟩), .int .u8 78] W fun e w' => e = .returned (.tuple #[]) ∧ W.grownBy w' (some b) ∧ ScanAt w' b t q0 := fun W h => by rw [hq0]; exact tk0 W h
  clear tk0
  clear hq0
  go_enter Tryz.func60, Tryz.ntmps60
  go_wp2_with (first
    | (go_at_call 16; have _ := s3; refine (tk1 _ (s3.other hb1 _ _)).mono ?_; rintro e w4 ⟨rfl, g4, s4⟩; obtain ⟨hc4, hf4⟩ := gcell g4; have hz4 : w.heap.size + 1 < w4.heap.size := (by have := g4.size; (try simp at this); omega); have hy4 : w.heap.size < w4.heap.size := (by omega))
    | (go_at_call 17; have _ := s2; refine (fd1 _ (s2.other hb1 _ _)).mono ?_; rintro e w3 ⟨rfl, g3, s3⟩; obtain ⟨hc3, hf3⟩ := gcell g3; have hz3 : w.heap.size + 1 < w3.heap.size := (by have := g3.size; (try simp at this); omega); have hy3 : w.heap.size < w3.heap.size := (by omega))
    | (go_at_call 17; have _ := s1; refine (fd0 _ s1).mono ?_; rintro e w2 ⟨rfl, g2, s2⟩; obtain ⟨hc2, hf2⟩ := gcell g2; have hz2 : w.heap.size + 1 < w2.heap.size := (by have := g2.size; (try simp at this); omega); have hy2 : w.heap.size < w2.heap.size := (by omega))
    | (go_at_call 16; refine (tk0' _ hA).mono ?_; rintro e w1 ⟨rfl, g1, s1⟩; obtain ⟨hc1, hf1⟩ := gcell g1; have hz1 : w.heap.size + 1 < w1.heap.size := (by have := g1.size; (try simp at this); omega); have hy1 : w.heap.size < w1.heap.size := (by omega)))
  have r0 : w4.cell? ⟨w.heap.size, 0, none⟩ = some (.int .i64 0) := by simp [go_sem, *]
  have r1 : w4.cell? ⟨w.heap.size, 1, none⟩ = some (.int .i64 0) := by simp [go_sem, *]
  refine bodyPost_ret (v := .agg #[.int .i64 x0, .int .i64 x1]) (by simp [results, Tryz.results60, go_sem, r0, r1]) rfl ⟨rfl, ?_, ?_⟩
  · have G := grown_trans (grown_own (grown_trans (grown_own (grown_trans (grown_trans (grown_alloc (grown_alloc (grown_refl w (some b)) _) _) g1) g2) (k := w.heap.size + 1) (by omega) _) g3) (k := w.heap.size + 1) (by omega) _) g4
    repeat (first | refine grown_own (k := w.heap.size) ?_ (by omega) _ | refine grown_own (k := w.heap.size + 1) ?_ (by omega) _ | exact G)
  · repeat (first | refine ScanAt.other ?_ hb0 _ _ | refine ScanAt.other ?_ hb1 _ _ | exact s4)

end Go.Proofs.YtjaffmmocbplaabGreatDoor
