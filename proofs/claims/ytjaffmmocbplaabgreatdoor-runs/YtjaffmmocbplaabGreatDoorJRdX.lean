/-
  ReadMeter: the program's, where the text has its form.
-/
import Derived.Test.YtjaffmmocbplaabGreatDoorJ10
namespace Go.Proofs.YtjaffmmocbplaabGreatDoor
open Go.RowKit
set_option linter.unusedVariables false

theorem meterB_all {step start : Int} {l : List Txt.Val} (h : meterB step start l = true) : l.all valB = true ∧ 1 ≤ (l.length : Int) ∧ (l.length : Int) ≤ 200 := by
  simp only [meterB, Bool.and_eq_true, inB_iff] at h
  exact ⟨h.2, h.1.1.1.2⟩

set_option maxRecDepth 1000000 in
set_option maxHeartbeats 1000000 in
theorem ReadMeter_range (t : ByteArray) (n : Nat) (hn : Ends t n) (w : World) (ht : t.size ≤ 8000) (hbad : (tailS t (rdS t n)).2.2.bad = false) (hv : meterB (rStep t) (rStart t) (rL t n) = false) :
    Calls Tryz.prog 7 #[.string t] w fun e w' => e = .returned (.tuple #[.agg #[.int .i64 0, .int .i64 0, .slice none 0 0], .int .i64 3, .int .i64 0]) ∧ Below w.heap.size w w' := by
  have hb0 : ¬ w.heap.size = w.heap.size + 1 := by omega
  have h1 : ¬ (8000 : Int) < (t.size : Int) := by omega
  have hA : ScanAt ((w.alloc (.cells #[.int .i64 0, .int .i64 0, .slice none 0 0] 31)).alloc (.cells #[.string t, .int .i64 0, .bool false] 75)) (w.heap.size + 1) t ⟨0, false⟩ := ⟨by simp, by simp [go_sem], by simp [go_sem], by simp [go_sem], by simp [go_sem], by simp [go_sem]⟩
  have mt := fun w1 (h : ScanAt w1 (w.heap.size + 1) t ⟨0, false⟩) => meter_at t n hn (w.heap.size + 1) w1 h (by omega)
  have l0 : (rdS t n).pos ≤ t.size := Txt.vS_le (hd_le (by show 0 ≤ t.size; omega)) n
  have l1 : (Txt.take t (rdS t n) 84).pos ≤ t.size := Txt.take_le (by omega) l0
  have l2 : (Txt.field t 9 (Txt.take t (rdS t n) 84)).2.pos ≤ t.size := Txt.field_le l1
  have l3 : (Txt.field t 9 (Txt.field t 9 (Txt.take t (rdS t n) 84)).2).2.pos ≤ t.size := Txt.field_le l2
  have l4 : (Txt.take t (Txt.field t 9 (Txt.field t 9 (Txt.take t (rdS t n) 84)).2).2 10).pos ≤ t.size := Txt.take_le (by omega) l3
  have tk1 := fun W h => take_any t (rdS t n) 84 (w.heap.size + 1) W h (by omega) l0 (by omega)
  have fd1 := fun W h => field_any t (Txt.take t (rdS t n) 84) (w.heap.size + 1) W h l1 (by omega)
  have fd2 := fun W h => field_any t (Txt.field t 9 (Txt.take t (rdS t n) 84)).2 (w.heap.size + 1) W h l2 (by omega)
  have tk2 := fun W h => take_any t (Txt.field t 9 (Txt.field t 9 (Txt.take t (rdS t n) 84)).2).2 10 (w.heap.size + 1) W h (by omega) l3 (by omega)
  have en : ∀ w1, ScanAt w1 (w.heap.size + 1) t (Txt.take t (Txt.field t 9 (Txt.field t 9 (Txt.take t (rdS t n) 84)).2).2 10) → Calls Tryz.prog 18 #[.pointer (some ⟨w.heap.size + 1, 0, none⟩)] w1 fun e w' => e = .returned (.tuple #[]) ∧ w1.grownBy w' (some (w.heap.size + 1)) ∧ ScanAt w' (w.heap.size + 1) t (tailS t (rdS t n)).2.2 := fun w1 h1 => end_any t _ (w.heap.size + 1) w1 h1 l4 (by omega)
  obtain ⟨T, hT⟩ : ∃ T, T = tailS t (rdS t n) := ⟨_, rfl⟩
  have e1 : (Txt.field t 9 (Txt.take t (rdS t n) 84)).1 = T.1 := by rw [hT]; rfl
  have e2 : (Txt.field t 9 (Txt.field t 9 (Txt.take t (rdS t n) 84)).2).1 = T.2.1 := by rw [hT]; rfl
  rw [e1] at fd1
  rw [e2] at fd2
  rw [← hT] at en hbad 
  clear e1 e2 hT l1 l2 l3 l4
  obtain ⟨R, hR⟩ : ∃ R, R = rdS t n := ⟨_, rfl⟩
  rw [← hR] at mt tk1 fd1 fd2 tk2 en l0 
  obtain ⟨S1, hS1⟩ : ∃ S1, S1 = Txt.take t R 84 := ⟨_, rfl⟩
  rw [← hS1] at tk1 fd1 fd2 tk2 en
  obtain ⟨S2, hS2⟩ : ∃ S2, S2 = (Txt.field t 9 S1).2 := ⟨_, rfl⟩
  rw [← hS2] at fd1 fd2 tk2 en
  obtain ⟨S3, hS3⟩ : ∃ S3, S3 = (Txt.field t 9 S2).2 := ⟨_, rfl⟩
  rw [← hS3] at fd2 tk2 en
  obtain ⟨S4, hS4⟩ : ∃ S4, S4 = Txt.take t S3 10 := ⟨_, rfl⟩
  rw [← hS4] at tk2 en
  clear hS1 hS2 hS3 hS4 hR hn
  go_enter Tryz.func7, Tryz.ntmps7
  go_wp2_with (first
    | (go_at_call 15; refine (mt _ hA).mono ?_; rintro e w1 ⟨v, rfl, own1, g1, s1⟩; obtain ⟨a1, cap1, rfl⟩ := own_slice own1; obtain ⟨hc1, hf1⟩ := gcell g1; have hz1 : w.heap.size + 1 < w1.heap.size := (by have := g1.size; simp at this; omega); have hy1 : w.heap.size < w1.heap.size := (by omega); have q1 := s1.c1; have hn1 : ¬ w1.heap.size = w.heap.size + 1 := (by omega))
    | (go_at_call 16; have _ := g4; refine (tk2 _ s4).mono ?_; rintro e w5 ⟨rfl, g5, s5⟩; obtain ⟨hc5, hf5⟩ := gcell g5; have hz5 : w1.heap.size < w5.heap.size := (by have := g5.size; omega); have hy5 : w.heap.size < w5.heap.size := (by omega))
    | (go_at_call 16; refine (tk1 _ (s1.alloc _)).mono ?_; rintro e w2 ⟨rfl, g2, s2⟩; obtain ⟨hc2, hf2⟩ := gcell g2; have hz2 : w1.heap.size < w2.heap.size := (by have := g2.size; simp at this; omega); have hy2 : w.heap.size < w2.heap.size := (by omega))
    | (go_at_call 17; have _ := g3; refine (fd2 _ s3).mono ?_; rintro e w4 ⟨rfl, g4, s4⟩; obtain ⟨hc4, hf4⟩ := gcell g4; have hz4 : w1.heap.size < w4.heap.size := (by have := g4.size; omega); have hy4 : w.heap.size < w4.heap.size := (by omega))
    | (go_at_call 17; refine (fd1 _ s2).mono ?_; rintro e w3 ⟨rfl, g3, s3⟩; obtain ⟨hc3, hf3⟩ := gcell g3; have hz3 : w1.heap.size < w3.heap.size := (by have := g3.size; omega); have hy3 : w.heap.size < w3.heap.size := (by omega))
    | (go_at_call 18; refine (en _ s5).mono ?_; rintro e w6 ⟨rfl, g6, s6⟩; obtain ⟨hc6, hf6⟩ := gcell g6; have hz6 : w1.heap.size < w6.heap.size := (by have := g6.size; omega); have hy6 : w.heap.size < w6.heap.size := (by omega); have q6 := s6.c1; have p6 := s6.c2; rw [hbad] at p6; have O6 : w6.ownsRow (w.heap.size + 2) 126 3 (.slice a1 n cap1) n (vcs (rL t n)) := own_base (own_grown (own_grown (own_grown (own_grown (own_grown (own1.alloc _) g2 (by simp)) g3 (by simp)) g4 (by simp)) g5 (by simp)) g6 (by simp)) (by simp); have V6 : VRow w6 (.slice a1 n cap1) (rL t n) := VRow.of_own O6 (rL_length t n); have B6 : Below w.heap.size w w6 := (below_grown (grown_trans (grown_trans (grown_trans (grown_trans (grown_trans (grown_alloc (grown_trans (grown_alloc (grown_alloc (grown_refl w (some (w.heap.size + 1))) _) _) g1) _) g2) g3) g4) g5) g6) (by omega)); have r0 : w6.cell? ⟨w.heap.size, 0, none⟩ = some (.int .i64 0) := (by simp [go_sem, *]); have r1 : w6.cell? ⟨w.heap.size, 1, none⟩ = some (.int .i64 0) := (by simp [go_sem, *]); have r2 : w6.cell? ⟨w.heap.size, 2, none⟩ = some (.slice none 0 0) := (by simp [go_sem, *]); have rf0 : w6.frozen? ⟨w.heap.size, 0, none⟩ = false := (by simp [go_sem, *]); have rf1 : w6.frozen? ⟨w.heap.size, 1, none⟩ = false := (by simp [go_sem, *]); have rf2 : w6.frozen? ⟨w.heap.size, 2, none⟩ = false := (by simp [go_sem, *]); have m0 : w6.cell? ⟨w1.heap.size, 0, none⟩ = some (.int .i64 (rStep t)) := (by simp [go_sem, *]); have m1 : w6.cell? ⟨w1.heap.size, 1, none⟩ = some (.int .i64 (rStart t)) := (by simp [go_sem, *]); have m2 : w6.cell? ⟨w1.heap.size, 2, none⟩ = some (.slice a1 n cap1) := (by simp [go_sem, *]); clear hc1 hc2 hc3 hc4 hc5 hc6 hf1 hf2 hf3 hf4 hf5 hf6 hz1 hz2 hz3 hz4 hz5 hy1 hy2 hy3 hy4 hy5 g1 g2 g3 g4 g5 g6 s1 s2 s3 s4 s5 own1 q1)
    | (go_at_call 19; refine (validMeter_any _ _ _ _ _ V6).mono ?_; rintro e w7 ⟨rfl, hb7⟩; obtain ⟨hc7, hf7⟩ := bcell hb7; have hz7 := hb7.size))
  have x0 : w7.cell? ⟨w.heap.size, 0, none⟩ = some (.int .i64 0) := by rw [hc7 _ _ hy6]; exact r0
  have x1 : w7.cell? ⟨w.heap.size, 1, none⟩ = some (.int .i64 0) := by rw [hc7 _ _ hy6]; exact r1
  have x2 : w7.cell? ⟨w.heap.size, 2, none⟩ = some (.slice none 0 0) := by rw [hc7 _ _ hy6]; exact r2
  refine bodyPost_ret (v := .tuple #[.agg #[.int .i64 0, .int .i64 0, .slice none 0 0], .int .i64 3, .int .i64 0]) (by simp [results, Tryz.results7, go_sem, x0, x1, x2]) rfl ⟨rfl, ?_⟩
  repeat (first | exact below_then B6 hb7 | refine Below.setCell ?_ (by simp) _ | refine below_drewN ?_ _)

set_option maxRecDepth 1000000 in
set_option maxHeartbeats 1000000 in
theorem ReadMeter_count (t : ByteArray) (n : Nat) (hn : Ends t n) (w : World) (ht : t.size ≤ 8000) (hbad : (tailS t (rdS t n)).2.2.bad = false) (hv : meterB (rStep t) (rStart t) (rL t n) = true) (hcn : ¬ (tailS t (rdS t n)).1 = (n : Int)) :
    Calls Tryz.prog 7 #[.string t] w fun e w' => e = .returned (.tuple #[.agg #[.int .i64 0, .int .i64 0, .slice none 0 0], .int .i64 4, .int .i64 (rdS t n).pos]) ∧ Below w.heap.size w w' := by
  have hb0 : ¬ w.heap.size = w.heap.size + 1 := by omega
  have h1 : ¬ (8000 : Int) < (t.size : Int) := by omega
  have hA : ScanAt ((w.alloc (.cells #[.int .i64 0, .int .i64 0, .slice none 0 0] 31)).alloc (.cells #[.string t, .int .i64 0, .bool false] 75)) (w.heap.size + 1) t ⟨0, false⟩ := ⟨by simp, by simp [go_sem], by simp [go_sem], by simp [go_sem], by simp [go_sem], by simp [go_sem]⟩
  have mt := fun w1 (h : ScanAt w1 (w.heap.size + 1) t ⟨0, false⟩) => meter_at t n hn (w.heap.size + 1) w1 h (by omega)
  have l0 : (rdS t n).pos ≤ t.size := Txt.vS_le (hd_le (by show 0 ≤ t.size; omega)) n
  have l1 : (Txt.take t (rdS t n) 84).pos ≤ t.size := Txt.take_le (by omega) l0
  have l2 : (Txt.field t 9 (Txt.take t (rdS t n) 84)).2.pos ≤ t.size := Txt.field_le l1
  have l3 : (Txt.field t 9 (Txt.field t 9 (Txt.take t (rdS t n) 84)).2).2.pos ≤ t.size := Txt.field_le l2
  have l4 : (Txt.take t (Txt.field t 9 (Txt.field t 9 (Txt.take t (rdS t n) 84)).2).2 10).pos ≤ t.size := Txt.take_le (by omega) l3
  have tk1 := fun W h => take_any t (rdS t n) 84 (w.heap.size + 1) W h (by omega) l0 (by omega)
  have fd1 := fun W h => field_any t (Txt.take t (rdS t n) 84) (w.heap.size + 1) W h l1 (by omega)
  have fd2 := fun W h => field_any t (Txt.field t 9 (Txt.take t (rdS t n) 84)).2 (w.heap.size + 1) W h l2 (by omega)
  have tk2 := fun W h => take_any t (Txt.field t 9 (Txt.field t 9 (Txt.take t (rdS t n) 84)).2).2 10 (w.heap.size + 1) W h (by omega) l3 (by omega)
  have en : ∀ w1, ScanAt w1 (w.heap.size + 1) t (Txt.take t (Txt.field t 9 (Txt.field t 9 (Txt.take t (rdS t n) 84)).2).2 10) → Calls Tryz.prog 18 #[.pointer (some ⟨w.heap.size + 1, 0, none⟩)] w1 fun e w' => e = .returned (.tuple #[]) ∧ w1.grownBy w' (some (w.heap.size + 1)) ∧ ScanAt w' (w.heap.size + 1) t (tailS t (rdS t n)).2.2 := fun w1 h1 => end_any t _ (w.heap.size + 1) w1 h1 l4 (by omega)
  obtain ⟨T, hT⟩ : ∃ T, T = tailS t (rdS t n) := ⟨_, rfl⟩
  have e1 : (Txt.field t 9 (Txt.take t (rdS t n) 84)).1 = T.1 := by rw [hT]; rfl
  have e2 : (Txt.field t 9 (Txt.field t 9 (Txt.take t (rdS t n) 84)).2).1 = T.2.1 := by rw [hT]; rfl
  rw [e1] at fd1
  rw [e2] at fd2
  rw [← hT] at en hbad hcn
  clear e1 e2 hT l1 l2 l3 l4
  obtain ⟨R, hR⟩ : ∃ R, R = rdS t n := ⟨_, rfl⟩
  rw [← hR] at mt tk1 fd1 fd2 tk2 en l0 ⊢
  obtain ⟨S1, hS1⟩ : ∃ S1, S1 = Txt.take t R 84 := ⟨_, rfl⟩
  rw [← hS1] at tk1 fd1 fd2 tk2 en
  obtain ⟨S2, hS2⟩ : ∃ S2, S2 = (Txt.field t 9 S1).2 := ⟨_, rfl⟩
  rw [← hS2] at fd1 fd2 tk2 en
  obtain ⟨S3, hS3⟩ : ∃ S3, S3 = (Txt.field t 9 S2).2 := ⟨_, rfl⟩
  rw [← hS3] at fd2 tk2 en
  obtain ⟨S4, hS4⟩ : ∃ S4, S4 = Txt.take t S3 10 := ⟨_, rfl⟩
  rw [← hS4] at tk2 en
  clear hS1 hS2 hS3 hS4 hR hn
  have hcB : (T.1 != (n : Int)) = true := by simpa using hcn
  clear hcn
  go_enter Tryz.func7, Tryz.ntmps7
  go_wp2_with (first
    | (go_at_call 15; refine (mt _ hA).mono ?_; rintro e w1 ⟨v, rfl, own1, g1, s1⟩; obtain ⟨a1, cap1, rfl⟩ := own_slice own1; obtain ⟨hc1, hf1⟩ := gcell g1; have hz1 : w.heap.size + 1 < w1.heap.size := (by have := g1.size; simp at this; omega); have hy1 : w.heap.size < w1.heap.size := (by omega); have q1 := s1.c1; have hn1 : ¬ w1.heap.size = w.heap.size + 1 := (by omega))
    | (go_at_call 16; have _ := g4; refine (tk2 _ s4).mono ?_; rintro e w5 ⟨rfl, g5, s5⟩; obtain ⟨hc5, hf5⟩ := gcell g5; have hz5 : w1.heap.size < w5.heap.size := (by have := g5.size; omega); have hy5 : w.heap.size < w5.heap.size := (by omega))
    | (go_at_call 16; refine (tk1 _ (s1.alloc _)).mono ?_; rintro e w2 ⟨rfl, g2, s2⟩; obtain ⟨hc2, hf2⟩ := gcell g2; have hz2 : w1.heap.size < w2.heap.size := (by have := g2.size; simp at this; omega); have hy2 : w.heap.size < w2.heap.size := (by omega))
    | (go_at_call 17; have _ := g3; refine (fd2 _ s3).mono ?_; rintro e w4 ⟨rfl, g4, s4⟩; obtain ⟨hc4, hf4⟩ := gcell g4; have hz4 : w1.heap.size < w4.heap.size := (by have := g4.size; omega); have hy4 : w.heap.size < w4.heap.size := (by omega))
    | (go_at_call 17; refine (fd1 _ s2).mono ?_; rintro e w3 ⟨rfl, g3, s3⟩; obtain ⟨hc3, hf3⟩ := gcell g3; have hz3 : w1.heap.size < w3.heap.size := (by have := g3.size; omega); have hy3 : w.heap.size < w3.heap.size := (by omega))
    | (go_at_call 18; refine (en _ s5).mono ?_; rintro e w6 ⟨rfl, g6, s6⟩; obtain ⟨hc6, hf6⟩ := gcell g6; have hz6 : w1.heap.size < w6.heap.size := (by have := g6.size; omega); have hy6 : w.heap.size < w6.heap.size := (by omega); have q6 := s6.c1; have p6 := s6.c2; rw [hbad] at p6; have O6 : w6.ownsRow (w.heap.size + 2) 126 3 (.slice a1 n cap1) n (vcs (rL t n)) := own_base (own_grown (own_grown (own_grown (own_grown (own_grown (own1.alloc _) g2 (by simp)) g3 (by simp)) g4 (by simp)) g5 (by simp)) g6 (by simp)) (by simp); have V6 : VRow w6 (.slice a1 n cap1) (rL t n) := VRow.of_own O6 (rL_length t n); have B6 : Below w.heap.size w w6 := (below_grown (grown_trans (grown_trans (grown_trans (grown_trans (grown_trans (grown_alloc (grown_trans (grown_alloc (grown_alloc (grown_refl w (some (w.heap.size + 1))) _) _) g1) _) g2) g3) g4) g5) g6) (by omega)); have r0 : w6.cell? ⟨w.heap.size, 0, none⟩ = some (.int .i64 0) := (by simp [go_sem, *]); have r1 : w6.cell? ⟨w.heap.size, 1, none⟩ = some (.int .i64 0) := (by simp [go_sem, *]); have r2 : w6.cell? ⟨w.heap.size, 2, none⟩ = some (.slice none 0 0) := (by simp [go_sem, *]); have rf0 : w6.frozen? ⟨w.heap.size, 0, none⟩ = false := (by simp [go_sem, *]); have rf1 : w6.frozen? ⟨w.heap.size, 1, none⟩ = false := (by simp [go_sem, *]); have rf2 : w6.frozen? ⟨w.heap.size, 2, none⟩ = false := (by simp [go_sem, *]); have m0 : w6.cell? ⟨w1.heap.size, 0, none⟩ = some (.int .i64 (rStep t)) := (by simp [go_sem, *]); have m1 : w6.cell? ⟨w1.heap.size, 1, none⟩ = some (.int .i64 (rStart t)) := (by simp [go_sem, *]); have m2 : w6.cell? ⟨w1.heap.size, 2, none⟩ = some (.slice a1 n cap1) := (by simp [go_sem, *]); clear hc1 hc2 hc3 hc4 hc5 hc6 hf1 hf2 hf3 hf4 hf5 hf6 hz1 hz2 hz3 hz4 hz5 hy1 hy2 hy3 hy4 hy5 g1 g2 g3 g4 g5 g6 s1 s2 s3 s4 s5 own1 q1)
    | (go_at_call 19; refine (validMeter_any _ _ _ _ _ V6).mono ?_; rintro e w7 ⟨rfl, hb7⟩; obtain ⟨hc7, hf7⟩ := bcell hb7; have hz7 := hb7.size))
  have x0 : w7.cell? ⟨w.heap.size, 0, none⟩ = some (.int .i64 0) := by rw [hc7 _ _ hy6]; exact r0
  have x1 : w7.cell? ⟨w.heap.size, 1, none⟩ = some (.int .i64 0) := by rw [hc7 _ _ hy6]; exact r1
  have x2 : w7.cell? ⟨w.heap.size, 2, none⟩ = some (.slice none 0 0) := by rw [hc7 _ _ hy6]; exact r2
  refine bodyPost_ret (v := .tuple #[.agg #[.int .i64 0, .int .i64 0, .slice none 0 0], .int .i64 4, .int .i64 R.pos]) (by simp [results, Tryz.results7, go_sem, x0, x1, x2]) rfl ⟨rfl, ?_⟩
  repeat (first | exact below_then B6 hb7 | refine Below.setCell ?_ (by simp) _ | refine below_drewN ?_ _)

set_option maxRecDepth 1000000 in
set_option maxHeartbeats 1000000 in
theorem ReadMeter_sum (t : ByteArray) (n : Nat) (hn : Ends t n) (w : World) (ht : t.size ≤ 8000) (hbad : (tailS t (rdS t n)).2.2.bad = false) (hv : meterB (rStep t) (rStart t) (rL t n) = true) (hcn : (tailS t (rdS t n)).1 = (n : Int)) (hsn : ¬ (tailS t (rdS t n)).2.1 = sumL (rL t n)) :
    Calls Tryz.prog 7 #[.string t] w fun e w' => e = .returned (.tuple #[.agg #[.int .i64 0, .int .i64 0, .slice none 0 0], .int .i64 4, .int .i64 (rdS t n).pos]) ∧ Below w.heap.size w w' := by
  obtain ⟨hall, hlen1, hlen2⟩ := meterB_all hv
  have hlen : (rL t n).length ≤ 100000 := by omega
  have hb0 : ¬ w.heap.size = w.heap.size + 1 := by omega
  have h1 : ¬ (8000 : Int) < (t.size : Int) := by omega
  have hA : ScanAt ((w.alloc (.cells #[.int .i64 0, .int .i64 0, .slice none 0 0] 31)).alloc (.cells #[.string t, .int .i64 0, .bool false] 75)) (w.heap.size + 1) t ⟨0, false⟩ := ⟨by simp, by simp [go_sem], by simp [go_sem], by simp [go_sem], by simp [go_sem], by simp [go_sem]⟩
  have mt := fun w1 (h : ScanAt w1 (w.heap.size + 1) t ⟨0, false⟩) => meter_at t n hn (w.heap.size + 1) w1 h (by omega)
  have l0 : (rdS t n).pos ≤ t.size := Txt.vS_le (hd_le (by show 0 ≤ t.size; omega)) n
  have l1 : (Txt.take t (rdS t n) 84).pos ≤ t.size := Txt.take_le (by omega) l0
  have l2 : (Txt.field t 9 (Txt.take t (rdS t n) 84)).2.pos ≤ t.size := Txt.field_le l1
  have l3 : (Txt.field t 9 (Txt.field t 9 (Txt.take t (rdS t n) 84)).2).2.pos ≤ t.size := Txt.field_le l2
  have l4 : (Txt.take t (Txt.field t 9 (Txt.field t 9 (Txt.take t (rdS t n) 84)).2).2 10).pos ≤ t.size := Txt.take_le (by omega) l3
  have tk1 := fun W h => take_any t (rdS t n) 84 (w.heap.size + 1) W h (by omega) l0 (by omega)
  have fd1 := fun W h => field_any t (Txt.take t (rdS t n) 84) (w.heap.size + 1) W h l1 (by omega)
  have fd2 := fun W h => field_any t (Txt.field t 9 (Txt.take t (rdS t n) 84)).2 (w.heap.size + 1) W h l2 (by omega)
  have tk2 := fun W h => take_any t (Txt.field t 9 (Txt.field t 9 (Txt.take t (rdS t n) 84)).2).2 10 (w.heap.size + 1) W h (by omega) l3 (by omega)
  have en : ∀ w1, ScanAt w1 (w.heap.size + 1) t (Txt.take t (Txt.field t 9 (Txt.field t 9 (Txt.take t (rdS t n) 84)).2).2 10) → Calls Tryz.prog 18 #[.pointer (some ⟨w.heap.size + 1, 0, none⟩)] w1 fun e w' => e = .returned (.tuple #[]) ∧ w1.grownBy w' (some (w.heap.size + 1)) ∧ ScanAt w' (w.heap.size + 1) t (tailS t (rdS t n)).2.2 := fun w1 h1 => end_any t _ (w.heap.size + 1) w1 h1 l4 (by omega)
  obtain ⟨T, hT⟩ : ∃ T, T = tailS t (rdS t n) := ⟨_, rfl⟩
  have e1 : (Txt.field t 9 (Txt.take t (rdS t n) 84)).1 = T.1 := by rw [hT]; rfl
  have e2 : (Txt.field t 9 (Txt.field t 9 (Txt.take t (rdS t n) 84)).2).1 = T.2.1 := by rw [hT]; rfl
  rw [e1] at fd1
  rw [e2] at fd2
  rw [← hT] at en hbad hcn hsn
  clear e1 e2 hT l1 l2 l3 l4
  obtain ⟨R, hR⟩ : ∃ R, R = rdS t n := ⟨_, rfl⟩
  rw [← hR] at mt tk1 fd1 fd2 tk2 en l0 ⊢
  obtain ⟨S1, hS1⟩ : ∃ S1, S1 = Txt.take t R 84 := ⟨_, rfl⟩
  rw [← hS1] at tk1 fd1 fd2 tk2 en
  obtain ⟨S2, hS2⟩ : ∃ S2, S2 = (Txt.field t 9 S1).2 := ⟨_, rfl⟩
  rw [← hS2] at fd1 fd2 tk2 en
  obtain ⟨S3, hS3⟩ : ∃ S3, S3 = (Txt.field t 9 S2).2 := ⟨_, rfl⟩
  rw [← hS3] at fd2 tk2 en
  obtain ⟨S4, hS4⟩ : ∃ S4, S4 = Txt.take t S3 10 := ⟨_, rfl⟩
  rw [← hS4] at tk2 en
  clear hS1 hS2 hS3 hS4 hR hn
  have hcB : (T.1 != (n : Int)) = false := by simpa using hcn
  have hsB : (T.2.1 != sumL (rL t n)) = true := by simpa using hsn
  clear hcn hsn
  go_enter Tryz.func7, Tryz.ntmps7
  go_wp2_with (first
    | (go_at_call 15; refine (mt _ hA).mono ?_; rintro e w1 ⟨v, rfl, own1, g1, s1⟩; obtain ⟨a1, cap1, rfl⟩ := own_slice own1; obtain ⟨hc1, hf1⟩ := gcell g1; have hz1 : w.heap.size + 1 < w1.heap.size := (by have := g1.size; simp at this; omega); have hy1 : w.heap.size < w1.heap.size := (by omega); have q1 := s1.c1; have hn1 : ¬ w1.heap.size = w.heap.size + 1 := (by omega))
    | (go_at_call 16; have _ := g4; refine (tk2 _ s4).mono ?_; rintro e w5 ⟨rfl, g5, s5⟩; obtain ⟨hc5, hf5⟩ := gcell g5; have hz5 : w1.heap.size < w5.heap.size := (by have := g5.size; omega); have hy5 : w.heap.size < w5.heap.size := (by omega))
    | (go_at_call 16; refine (tk1 _ (s1.alloc _)).mono ?_; rintro e w2 ⟨rfl, g2, s2⟩; obtain ⟨hc2, hf2⟩ := gcell g2; have hz2 : w1.heap.size < w2.heap.size := (by have := g2.size; simp at this; omega); have hy2 : w.heap.size < w2.heap.size := (by omega))
    | (go_at_call 17; have _ := g3; refine (fd2 _ s3).mono ?_; rintro e w4 ⟨rfl, g4, s4⟩; obtain ⟨hc4, hf4⟩ := gcell g4; have hz4 : w1.heap.size < w4.heap.size := (by have := g4.size; omega); have hy4 : w.heap.size < w4.heap.size := (by omega))
    | (go_at_call 17; refine (fd1 _ s2).mono ?_; rintro e w3 ⟨rfl, g3, s3⟩; obtain ⟨hc3, hf3⟩ := gcell g3; have hz3 : w1.heap.size < w3.heap.size := (by have := g3.size; omega); have hy3 : w.heap.size < w3.heap.size := (by omega))
    | (go_at_call 18; refine (en _ s5).mono ?_; rintro e w6 ⟨rfl, g6, s6⟩; obtain ⟨hc6, hf6⟩ := gcell g6; have hz6 : w1.heap.size < w6.heap.size := (by have := g6.size; omega); have hy6 : w.heap.size < w6.heap.size := (by omega); have q6 := s6.c1; have p6 := s6.c2; rw [hbad] at p6; have O6 : w6.ownsRow (w.heap.size + 2) 126 3 (.slice a1 n cap1) n (vcs (rL t n)) := own_base (own_grown (own_grown (own_grown (own_grown (own_grown (own1.alloc _) g2 (by simp)) g3 (by simp)) g4 (by simp)) g5 (by simp)) g6 (by simp)) (by simp); have V6 : VRow w6 (.slice a1 n cap1) (rL t n) := VRow.of_own O6 (rL_length t n); have B6 : Below w.heap.size w w6 := (below_grown (grown_trans (grown_trans (grown_trans (grown_trans (grown_trans (grown_alloc (grown_trans (grown_alloc (grown_alloc (grown_refl w (some (w.heap.size + 1))) _) _) g1) _) g2) g3) g4) g5) g6) (by omega)); have r0 : w6.cell? ⟨w.heap.size, 0, none⟩ = some (.int .i64 0) := (by simp [go_sem, *]); have r1 : w6.cell? ⟨w.heap.size, 1, none⟩ = some (.int .i64 0) := (by simp [go_sem, *]); have r2 : w6.cell? ⟨w.heap.size, 2, none⟩ = some (.slice none 0 0) := (by simp [go_sem, *]); have rf0 : w6.frozen? ⟨w.heap.size, 0, none⟩ = false := (by simp [go_sem, *]); have rf1 : w6.frozen? ⟨w.heap.size, 1, none⟩ = false := (by simp [go_sem, *]); have rf2 : w6.frozen? ⟨w.heap.size, 2, none⟩ = false := (by simp [go_sem, *]); have m0 : w6.cell? ⟨w1.heap.size, 0, none⟩ = some (.int .i64 (rStep t)) := (by simp [go_sem, *]); have m1 : w6.cell? ⟨w1.heap.size, 1, none⟩ = some (.int .i64 (rStart t)) := (by simp [go_sem, *]); have m2 : w6.cell? ⟨w1.heap.size, 2, none⟩ = some (.slice a1 n cap1) := (by simp [go_sem, *]); clear hc1 hc2 hc3 hc4 hc5 hc6 hf1 hf2 hf3 hf4 hf5 hf6 hz1 hz2 hz3 hz4 hz5 hy1 hy2 hy3 hy4 hy5 g1 g2 g3 g4 g5 g6 s1 s2 s3 s4 s5 own1 q1)
    | (go_at_call 19; refine (validMeter_any _ _ _ _ _ V6).mono ?_; rintro e w7 ⟨rfl, hb7⟩; obtain ⟨hc7, hf7⟩ := bcell hb7; have hz7 := hb7.size)
    | (go_at_call 20; refine (checkSum_any _ (rL t n) _ (V6.below hb7) hall hlen).mono ?_; rintro e w8 ⟨rfl, n8, rfl⟩))
  have x0 : w7.cell? ⟨w.heap.size, 0, none⟩ = some (.int .i64 0) := by rw [hc7 _ _ hy6]; exact r0
  have x1 : w7.cell? ⟨w.heap.size, 1, none⟩ = some (.int .i64 0) := by rw [hc7 _ _ hy6]; exact r1
  have x2 : w7.cell? ⟨w.heap.size, 2, none⟩ = some (.slice none 0 0) := by rw [hc7 _ _ hy6]; exact r2
  refine bodyPost_ret (v := .tuple #[.agg #[.int .i64 0, .int .i64 0, .slice none 0 0], .int .i64 4, .int .i64 R.pos]) (by simp [results, Tryz.results7, go_sem, x0, x1, x2]) rfl ⟨rfl, ?_⟩
  repeat (first | exact below_then B6 hb7 | refine Below.setCell ?_ (by simp) _ | refine below_drewN ?_ _)

set_option maxRecDepth 1000000 in
set_option maxHeartbeats 1000000 in
theorem ReadMeter_ok (t : ByteArray) (n : Nat) (hn : Ends t n) (w : World) (ht : t.size ≤ 8000) (hbad : (tailS t (rdS t n)).2.2.bad = false) (hv : meterB (rStep t) (rStart t) (rL t n) = true) (hcn : (tailS t (rdS t n)).1 = (n : Int)) (hsn : (tailS t (rdS t n)).2.1 = sumL (rL t n)) :
    Calls Tryz.prog 7 #[.string t] w fun e w' => ∃ v, e = .returned (.tuple #[.agg #[.int .i64 (rStep t), .int .i64 (rStart t), v], .int .i64 0, .int .i64 0]) ∧ VRow w' v (rL t n) ∧ Below w.heap.size w w' := by
  obtain ⟨hall, hlen1, hlen2⟩ := meterB_all hv
  have hlen : (rL t n).length ≤ 100000 := by omega
  have hb0 : ¬ w.heap.size = w.heap.size + 1 := by omega
  have h1 : ¬ (8000 : Int) < (t.size : Int) := by omega
  have hA : ScanAt ((w.alloc (.cells #[.int .i64 0, .int .i64 0, .slice none 0 0] 31)).alloc (.cells #[.string t, .int .i64 0, .bool false] 75)) (w.heap.size + 1) t ⟨0, false⟩ := ⟨by simp, by simp [go_sem], by simp [go_sem], by simp [go_sem], by simp [go_sem], by simp [go_sem]⟩
  have mt := fun w1 (h : ScanAt w1 (w.heap.size + 1) t ⟨0, false⟩) => meter_at t n hn (w.heap.size + 1) w1 h (by omega)
  have l0 : (rdS t n).pos ≤ t.size := Txt.vS_le (hd_le (by show 0 ≤ t.size; omega)) n
  have l1 : (Txt.take t (rdS t n) 84).pos ≤ t.size := Txt.take_le (by omega) l0
  have l2 : (Txt.field t 9 (Txt.take t (rdS t n) 84)).2.pos ≤ t.size := Txt.field_le l1
  have l3 : (Txt.field t 9 (Txt.field t 9 (Txt.take t (rdS t n) 84)).2).2.pos ≤ t.size := Txt.field_le l2
  have l4 : (Txt.take t (Txt.field t 9 (Txt.field t 9 (Txt.take t (rdS t n) 84)).2).2 10).pos ≤ t.size := Txt.take_le (by omega) l3
  have tk1 := fun W h => take_any t (rdS t n) 84 (w.heap.size + 1) W h (by omega) l0 (by omega)
  have fd1 := fun W h => field_any t (Txt.take t (rdS t n) 84) (w.heap.size + 1) W h l1 (by omega)
  have fd2 := fun W h => field_any t (Txt.field t 9 (Txt.take t (rdS t n) 84)).2 (w.heap.size + 1) W h l2 (by omega)
  have tk2 := fun W h => take_any t (Txt.field t 9 (Txt.field t 9 (Txt.take t (rdS t n) 84)).2).2 10 (w.heap.size + 1) W h (by omega) l3 (by omega)
  have en : ∀ w1, ScanAt w1 (w.heap.size + 1) t (Txt.take t (Txt.field t 9 (Txt.field t 9 (Txt.take t (rdS t n) 84)).2).2 10) → Calls Tryz.prog 18 #[.pointer (some ⟨w.heap.size + 1, 0, none⟩)] w1 fun e w' => e = .returned (.tuple #[]) ∧ w1.grownBy w' (some (w.heap.size + 1)) ∧ ScanAt w' (w.heap.size + 1) t (tailS t (rdS t n)).2.2 := fun w1 h1 => end_any t _ (w.heap.size + 1) w1 h1 l4 (by omega)
  obtain ⟨T, hT⟩ : ∃ T, T = tailS t (rdS t n) := ⟨_, rfl⟩
  have e1 : (Txt.field t 9 (Txt.take t (rdS t n) 84)).1 = T.1 := by rw [hT]; rfl
  have e2 : (Txt.field t 9 (Txt.field t 9 (Txt.take t (rdS t n) 84)).2).1 = T.2.1 := by rw [hT]; rfl
  rw [e1] at fd1
  rw [e2] at fd2
  rw [← hT] at en hbad hcn hsn
  clear e1 e2 hT l1 l2 l3 l4
  obtain ⟨R, hR⟩ : ∃ R, R = rdS t n := ⟨_, rfl⟩
  rw [← hR] at mt tk1 fd1 fd2 tk2 en l0 
  obtain ⟨S1, hS1⟩ : ∃ S1, S1 = Txt.take t R 84 := ⟨_, rfl⟩
  rw [← hS1] at tk1 fd1 fd2 tk2 en
  obtain ⟨S2, hS2⟩ : ∃ S2, S2 = (Txt.field t 9 S1).2 := ⟨_, rfl⟩
  rw [← hS2] at fd1 fd2 tk2 en
  obtain ⟨S3, hS3⟩ : ∃ S3, S3 = (Txt.field t 9 S2).2 := ⟨_, rfl⟩
  rw [← hS3] at fd2 tk2 en
  obtain ⟨S4, hS4⟩ : ∃ S4, S4 = Txt.take t S3 10 := ⟨_, rfl⟩
  rw [← hS4] at tk2 en
  clear hS1 hS2 hS3 hS4 hR hn
  have hcB : (T.1 != (n : Int)) = false := by simpa using hcn
  have hsB : (T.2.1 != sumL (rL t n)) = false := by simpa using hsn
  clear hcn hsn
  go_enter Tryz.func7, Tryz.ntmps7
  go_wp2_with (first
    | (go_at_call 15; refine (mt _ hA).mono ?_; rintro e w1 ⟨v, rfl, own1, g1, s1⟩; obtain ⟨a1, cap1, rfl⟩ := own_slice own1; obtain ⟨hc1, hf1⟩ := gcell g1; have hz1 : w.heap.size + 1 < w1.heap.size := (by have := g1.size; simp at this; omega); have hy1 : w.heap.size < w1.heap.size := (by omega); have q1 := s1.c1; have hn1 : ¬ w1.heap.size = w.heap.size + 1 := (by omega))
    | (go_at_call 16; have _ := g4; refine (tk2 _ s4).mono ?_; rintro e w5 ⟨rfl, g5, s5⟩; obtain ⟨hc5, hf5⟩ := gcell g5; have hz5 : w1.heap.size < w5.heap.size := (by have := g5.size; omega); have hy5 : w.heap.size < w5.heap.size := (by omega))
    | (go_at_call 16; refine (tk1 _ (s1.alloc _)).mono ?_; rintro e w2 ⟨rfl, g2, s2⟩; obtain ⟨hc2, hf2⟩ := gcell g2; have hz2 : w1.heap.size < w2.heap.size := (by have := g2.size; simp at this; omega); have hy2 : w.heap.size < w2.heap.size := (by omega))
    | (go_at_call 17; have _ := g3; refine (fd2 _ s3).mono ?_; rintro e w4 ⟨rfl, g4, s4⟩; obtain ⟨hc4, hf4⟩ := gcell g4; have hz4 : w1.heap.size < w4.heap.size := (by have := g4.size; omega); have hy4 : w.heap.size < w4.heap.size := (by omega))
    | (go_at_call 17; refine (fd1 _ s2).mono ?_; rintro e w3 ⟨rfl, g3, s3⟩; obtain ⟨hc3, hf3⟩ := gcell g3; have hz3 : w1.heap.size < w3.heap.size := (by have := g3.size; omega); have hy3 : w.heap.size < w3.heap.size := (by omega))
    | (go_at_call 18; refine (en _ s5).mono ?_; rintro e w6 ⟨rfl, g6, s6⟩; obtain ⟨hc6, hf6⟩ := gcell g6; have hz6 : w1.heap.size < w6.heap.size := (by have := g6.size; omega); have hy6 : w.heap.size < w6.heap.size := (by omega); have q6 := s6.c1; have p6 := s6.c2; rw [hbad] at p6; have O6 : w6.ownsRow (w.heap.size + 2) 126 3 (.slice a1 n cap1) n (vcs (rL t n)) := own_base (own_grown (own_grown (own_grown (own_grown (own_grown (own1.alloc _) g2 (by simp)) g3 (by simp)) g4 (by simp)) g5 (by simp)) g6 (by simp)) (by simp); have V6 : VRow w6 (.slice a1 n cap1) (rL t n) := VRow.of_own O6 (rL_length t n); have B6 : Below w.heap.size w w6 := (below_grown (grown_trans (grown_trans (grown_trans (grown_trans (grown_trans (grown_alloc (grown_trans (grown_alloc (grown_alloc (grown_refl w (some (w.heap.size + 1))) _) _) g1) _) g2) g3) g4) g5) g6) (by omega)); have r0 : w6.cell? ⟨w.heap.size, 0, none⟩ = some (.int .i64 0) := (by simp [go_sem, *]); have r1 : w6.cell? ⟨w.heap.size, 1, none⟩ = some (.int .i64 0) := (by simp [go_sem, *]); have r2 : w6.cell? ⟨w.heap.size, 2, none⟩ = some (.slice none 0 0) := (by simp [go_sem, *]); have rf0 : w6.frozen? ⟨w.heap.size, 0, none⟩ = false := (by simp [go_sem, *]); have rf1 : w6.frozen? ⟨w.heap.size, 1, none⟩ = false := (by simp [go_sem, *]); have rf2 : w6.frozen? ⟨w.heap.size, 2, none⟩ = false := (by simp [go_sem, *]); have m0 : w6.cell? ⟨w1.heap.size, 0, none⟩ = some (.int .i64 (rStep t)) := (by simp [go_sem, *]); have m1 : w6.cell? ⟨w1.heap.size, 1, none⟩ = some (.int .i64 (rStart t)) := (by simp [go_sem, *]); have m2 : w6.cell? ⟨w1.heap.size, 2, none⟩ = some (.slice a1 n cap1) := (by simp [go_sem, *]); clear hc1 hc2 hc3 hc4 hc5 hc6 hf1 hf2 hf3 hf4 hf5 hf6 hz1 hz2 hz3 hz4 hz5 hy1 hy2 hy3 hy4 hy5 g1 g2 g3 g4 g5 g6 s1 s2 s3 s4 s5 own1 q1)
    | (go_at_call 19; refine (validMeter_any _ _ _ _ _ V6).mono ?_; rintro e w7 ⟨rfl, hb7⟩; obtain ⟨hc7, hf7⟩ := bcell hb7; have hz7 := hb7.size)
    | (go_at_call 20; refine (checkSum_any _ (rL t n) _ (V6.below hb7) hall hlen).mono ?_; rintro e w8 ⟨rfl, n8, rfl⟩))
  have x0 : w7.cell? ⟨w.heap.size, 0, none⟩ = some (.int .i64 0) := by rw [hc7 _ _ hy6]; exact r0
  have x1 : w7.cell? ⟨w.heap.size, 1, none⟩ = some (.int .i64 0) := by rw [hc7 _ _ hy6]; exact r1
  have x2 : w7.cell? ⟨w.heap.size, 2, none⟩ = some (.slice none 0 0) := by rw [hc7 _ _ hy6]; exact r2
  refine bodyPost_ret (v := .tuple #[.agg #[.int .i64 (rStep t), .int .i64 (rStart t), .slice a1 n cap1], .int .i64 0, .int .i64 0]) (by simp [results, Tryz.results7, go_sem, x0, x1, x2]) rfl ⟨_, rfl, ?_, ?_⟩
  · refine VRow.of_own (base := w.heap.size + 2) (e := 126) (n := n) ?_ (rL_length t n)
    repeat (first | exact own_below O6 hb7 | exact own_below O6 (below_drewN hb7 _) | refine ownsRow_setCell_below ?_ (by simp) _)
  · repeat (first | exact below_then B6 hb7 | refine Below.setCell ?_ (by simp) _ | refine below_drewN ?_ _)

end Go.Proofs.YtjaffmmocbplaabGreatDoor
