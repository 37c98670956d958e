/-
  The walks of one value: the program's and the document's.
-/
import Derived.Test.YtjaffmmocbplaabGreatDoorJ03
import Derived.Test.YtjaffmmocbplaabGreatDoorJVals
namespace Go.Proofs.YtjaffmmocbplaabGreatDoor
open Go.RowKit
set_option linter.unusedVariables false

theorem gcell {W w1 : World} {b : Nat} (hg : W.grownBy w1 (some b)) : (∀ k o, k < W.heap.size → ¬ k = b → w1.cell? ⟨k, o, none⟩ = W.cell? ⟨k, o, none⟩) ∧ (∀ k o, k < W.heap.size → ¬ k = b → w1.frozen? ⟨k, o, none⟩ = W.frozen? ⟨k, o, none⟩) :=
  ⟨fun k o hk hb => World.cell?_of_block (a := ⟨k, o, none⟩) (hg.block k hk (by simpa using hb)), fun k o hk hb => World.frozen?_of_block (a := ⟨k, o, none⟩) (hg.block k hk (by simpa using hb))⟩
theorem ScanAt.other {w : World} {b : Nat} {t : ByteArray} {s : Txt.Sc} (h : ScanAt w b t s) {k : Nat} (hk : ¬ k = b) (o : Nat) (v : Value) : ScanAt (w.setCell ⟨k, o, none⟩ v) b t s :=
  h.grown (grown_setCell (grown_refl _ _) v) (by simpa using hk)
theorem PenAt.other {w : World} {b : Nat} {t : ByteArray} {s : Txt.Sc} (h : PenAt w b t s) {k : Nat} (hk : ¬ k = b) (o : Nat) (v : Value) : PenAt (w.setCell ⟨k, o, none⟩ v) b t s :=
  h.grown (grown_setCell (grown_refl _ _) v) (by simpa using hk)
/-- a store into a block that the call has made -/
theorem grown_own {a w : World} {r : Option Nat} {k o : Nat} (h : a.grownBy w r) (hk : a.heap.size ≤ k) (v : Value) : a.grownBy (w.setCell ⟨k, o, none⟩ v) r :=
  grown_fresh h (grown_setCell (o := o) (grown_refl w (some k)) v) (fun j hj => by cases hj; exact hk)

set_option maxHeartbeats 1000000 in
theorem value_any (t : ByteArray) (s : Txt.Sc) (b : Nat) (w : World) (h : ScanAt w b t s) (hs : s.pos ≤ t.size) (ht : t.size ≤ 100000) :
    Calls Tryz.prog 52 #[.pointer (some ⟨b, 0, none⟩)] w fun e w' => e = .returned (.agg #[.int .i64 (Txt.vstep t s).1.i, .int .i64 (Txt.vstep t s).1.o, .bool (Txt.vstep t s).1.m]) ∧ w.grownBy w' (some b) ∧ ScanAt w' b t (Txt.vstep t s).2 := by
  have hb := h.lt
  have hb0 : ¬ w.heap.size = b := by omega
  have hb1 : ¬ w.heap.size + 1 = b := by omega
  have hA := (h.alloc (.cells #[.int .i64 0, .int .i64 0, .bool false] 126)).alloc (.cells #[.int .i64 0, .int .i64 0, .bool false] 126)
  cases hq : Txt.seesB t s 45
  case true =>
    obtain ⟨q1, q2⟩ := Txt.seesB_iff.mp hq
    have hlt : s.pos < t.size := Txt.lt_of_byteAt (by rw [q2]; omega)
    have e : Txt.vstep t s = (⟨0, 0, true⟩, Txt.take t ⟨s.pos + 1, false⟩ 10) := by unfold Txt.vstep; rw [if_pos hq]
    rw [e]
    have k1 := hA.c1
    have kf1 := hA.f1
    clear e q2
    go_enter Tryz.func52, Tryz.ntmps52
    go_wp2_with (first
      | (go_at_call 51; refine (sees_any t s 45 b _ hA (by omega) ht).mono ?_; rintro e w1 ⟨rfl, n1, rfl⟩)
      | (go_at_call 16; refine (take_any t ⟨s.pos + 1, false⟩ 10 b _ (by have := ((hA.drewN n1).moved (s.pos + 1) ((s.pos : Int) + 1) (by omega)).other (k := w.heap.size + 1) hb1 2 (.bool true); rw [q1] at this; exact this) (by omega) (by show s.pos + 1 ≤ t.size; omega) ht).mono ?_; rintro e w2 ⟨rfl, g2, s2⟩; obtain ⟨hc2, hf2⟩ := gcell g2; have hz2 : w.heap.size + 1 < w2.heap.size := (by have := g2.size; simp at this; omega); have hy2 : w.heap.size < w2.heap.size := (by omega)))
    have r0 : w2.cell? ⟨w.heap.size, 0, none⟩ = some (.int .i64 0) := by simp [go_sem, *]
    have r1 : w2.cell? ⟨w.heap.size, 1, none⟩ = some (.int .i64 0) := by simp [go_sem, *]
    have r2 : w2.cell? ⟨w.heap.size, 2, none⟩ = some (.bool false) := by simp [go_sem, *]
    refine bodyPost_ret (v := .agg #[.int .i64 0, .int .i64 0, .bool true]) (by simp [results, Tryz.results52, go_sem, r0, r1, r2]) rfl ⟨rfl, ?_, ?_⟩
    · have G := grown_trans (grown_own (grown_setCell (o := 1) (grown_drewN (grown_alloc (grown_alloc (grown_refl w (some b)) _) _) n1) (.int .i64 ((s.pos : Int) + 1))) (k := w.heap.size + 1) (by omega) (.bool true)) g2
      repeat (first | exact G | refine grown_own ?_ (by omega) _)
    · repeat (first | exact s2 | refine ScanAt.other ?_ hb0 _ _)
  case false =>
    have e : Txt.vstep t s = (⟨(Txt.num t 9 s).1, (Txt.field t 9 (Txt.num t 9 s).2).1, false⟩, Txt.take t (Txt.field t 9 (Txt.num t 9 s).2).2 10) := by unfold Txt.vstep; rw [if_neg (by simp [hq])]
    rw [e]
    clear e
    have h1le : (Txt.num t 9 s).2.pos ≤ t.size := Txt.num_le hs
    have h2le : (Txt.field t 9 (Txt.num t 9 s).2).2.pos ≤ t.size := Txt.field_le h1le
    obtain ⟨A, hAe⟩ : ∃ A, A = Txt.num t 9 s := ⟨_, rfl⟩
    have hnum := fun w h => number_any t s b w h hs ht
    rw [← hAe] at h1le h2le hnum ⊢
    clear hAe
    obtain ⟨F, hFe⟩ : ∃ F, F = Txt.field t 9 A.2 := ⟨_, rfl⟩
    have hfld := fun w h => field_any t A.2 b w h h1le ht
    rw [← hFe] at h2le hfld ⊢
    clear hFe
    go_enter Tryz.func52, Tryz.ntmps52
    go_wp2_with (first
      | (go_at_call 51; refine (sees_any t s 45 b _ hA (by omega) ht).mono ?_; rintro e w1 ⟨rfl, n1, rfl⟩)
      | (go_at_call 53; refine (hnum _ (hA.drewN _)).mono ?_; rintro e w2 ⟨rfl, g2, s2⟩; obtain ⟨hc2, hf2⟩ := gcell g2; have hz2 : w.heap.size + 1 < w2.heap.size := (by have := g2.size; simp at this; omega); have hy2 : w.heap.size < w2.heap.size := (by omega))
      | (go_at_call 17; refine (hfld _ (s2.other hb1 _ _)).mono ?_; rintro e w3 ⟨rfl, g3, s3⟩; obtain ⟨hc3, hf3⟩ := gcell g3; have hz3 : w.heap.size + 1 < w3.heap.size := (by have := g3.size; simp at this; omega); have hy3 : w.heap.size < w3.heap.size := (by omega))
      | (go_at_call 16; refine (take_any t F.2 10 b _ (s3.other hb1 _ _) (by omega) h2le ht).mono ?_; rintro e w4 ⟨rfl, g4, s4⟩; obtain ⟨hc4, hf4⟩ := gcell g4; have hz4 : w.heap.size + 1 < w4.heap.size := (by have := g4.size; simp at this; omega); have hy4 : w.heap.size < w4.heap.size := (by omega)))
    have r0 : w4.cell? ⟨w.heap.size, 0, none⟩ = some (.int .i64 0) := by simp [go_sem, *]
    have r1 : w4.cell? ⟨w.heap.size, 1, none⟩ = some (.int .i64 0) := by simp [go_sem, *]
    have r2 : w4.cell? ⟨w.heap.size, 2, none⟩ = some (.bool false) := by simp [go_sem, *]
    refine bodyPost_ret (v := .agg #[.int .i64 A.1, .int .i64 F.1, .bool false]) (by simp [results, Tryz.results52, go_sem, r0, r1, r2]) rfl ⟨rfl, ?_, ?_⟩
    · have G := grown_trans (grown_own (grown_trans (grown_own (grown_trans (grown_drewN (grown_alloc (grown_alloc (grown_refl w (some b)) _) _) n1) g2) (k := w.heap.size + 1) (by omega) _) g3) (k := w.heap.size + 1) (by omega) _) g4
      repeat (first | exact G | refine grown_own ?_ (by omega) _)
    · repeat (first | exact s4 | refine ScanAt.other ?_ hb0 _ _)

end Go.Proofs.YtjaffmmocbplaabGreatDoor
