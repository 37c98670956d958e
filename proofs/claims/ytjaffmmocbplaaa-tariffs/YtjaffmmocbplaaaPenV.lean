/-
  The walk of one value: the document's.
-/
import Derived.Test.YtjaffmmocbplaaaValW
import Derived.Deep.AppendLies
namespace Go.Proofs.Ytjaffmmocbplaaa
open Go.RowKit
set_option linter.unusedVariables false

theorem own_at {w : World} {base g cap n : Nat} {e : TypeId} {l : List Int} (h : w.ownsRow base e 1 (.slice (some ⟨g, 0, none⟩) n cap) n (ints l)) (j : Nat) (hj : j < n) (x : Int) (hx : l[j]? = some x) : w.cell? ⟨g, j, none⟩ = some (.int .i64 x) := by
  rw [h.cellAt j (by omega)]; simp [ints, hx]

set_option maxHeartbeats 1000000 in
theorem penValue_any (t : ByteArray) (s : Txt.Sc) (b : Nat) (w : World) (h : PenAt w b t s) (hbad : s.bad = false) (hs : s.pos ≤ t.size) (ht : t.size ≤ 100000) :
    Calls Try.prog 56 #[.pointer (some ⟨b, 0, none⟩)] w fun e w' => e = .returned (.agg #[.int .i64 (Txt.vstep t s).1.i, .int .i64 (Txt.vstep t s).1.o, .bool (Txt.vstep t s).1.m]) ∧ w.grownBy w' (some b) ∧ PenAt w' b t (Txt.vstep t s).2 := by
  have hb := h.lt
  have hb0 : ¬ w.heap.size = b := by omega
  have hA := h.alloc (.cells #[.int .i64 0, .int .i64 0, .bool false] 115)
  obtain ⟨c, hc⟩ : ∃ c, c = Txt.byteAt t s.pos := ⟨_, rfl⟩
  have hah : ∀ w1, PenAt w1 b t s → Calls Try.prog 55 #[.pointer (some ⟨b, 0, none⟩)] w1 fun e w' => e = .returned (.int .i64 c) ∧ ∃ n, w' = w1.drewN n := fun w1 h1 => by rw [hc]; exact ahead_any t s b w1 h1 ht
  by_cases hq : c = 45
  · have hseen : Txt.seesB t s 45 = true := Txt.seesB_iff.mpr ⟨hbad, by rw [← hc]; exact hq⟩
    have e : Txt.vstep t s = (⟨0, 0, true⟩, Txt.take t ⟨s.pos + 1, false⟩ 10) := by unfold Txt.vstep; rw [if_pos hseen]
    have e2 : Txt.take t s 45 = ⟨s.pos + 1, false⟩ := by unfold Txt.take; rw [if_pos hseen]
    have hlit : ∀ w1, PenAt w1 b t s → Calls Try.prog 80 #[.pointer (some ⟨b, 0, none⟩), .string ⟨#[45, 10]⟩] w1 fun e w' => e = .returned (.tuple #[]) ∧ w1.grownBy w' (some b) ∧ PenAt w' b t (Txt.take t ⟨s.pos + 1, false⟩ 10) := fun w1 h1 => by
      have := lit_any t s ⟨#[45, 10]⟩ b w1 h1 hs ht (by show 2 ≤ 1000; omega)
      rw [← e2]; exact this
    rw [e]
    have hqB : (c == 45) = true := by simpa using hq
    clear e e2 hq hc
    go_enter Try.func56, Try.ntmps56
    go_wp2_with (first
      | (go_at_call 55; refine (hah _ hA).mono ?_; rintro e w1 ⟨rfl, n1, rfl⟩)
      | (go_at_call 80; refine (hlit _ (hA.drewN _)).mono ?_; rintro e w2 ⟨rfl, g2, s2⟩; obtain ⟨hc2, hf2⟩ := gcell g2))
    have r0 : w2.cell? ⟨w.heap.size, 0, none⟩ = some (.int .i64 0) := by simp [go_sem, *]
    have r1 : w2.cell? ⟨w.heap.size, 1, none⟩ = some (.int .i64 0) := by simp [go_sem, *]
    have r2 : w2.cell? ⟨w.heap.size, 2, none⟩ = some (.bool false) := by simp [go_sem, *]
    refine bodyPost_ret (v := .agg #[.int .i64 0, .int .i64 0, .bool true]) (by simp [results, Try.results56, go_sem, r0, r1, r2]) rfl ⟨rfl, ?_, ?_⟩
    · have G := grown_trans (grown_drewN (grown_alloc (grown_refl w (some b)) _) n1) g2
      repeat (first | exact G | refine grown_own ?_ (by omega) _)
    · repeat (first | exact s2 | refine PenAt.other ?_ hb0 _ _)
  · have hseen : Txt.seesB t s 45 = false := by
      cases g : Txt.seesB t s 45
      · rfl
      · exact absurd ((Txt.seesB_iff.mp g).2) (by rw [← hc]; exact hq)
    have e : Txt.vstep t s = (⟨(Txt.num t 9 s).1, (Txt.field t 9 (Txt.num t 9 s).2).1, false⟩, Txt.take t (Txt.field t 9 (Txt.num t 9 s).2).2 10) := by unfold Txt.vstep; rw [if_neg (by simp [hseen])]
    rw [e]
    have hqB : (c == 45) = false := by simpa using hq
    clear e hq hc hseen
    have h1le : (Txt.num t 9 s).2.pos ≤ t.size := Txt.num_le hs
    obtain ⟨A, hAe⟩ : ∃ A, A = Txt.num t 9 s := ⟨_, rfl⟩
    have hnum : ∀ w1, PenAt w1 b t s → Calls Try.prog 81 #[.pointer (some ⟨b, 0, none⟩), .int .i64 9] w1 fun e w' => e = .returned (.int .i64 A.1) ∧ w1.grownBy w' (some b) ∧ PenAt w' b t A.2 := fun w1 h1 => by rw [hAe]; exact penNumber_any t s 9 b w1 h1 hs ht (by omega) (by omega)
    rw [← hAe] at h1le ⊢
    clear hAe
    obtain ⟨F, hFe⟩ : ∃ F, F = Txt.field t 9 A.2 := ⟨_, rfl⟩
    have hln : ∀ w1, PenAt w1 b t A.2 → Calls Try.prog 54 #[.pointer (some ⟨b, 0, none⟩), .string ⟨#[]⟩, .int .i64 1, .int .i64 9] w1 fun e w' => ∃ v, e = .returned v ∧ w'.ownsRow w1.heap.size 3 1 v 1 (ints [F.1]) ∧ w1.grownBy w' (some b) ∧ PenAt w' b t (Txt.take t F.2 10) := fun w1 h1 => by
      rw [hFe]; exact line_any t A.2 ⟨#[]⟩ 1 9 b w1 h1 h1le ht (by show 0 ≤ 1000; omega) (by omega) (by omega) (by omega)
    rw [← hFe]
    clear hFe
    go_enter Try.func56, Try.ntmps56
    go_wp2_with (first
      | (go_at_call 55; refine (hah _ hA).mono ?_; rintro e w1 ⟨rfl, n1, rfl⟩)
      | (go_at_call 81; refine (hnum _ (hA.drewN _)).mono ?_; rintro e w2 ⟨rfl, g2, s2⟩; obtain ⟨hc2, hf2⟩ := gcell g2; have hz2 : w.heap.size < w2.heap.size := (by have := g2.size; simp at this; omega))
      | (go_at_call 54; refine (hln _ s2).mono ?_; rintro e w3 ⟨v, rfl, own3, g3, s3⟩; obtain ⟨hc3, hf3⟩ := gcell g3; have hz3 : w.heap.size < w3.heap.size := (by have := g3.size; omega); obtain ⟨q, cap, rfl, hq1, hq2⟩ := own3.form (by omega); have kq := own_at own3 0 (by omega) F.1 rfl; clear own3))
    have r0 : w3.cell? ⟨w.heap.size, 0, none⟩ = some (.int .i64 0) := by simp [go_sem, *]
    have r1 : w3.cell? ⟨w.heap.size, 1, none⟩ = some (.int .i64 0) := by simp [go_sem, *]
    have r2 : w3.cell? ⟨w.heap.size, 2, none⟩ = some (.bool false) := by simp [go_sem, *]
    refine bodyPost_ret (v := .agg #[.int .i64 A.1, .int .i64 F.1, .bool false]) (by simp [results, Try.results56, go_sem, r0, r1, r2]) rfl ⟨rfl, ?_, ?_⟩
    · have G := grown_trans (grown_trans (grown_drewN (grown_alloc (grown_refl w (some b)) _) n1) g2) g3
      repeat (first | exact G | refine grown_own ?_ (by omega) _)
    · repeat (first | exact s3 | refine PenAt.other ?_ hb0 _ _)

end Go.Proofs.Ytjaffmmocbplaaa
