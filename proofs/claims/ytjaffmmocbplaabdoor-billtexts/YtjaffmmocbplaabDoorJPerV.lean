/-
  The program's classOf and with (made by tools/genper.py).
-/
import Derived.Test.YtjaffmmocbplaabDoorJ09
namespace Go.Proofs.YtjaffmmocbplaabDoor
open Go.RowKit
set_option linter.unusedVariables false
attribute [local go_sem ↓] Go.wp_at_zero Go.wp_at_succ

theorem hideP {p : Prop} (h : p) : Hid p := h

set_option maxRecDepth 1000000 in
set_option maxHeartbeats 2000000 in
theorem classOf_any (t : Trf) (day : Int) (hr : Nat) (w : World) (ht : badN t = 13) (h0 : 0 ≤ day) (h1 : day ≤ 36524) (hh : hr < 24) :
    Calls Tryd.prog 82 #[.agg #[.int .i64 t.z.off, .int .i64 t.z.f.m, .int .i64 t.z.f.w, .int .i64 t.z.f.d, .int .i64 t.z.f.h, .int .i64 t.z.t.m, .int .i64 t.z.t.w, .int .i64 t.z.t.d, .int .i64 t.z.t.h, .int .i64 t.days, .int .i64 t.gap, .int .i64 t.first, .int .i64 t.last, .string t.h0, .string t.h1, .string t.h2, .string t.h3, .int .i64 t.b0.x, .int .i64 t.b0.y, .int .i64 t.b0.z, .int .i64 t.b1.x, .int .i64 t.b1.y, .int .i64 t.b1.z, .int .i64 t.b2.x, .int .i64 t.b2.y, .int .i64 t.b2.z, .int .i64 t.d.x, .int .i64 t.d.y, .int .i64 t.d.z, .int .i64 t.np, .int .i64 t.nn, .int .i64 t.fix, .int .i64 t.min, .int .i64 t.tax], .int .i64 day, .int .i64 hr] w fun e w' => e = .returned (.int .i64 (clsOf t day hr)) ∧ Below w.heap.size w w' := by
  have hse : (inB t.first 1 t.last && decide (t.last ≤ 12)) = true := badN_good (t := t) (j := 2) (by omega)
  simp only [Bool.and_eq_true, decide_eq_true_eq, inB_iff] at hse
  have we := fun w => isWeekend_any day w h0 h1
  have se := fun w => inSeason_any t day w h0 h1 (by omega) (by omega) (by omega) (by omega)
  have HC : Hid (clsOf t day hr = Txt.byteAt (hrow t (wkB day) (seasB t day)) hr - 65) := by show _ = _; simp [clsOf]
  have hby := hours_byte (hrow_ok ht (wkB day) (seasB t day)) hh
  obtain ⟨a, ha⟩ : ∃ a, a = wkB day := ⟨_, rfl⟩
  obtain ⟨b, hb⟩ : ∃ b, b = seasB t day := ⟨_, rfl⟩
  obtain ⟨C, hC⟩ : ∃ C, C = clsOf t day hr := ⟨_, rfl⟩
  rw [← ha] at we HC hby
  rw [← hb] at se HC hby
  rw [← hC] at HC ⊢
  have hr0 : (0 : Int) ≤ (hr : Int) := by omega
  clear ha hb hC ht hse
  cases a <;> cases b
  · have hs : t.h0.size = 24 := hby.1
    have hlt : hr < t.h0.size := by omega
    have hlt' : (hr : Int) < (t.h0.size : Int) := by omega
    have g : 65 ≤ (t.h0[hr].toNat : Int) ∧ (t.h0[hr].toNat : Int) ≤ 67 := by have := hby.2; rw [show hrow t _ _ = t.h0 from rfl, Txt.byteAt_lt hlt] at this; exact this
    have HD : (C = (t.h0[hr].toNat : Int) - 65) := by have := HC.out; rw [show hrow t _ _ = t.h0 from rfl, Txt.byteAt_lt hlt] at this; exact this
    clear hby HC
    obtain ⟨X, hX⟩ : ∃ X : Int, X = (t.h0[hr].toNat : Int) := ⟨_, rfl⟩
    rw [← hX] at g HD
    have hX' : (t.h0[hr].toNat : Int) = X := hX.symm
    clear hX
    rcases (by omega : (X = 65 ∧ C = 0) ∨ (¬ X = 65 ∧ X = 66 ∧ C = 1) ∨ (¬ X = 65 ∧ ¬ X = 66 ∧ C = 2)) with ⟨q, HE⟩ | ⟨q, q', HE⟩ | ⟨q, q', HE⟩
    case' inl => have b1 : (X == 65) = true := by simpa using q
    case' inr.inl => have b1 : (X == 65) = false := by simpa using q
    case' inr.inl => have b2 : (X == 66) = true := by simpa using q'
    case' inr.inl => clear q'
    case' inr.inr => have b1 : (X == 65) = false := by simpa using q
    case' inr.inr => have b2 : (X == 66) = false := by simpa using q'
    case' inr.inr => clear q'
    all_goals
      have HE' := hideP HE
      clear g HD q HE
      go_enter Tryd.func82, Tryd.ntmps82
      go_wp2_with (first
        | (refine wpList_load_row rfl 54 _ rfl w.heap.size rfl 54 _ (0, 0) _ (heap_alloc_new _ _) Tryd.underlying54 rfl (by kernel_rfl) ?_)
        | (go_at_call 90; refine (we _).mono ?_; rintro e w1 ⟨rfl, rfl⟩)
        | (go_at_call 91; refine (se _).mono ?_; rintro e w2 ⟨rfl, hb2⟩; obtain ⟨hc2, hf2⟩ := bcell hb2))
      go_ret
      exact ⟨ret_int HE'.out.symm, below_then (below_more (Below.refl _ _) _) hb2⟩
  · have hs : t.h2.size = 24 := hby.1
    have hlt : hr < t.h2.size := by omega
    have hlt' : (hr : Int) < (t.h2.size : Int) := by omega
    have g : 65 ≤ (t.h2[hr].toNat : Int) ∧ (t.h2[hr].toNat : Int) ≤ 67 := by have := hby.2; rw [show hrow t _ _ = t.h2 from rfl, Txt.byteAt_lt hlt] at this; exact this
    have HD : (C = (t.h2[hr].toNat : Int) - 65) := by have := HC.out; rw [show hrow t _ _ = t.h2 from rfl, Txt.byteAt_lt hlt] at this; exact this
    clear hby HC
    obtain ⟨X, hX⟩ : ∃ X : Int, X = (t.h2[hr].toNat : Int) := ⟨_, rfl⟩
    rw [← hX] at g HD
    have hX' : (t.h2[hr].toNat : Int) = X := hX.symm
    clear hX
    rcases (by omega : (X = 65 ∧ C = 0) ∨ (¬ X = 65 ∧ X = 66 ∧ C = 1) ∨ (¬ X = 65 ∧ ¬ X = 66 ∧ C = 2)) with ⟨q, HE⟩ | ⟨q, q', HE⟩ | ⟨q, q', HE⟩
    case' inl => have b1 : (X == 65) = true := by simpa using q
    case' inr.inl => have b1 : (X == 65) = false := by simpa using q
    case' inr.inl => have b2 : (X == 66) = true := by simpa using q'
    case' inr.inl => clear q'
    case' inr.inr => have b1 : (X == 65) = false := by simpa using q
    case' inr.inr => have b2 : (X == 66) = false := by simpa using q'
    case' inr.inr => clear q'
    all_goals
      have HE' := hideP HE
      clear g HD q HE
      go_enter Tryd.func82, Tryd.ntmps82
      go_wp2_with (first
        | (refine wpList_load_row rfl 54 _ rfl w.heap.size rfl 54 _ (0, 0) _ (heap_alloc_new _ _) Tryd.underlying54 rfl (by kernel_rfl) ?_)
        | (go_at_call 90; refine (we _).mono ?_; rintro e w1 ⟨rfl, rfl⟩)
        | (go_at_call 91; refine (se _).mono ?_; rintro e w2 ⟨rfl, hb2⟩; obtain ⟨hc2, hf2⟩ := bcell hb2))
      go_ret
      exact ⟨ret_int HE'.out.symm, below_then (below_more (Below.refl _ _) _) hb2⟩
  · have hs : t.h1.size = 24 := hby.1
    have hlt : hr < t.h1.size := by omega
    have hlt' : (hr : Int) < (t.h1.size : Int) := by omega
    have g : 65 ≤ (t.h1[hr].toNat : Int) ∧ (t.h1[hr].toNat : Int) ≤ 67 := by have := hby.2; rw [show hrow t _ _ = t.h1 from rfl, Txt.byteAt_lt hlt] at this; exact this
    have HD : (C = (t.h1[hr].toNat : Int) - 65) := by have := HC.out; rw [show hrow t _ _ = t.h1 from rfl, Txt.byteAt_lt hlt] at this; exact this
    clear hby HC
    obtain ⟨X, hX⟩ : ∃ X : Int, X = (t.h1[hr].toNat : Int) := ⟨_, rfl⟩
    rw [← hX] at g HD
    have hX' : (t.h1[hr].toNat : Int) = X := hX.symm
    clear hX
    rcases (by omega : (X = 65 ∧ C = 0) ∨ (¬ X = 65 ∧ X = 66 ∧ C = 1) ∨ (¬ X = 65 ∧ ¬ X = 66 ∧ C = 2)) with ⟨q, HE⟩ | ⟨q, q', HE⟩ | ⟨q, q', HE⟩
    case' inl => have b1 : (X == 65) = true := by simpa using q
    case' inr.inl => have b1 : (X == 65) = false := by simpa using q
    case' inr.inl => have b2 : (X == 66) = true := by simpa using q'
    case' inr.inl => clear q'
    case' inr.inr => have b1 : (X == 65) = false := by simpa using q
    case' inr.inr => have b2 : (X == 66) = false := by simpa using q'
    case' inr.inr => clear q'
    all_goals
      have HE' := hideP HE
      clear g HD q HE
      go_enter Tryd.func82, Tryd.ntmps82
      go_wp2_with (first
        | (refine wpList_load_row rfl 54 _ rfl w.heap.size rfl 54 _ (0, 0) _ (heap_alloc_new _ _) Tryd.underlying54 rfl (by kernel_rfl) ?_)
        | (go_at_call 90; refine (we _).mono ?_; rintro e w1 ⟨rfl, rfl⟩)
        | (go_at_call 91; refine (se _).mono ?_; rintro e w2 ⟨rfl, hb2⟩; obtain ⟨hc2, hf2⟩ := bcell hb2))
      go_ret
      exact ⟨ret_int HE'.out.symm, below_then (below_more (Below.refl _ _) _) hb2⟩
  · have hs : t.h3.size = 24 := hby.1
    have hlt : hr < t.h3.size := by omega
    have hlt' : (hr : Int) < (t.h3.size : Int) := by omega
    have g : 65 ≤ (t.h3[hr].toNat : Int) ∧ (t.h3[hr].toNat : Int) ≤ 67 := by have := hby.2; rw [show hrow t _ _ = t.h3 from rfl, Txt.byteAt_lt hlt] at this; exact this
    have HD : (C = (t.h3[hr].toNat : Int) - 65) := by have := HC.out; rw [show hrow t _ _ = t.h3 from rfl, Txt.byteAt_lt hlt] at this; exact this
    clear hby HC
    obtain ⟨X, hX⟩ : ∃ X : Int, X = (t.h3[hr].toNat : Int) := ⟨_, rfl⟩
    rw [← hX] at g HD
    have hX' : (t.h3[hr].toNat : Int) = X := hX.symm
    clear hX
    rcases (by omega : (X = 65 ∧ C = 0) ∨ (¬ X = 65 ∧ X = 66 ∧ C = 1) ∨ (¬ X = 65 ∧ ¬ X = 66 ∧ C = 2)) with ⟨q, HE⟩ | ⟨q, q', HE⟩ | ⟨q, q', HE⟩
    case' inl => have b1 : (X == 65) = true := by simpa using q
    case' inr.inl => have b1 : (X == 65) = false := by simpa using q
    case' inr.inl => have b2 : (X == 66) = true := by simpa using q'
    case' inr.inl => clear q'
    case' inr.inr => have b1 : (X == 65) = false := by simpa using q
    case' inr.inr => have b2 : (X == 66) = false := by simpa using q'
    case' inr.inr => clear q'
    all_goals
      have HE' := hideP HE
      clear g HD q HE
      go_enter Tryd.func82, Tryd.ntmps82
      go_wp2_with (first
        | (refine wpList_load_row rfl 54 _ rfl w.heap.size rfl 54 _ (0, 0) _ (heap_alloc_new _ _) Tryd.underlying54 rfl (by kernel_rfl) ?_)
        | (go_at_call 90; refine (we _).mono ?_; rintro e w1 ⟨rfl, rfl⟩)
        | (go_at_call 91; refine (se _).mono ?_; rintro e w2 ⟨rfl, hb2⟩; obtain ⟨hc2, hf2⟩ := bcell hb2))
      go_ret
      exact ⟨ret_int HE'.out.symm, below_then (below_more (Below.refl _ _) _) hb2⟩

end Go.Proofs.YtjaffmmocbplaabDoor
