/-
  PerV, ClockX in one text.
-/
import Derived.Test.YtjaffmmocbplaabGreatDoorJ09
import Derived.Test.YtjaffmmocbplaabGreatDoorJ08
namespace Go.Proofs.YtjaffmmocbplaabGreatDoor
open Go.RowKit
set_option linter.unusedVariables false
attribute [local go_sem ↓] Go.wp_at_zero Go.wp_at_succ

theorem hideP {p : Prop} (h : p) : Hid p := h

set_option maxRecDepth 1000000 in
set_option maxHeartbeats 2000000 in
theorem classOf_any (t : Trf) (day : Int) (hr : Nat) (w : World) (ht : badN t = 13) (h0 : 0 ≤ day) (h1 : day ≤ 36524) (hh : hr < 24) :
    Calls Tryz.prog 89 #[.agg #[.int .i64 t.z.off, .int .i64 t.z.f.m, .int .i64 t.z.f.w, .int .i64 t.z.f.d, .int .i64 t.z.f.h, .int .i64 t.z.t.m, .int .i64 t.z.t.w, .int .i64 t.z.t.d, .int .i64 t.z.t.h, .int .i64 t.days, .int .i64 t.gap, .int .i64 t.first, .int .i64 t.last, .string t.h0, .string t.h1, .string t.h2, .string t.h3, .int .i64 t.b0.x, .int .i64 t.b0.y, .int .i64 t.b0.z, .int .i64 t.b1.x, .int .i64 t.b1.y, .int .i64 t.b1.z, .int .i64 t.b2.x, .int .i64 t.b2.y, .int .i64 t.b2.z, .int .i64 t.d.x, .int .i64 t.d.y, .int .i64 t.d.z, .int .i64 t.np, .int .i64 t.nn, .int .i64 t.fix, .int .i64 t.min, .int .i64 t.tax], .int .i64 day, .int .i64 hr] w fun e w' => e = .returned (.int .i64 (clsOf t day hr)) ∧ Below w.heap.size w w' := by
  have hse : (inB t.first 1 t.last && decide (t.last ≤ 12)) = true := badN_good (t := t) (j := 2) (by omega)
  simp only [Bool.and_eq_true, decide_eq_true_eq, inB_iff] at hse
  have we := fun w => isWeekend_any day w h0 h1
  have se := fun w => inSeason_any t day w h0 h1 (by omega) (by omega) (by omega) (by omega)
  have HC : Hid (clsOf t day hr = Txt.byteAt (hrow t (wkB day) (seasB t day)) hr - 65) := by show _ = _; simp [clsOf]
  have hby := hours_byte (hrow_ok ht (wkB day) (seasB t day)) hh
  obtain ⟨a, ha⟩ : ∃ a, a = wkB day := ⟨_, rfl⟩
  obtain ⟨b, hb⟩ : ∃ b, b = seasB t day := ⟨_, rfl⟩
  obtain ⟨C, hC⟩ : ∃ C, C = clsOf t day hr := ⟨_, rfl⟩
  rw [← ha] at we HC hby
  rw [← hb] at se HC hby
  rw [← hC] at HC ⊢
  have hr0 : (0 : Int) ≤ (hr : Int) := by omega
  clear ha hb hC ht hse
  cases a <;> cases b
  · have hs : t.h0.size = 24 := hby.1
    have hlt : hr < t.h0.size := by omega
    have hlt' : (hr : Int) < (t.h0.size : Int) := by omega
    have g : 65 ≤ (t.h0[hr].toNat : Int) ∧ (t.h0[hr].toNat : Int) ≤ 67 := by have := hby.2; rw [show hrow t _ _ = t.h0 from rfl, Txt.byteAt_lt hlt] at this; exact this
    have HD : (C = (t.h0[hr].toNat : Int) - 65) := by have := HC.out; rw [show hrow t _ _ = t.h0 from rfl, Txt.byteAt_lt hlt] at this; exact this
    clear hby HC
    obtain ⟨X, hX⟩ : ∃ X : Int, X = (t.h0[hr].toNat : Int) := ⟨_, rfl⟩
    rw [← hX] at g HD
    have hX' : (t.h0[hr].toNat : Int) = X := hX.symm
    clear hX
    rcases (by omega : (X = 65 ∧ C = 0) ∨ (¬ X = 65 ∧ X = 66 ∧ C = 1) ∨ (¬ X = 65 ∧ ¬ X = 66 ∧ C = 2)) with ⟨q, HE⟩ | ⟨q, q', HE⟩ | ⟨q, q', HE⟩
    case' inl => have b1 : (X == 65) = true := by simpa using q
    case' inr.inl => have b1 : (X == 65) = false := by simpa using q
    case' inr.inl => have b2 : (X == 66) = true := by simpa using q'
    case' inr.inl => clear q'
    case' inr.inr => have b1 : (X == 65) = false := by simpa using q
    case' inr.inr => have b2 : (X == 66) = false := by simpa using q'
    case' inr.inr => clear q'
    all_goals
      have HE' := hideP HE
      clear g HD q HE
      go_enter Tryz.func89, Tryz.ntmps89
      go_wp2_with (first
        | (refine wpList_load_row rfl 47 _ rfl w.heap.size rfl 47 _ (0, 0) _ (heap_alloc_new _ _) Tryz.underlying47 rfl (by kernel_rfl) ?_)
        | (go_at_call 102; refine (we _).mono ?_; rintro e w1 ⟨rfl, rfl⟩)
        | (go_at_call 103; refine (se _).mono ?_; rintro e w2 ⟨rfl, hb2⟩; obtain ⟨hc2, hf2⟩ := bcell hb2))
      go_ret
      exact ⟨ret_int HE'.out.symm, below_then (below_more (Below.refl _ _) _) hb2⟩
  · have hs : t.h2.size = 24 := hby.1
    have hlt : hr < t.h2.size := by omega
    have hlt' : (hr : Int) < (t.h2.size : Int) := by omega
    have g : 65 ≤ (t.h2[hr].toNat : Int) ∧ (t.h2[hr].toNat : Int) ≤ 67 := by have := hby.2; rw [show hrow t _ _ = t.h2 from rfl, Txt.byteAt_lt hlt] at this; exact this
    have HD : (C = (t.h2[hr].toNat : Int) - 65) := by have := HC.out; rw [show hrow t _ _ = t.h2 from rfl, Txt.byteAt_lt hlt] at this; exact this
    clear hby HC
    obtain ⟨X, hX⟩ : ∃ X : Int, X = (t.h2[hr].toNat : Int) := ⟨_, rfl⟩
    rw [← hX] at g HD
    have hX' : (t.h2[hr].toNat : Int) = X := hX.symm
    clear hX
    rcases (by omega : (X = 65 ∧ C = 0) ∨ (¬ X = 65 ∧ X = 66 ∧ C = 1) ∨ (¬ X = 65 ∧ ¬ X = 66 ∧ C = 2)) with ⟨q, HE⟩ | ⟨q, q', HE⟩ | ⟨q, q', HE⟩
    case' inl => have b1 : (X == 65) = true := by simpa using q
    case' inr.inl => have b1 : (X == 65) = false := by simpa using q
    case' inr.inl => have b2 : (X == 66) = true := by simpa using q'
    case' inr.inl => clear q'
    case' inr.inr => have b1 : (X == 65) = false := by simpa using q
    case' inr.inr => have b2 : (X == 66) = false := by simpa using q'
    case' inr.inr => clear q'
    all_goals
      have HE' := hideP HE
      clear g HD q HE
      go_enter Tryz.func89, Tryz.ntmps89
      go_wp2_with (first
        | (refine wpList_load_row rfl 47 _ rfl w.heap.size rfl 47 _ (0, 0) _ (heap_alloc_new _ _) Tryz.underlying47 rfl (by kernel_rfl) ?_)
        | (go_at_call 102; refine (we _).mono ?_; rintro e w1 ⟨rfl, rfl⟩)
        | (go_at_call 103; refine (se _).mono ?_; rintro e w2 ⟨rfl, hb2⟩; obtain ⟨hc2, hf2⟩ := bcell hb2))
      go_ret
      exact ⟨ret_int HE'.out.symm, below_then (below_more (Below.refl _ _) _) hb2⟩
  · have hs : t.h1.size = 24 := hby.1
    have hlt : hr < t.h1.size := by omega
    have hlt' : (hr : Int) < (t.h1.size : Int) := by omega
    have g : 65 ≤ (t.h1[hr].toNat : Int) ∧ (t.h1[hr].toNat : Int) ≤ 67 := by have := hby.2; rw [show hrow t _ _ = t.h1 from rfl, Txt.byteAt_lt hlt] at this; exact this
    have HD : (C = (t.h1[hr].toNat : Int) - 65) := by have := HC.out; rw [show hrow t _ _ = t.h1 from rfl, Txt.byteAt_lt hlt] at this; exact this
    clear hby HC
    obtain ⟨X, hX⟩ : ∃ X : Int, X = (t.h1[hr].toNat : Int) := ⟨_, rfl⟩
    rw [← hX] at g HD
    have hX' : (t.h1[hr].toNat : Int) = X := hX.symm
    clear hX
    rcases (by omega : (X = 65 ∧ C = 0) ∨ (¬ X = 65 ∧ X = 66 ∧ C = 1) ∨ (¬ X = 65 ∧ ¬ X = 66 ∧ C = 2)) with ⟨q, HE⟩ | ⟨q, q', HE⟩ | ⟨q, q', HE⟩
    case' inl => have b1 : (X == 65) = true := by simpa using q
    case' inr.inl => have b1 : (X == 65) = false := by simpa using q
    case' inr.inl => have b2 : (X == 66) = true := by simpa using q'
    case' inr.inl => clear q'
    case' inr.inr => have b1 : (X == 65) = false := by simpa using q
    case' inr.inr => have b2 : (X == 66) = false := by simpa using q'
    case' inr.inr => clear q'
    all_goals
      have HE' := hideP HE
      clear g HD q HE
      go_enter Tryz.func89, Tryz.ntmps89
      go_wp2_with (first
        | (refine wpList_load_row rfl 47 _ rfl w.heap.size rfl 47 _ (0, 0) _ (heap_alloc_new _ _) Tryz.underlying47 rfl (by kernel_rfl) ?_)
        | (go_at_call 102; refine (we _).mono ?_; rintro e w1 ⟨rfl, rfl⟩)
        | (go_at_call 103; refine (se _).mono ?_; rintro e w2 ⟨rfl, hb2⟩; obtain ⟨hc2, hf2⟩ := bcell hb2))
      go_ret
      exact ⟨ret_int HE'.out.symm, below_then (below_more (Below.refl _ _) _) hb2⟩
  · have hs : t.h3.size = 24 := hby.1
    have hlt : hr < t.h3.size := by omega
    have hlt' : (hr : Int) < (t.h3.size : Int) := by omega
    have g : 65 ≤ (t.h3[hr].toNat : Int) ∧ (t.h3[hr].toNat : Int) ≤ 67 := by have := hby.2; rw [show hrow t _ _ = t.h3 from rfl, Txt.byteAt_lt hlt] at this; exact this
    have HD : (C = (t.h3[hr].toNat : Int) - 65) := by have := HC.out; rw [show hrow t _ _ = t.h3 from rfl, Txt.byteAt_lt hlt] at this; exact this
    clear hby HC
    obtain ⟨X, hX⟩ : ∃ X : Int, X = (t.h3[hr].toNat : Int) := ⟨_, rfl⟩
    rw [← hX] at g HD
    have hX' : (t.h3[hr].toNat : Int) = X := hX.symm
    clear hX
    rcases (by omega : (X = 65 ∧ C = 0) ∨ (¬ X = 65 ∧ X = 66 ∧ C = 1) ∨ (¬ X = 65 ∧ ¬ X = 66 ∧ C = 2)) with ⟨q, HE⟩ | ⟨q, q', HE⟩ | ⟨q, q', HE⟩
    case' inl => have b1 : (X == 65) = true := by simpa using q
    case' inr.inl => have b1 : (X == 65) = false := by simpa using q
    case' inr.inl => have b2 : (X == 66) = true := by simpa using q'
    case' inr.inl => clear q'
    case' inr.inr => have b1 : (X == 65) = false := by simpa using q
    case' inr.inr => have b2 : (X == 66) = false := by simpa using q'
    case' inr.inr => clear q'
    all_goals
      have HE' := hideP HE
      clear g HD q HE
      go_enter Tryz.func89, Tryz.ntmps89
      go_wp2_with (first
        | (refine wpList_load_row rfl 47 _ rfl w.heap.size rfl 47 _ (0, 0) _ (heap_alloc_new _ _) Tryz.underlying47 rfl (by kernel_rfl) ?_)
        | (go_at_call 102; refine (we _).mono ?_; rintro e w1 ⟨rfl, rfl⟩)
        | (go_at_call 103; refine (se _).mono ?_; rintro e w2 ⟨rfl, hb2⟩; obtain ⟨hc2, hf2⟩ := bcell hb2))
      go_ret
      exact ⟨ret_int HE'.out.symm, below_then (below_more (Below.refl _ _) _) hb2⟩

end Go.Proofs.YtjaffmmocbplaabGreatDoor

namespace Go.Proofs.YtjaffmmocbplaabGreatDoor
open Go.RowKit
set_option linter.unusedVariables false

theorem day_bd (s : Int) (h1 : 0 ≤ s) (h2 : s ≤ 52595999) : 0 ≤ s / 1440 ∧ s / 1440 ≤ 36524 := by omega

set_option maxHeartbeats 1000000 in
theorem isSummer_any (z : Zon.Zn) (s : Int) (w : World) (hz : Zon.zoneB z = true) (h1 : 0 ≤ s) (h2 : s ≤ 52595999) :
    Calls Tryz.prog 101 #[.agg #[.int .i64 z.off, .int .i64 z.f.m, .int .i64 z.f.w, .int .i64 z.f.d, .int .i64 z.f.h, .int .i64 z.t.m, .int .i64 z.t.w, .int .i64 z.t.d, .int .i64 z.t.h], .int .i64 s] w fun e w' => e = .returned (.bool (Zon.sumB z s)) ∧ Below w.heap.size w w' := by
  obtain ⟨ho, hc⟩ := Zon.zone_cases hz
  rcases hc with ⟨n1, n2⟩ | ⟨nn, nf, r1, r2, hm⟩
  · have nn : (Zon.noneB z.f && Zon.noneB z.t) = true := by simp [n1, n2]
    have hS : Hid (Zon.sumB z s = false) := (by simp [Zon.sumB, n1, n2] : Zon.sumB z s = false)
    clear n1 n2 hz
    go_enter Tryz.func101, Tryz.ntmps101
    go_wp2_with (go_at_call 83; refine (hasSummer_any z _).mono ?_; rintro e w1 ⟨rfl, hb⟩)
    go_ret
    exact ⟨by rw [hS.out]; rfl, ((Below.refl _ _).alloc (Nat.le_refl _) _).trans (hb.mono (by simp))⟩
  · obtain ⟨d1, d2⟩ := day_bd s h1 h2
    obtain ⟨y, hy⟩ : ∃ y, y = Cal.yr (s / 1440) := ⟨_, rfl⟩
    obtain ⟨yb1, yb2⟩ : 2000 ≤ y ∧ y ≤ 2099 := by rw [hy]; exact Cal.yr_bd _ d1 d2
    have yc : ∀ w, Calls Tryz.prog 108 #[.int .i64 (s / 1440)] w fun e w' => e = .returned (.int .i64 y) ∧ w' = w := fun w => by rw [hy]; exact yearOf_any _ w d1 d2
    have hS : Hid (Zon.sumB z s = if z.f.m < z.t.m then decide (Zon.mom z.f y ≤ s) && decide (s < Zon.mom z.t y) else decide (s < Zon.mom z.t y) || decide (Zon.mom z.f y ≤ s)) := by
      show Zon.sumB z s = _
      simp only [Zon.sumB, nn, hy]; rfl
    have m1 := Zon.mom_bd z.f y r1 yb1 yb2
    have m2 := Zon.mom_bd z.t y r2 yb1 yb2
    clear hz hy nf hm
    by_cases hlt : z.f.m < z.t.m
    · by_cases hfs : Zon.mom z.f y ≤ s
      all_goals
        go_enter Tryz.func101, Tryz.ntmps101
        go_wp2_with (first
          | (go_at_call 83; refine (hasSummer_any z _).mono ?_; rintro e w1 ⟨rfl, hb⟩; obtain ⟨hc, hf⟩ := bcell hb; have hz : w.heap.size < w1.heap.size := by have := hb.size; simp at this; omega)
          | (go_at_call 108; refine (yc _).mono ?_; rintro e w' ⟨rfl, rfl⟩)
          | (go_at_call 109; have _ := hb2; refine (moment_any z.t y _ r2 yb1 yb2).mono ?_; rintro e w3 ⟨rfl, hb3⟩; obtain ⟨hc3, hf3⟩ := bcell hb3)
          | (go_at_call 109; refine (moment_any z.f y _ r1 yb1 yb2).mono ?_; rintro e w2 ⟨rfl, hb2⟩; obtain ⟨hc2, hf2⟩ := bcell hb2; have hz2 : w.heap.size < w2.heap.size := by have := hb2.size; omega))
        go_ret
        exact ⟨by rw [hS.out]; simp [hlt, hfs] <;> omega, ((((Below.refl _ _).alloc (Nat.le_refl _) _).trans (hb.mono (by simp))).trans (hb2.mono (by omega))).trans (hb3.mono (by omega))⟩
    · by_cases hst : s < Zon.mom z.t y
      all_goals
        go_enter Tryz.func101, Tryz.ntmps101
        go_wp2_with (first
          | (go_at_call 83; refine (hasSummer_any z _).mono ?_; rintro e w1 ⟨rfl, hb⟩; obtain ⟨hc, hf⟩ := bcell hb; have hz : w.heap.size < w1.heap.size := by have := hb.size; simp at this; omega)
          | (go_at_call 108; refine (yc _).mono ?_; rintro e w' ⟨rfl, rfl⟩)
          | (go_at_call 109; have _ := hb2; refine (moment_any z.t y _ r2 yb1 yb2).mono ?_; rintro e w3 ⟨rfl, hb3⟩; obtain ⟨hc3, hf3⟩ := bcell hb3)
          | (go_at_call 109; refine (moment_any z.f y _ r1 yb1 yb2).mono ?_; rintro e w2 ⟨rfl, hb2⟩; obtain ⟨hc2, hf2⟩ := bcell hb2; have hz2 : w.heap.size < w2.heap.size := by have := hb2.size; omega))
        go_ret
        exact ⟨by rw [hS.out, if_neg (by omega)]; simp [hst] <;> omega, ((((Below.refl _ _).alloc (Nat.le_refl _) _).trans (hb.mono (by simp))).trans (hb2.mono (by omega))).trans (hb3.mono (by omega))⟩

set_option maxHeartbeats 1000000 in
theorem Clock_no (z : Zon.Zn) (n : Int) (w : World) (h : Zon.clockB z n = false) :
    Calls Tryz.prog 88 #[.agg #[.int .i64 z.off, .int .i64 z.f.m, .int .i64 z.f.w, .int .i64 z.f.d, .int .i64 z.f.h, .int .i64 z.t.m, .int .i64 z.t.w, .int .i64 z.t.d, .int .i64 z.t.h], .int .i64 n] w fun e w' => e = .returned (.tuple #[.int .i64 0, .int .i64 0, .int .i64 3]) ∧ Below w.heap.size w w' := by
  cases hz : Zon.zoneB z
  case false =>
    clear h
    go_enter Tryz.func88, Tryz.ntmps88
    go_wp2_with (first | (go_at_call 61; refine (validZone_any z _).mono ?_; rintro e w1 ⟨rfl, hb⟩))
    go_ret3
    exact ⟨rfl, ((Below.refl _ _).alloc (Nat.le_refl _) _).trans (hb.mono (by simp))⟩
  case true =>
    cases h1 : inB n 0 52595999
    case false =>
      clear h
      go_enter Tryz.func88, Tryz.ntmps88
      go_wp2_with (first | (go_at_call 61; refine (validZone_any z _).mono ?_; rintro e w1 ⟨rfl, hb⟩) | (go_at_call 54; refine (within_any _ _ _ _).mono ?_; rintro e w' ⟨rfl, rfl⟩))
      go_ret3
      exact ⟨rfl, ((Below.refl _ _).alloc (Nat.le_refl _) _).trans (hb.mono (by simp))⟩
    case true =>
      obtain ⟨n1, n2⟩ := inB_iff.mp h1
      obtain ⟨⟨o1, o2⟩, _⟩ := Zon.zone_cases hz
      cases h2 : inB (n + z.off) 0 52595999
      case false =>
        clear h
        go_enter Tryz.func88, Tryz.ntmps88
        go_wp2_with (first | (go_at_call 61; refine (validZone_any z _).mono ?_; rintro e w1 ⟨rfl, hb⟩; obtain ⟨hc, hf⟩ := bcell hb; have hz : w.heap.size < w1.heap.size := by have := hb.size; simp at this; omega) | (go_at_call 54; refine (within_any _ _ _ _).mono ?_; rintro e w' ⟨rfl, rfl⟩))
        go_ret3
        exact ⟨rfl, ((Below.refl _ _).alloc (Nat.le_refl _) _).trans (hb.mono (by simp))⟩
      case true =>
        obtain ⟨m1, m2⟩ := inB_iff.mp h2
        have h3 : 52595999 < Zon.there z n := by simp [Zon.clockB, hz, h1, h2] at h; omega
        have hs : Zon.sumB z (n + z.off) = true := by
          cases g : Zon.sumB z (n + z.off)
          · simp [Zon.there, g] at h3; omega
          · rfl
        have h4 : 52595999 < n + z.off + 60 := by simpa [Zon.there, hs] using h3
        have hS : ∀ w, Calls Tryz.prog 101 #[.agg #[.int .i64 z.off, .int .i64 z.f.m, .int .i64 z.f.w, .int .i64 z.f.d, .int .i64 z.f.h, .int .i64 z.t.m, .int .i64 z.t.w, .int .i64 z.t.d, .int .i64 z.t.h], .int .i64 (n + z.off)] w fun e w' => e = .returned (.bool true) ∧ Below w.heap.size w w' := fun w => by
          have := isSummer_any z (n + z.off) w hz m1 m2; rw [hs] at this; exact this
        clear h h3 hs
        go_enter Tryz.func88, Tryz.ntmps88
        go_wp2_with (first | (go_at_call 61; refine (validZone_any z _).mono ?_; rintro e w1 ⟨rfl, hb⟩; obtain ⟨hc, hf⟩ := bcell hb; have hz : w.heap.size < w1.heap.size := by have := hb.size; simp at this; omega) | (go_at_call 54; refine (within_any _ _ _ _).mono ?_; rintro e w' ⟨rfl, rfl⟩) | (go_at_call 101; refine (hS _).mono ?_; rintro e w2 ⟨rfl, hb2⟩))
        go_ret3
        exact ⟨rfl, (((Below.refl _ _).alloc (Nat.le_refl _) _).trans (hb.mono (by simp))).trans (hb2.mono (by omega))⟩

set_option maxHeartbeats 1000000 in
theorem Clock_yes (z : Zon.Zn) (n : Int) (w : World) (h : Zon.clockB z n = true) :
    Calls Tryz.prog 88 #[.agg #[.int .i64 z.off, .int .i64 z.f.m, .int .i64 z.f.w, .int .i64 z.f.d, .int .i64 z.f.h, .int .i64 z.t.m, .int .i64 z.t.w, .int .i64 z.t.d, .int .i64 z.t.h], .int .i64 n] w fun e w' => e = .returned (.tuple #[.int .i64 (Zon.there z n / 1440), .int .i64 (Zon.there z n % 1440), .int .i64 0]) ∧ Below w.heap.size w w' := by
  simp only [Zon.clockB, Bool.and_eq_true, decide_eq_true_eq] at h
  obtain ⟨⟨⟨hz, h1⟩, h2⟩, h3⟩ := h
  obtain ⟨n1, n2⟩ := inB_iff.mp h1
  obtain ⟨m1, m2⟩ := inB_iff.mp h2
  obtain ⟨⟨o1, o2⟩, _⟩ := Zon.zone_cases hz
  cases hs : Zon.sumB z (n + z.off)
  all_goals
    have hT : Hid (Zon.there z n = if Zon.sumB z (n + z.off) then n + z.off + 60 else n + z.off) := rfl
    have hT' := hT.out
    rw [hs] at hT'
    simp only [Bool.false_eq_true, if_false, if_true] at hT'
    have HT : Hid (Zon.there z n = _) := hT'
    rw [hT'] at h3
    have hS : ∀ w, Calls Tryz.prog 101 #[.agg #[.int .i64 z.off, .int .i64 z.f.m, .int .i64 z.f.w, .int .i64 z.f.d, .int .i64 z.f.h, .int .i64 z.t.m, .int .i64 z.t.w, .int .i64 z.t.d, .int .i64 z.t.h], .int .i64 (n + z.off)] w fun e w' => e = .returned (.bool (Zon.sumB z (n + z.off))) ∧ Below w.heap.size w w' := fun w => isSummer_any z (n + z.off) w hz m1 m2
    clear hT hT'
    go_enter Tryz.func88, Tryz.ntmps88
    go_wp2_with (first | (go_at_call 61; refine (validZone_any z _).mono ?_; rintro e w1 ⟨rfl, hb⟩; obtain ⟨hc, hf⟩ := bcell hb; have hz : w.heap.size < w1.heap.size := by have := hb.size; simp at this; omega) | (go_at_call 54; refine (within_any _ _ _ _).mono ?_; rintro e w' ⟨rfl, rfl⟩) | (go_at_call 101; refine (hS _).mono ?_; rintro e w2 ⟨rfl, hb2⟩))
    go_ret3
    exact ⟨by rw [HT.out]; rfl, (((Below.refl _ _).alloc (Nat.le_refl _) _).trans (hb.mono (by simp))).trans (hb2.mono (by omega))⟩

end Go.Proofs.YtjaffmmocbplaabGreatDoor
