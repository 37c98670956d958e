/-
  ClockX, RowY in one text.
-/
import Derived.Test.YtjaffmmocbplaabDoorKClockW
import Derived.Test.YtjaffmmocbplaabDoorK04
namespace Go.Proofs.YtjaffmmocbplaabDoor
open Go.RowKit
set_option linter.unusedVariables false

theorem day_bd (s : Int) (h1 : 0 ≤ s) (h2 : s ≤ 52595999) : 0 ≤ s / 1440 ∧ s / 1440 ≤ 36524 := by omega

set_option maxHeartbeats 1000000 in
theorem isSummer_any (z : Zon.Zn) (s : Int) (w : World) (hz : Zon.zoneB z = true) (h1 : 0 ≤ s) (h2 : s ≤ 52595999) :
    Calls Tryd.prog 89 #[.agg #[.int .i64 z.off, .int .i64 z.f.m, .int .i64 z.f.w, .int .i64 z.f.d, .int .i64 z.f.h, .int .i64 z.t.m, .int .i64 z.t.w, .int .i64 z.t.d, .int .i64 z.t.h], .int .i64 s] w fun e w' => e = .returned (.bool (Zon.sumB z s)) ∧ Below w.heap.size w w' := by
  obtain ⟨ho, hc⟩ := Zon.zone_cases hz
  rcases hc with ⟨n1, n2⟩ | ⟨nn, nf, r1, r2, hm⟩
  · have nn : (Zon.noneB z.f && Zon.noneB z.t) = true := by simp [n1, n2]
    have hS : Hid (Zon.sumB z s = false) := (by simp [Zon.sumB, n1, n2] : Zon.sumB z s = false)
    clear n1 n2 hz
    go_enter Tryd.func89, Tryd.ntmps89
    go_wp2_with (go_at_call 69; refine (hasSummer_any z _).mono ?_; rintro e w1 ⟨rfl, hb⟩)
    go_ret
    exact ⟨by rw [hS.out]; rfl, ((Below.refl _ _).alloc (Nat.le_refl _) _).trans (hb.mono (by simp))⟩
  · obtain ⟨d1, d2⟩ := day_bd s h1 h2
    obtain ⟨y, hy⟩ : ∃ y, y = Cal.yr (s / 1440) := ⟨_, rfl⟩
    obtain ⟨yb1, yb2⟩ : 2000 ≤ y ∧ y ≤ 2099 := by rw [hy]; exact Cal.yr_bd _ d1 d2
    have yc : ∀ w, Calls Tryd.prog 96 #[.int .i64 (s / 1440)] w fun e w' => e = .returned (.int .i64 y) ∧ w' = w := fun w => by rw [hy]; exact yearOf_any _ w d1 d2
    have hS : Hid (Zon.sumB z s = if z.f.m < z.t.m then decide (Zon.mom z.f y ≤ s) && decide (s < Zon.mom z.t y) else decide (s < Zon.mom z.t y) || decide (Zon.mom z.f y ≤ s)) := by
      show Zon.sumB z s = _
      simp only [Zon.sumB, nn, hy]; rfl
    have m1 := Zon.mom_bd z.f y r1 yb1 yb2
    have m2 := Zon.mom_bd z.t y r2 yb1 yb2
    clear hz hy nf hm
    by_cases hlt : z.f.m < z.t.m
    · by_cases hfs : Zon.mom z.f y ≤ s
      all_goals
        go_enter Tryd.func89, Tryd.ntmps89
        go_wp2_with (first
          | (go_at_call 69; refine (hasSummer_any z _).mono ?_; rintro e w1 ⟨rfl, hb⟩; obtain ⟨hc, hf⟩ := bcell hb; have hz : w.heap.size < w1.heap.size := by have := hb.size; simp at this; omega)
          | (go_at_call 96; refine (yc _).mono ?_; rintro e w' ⟨rfl, rfl⟩)
          | (go_at_call 97; have _ := hb2; refine (moment_any z.t y _ r2 yb1 yb2).mono ?_; rintro e w3 ⟨rfl, hb3⟩; obtain ⟨hc3, hf3⟩ := bcell hb3)
          | (go_at_call 97; refine (moment_any z.f y _ r1 yb1 yb2).mono ?_; rintro e w2 ⟨rfl, hb2⟩; obtain ⟨hc2, hf2⟩ := bcell hb2; have hz2 : w.heap.size < w2.heap.size := by have := hb2.size; omega))
        go_ret
        exact ⟨by rw [hS.out]; simp [hlt, hfs] <;> omega, ((((Below.refl _ _).alloc (Nat.le_refl _) _).trans (hb.mono (by simp))).trans (hb2.mono (by omega))).trans (hb3.mono (by omega))⟩
    · by_cases hst : s < Zon.mom z.t y
      all_goals
        go_enter Tryd.func89, Tryd.ntmps89
        go_wp2_with (first
          | (go_at_call 69; refine (hasSummer_any z _).mono ?_; rintro e w1 ⟨rfl, hb⟩; obtain ⟨hc, hf⟩ := bcell hb; have hz : w.heap.size < w1.heap.size := by have := hb.size; simp at this; omega)
          | (go_at_call 96; refine (yc _).mono ?_; rintro e w' ⟨rfl, rfl⟩)
          | (go_at_call 97; have _ := hb2; refine (moment_any z.t y _ r2 yb1 yb2).mono ?_; rintro e w3 ⟨rfl, hb3⟩; obtain ⟨hc3, hf3⟩ := bcell hb3)
          | (go_at_call 97; refine (moment_any z.f y _ r1 yb1 yb2).mono ?_; rintro e w2 ⟨rfl, hb2⟩; obtain ⟨hc2, hf2⟩ := bcell hb2; have hz2 : w.heap.size < w2.heap.size := by have := hb2.size; omega))
        go_ret
        exact ⟨by rw [hS.out, if_neg (by omega)]; simp [hst] <;> omega, ((((Below.refl _ _).alloc (Nat.le_refl _) _).trans (hb.mono (by simp))).trans (hb2.mono (by omega))).trans (hb3.mono (by omega))⟩

set_option maxHeartbeats 1000000 in
theorem Clock_no (z : Zon.Zn) (n : Int) (w : World) (h : Zon.clockB z n = false) :
    Calls Tryd.prog 81 #[.agg #[.int .i64 z.off, .int .i64 z.f.m, .int .i64 z.f.w, .int .i64 z.f.d, .int .i64 z.f.h, .int .i64 z.t.m, .int .i64 z.t.w, .int .i64 z.t.d, .int .i64 z.t.h], .int .i64 n] w fun e w' => e = .returned (.tuple #[.int .i64 0, .int .i64 0, .int .i64 3]) ∧ Below w.heap.size w w' := by
  cases hz : Zon.zoneB z
  case false =>
    clear h
    go_enter Tryd.func81, Tryd.ntmps81
    go_wp2_with (first | (go_at_call 54; refine (validZone_any z _).mono ?_; rintro e w1 ⟨rfl, hb⟩))
    go_ret3
    exact ⟨rfl, ((Below.refl _ _).alloc (Nat.le_refl _) _).trans (hb.mono (by simp))⟩
  case true =>
    cases h1 : inB n 0 52595999
    case false =>
      clear h
      go_enter Tryd.func81, Tryd.ntmps81
      go_wp2_with (first | (go_at_call 54; refine (validZone_any z _).mono ?_; rintro e w1 ⟨rfl, hb⟩) | (go_at_call 45; refine (within_any _ _ _ _).mono ?_; rintro e w' ⟨rfl, rfl⟩))
      go_ret3
      exact ⟨rfl, ((Below.refl _ _).alloc (Nat.le_refl _) _).trans (hb.mono (by simp))⟩
    case true =>
      obtain ⟨n1, n2⟩ := inB_iff.mp h1
      obtain ⟨⟨o1, o2⟩, _⟩ := Zon.zone_cases hz
      cases h2 : inB (n + z.off) 0 52595999
      case false =>
        clear h
        go_enter Tryd.func81, Tryd.ntmps81
        go_wp2_with (first | (go_at_call 54; refine (validZone_any z _).mono ?_; rintro e w1 ⟨rfl, hb⟩; obtain ⟨hc, hf⟩ := bcell hb; have hz : w.heap.size < w1.heap.size := by have := hb.size; simp at this; omega) | (go_at_call 45; refine (within_any _ _ _ _).mono ?_; rintro e w' ⟨rfl, rfl⟩))
        go_ret3
        exact ⟨rfl, ((Below.refl _ _).alloc (Nat.le_refl _) _).trans (hb.mono (by simp))⟩
      case true =>
        obtain ⟨m1, m2⟩ := inB_iff.mp h2
        have h3 : 52595999 < Zon.there z n := by simp [Zon.clockB, hz, h1, h2] at h; omega
        have hs : Zon.sumB z (n + z.off) = true := by
          cases g : Zon.sumB z (n + z.off)
          · simp [Zon.there, g] at h3; omega
          · rfl
        have h4 : 52595999 < n + z.off + 60 := by simpa [Zon.there, hs] using h3
        have hS : ∀ w, Calls Tryd.prog 89 #[.agg #[.int .i64 z.off, .int .i64 z.f.m, .int .i64 z.f.w, .int .i64 z.f.d, .int .i64 z.f.h, .int .i64 z.t.m, .int .i64 z.t.w, .int .i64 z.t.d, .int .i64 z.t.h], .int .i64 (n + z.off)] w fun e w' => e = .returned (.bool true) ∧ Below w.heap.size w w' := fun w => by
          have := isSummer_any z (n + z.off) w hz m1 m2; rw [hs] at this; exact this
        clear h h3 hs
        go_enter Tryd.func81, Tryd.ntmps81
        go_wp2_with (first | (go_at_call 54; refine (validZone_any z _).mono ?_; rintro e w1 ⟨rfl, hb⟩; obtain ⟨hc, hf⟩ := bcell hb; have hz : w.heap.size < w1.heap.size := by have := hb.size; simp at this; omega) | (go_at_call 45; refine (within_any _ _ _ _).mono ?_; rintro e w' ⟨rfl, rfl⟩) | (go_at_call 89; refine (hS _).mono ?_; rintro e w2 ⟨rfl, hb2⟩))
        go_ret3
        exact ⟨rfl, (((Below.refl _ _).alloc (Nat.le_refl _) _).trans (hb.mono (by simp))).trans (hb2.mono (by omega))⟩

set_option maxHeartbeats 1000000 in
theorem Clock_yes (z : Zon.Zn) (n : Int) (w : World) (h : Zon.clockB z n = true) :
    Calls Tryd.prog 81 #[.agg #[.int .i64 z.off, .int .i64 z.f.m, .int .i64 z.f.w, .int .i64 z.f.d, .int .i64 z.f.h, .int .i64 z.t.m, .int .i64 z.t.w, .int .i64 z.t.d, .int .i64 z.t.h], .int .i64 n] w fun e w' => e = .returned (.tuple #[.int .i64 (Zon.there z n / 1440), .int .i64 (Zon.there z n % 1440), .int .i64 0]) ∧ Below w.heap.size w w' := by
  simp only [Zon.clockB, Bool.and_eq_true, decide_eq_true_eq] at h
  obtain ⟨⟨⟨hz, h1⟩, h2⟩, h3⟩ := h
  obtain ⟨n1, n2⟩ := inB_iff.mp h1
  obtain ⟨m1, m2⟩ := inB_iff.mp h2
  obtain ⟨⟨o1, o2⟩, _⟩ := Zon.zone_cases hz
  cases hs : Zon.sumB z (n + z.off)
  all_goals
    have hT : Hid (Zon.there z n = if Zon.sumB z (n + z.off) then n + z.off + 60 else n + z.off) := rfl
    have hT' := hT.out
    rw [hs] at hT'
    simp only [Bool.false_eq_true, if_false, if_true] at hT'
    have HT : Hid (Zon.there z n = _) := hT'
    rw [hT'] at h3
    have hS : ∀ w, Calls Tryd.prog 89 #[.agg #[.int .i64 z.off, .int .i64 z.f.m, .int .i64 z.f.w, .int .i64 z.f.d, .int .i64 z.f.h, .int .i64 z.t.m, .int .i64 z.t.w, .int .i64 z.t.d, .int .i64 z.t.h], .int .i64 (n + z.off)] w fun e w' => e = .returned (.bool (Zon.sumB z (n + z.off))) ∧ Below w.heap.size w w' := fun w => isSummer_any z (n + z.off) w hz m1 m2
    clear hT hT'
    go_enter Tryd.func81, Tryd.ntmps81
    go_wp2_with (first | (go_at_call 54; refine (validZone_any z _).mono ?_; rintro e w1 ⟨rfl, hb⟩; obtain ⟨hc, hf⟩ := bcell hb; have hz : w.heap.size < w1.heap.size := by have := hb.size; simp at this; omega) | (go_at_call 45; refine (within_any _ _ _ _).mono ?_; rintro e w' ⟨rfl, rfl⟩) | (go_at_call 89; refine (hS _).mono ?_; rintro e w2 ⟨rfl, hb2⟩))
    go_ret3
    exact ⟨by rw [HT.out]; rfl, (((Below.refl _ _).alloc (Nat.le_refl _) _).trans (hb.mono (by simp))).trans (hb2.mono (by omega))⟩

end Go.Proofs.YtjaffmmocbplaabDoor

namespace Go.Proofs.YtjaffmmocbplaabDoor
open Go.RowKit
set_option linter.unusedVariables false

theorem meterB_len {step start : Int} {l : List Txt.Val} (h : ¬ (1 ≤ (l.length : Int) ∧ (l.length : Int) ≤ 200)) : meterB step start l = false := by
  simp [meterB, inB_false h]
theorem meterB_start {step start : Int} {l : List Txt.Val} (h : ¬ (0 ≤ start ∧ start ≤ 52596000 - step * l.length)) : meterB step start l = false := by
  simp [meterB, inB_false h]
theorem meterB_mod {step start : Int} {l : List Txt.Val} (h : ¬ start % step = 0) : meterB step start l = false := by
  simp [meterB, h]

end Go.Proofs.YtjaffmmocbplaabDoor
