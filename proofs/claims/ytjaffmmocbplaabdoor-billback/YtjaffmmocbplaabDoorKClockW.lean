/-
  The walks of the program's clock.
-/
import Derived.Test.YtjaffmmocbplaabDoorK01
import Derived.Test.YtjaffmmocbplaabDoorZon
namespace Go.Proofs.YtjaffmmocbplaabDoor
open Go.RowKit
set_option linter.unusedVariables false

set_option maxHeartbeats 400000 in
theorem weekday_any (n : Int) (w : World) (h0 : 0 ≤ n) (h1 : n ≤ 100000) :
    Calls Tryd.prog 98 #[.int .i64 n] w fun e w' => e = .returned (.int .i64 (Zon.wd n)) ∧ w' = w := by
  go_enter Tryd.func98, Tryd.ntmps98
  go_wp2
  go_ret
  exact ⟨ret_int (by unfold Zon.wd; rfl), rfl⟩

set_option maxHeartbeats 400000 in
theorem validRule_any (r : Zon.Rul) (w : World) :
    Calls Tryd.prog 70 #[.agg #[.int .i64 r.m, .int .i64 r.w, .int .i64 r.d, .int .i64 r.h]] w fun e w' => e = .returned (.bool (Zon.ruleB r)) ∧ Below w.heap.size w w' := by
  cases h1 : inB r.m 1 12
  case true =>
    cases h2 : inB r.w 1 5
    case true =>
      cases h3 : inB r.d 0 6
      all_goals
        go_enter Tryd.func70, Tryd.ntmps70
        go_wp2_with (go_at_call 45; refine (within_any _ _ _ _).mono ?_; rintro e w' ⟨rfl, rfl⟩)
        go_ret
        exact ⟨by simp [Zon.ruleB, h1, h2, h3], (Below.refl _ _).alloc (Nat.le_refl _) _⟩
    case false =>
      go_enter Tryd.func70, Tryd.ntmps70
      go_wp2_with (go_at_call 45; refine (within_any _ _ _ _).mono ?_; rintro e w' ⟨rfl, rfl⟩)
      go_ret
      exact ⟨by simp [Zon.ruleB, h1, h2], (Below.refl _ _).alloc (Nat.le_refl _) _⟩
  case false =>
    go_enter Tryd.func70, Tryd.ntmps70
    go_wp2_with (go_at_call 45; refine (within_any _ _ _ _).mono ?_; rintro e w' ⟨rfl, rfl⟩)
    go_ret
    exact ⟨by simp [Zon.ruleB, h1], (Below.refl _ _).alloc (Nat.le_refl _) _⟩

set_option maxHeartbeats 400000 in
theorem hasSummer_any (z : Zon.Zn) (w : World) :
    Calls Tryd.prog 69 #[.agg #[.int .i64 z.off, .int .i64 z.f.m, .int .i64 z.f.w, .int .i64 z.f.d, .int .i64 z.f.h, .int .i64 z.t.m, .int .i64 z.t.w, .int .i64 z.t.d, .int .i64 z.t.h]] w fun e w' => e = .returned (.bool (!(Zon.noneB z.f && Zon.noneB z.t))) ∧ Below w.heap.size w w' := by
  go_enter Tryd.func69, Tryd.ntmps69
  go_wp2_with fail
  all_goals
    go_ret
    exact ⟨by simp [Zon.noneB, *], ((Below.refl _ _).alloc (Nat.le_refl _) _).alloc (by simp) _⟩

set_option maxHeartbeats 800000 in
theorem validZone_any (z : Zon.Zn) (w : World) :
    Calls Tryd.prog 54 #[.agg #[.int .i64 z.off, .int .i64 z.f.m, .int .i64 z.f.w, .int .i64 z.f.d, .int .i64 z.f.h, .int .i64 z.t.m, .int .i64 z.t.w, .int .i64 z.t.d, .int .i64 z.t.h]] w fun e w' => e = .returned (.bool (Zon.zoneB z)) ∧ Below w.heap.size w w' := by
  cases h1 : inB z.off (-720) 720
  case false =>
    go_enter Tryd.func54, Tryd.ntmps54
    go_wp2_with (go_at_call 45; refine (within_any _ _ _ _).mono ?_; rintro e w' ⟨rfl, rfl⟩)
    go_ret
    exact ⟨by simp [Zon.zoneB, h1], (Below.refl _ _).alloc (Nat.le_refl _) _⟩
  case true =>
    cases h2 : (Zon.noneB z.f && Zon.noneB z.t)
    case true =>
      go_enter Tryd.func54, Tryd.ntmps54
      go_wp2_with (first
        | (go_at_call 45; refine (within_any _ _ _ _).mono ?_; rintro e w' ⟨rfl, rfl⟩)
        | (go_at_call 69; refine (hasSummer_any z _).mono ?_; rintro e w1 ⟨rfl, hb⟩))
      go_ret
      exact ⟨by simp [Zon.zoneB, h1, h2], ((Below.refl _ _).alloc (Nat.le_refl _) _).trans (hb.mono (by simp))⟩
    case false =>
      cases h3 : Zon.ruleB z.f
      case false =>
        go_enter Tryd.func54, Tryd.ntmps54
        go_wp2_with (first
          | (go_at_call 45; refine (within_any _ _ _ _).mono ?_; rintro e w' ⟨rfl, rfl⟩)
          | (go_at_call 69; refine (hasSummer_any z _).mono ?_; rintro e w1 ⟨rfl, hb⟩; obtain ⟨hc, hf⟩ := bcell hb; have hz : w.heap.size < w1.heap.size := by have := hb.size; simp at this; omega)
          | (go_at_call 70; refine (validRule_any z.f _).mono ?_; rintro e w2 ⟨rfl, hb2⟩; obtain ⟨hc2, hf2⟩ := bcell hb2; have hz2 : w.heap.size < w2.heap.size := by have := hb2.size; omega))
        go_ret
        exact ⟨by simp [Zon.zoneB, h1, h2, h3], (((Below.refl _ _).alloc (Nat.le_refl _) _).trans (hb.mono (by simp))).trans (hb2.mono (by omega))⟩
      case true =>
        cases h4 : Zon.ruleB z.t
        all_goals
          go_enter Tryd.func54, Tryd.ntmps54
          go_wp2_with (first
            | (go_at_call 45; refine (within_any _ _ _ _).mono ?_; rintro e w' ⟨rfl, rfl⟩)
            | (go_at_call 69; refine (hasSummer_any z _).mono ?_; rintro e w1 ⟨rfl, hb⟩; obtain ⟨hc, hf⟩ := bcell hb; have hz : w.heap.size < w1.heap.size := by have := hb.size; simp at this; omega)
            | (go_at_call 70; have _ := hb2; refine (validRule_any z.t _).mono ?_; rintro e w3 ⟨rfl, hb3⟩; obtain ⟨hc3, hf3⟩ := bcell hb3)
            | (go_at_call 70; refine (validRule_any z.f _).mono ?_; rintro e w2 ⟨rfl, hb2⟩; obtain ⟨hc2, hf2⟩ := bcell hb2; have hz2 : w.heap.size < w2.heap.size := by have := hb2.size; omega))
          go_ret
          exact ⟨by simp [Zon.zoneB, h1, h2, h3, h4] <;> rfl, ((((Below.refl _ _).alloc (Nat.le_refl _) _).trans (hb.mono (by simp))).trans (hb2.mono (by omega))).trans (hb3.mono (by omega))⟩

set_option maxHeartbeats 800000 in
theorem moment_any (r : Zon.Rul) (y : Int) (w : World) (hr : Zon.ruleB r = true) (h1 : 2000 ≤ y) (h2 : y ≤ 2099) :
    Calls Tryd.prog 97 #[.agg #[.int .i64 r.m, .int .i64 r.w, .int .i64 r.d, .int .i64 r.h], .int .i64 y] w fun e w' => e = .returned (.int .i64 (Zon.mom r y)) ∧ Below w.heap.size w w' := by
  obtain ⟨⟨a1, a2⟩, ⟨b1, b2⟩, ⟨c1, c2⟩, ⟨d1, d2⟩⟩ := Zon.ruleB_iff.mp hr
  have hys := Cal.ys_bd y h1 (by omega)
  have hcu := Cal.cum_bd y r.m a1 (by omega)
  have hmd := Cal.md_bd y r.m
  obtain ⟨first, hF⟩ : ∃ first, first = Cal.ys y + Cal.cum y r.m := ⟨_, rfl⟩
  have hfirst : 0 ≤ first ∧ first ≤ 37000 := by omega
  have hMS : ∀ w, Calls Tryd.prog 99 #[.int .i64 y, .int .i64 r.m] w fun e w' => e = .returned (.int .i64 first) ∧ w' = w := fun w => by rw [hF]; exact monthStart_any y r.m w h1 (by omega) a1 a2
  have hwd : 0 ≤ Zon.wd first ∧ Zon.wd first ≤ 6 := by unfold Zon.wd; omega
  have hr0 := Zon.r0_bd first r.d
  have e0 : Hid (Zon.r0 first r.d = (r.d - Zon.wd first + 7) % 7) := rfl
  have HM : Hid (Zon.mom r y = (first + Zon.dm first r.d r.w (Cal.md y r.m) - 1) * 1440 + r.h * 60) := by rw [hF]; rfl
  have HDm : Hid (Zon.dm first r.d r.w (Cal.md y r.m) = if Cal.md y r.m < 1 + (r.d - Zon.wd first + 7) % 7 + (r.w - 1) * 7 then 1 + (r.d - Zon.wd first + 7) % 7 + (r.w - 1) * 7 - 7 else 1 + (r.d - Zon.wd first + 7) % 7 + (r.w - 1) * 7) := rfl
  clear hF hr
  by_cases hlt : Cal.md y r.m < 1 + (r.d - Zon.wd first + 7) % 7 + (r.w - 1) * 7
  all_goals
    go_enter Tryd.func97, Tryd.ntmps97
    go_wp2_with (go_at_call 99; refine (hMS _).mono ?_; rintro e w' ⟨rfl, rfl⟩)
    go_quiet ((go_at_call 98; exact Calls.quiet_of_same (weekday_any _ _ (by omega) (by omega))))
    go_wp2_with (go_at_call 100; refine (monthDays_any _ _ _ (by omega) (by omega)).mono ?_; rintro e w' ⟨rfl, rfl⟩)
    go_ret
    refine ⟨ret_int ?_, ?_⟩
    · rw [HM.out, HDm.out]
      first | rw [if_pos hlt] | rw [if_neg (by omega)]
      first | rfl | omega
    · repeat (first | exact Below.refl _ _ | refine below_drewN ?_ _ | refine Below.alloc ?_ (by simp) _)

end Go.Proofs.YtjaffmmocbplaabDoor
