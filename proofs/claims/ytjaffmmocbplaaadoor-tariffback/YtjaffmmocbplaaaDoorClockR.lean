/-
  The walks of the document's clock.
-/
import Derived.Test.YtjaffmmocbplaaaDoorDateX
import Derived.Test.YtjaffmmocbplaaaDoorZon
namespace Go.Proofs.YtjaffmmocbplaaaDoor
open Go.RowKit
set_option linter.unusedVariables false

set_option maxHeartbeats 400000 in
theorem none_any (r : Zon.Rul) (w : World) :
    Calls Tryd.prog 98 #[.agg #[.int .i64 r.m, .int .i64 r.w, .int .i64 r.d, .int .i64 r.h]] w fun e w' => e = .returned (.bool (Zon.noneB r)) ∧ Below w.heap.size w w' := by
  go_enter Tryd.func98, Tryd.ntmps98
  go_wp2
  all_goals
    go_ret
    exact ⟨by simp_all [Zon.noneB] <;> rfl, (Below.refl _ _).alloc (Nat.le_refl _) _⟩

set_option maxHeartbeats 400000 in
theorem fine_any (r : Zon.Rul) (w : World) :
    Calls Tryd.prog 99 #[.agg #[.int .i64 r.m, .int .i64 r.w, .int .i64 r.d, .int .i64 r.h]] w fun e w' => e = .returned (.bool (Zon.ruleB r)) ∧ Below w.heap.size w w' := by
  go_enter Tryd.func99, Tryd.ntmps99
  go_wp2
  all_goals
    go_ret
    exact ⟨by simp_all [Zon.ruleB, inB] <;> (intros; omega), (Below.refl _ _).alloc (Nat.le_refl _) _⟩

set_option maxHeartbeats 800000 in
theorem GoodZone_any (z : Zon.Zn) (w : World) :
    Calls Tryd.prog 79 #[.agg #[.int .i64 z.off, .int .i64 z.f.m, .int .i64 z.f.w, .int .i64 z.f.d, .int .i64 z.f.h, .int .i64 z.t.m, .int .i64 z.t.w, .int .i64 z.t.d, .int .i64 z.t.h]] w fun e w' => e = .returned (.bool (Zon.zoneB z)) ∧ Below w.heap.size w w' := by
  by_cases g1 : z.off < -720
  · have h1 : inB z.off (-720) 720 = false := inB_false (by omega)
    go_enter Tryd.func79, Tryd.ntmps79
    go_wp2_with fail
    go_ret
    exact ⟨by simp [Zon.zoneB, h1], (Below.refl _ _).alloc (Nat.le_refl _) _⟩
  by_cases g2 : 720 < z.off
  · have h1 : inB z.off (-720) 720 = false := inB_false (by omega)
    go_enter Tryd.func79, Tryd.ntmps79
    go_wp2_with fail
    go_ret
    exact ⟨by simp [Zon.zoneB, h1], (Below.refl _ _).alloc (Nat.le_refl _) _⟩
  have h1 : inB z.off (-720) 720 = true := inB_true (by omega) (by omega)
  cases h2 : Zon.noneB z.f <;> cases h3 : Zon.noneB z.t
  case true.true =>
    go_enter Tryd.func79, Tryd.ntmps79
    go_wp2_with (first
      | (go_at_call 98; have _ := hb; refine (none_any z.t _).mono ?_; rintro e w2 ⟨rfl, hb2⟩)
      | (go_at_call 98; refine (none_any z.f _).mono ?_; rintro e w1 ⟨rfl, hb⟩; obtain ⟨hc, hf⟩ := bcell hb; have hz : w.heap.size < w1.heap.size := by have := hb.size; simp at this; omega))
    go_ret
    exact ⟨by simp [Zon.zoneB, h1, h2, h3], (((Below.refl _ _).alloc (Nat.le_refl _) _).trans (hb.mono (by simp))).trans (hb2.mono (by omega))⟩
  all_goals
    cases h4 : Zon.ruleB z.f <;> cases h5 : Zon.ruleB z.t
  all_goals
    go_enter Tryd.func79, Tryd.ntmps79
    go_wp2_with (first
      | (go_at_call 98; have _ := hb; refine (none_any z.t _).mono ?_; rintro e w2 ⟨rfl, hb2⟩; obtain ⟨hc2, hf2⟩ := bcell hb2; have hz2 : w.heap.size < w2.heap.size := by have := hb2.size; omega)
      | (go_at_call 98; refine (none_any z.f _).mono ?_; rintro e w1 ⟨rfl, hb⟩; obtain ⟨hc, hf⟩ := bcell hb; have hz : w.heap.size < w1.heap.size := by have := hb.size; simp at this; omega)
      | (go_at_call 99; have _ := hb3; refine (fine_any z.t _).mono ?_; rintro e w4 ⟨rfl, hb4⟩; obtain ⟨hc4, hf4⟩ := bcell hb4)
      | (go_at_call 99; refine (fine_any z.f _).mono ?_; rintro e w3 ⟨rfl, hb3⟩; obtain ⟨hc3, hf3⟩ := bcell hb3; have hz3 : w.heap.size < w3.heap.size := by have := hb3.size; omega))
    go_ret
    exact ⟨by simp [Zon.zoneB, h1, h2, h3, h4, h5] <;> rfl, (((((Below.refl _ _).alloc (Nat.le_refl _) _).trans (hb.mono (by simp))).trans (hb2.mono (by omega))).trans (hb3.mono (by omega))).trans (hb4.mono (by omega))⟩

end Go.Proofs.YtjaffmmocbplaaaDoor
