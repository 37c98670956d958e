/-
  ClockR, GdW in one text.
-/
import Derived.Test.YtjaffmmocbplaabGreatDoorJ02
import Derived.Test.YtjaffmmocbplaabGreatDoorJZon
import Derived.Test.YtjaffmmocbplaabGreatDoorJ05
import Derived.Test.YtjaffmmocbplaabGreatDoorJ13
import Derived.Test.YtjaffmmocbplaabGreatDoorJ04
namespace Go.Proofs.YtjaffmmocbplaabGreatDoor
open Go.RowKit
set_option linter.unusedVariables false

set_option maxHeartbeats 400000 in
theorem refWeekday_any (n : Int) (w : World) (h0 : 0 ≤ n) (h1 : n ≤ 100000) :
    Calls Tryz.prog 98 #[.int .i64 n] w fun e w' => e = .returned (.int .i64 (Zon.wd n)) ∧ w' = w := by
  go_enter Tryz.func98, Tryz.ntmps98
  go_wp2
  go_ret
  exact ⟨ret_int (by unfold Zon.wd; rfl), rfl⟩

set_option maxHeartbeats 400000 in
theorem none_any (r : Zon.Rul) (w : World) :
    Calls Tryz.prog 92 #[.agg #[.int .i64 r.m, .int .i64 r.w, .int .i64 r.d, .int .i64 r.h]] w fun e w' => e = .returned (.bool (Zon.noneB r)) ∧ Below w.heap.size w w' := by
  go_enter Tryz.func92, Tryz.ntmps92
  go_wp2
  all_goals
    go_ret
    exact ⟨by simp_all [Zon.noneB] <;> rfl, (Below.refl _ _).alloc (Nat.le_refl _) _⟩

set_option maxHeartbeats 400000 in
theorem fine_any (r : Zon.Rul) (w : World) :
    Calls Tryz.prog 93 #[.agg #[.int .i64 r.m, .int .i64 r.w, .int .i64 r.d, .int .i64 r.h]] w fun e w' => e = .returned (.bool (Zon.ruleB r)) ∧ Below w.heap.size w w' := by
  go_enter Tryz.func93, Tryz.ntmps93
  go_wp2
  all_goals
    go_ret
    exact ⟨by simp_all [Zon.ruleB, inB] <;> (intros; omega), (Below.refl _ _).alloc (Nat.le_refl _) _⟩

set_option maxHeartbeats 800000 in
theorem GoodZone_any (z : Zon.Zn) (w : World) :
    Calls Tryz.prog 74 #[.agg #[.int .i64 z.off, .int .i64 z.f.m, .int .i64 z.f.w, .int .i64 z.f.d, .int .i64 z.f.h, .int .i64 z.t.m, .int .i64 z.t.w, .int .i64 z.t.d, .int .i64 z.t.h]] w fun e w' => e = .returned (.bool (Zon.zoneB z)) ∧ Below w.heap.size w w' := by
  by_cases g1 : z.off < -720
  · have h1 : inB z.off (-720) 720 = false := inB_false (by omega)
    go_enter Tryz.func74, Tryz.ntmps74
    go_wp2_with fail
    go_ret
    exact ⟨by simp [Zon.zoneB, h1], (Below.refl _ _).alloc (Nat.le_refl _) _⟩
  by_cases g2 : 720 < z.off
  · have h1 : inB z.off (-720) 720 = false := inB_false (by omega)
    go_enter Tryz.func74, Tryz.ntmps74
    go_wp2_with fail
    go_ret
    exact ⟨by simp [Zon.zoneB, h1], (Below.refl _ _).alloc (Nat.le_refl _) _⟩
  have h1 : inB z.off (-720) 720 = true := inB_true (by omega) (by omega)
  cases h2 : Zon.noneB z.f <;> cases h3 : Zon.noneB z.t
  case true.true =>
    go_enter Tryz.func74, Tryz.ntmps74
    go_wp2_with (first
      | (go_at_call 92; have _ := hb; refine (none_any z.t _).mono ?_; rintro e w2 ⟨rfl, hb2⟩)
      | (go_at_call 92; refine (none_any z.f _).mono ?_; rintro e w1 ⟨rfl, hb⟩; obtain ⟨hc, hf⟩ := bcell hb; have hz : w.heap.size < w1.heap.size := by have := hb.size; simp at this; omega))
    go_ret
    exact ⟨by simp [Zon.zoneB, h1, h2, h3], (((Below.refl _ _).alloc (Nat.le_refl _) _).trans (hb.mono (by simp))).trans (hb2.mono (by omega))⟩
  all_goals
    cases h4 : Zon.ruleB z.f <;> cases h5 : Zon.ruleB z.t
  all_goals
    go_enter Tryz.func74, Tryz.ntmps74
    go_wp2_with (first
      | (go_at_call 92; have _ := hb; refine (none_any z.t _).mono ?_; rintro e w2 ⟨rfl, hb2⟩; obtain ⟨hc2, hf2⟩ := bcell hb2; have hz2 : w.heap.size < w2.heap.size := by have := hb2.size; omega)
      | (go_at_call 92; refine (none_any z.f _).mono ?_; rintro e w1 ⟨rfl, hb⟩; obtain ⟨hc, hf⟩ := bcell hb; have hz : w.heap.size < w1.heap.size := by have := hb.size; simp at this; omega)
      | (go_at_call 93; have _ := hb3; refine (fine_any z.t _).mono ?_; rintro e w4 ⟨rfl, hb4⟩; obtain ⟨hc4, hf4⟩ := bcell hb4)
      | (go_at_call 93; refine (fine_any z.f _).mono ?_; rintro e w3 ⟨rfl, hb3⟩; obtain ⟨hc3, hf3⟩ := bcell hb3; have hz3 : w.heap.size < w3.heap.size := by have := hb3.size; omega))
    go_ret
    exact ⟨by simp [Zon.zoneB, h1, h2, h3, h4, h5] <;> rfl, (((((Below.refl _ _).alloc (Nat.le_refl _) _).trans (hb.mono (by simp))).trans (hb2.mono (by omega))).trans (hb3.mono (by omega))).trans (hb4.mono (by omega))⟩

end Go.Proofs.YtjaffmmocbplaabGreatDoor

namespace Go.Proofs.YtjaffmmocbplaabGreatDoor
open Go.RowKit
set_option linter.unusedVariables false

set_option maxRecDepth 1000000 in
set_option maxHeartbeats 2000000 in
theorem goodLine_any (t : Trf) (k : Nat) (hk : k < 13) (w : World) (s0 : t.h0.size ≤ maxLen) (s1 : t.h1.size ≤ maxLen) (s2 : t.h2.size ≤ maxLen) (s3 : t.h3.size ≤ maxLen) :
    Calls Tryz.prog 43 #[.agg #[.int .i64 t.z.off, .int .i64 t.z.f.m, .int .i64 t.z.f.w, .int .i64 t.z.f.d, .int .i64 t.z.f.h, .int .i64 t.z.t.m, .int .i64 t.z.t.w, .int .i64 t.z.t.d, .int .i64 t.z.t.h, .int .i64 t.days, .int .i64 t.gap, .int .i64 t.first, .int .i64 t.last, .string t.h0, .string t.h1, .string t.h2, .string t.h3, .int .i64 t.b0.x, .int .i64 t.b0.y, .int .i64 t.b0.z, .int .i64 t.b1.x, .int .i64 t.b1.y, .int .i64 t.b1.z, .int .i64 t.b2.x, .int .i64 t.b2.y, .int .i64 t.b2.z, .int .i64 t.d.x, .int .i64 t.d.y, .int .i64 t.d.z, .int .i64 t.np, .int .i64 t.nn, .int .i64 t.fix, .int .i64 t.min, .int .i64 t.tax], .int .i64 k] w fun e w' => e = .returned (.bool (lineB t k)) ∧ Below w.heap.size w w' := by
  rcases (by omega : k = 0 ∨ k = 1 ∨ k = 2 ∨ k = 3 ∨ k = 4 ∨ k = 5 ∨ k = 6 ∨ k = 7 ∨ k = 8 ∨ k = 9 ∨ k = 10 ∨ k = 11 ∨ k = 12) with rfl | rfl | rfl | rfl | rfl | rfl | rfl | rfl | rfl | rfl | rfl | rfl | rfl
  · go_enter Tryz.func43, Tryz.ntmps43
    go_wp2_with (go_at_call 74; refine (GoodZone_any t.z _).mono ?_; rintro e w1 ⟨rfl, hb1⟩)
    go_ret
    exact ⟨rfl, below_then (below_more (Below.refl _ _) _) hb1⟩
  · have HL : Hid (lineB t 1 = (inB t.days 1 31 && inB t.gap 0 8)) := rfl
    cases y0 : inB t.days 1 31
    case false =>
      go_enter Tryz.func43, Tryz.ntmps43
      go_wp2_with (go_at_call 73; refine (in_any _ _ _ _).mono ?_; rintro e wq ⟨rfl, hq⟩; have hq2 := hq.symm; subst hq2)
      go_ret
      exact ⟨ret_bool (by rw [HL.out, y0]; rfl), below_more (Below.refl _ _) _⟩
    case true =>
      go_enter Tryz.func43, Tryz.ntmps43
      go_wp2_with (go_at_call 73; refine (in_any _ _ _ _).mono ?_; rintro e wq ⟨rfl, hq⟩; have hq2 := hq.symm; subst hq2)
      go_ret
      exact ⟨ret_bool (by rw [HL.out, y0]; rfl), below_more (Below.refl _ _) _⟩
  · have HL : Hid (lineB t 2 = ((decide (1 ≤ t.first) && decide (t.first ≤ t.last)) && decide (t.last ≤ 12))) := rfl
    by_cases y0 : 1 ≤ t.first
    case neg =>
      go_enter Tryz.func43, Tryz.ntmps43
      go_wp2_with fail
      go_ret
      exact ⟨ret_bool (by rw [HL.out]; simp; omega), below_more (Below.refl _ _) _⟩
    case pos =>
      by_cases y1 : t.first ≤ t.last
      all_goals
        go_enter Tryz.func43, Tryz.ntmps43
        go_wp2_with fail
        go_ret
        exact ⟨ret_bool (by rw [HL.out]; simp [y0, y1] <;> omega), below_more (Below.refl _ _) _⟩
  · go_enter Tryz.func43, Tryz.ntmps43
    go_wp2_with (go_at_call 75; refine (letters_any t.h0 _ s0).mono ?_; rintro e wq ⟨rfl, hq⟩; have hq2 := hq.symm; subst hq2)
    go_ret
    exact ⟨rfl, below_more (Below.refl _ _) _⟩
  · go_enter Tryz.func43, Tryz.ntmps43
    go_wp2_with (go_at_call 75; refine (letters_any t.h1 _ s1).mono ?_; rintro e wq ⟨rfl, hq⟩; have hq2 := hq.symm; subst hq2)
    go_ret
    exact ⟨rfl, below_more (Below.refl _ _) _⟩
  · go_enter Tryz.func43, Tryz.ntmps43
    go_wp2_with (go_at_call 75; refine (letters_any t.h2 _ s2).mono ?_; rintro e wq ⟨rfl, hq⟩; have hq2 := hq.symm; subst hq2)
    go_ret
    exact ⟨rfl, below_more (Below.refl _ _) _⟩
  · go_enter Tryz.func43, Tryz.ntmps43
    go_wp2_with (go_at_call 75; refine (letters_any t.h3 _ s3).mono ?_; rintro e wq ⟨rfl, hq⟩; have hq2 := hq.symm; subst hq2)
    go_ret
    exact ⟨rfl, below_more (Below.refl _ _) _⟩
  · have HL : Hid (lineB t 7 = (inB t.b0.x 0 1000000 && inB t.b0.y 0 100000 && inB t.b0.z 0 100000)) := rfl
    cases y0 : inB t.b0.x 0 1000000
    case false =>
      go_enter Tryz.func43, Tryz.ntmps43
      go_wp2_with (go_at_call 73; refine (in_any _ _ _ _).mono ?_; rintro e wq ⟨rfl, hq⟩; have hq2 := hq.symm; subst hq2)
      go_ret
      exact ⟨ret_bool (by rw [HL.out, y0]; rfl), below_more (below_more (Below.refl _ _) _) _⟩
    case true =>
      cases y1 : inB t.b0.y 0 100000
      case false =>
        go_enter Tryz.func43, Tryz.ntmps43
        go_wp2_with (go_at_call 73; refine (in_any _ _ _ _).mono ?_; rintro e wq ⟨rfl, hq⟩; have hq2 := hq.symm; subst hq2)
        go_ret
        exact ⟨ret_bool (by rw [HL.out, y0, y1]; rfl), below_more (below_more (Below.refl _ _) _) _⟩
      case true =>
        go_enter Tryz.func43, Tryz.ntmps43
        go_wp2_with (go_at_call 73; refine (in_any _ _ _ _).mono ?_; rintro e wq ⟨rfl, hq⟩; have hq2 := hq.symm; subst hq2)
        go_ret
        exact ⟨ret_bool (by rw [HL.out, y0, y1]; rfl), below_more (below_more (Below.refl _ _) _) _⟩
  · have HL : Hid (lineB t 8 = (inB t.b1.x 0 1000000 && inB t.b1.y 0 100000 && inB t.b1.z 0 100000)) := rfl
    cases y0 : inB t.b1.x 0 1000000
    case false =>
      go_enter Tryz.func43, Tryz.ntmps43
      go_wp2_with (go_at_call 73; refine (in_any _ _ _ _).mono ?_; rintro e wq ⟨rfl, hq⟩; have hq2 := hq.symm; subst hq2)
      go_ret
      exact ⟨ret_bool (by rw [HL.out, y0]; rfl), below_more (below_more (Below.refl _ _) _) _⟩
    case true =>
      cases y1 : inB t.b1.y 0 100000
      case false =>
        go_enter Tryz.func43, Tryz.ntmps43
        go_wp2_with (go_at_call 73; refine (in_any _ _ _ _).mono ?_; rintro e wq ⟨rfl, hq⟩; have hq2 := hq.symm; subst hq2)
        go_ret
        exact ⟨ret_bool (by rw [HL.out, y0, y1]; rfl), below_more (below_more (Below.refl _ _) _) _⟩
      case true =>
        go_enter Tryz.func43, Tryz.ntmps43
        go_wp2_with (go_at_call 73; refine (in_any _ _ _ _).mono ?_; rintro e wq ⟨rfl, hq⟩; have hq2 := hq.symm; subst hq2)
        go_ret
        exact ⟨ret_bool (by rw [HL.out, y0, y1]; rfl), below_more (below_more (Below.refl _ _) _) _⟩
  · have HL : Hid (lineB t 9 = (inB t.b2.x 0 1000000 && inB t.b2.y 0 100000 && inB t.b2.z 0 100000)) := rfl
    cases y0 : inB t.b2.x 0 1000000
    case false =>
      go_enter Tryz.func43, Tryz.ntmps43
      go_wp2_with (go_at_call 73; refine (in_any _ _ _ _).mono ?_; rintro e wq ⟨rfl, hq⟩; have hq2 := hq.symm; subst hq2)
      go_ret
      exact ⟨ret_bool (by rw [HL.out, y0]; rfl), below_more (below_more (Below.refl _ _) _) _⟩
    case true =>
      cases y1 : inB t.b2.y 0 100000
      case false =>
        go_enter Tryz.func43, Tryz.ntmps43
        go_wp2_with (go_at_call 73; refine (in_any _ _ _ _).mono ?_; rintro e wq ⟨rfl, hq⟩; have hq2 := hq.symm; subst hq2)
        go_ret
        exact ⟨ret_bool (by rw [HL.out, y0, y1]; rfl), below_more (below_more (Below.refl _ _) _) _⟩
      case true =>
        go_enter Tryz.func43, Tryz.ntmps43
        go_wp2_with (go_at_call 73; refine (in_any _ _ _ _).mono ?_; rintro e wq ⟨rfl, hq⟩; have hq2 := hq.symm; subst hq2)
        go_ret
        exact ⟨ret_bool (by rw [HL.out, y0, y1]; rfl), below_more (below_more (Below.refl _ _) _) _⟩
  · have HL : Hid (lineB t 10 = (inB t.d.x 0 1000000 && inB t.d.y 0 100 && inB t.d.z 0 12)) := rfl
    cases y0 : inB t.d.x 0 1000000
    case false =>
      go_enter Tryz.func43, Tryz.ntmps43
      go_wp2_with (go_at_call 73; refine (in_any _ _ _ _).mono ?_; rintro e wq ⟨rfl, hq⟩; have hq2 := hq.symm; subst hq2)
      go_ret
      exact ⟨ret_bool (by rw [HL.out, y0]; rfl), below_more (Below.refl _ _) _⟩
    case true =>
      cases y1 : inB t.d.y 0 100
      case false =>
        go_enter Tryz.func43, Tryz.ntmps43
        go_wp2_with (go_at_call 73; refine (in_any _ _ _ _).mono ?_; rintro e wq ⟨rfl, hq⟩; have hq2 := hq.symm; subst hq2)
        go_ret
        exact ⟨ret_bool (by rw [HL.out, y0, y1]; rfl), below_more (Below.refl _ _) _⟩
      case true =>
        go_enter Tryz.func43, Tryz.ntmps43
        go_wp2_with (go_at_call 73; refine (in_any _ _ _ _).mono ?_; rintro e wq ⟨rfl, hq⟩; have hq2 := hq.symm; subst hq2)
        go_ret
        exact ⟨ret_bool (by rw [HL.out, y0, y1]; rfl), below_more (Below.refl _ _) _⟩
  · have HL : Hid (lineB t 11 = (inB t.np 0 100000 && inB t.nn 0 12)) := rfl
    cases y0 : inB t.np 0 100000
    case false =>
      go_enter Tryz.func43, Tryz.ntmps43
      go_wp2_with (go_at_call 73; refine (in_any _ _ _ _).mono ?_; rintro e wq ⟨rfl, hq⟩; have hq2 := hq.symm; subst hq2)
      go_ret
      exact ⟨ret_bool (by rw [HL.out, y0]; rfl), below_more (Below.refl _ _) _⟩
    case true =>
      go_enter Tryz.func43, Tryz.ntmps43
      go_wp2_with (go_at_call 73; refine (in_any _ _ _ _).mono ?_; rintro e wq ⟨rfl, hq⟩; have hq2 := hq.symm; subst hq2)
      go_ret
      exact ⟨ret_bool (by rw [HL.out, y0]; rfl), below_more (Below.refl _ _) _⟩
  · have HL : Hid (lineB t 12 = (inB t.fix 0 1000000 && inB t.min 0 1000000 && inB t.tax 0 1000)) := rfl
    cases y0 : inB t.fix 0 1000000
    case false =>
      go_enter Tryz.func43, Tryz.ntmps43
      go_wp2_with (go_at_call 73; refine (in_any _ _ _ _).mono ?_; rintro e wq ⟨rfl, hq⟩; have hq2 := hq.symm; subst hq2)
      go_ret
      exact ⟨ret_bool (by rw [HL.out, y0]; rfl), below_more (Below.refl _ _) _⟩
    case true =>
      cases y1 : inB t.min 0 1000000
      case false =>
        go_enter Tryz.func43, Tryz.ntmps43
        go_wp2_with (go_at_call 73; refine (in_any _ _ _ _).mono ?_; rintro e wq ⟨rfl, hq⟩; have hq2 := hq.symm; subst hq2)
        go_ret
        exact ⟨ret_bool (by rw [HL.out, y0, y1]; rfl), below_more (Below.refl _ _) _⟩
      case true =>
        go_enter Tryz.func43, Tryz.ntmps43
        go_wp2_with (go_at_call 73; refine (in_any _ _ _ _).mono ?_; rintro e wq ⟨rfl, hq⟩; have hq2 := hq.symm; subst hq2)
        go_ret
        exact ⟨ret_bool (by rw [HL.out, y0, y1]; rfl), below_more (Below.refl _ _) _⟩

def goodB (t : Trf) : Bool := decide (badN t = 13)
set_option maxRecDepth 1000000 in
set_option maxHeartbeats 1000000 in
theorem GoodTariff_any (t : Trf) (w : World) (s0 : t.h0.size ≤ maxLen) (s1 : t.h1.size ≤ maxLen) (s2 : t.h2.size ≤ maxLen) (s3 : t.h3.size ≤ maxLen) :
    Calls Tryz.prog 76 #[.agg #[.int .i64 t.z.off, .int .i64 t.z.f.m, .int .i64 t.z.f.w, .int .i64 t.z.f.d, .int .i64 t.z.f.h, .int .i64 t.z.t.m, .int .i64 t.z.t.w, .int .i64 t.z.t.d, .int .i64 t.z.t.h, .int .i64 t.days, .int .i64 t.gap, .int .i64 t.first, .int .i64 t.last, .string t.h0, .string t.h1, .string t.h2, .string t.h3, .int .i64 t.b0.x, .int .i64 t.b0.y, .int .i64 t.b0.z, .int .i64 t.b1.x, .int .i64 t.b1.y, .int .i64 t.b1.z, .int .i64 t.b2.x, .int .i64 t.b2.y, .int .i64 t.b2.z, .int .i64 t.d.x, .int .i64 t.d.y, .int .i64 t.d.z, .int .i64 t.np, .int .i64 t.nn, .int .i64 t.fix, .int .i64 t.min, .int .i64 t.tax]] w fun e w' => e = .returned (.bool (goodB t)) ∧ Below w.heap.size w w' := by
  have gl := fun k hk w1 => goodLine_any t k hk w1 s0 s1 s2 s3
  go_enter Tryz.func76, Tryz.ntmps76
  go_wp2_with fail
  obtain ⟨W0, hW0⟩ : ∃ W0, W0 = w.alloc (.cells #[.int .i64 t.z.off, .int .i64 t.z.f.m, .int .i64 t.z.f.w, .int .i64 t.z.f.d, .int .i64 t.z.f.h, .int .i64 t.z.t.m, .int .i64 t.z.t.w, .int .i64 t.z.t.d, .int .i64 t.z.t.h, .int .i64 t.days, .int .i64 t.gap, .int .i64 t.first, .int .i64 t.last, .string t.h0, .string t.h1, .string t.h2, .string t.h3, .int .i64 t.b0.x, .int .i64 t.b0.y, .int .i64 t.b0.z, .int .i64 t.b1.x, .int .i64 t.b1.y, .int .i64 t.b1.z, .int .i64 t.b2.x, .int .i64 t.b2.y, .int .i64 t.b2.z, .int .i64 t.d.x, .int .i64 t.d.y, .int .i64 t.d.z, .int .i64 t.np, .int .i64 t.nn, .int .i64 t.fix, .int .i64 t.min, .int .i64 t.tax] 67) := ⟨_, rfl⟩
  have B0 : Below w.heap.size w W0 := by rw [hW0]; exact below_more (Below.refl _ _) _
  have z0 : W0.heap.size = w.heap.size + 1 := by rw [hW0]; simp
  have MT : W0.heap[w.heap.size]? = some (.cells #[.int .i64 t.z.off, .int .i64 t.z.f.m, .int .i64 t.z.f.w, .int .i64 t.z.f.d, .int .i64 t.z.f.h, .int .i64 t.z.t.m, .int .i64 t.z.t.w, .int .i64 t.z.t.d, .int .i64 t.z.t.h, .int .i64 t.days, .int .i64 t.gap, .int .i64 t.first, .int .i64 t.last, .string t.h0, .string t.h1, .string t.h2, .string t.h3, .int .i64 t.b0.x, .int .i64 t.b0.y, .int .i64 t.b0.z, .int .i64 t.b1.x, .int .i64 t.b1.y, .int .i64 t.b1.z, .int .i64 t.b2.x, .int .i64 t.b2.y, .int .i64 t.b2.z, .int .i64 t.d.x, .int .i64 t.d.y, .int .i64 t.d.z, .int .i64 t.np, .int .i64 t.nn, .int .i64 t.fix, .int .i64 t.min, .int .i64 t.tax] 67) := by rw [hW0]; exact heap_alloc_new _ _
  have HW0 : Hid (W0 = w.alloc (.cells #[.int .i64 t.z.off, .int .i64 t.z.f.m, .int .i64 t.z.f.w, .int .i64 t.z.f.d, .int .i64 t.z.f.h, .int .i64 t.z.t.m, .int .i64 t.z.t.w, .int .i64 t.z.t.d, .int .i64 t.z.t.h, .int .i64 t.days, .int .i64 t.gap, .int .i64 t.first, .int .i64 t.last, .string t.h0, .string t.h1, .string t.h2, .string t.h3, .int .i64 t.b0.x, .int .i64 t.b0.y, .int .i64 t.b0.z, .int .i64 t.b1.x, .int .i64 t.b1.y, .int .i64 t.b1.z, .int .i64 t.b2.x, .int .i64 t.b2.y, .int .i64 t.b2.z, .int .i64 t.d.x, .int .i64 t.d.y, .int .i64 t.d.z, .int .i64 t.np, .int .i64 t.nn, .int .i64 t.fix, .int .i64 t.min, .int .i64 t.tax] 67)) := hW0
  clear hW0
  go_loopw [3] (fun p wr => ∃ k : Nat, p = .int .i64 k ∧ k ≤ 13 ∧ (∀ j, j < k → lineB t j = true) ∧ Below W0.heap.size W0 wr) (fun p _ => 13 - (intOf p).toNat)
  case atStart => exact ⟨0, rfl, by omega, fun j hj => by omega, by rw [HW0.out]; exact Below.refl _ _⟩
  case round =>
    obtain ⟨k, rfl, hk, hpre, hb⟩ := hrel
    have HP : Hid (∀ j, j < k → lineB t j = true) := hpre
    have mt := (hb.block w.heap.size (by omega)).trans MT
    clear hpre
    by_cases hlt : k < 13
    · have hlt' : (k : Int) < 13 := by omega
      have g1 := gl k hlt
      cases hl : lineB t k
      case false =>
        rw [hl] at g1
        have HB : Hid (badN t = k) := badN_at hlt HP.out hl
        go_wp2_with (first
          | (refine wpList_load_row rfl 67 _ rfl w.heap.size rfl 67 _ (0, 0) _ mt Tryz.underlying67 rfl (by kernel_rfl) ?_)
          | (go_at_call 43; refine (g1 _).mono ?_; rintro e w1 ⟨rfl, hb1⟩))
        go_ret
        exact ⟨ret_bool (by unfold goodB; rw [HB.out]; simp; omega), below_then (below_then B0 hb) hb1⟩
      case true =>
        rw [hl] at g1
        have HN : Hid (∀ j, j < k + 1 → lineB t j = true) := lineB_case HP.out hl
        go_wp2_with (first
          | (refine wpList_load_row rfl 67 _ rfl w.heap.size rfl 67 _ (0, 0) _ mt Tryz.underlying67 rfl (by kernel_rfl) ?_)
          | (go_at_call 43; refine (g1 _).mono ?_; rintro e w1 ⟨rfl, hb1⟩))
        go_roundw
        case rel => exact ⟨k + 1, by go_num, by omega, HN.out, below_then hb hb1⟩
        case measure => simp [intOf]; omega
    · have hlt' : ¬ (k : Int) < 13 := by omega
      have HB : Hid (badN t = 13) := badN_all (fun j hj => HP.out j (by omega))
      go_wp2_with fail
      go_ret
      exact ⟨ret_bool (by unfold goodB; rw [HB.out]; rfl), below_then B0 hb⟩

end Go.Proofs.YtjaffmmocbplaabGreatDoor
