/-
  The document's goodLine and GoodTariff.
-/
import Derived.Test.YtjaffmmocbplaaaTrfM
import Derived.Test.YtjaffmmocbplaaaClockR
import Derived.Test.YtjaffmmocbplaaaLetW
import Derived.Test.YtjaffmmocbplaaaRowW
import Derived.Test.YtjaffmmocbplaaaTrfW
namespace Go.Proofs.Ytjaffmmocbplaaa
open Go.RowKit
set_option linter.unusedVariables false

set_option maxRecDepth 1000000 in
set_option maxHeartbeats 2000000 in
theorem goodLine_any (t : Trf) (k : Nat) (hk : k < 13) (w : World) (s0 : t.h0.size ≤ maxLen) (s1 : t.h1.size ≤ maxLen) (s2 : t.h2.size ≤ maxLen) (s3 : t.h3.size ≤ maxLen) :
    Calls Try.prog 64 #[.agg #[.int .i64 t.z.off, .int .i64 t.z.f.m, .int .i64 t.z.f.w, .int .i64 t.z.f.d, .int .i64 t.z.f.h, .int .i64 t.z.t.m, .int .i64 t.z.t.w, .int .i64 t.z.t.d, .int .i64 t.z.t.h, .int .i64 t.days, .int .i64 t.gap, .int .i64 t.first, .int .i64 t.last, .string t.h0, .string t.h1, .string t.h2, .string t.h3, .int .i64 t.b0.x, .int .i64 t.b0.y, .int .i64 t.b0.z, .int .i64 t.b1.x, .int .i64 t.b1.y, .int .i64 t.b1.z, .int .i64 t.b2.x, .int .i64 t.b2.y, .int .i64 t.b2.z, .int .i64 t.d.x, .int .i64 t.d.y, .int .i64 t.d.z, .int .i64 t.np, .int .i64 t.nn, .int .i64 t.fix, .int .i64 t.min, .int .i64 t.tax], .int .i64 k] w fun e w' => e = .returned (.bool (lineB t k)) ∧ Below w.heap.size w w' := by
  rcases (by omega : k = 0 ∨ k = 1 ∨ k = 2 ∨ k = 3 ∨ k = 4 ∨ k = 5 ∨ k = 6 ∨ k = 7 ∨ k = 8 ∨ k = 9 ∨ k = 10 ∨ k = 11 ∨ k = 12) with rfl | rfl | rfl | rfl | rfl | rfl | rfl | rfl | rfl | rfl | rfl | rfl | rfl
  · go_enter Try.func64, Try.ntmps64
    go_wp2_with (go_at_call 19; refine (GoodZone_any t.z _).mono ?_; rintro e w1 ⟨rfl, hb1⟩)
    go_ret
    exact ⟨rfl, below_then (below_more (Below.refl _ _) _) hb1⟩
  · have HL : Hid (lineB t 1 = (inB t.days 1 31 && inB t.gap 0 8)) := rfl
    cases y0 : inB t.days 1 31
    case false =>
      go_enter Try.func64, Try.ntmps64
      go_wp2_with (go_at_call 70; refine (in_any _ _ _ _).mono ?_; rintro e wq ⟨rfl, hq⟩; have hq2 := hq.symm; subst hq2)
      go_ret
      exact ⟨ret_bool (by rw [HL.out, y0]; rfl), below_more (Below.refl _ _) _⟩
    case true =>
      go_enter Try.func64, Try.ntmps64
      go_wp2_with (go_at_call 70; refine (in_any _ _ _ _).mono ?_; rintro e wq ⟨rfl, hq⟩; have hq2 := hq.symm; subst hq2)
      go_ret
      exact ⟨ret_bool (by rw [HL.out, y0]; rfl), below_more (Below.refl _ _) _⟩
  · have HL : Hid (lineB t 2 = ((decide (1 ≤ t.first) && decide (t.first ≤ t.last)) && decide (t.last ≤ 12))) := rfl
    by_cases y0 : 1 ≤ t.first
    case neg =>
      go_enter Try.func64, Try.ntmps64
      go_wp2_with fail
      go_ret
      exact ⟨ret_bool (by rw [HL.out]; simp; omega), below_more (Below.refl _ _) _⟩
    case pos =>
      by_cases y1 : t.first ≤ t.last
      all_goals
        go_enter Try.func64, Try.ntmps64
        go_wp2_with fail
        go_ret
        exact ⟨ret_bool (by rw [HL.out]; simp [y0, y1] <;> omega), below_more (Below.refl _ _) _⟩
  · go_enter Try.func64, Try.ntmps64
    go_wp2_with (go_at_call 91; refine (letters_any t.h0 _ s0).mono ?_; rintro e wq ⟨rfl, hq⟩; have hq2 := hq.symm; subst hq2)
    go_ret
    exact ⟨rfl, below_more (Below.refl _ _) _⟩
  · go_enter Try.func64, Try.ntmps64
    go_wp2_with (go_at_call 91; refine (letters_any t.h1 _ s1).mono ?_; rintro e wq ⟨rfl, hq⟩; have hq2 := hq.symm; subst hq2)
    go_ret
    exact ⟨rfl, below_more (Below.refl _ _) _⟩
  · go_enter Try.func64, Try.ntmps64
    go_wp2_with (go_at_call 91; refine (letters_any t.h2 _ s2).mono ?_; rintro e wq ⟨rfl, hq⟩; have hq2 := hq.symm; subst hq2)
    go_ret
    exact ⟨rfl, below_more (Below.refl _ _) _⟩
  · go_enter Try.func64, Try.ntmps64
    go_wp2_with (go_at_call 91; refine (letters_any t.h3 _ s3).mono ?_; rintro e wq ⟨rfl, hq⟩; have hq2 := hq.symm; subst hq2)
    go_ret
    exact ⟨rfl, below_more (Below.refl _ _) _⟩
  · have HL : Hid (lineB t 7 = (inB t.b0.x 0 1000000 && inB t.b0.y 0 100000 && inB t.b0.z 0 100000)) := rfl
    cases y0 : inB t.b0.x 0 1000000
    case false =>
      go_enter Try.func64, Try.ntmps64
      go_wp2_with (go_at_call 70; refine (in_any _ _ _ _).mono ?_; rintro e wq ⟨rfl, hq⟩; have hq2 := hq.symm; subst hq2)
      go_ret
      exact ⟨ret_bool (by rw [HL.out, y0]; rfl), below_more (below_more (Below.refl _ _) _) _⟩
    case true =>
      cases y1 : inB t.b0.y 0 100000
      case false =>
        go_enter Try.func64, Try.ntmps64
        go_wp2_with (go_at_call 70; refine (in_any _ _ _ _).mono ?_; rintro e wq ⟨rfl, hq⟩; have hq2 := hq.symm; subst hq2)
        go_ret
        exact ⟨ret_bool (by rw [HL.out, y0, y1]; rfl), below_more (below_more (Below.refl _ _) _) _⟩
      case true =>
        go_enter Try.func64, Try.ntmps64
        go_wp2_with (go_at_call 70; refine (in_any _ _ _ _).mono ?_; rintro e wq ⟨rfl, hq⟩; have hq2 := hq.symm; subst hq2)
        go_ret
        exact ⟨ret_bool (by rw [HL.out, y0, y1]; rfl), below_more (below_more (Below.refl _ _) _) _⟩
  · have HL : Hid (lineB t 8 = (inB t.b1.x 0 1000000 && inB t.b1.y 0 100000 && inB t.b1.z 0 100000)) := rfl
    cases y0 : inB t.b1.x 0 1000000
    case false =>
      go_enter Try.func64, Try.ntmps64
      go_wp2_with (go_at_call 70; refine (in_any _ _ _ _).mono ?_; rintro e wq ⟨rfl, hq⟩; have hq2 := hq.symm; subst hq2)
      go_ret
      exact ⟨ret_bool (by rw [HL.out, y0]; rfl), below_more (below_more (Below.refl _ _) _) _⟩
    case true =>
      cases y1 : inB t.b1.y 0 100000
      case false =>
        go_enter Try.func64, Try.ntmps64
        go_wp2_with (go_at_call 70; refine (in_any _ _ _ _).mono ?_; rintro e wq ⟨rfl, hq⟩; have hq2 := hq.symm; subst hq2)
        go_ret
        exact ⟨ret_bool (by rw [HL.out, y0, y1]; rfl), below_more (below_more (Below.refl _ _) _) _⟩
      case true =>
        go_enter Try.func64, Try.ntmps64
        go_wp2_with (go_at_call 70; refine (in_any _ _ _ _).mono ?_; rintro e wq ⟨rfl, hq⟩; have hq2 := hq.symm; subst hq2)
        go_ret
        exact ⟨ret_bool (by rw [HL.out, y0, y1]; rfl), below_more (below_more (Below.refl _ _) _) _⟩
  · have HL : Hid (lineB t 9 = (inB t.b2.x 0 1000000 && inB t.b2.y 0 100000 && inB t.b2.z 0 100000)) := rfl
    cases y0 : inB t.b2.x 0 1000000
    case false =>
      go_enter Try.func64, Try.ntmps64
      go_wp2_with (go_at_call 70; refine (in_any _ _ _ _).mono ?_; rintro e wq ⟨rfl, hq⟩; have hq2 := hq.symm; subst hq2)
      go_ret
      exact ⟨ret_bool (by rw [HL.out, y0]; rfl), below_more (below_more (Below.refl _ _) _) _⟩
    case true =>
      cases y1 : inB t.b2.y 0 100000
      case false =>
        go_enter Try.func64, Try.ntmps64
        go_wp2_with (go_at_call 70; refine (in_any _ _ _ _).mono ?_; rintro e wq ⟨rfl, hq⟩; have hq2 := hq.symm; subst hq2)
        go_ret
        exact ⟨ret_bool (by rw [HL.out, y0, y1]; rfl), below_more (below_more (Below.refl _ _) _) _⟩
      case true =>
        go_enter Try.func64, Try.ntmps64
        go_wp2_with (go_at_call 70; refine (in_any _ _ _ _).mono ?_; rintro e wq ⟨rfl, hq⟩; have hq2 := hq.symm; subst hq2)
        go_ret
        exact ⟨ret_bool (by rw [HL.out, y0, y1]; rfl), below_more (below_more (Below.refl _ _) _) _⟩
  · have HL : Hid (lineB t 10 = (inB t.d.x 0 1000000 && inB t.d.y 0 100 && inB t.d.z 0 12)) := rfl
    cases y0 : inB t.d.x 0 1000000
    case false =>
      go_enter Try.func64, Try.ntmps64
      go_wp2_with (go_at_call 70; refine (in_any _ _ _ _).mono ?_; rintro e wq ⟨rfl, hq⟩; have hq2 := hq.symm; subst hq2)
      go_ret
      exact ⟨ret_bool (by rw [HL.out, y0]; rfl), below_more (Below.refl _ _) _⟩
    case true =>
      cases y1 : inB t.d.y 0 100
      case false =>
        go_enter Try.func64, Try.ntmps64
        go_wp2_with (go_at_call 70; refine (in_any _ _ _ _).mono ?_; rintro e wq ⟨rfl, hq⟩; have hq2 := hq.symm; subst hq2)
        go_ret
        exact ⟨ret_bool (by rw [HL.out, y0, y1]; rfl), below_more (Below.refl _ _) _⟩
      case true =>
        go_enter Try.func64, Try.ntmps64
        go_wp2_with (go_at_call 70; refine (in_any _ _ _ _).mono ?_; rintro e wq ⟨rfl, hq⟩; have hq2 := hq.symm; subst hq2)
        go_ret
        exact ⟨ret_bool (by rw [HL.out, y0, y1]; rfl), below_more (Below.refl _ _) _⟩
  · have HL : Hid (lineB t 11 = (inB t.np 0 100000 && inB t.nn 0 12)) := rfl
    cases y0 : inB t.np 0 100000
    case false =>
      go_enter Try.func64, Try.ntmps64
      go_wp2_with (go_at_call 70; refine (in_any _ _ _ _).mono ?_; rintro e wq ⟨rfl, hq⟩; have hq2 := hq.symm; subst hq2)
      go_ret
      exact ⟨ret_bool (by rw [HL.out, y0]; rfl), below_more (Below.refl _ _) _⟩
    case true =>
      go_enter Try.func64, Try.ntmps64
      go_wp2_with (go_at_call 70; refine (in_any _ _ _ _).mono ?_; rintro e wq ⟨rfl, hq⟩; have hq2 := hq.symm; subst hq2)
      go_ret
      exact ⟨ret_bool (by rw [HL.out, y0]; rfl), below_more (Below.refl _ _) _⟩
  · have HL : Hid (lineB t 12 = (inB t.fix 0 1000000 && inB t.min 0 1000000 && inB t.tax 0 1000)) := rfl
    cases y0 : inB t.fix 0 1000000
    case false =>
      go_enter Try.func64, Try.ntmps64
      go_wp2_with (go_at_call 70; refine (in_any _ _ _ _).mono ?_; rintro e wq ⟨rfl, hq⟩; have hq2 := hq.symm; subst hq2)
      go_ret
      exact ⟨ret_bool (by rw [HL.out, y0]; rfl), below_more (Below.refl _ _) _⟩
    case true =>
      cases y1 : inB t.min 0 1000000
      case false =>
        go_enter Try.func64, Try.ntmps64
        go_wp2_with (go_at_call 70; refine (in_any _ _ _ _).mono ?_; rintro e wq ⟨rfl, hq⟩; have hq2 := hq.symm; subst hq2)
        go_ret
        exact ⟨ret_bool (by rw [HL.out, y0, y1]; rfl), below_more (Below.refl _ _) _⟩
      case true =>
        go_enter Try.func64, Try.ntmps64
        go_wp2_with (go_at_call 70; refine (in_any _ _ _ _).mono ?_; rintro e wq ⟨rfl, hq⟩; have hq2 := hq.symm; subst hq2)
        go_ret
        exact ⟨ret_bool (by rw [HL.out, y0, y1]; rfl), below_more (Below.refl _ _) _⟩

def goodB (t : Trf) : Bool := decide (badN t = 13)
end Go.Proofs.Ytjaffmmocbplaaa
