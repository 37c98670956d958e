/-
  The walks that turn the program's zone into the document's, and of the document's summer time.
-/
import Derived.Test.YtjaffmmocbplaabClockR
import Derived.Deep.RegionHeld3
import Derived.Deep.DrawnRows
namespace Go.Proofs.Ytjaffmmocbplaab
open Go.RowKit
set_option linter.unusedVariables false
attribute [local go_sem ↓] Go.wp_at_zero Go.wp_at_succ

set_option maxHeartbeats 400000 in
theorem rule_any (a b c d : Int) (w : World) :
    Calls Try.prog 66 #[.agg #[.int .i64 a, .int .i64 b, .int .i64 c, .int .i64 d]] w fun e w' => e = .returned (.agg #[.int .i64 a, .int .i64 b, .int .i64 c, .int .i64 d]) ∧
      w' = (w.alloc (.cells #[.int .i64 a, .int .i64 b, .int .i64 c, .int .i64 d] 26)).alloc (.cells #[.int .i64 a, .int .i64 b, .int .i64 c, .int .i64 d] 53) := by
  go_enter Try.func66, Try.ntmps66
  go_wp2
  exact bodyPost_ret (v := .agg #[.int .i64 a, .int .i64 b, .int .i64 c, .int .i64 d]) (by simp [results, Try.results66, go_sem]) rfl ⟨rfl, rfl⟩

set_option maxHeartbeats 1000000 in
theorem zone_any (z : Zon.Zn) (w : World) :
    Calls Try.prog 33 #[.agg #[.int .i64 z.off, .int .i64 z.f.m, .int .i64 z.f.w, .int .i64 z.f.d, .int .i64 z.f.h, .int .i64 z.t.m, .int .i64 z.t.w, .int .i64 z.t.d, .int .i64 z.t.h]] w fun e w' => e = .returned (.agg #[.int .i64 z.off, .int .i64 z.f.m, .int .i64 z.f.w, .int .i64 z.f.d, .int .i64 z.f.h, .int .i64 z.t.m, .int .i64 z.t.w, .int .i64 z.t.d, .int .i64 z.t.h]) ∧ Below w.heap.size w w' := by
  go_enter Try.func33, Try.ntmps33
  go_wp2_with fail
  go_region_held3 (fun w' => w'.cell? ⟨w.heap.size, 0, none⟩ = some (.int .i64 z.off) ∧ w'.cell? ⟨w.heap.size, 1, none⟩ = some (.int .i64 z.f.m) ∧ w'.cell? ⟨w.heap.size, 2, none⟩ = some (.int .i64 z.f.w) ∧ w'.cell? ⟨w.heap.size, 3, none⟩ = some (.int .i64 z.f.d) ∧ w'.cell? ⟨w.heap.size, 4, none⟩ = some (.int .i64 z.f.h) ∧
      w'.cell? ⟨w.heap.size, 5, none⟩ = some (.int .i64 z.t.m) ∧ w'.cell? ⟨w.heap.size, 6, none⟩ = some (.int .i64 z.t.w) ∧ w'.cell? ⟨w.heap.size, 7, none⟩ = some (.int .i64 z.t.d) ∧ w'.cell? ⟨w.heap.size, 8, none⟩ = some (.int .i64 z.t.h)) (simp [go_sem])
    (first | (go_at_call 66; refine (rule_any _ _ _ _ _).mono ?_; rintro e w' ⟨rfl, rfl⟩))
  all_goals
    go_wp2_with fail
    refine bodyPost_ret (v := .agg #[.int .i64 z.off, .int .i64 z.f.m, .int .i64 z.f.w, .int .i64 z.f.d, .int .i64 z.f.h, .int .i64 z.t.m, .int .i64 z.t.w, .int .i64 z.t.d, .int .i64 z.t.h]) (by simp [results, Try.results33, go_sem]) rfl ⟨rfl, ?_⟩
    repeat (first | exact Below.refl _ _ | refine Below.setCell ?_ (by simp) _ | refine Below.drew ?_ | refine below_more ?_ _)

end Go.Proofs.Ytjaffmmocbplaab
