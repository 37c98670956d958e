/-
  Fill's helpers: the program's.
-/
import Derived.Test.YtjaffmmocbplaaaDoorFilW
import Derived.Deep.RegionHeld3
import Derived.Deep.DrawnRows
namespace Go.Proofs.YtjaffmmocbplaaaDoor
open Go.RowKit
set_option linter.unusedVariables false
attribute [local go_sem ↓] Go.wp_at_zero Go.wp_at_succ

set_option maxRecDepth 1000000 in
set_option maxHeartbeats 1000000 in
theorem valueBetween_any (a b : Txt.Val) (i n : Int) (w : World) (ha : valB a = true) (hb : valB b = true) (i1 : 0 ≤ i) (i2 : i ≤ n) (n1 : 0 < n) (n2 : n ≤ 1000) :
    Calls Tryd.prog 53 #[.agg #[.int .i64 a.i, .int .i64 a.o, .bool a.m], .agg #[.int .i64 b.i, .int .i64 b.o, .bool b.m], .int .i64 i, .int .i64 n] w fun e w' =>
      e = .returned (.agg #[.int .i64 (Fil.btw a.i b.i i n), .int .i64 (Fil.btw a.o b.o i n), .bool false]) ∧ Below w.heap.size w w' := by
  obtain ⟨⟨p1, p2⟩, p3, p4⟩ := valB_bd ha
  obtain ⟨⟨q1, q2⟩, q3, q4⟩ := valB_bd hb
  clear ha hb
  go_enter Tryd.func53, Tryd.ntmps53
  go_wp2_with fail
  go_region_held3 (fun w' => w'.cell? ⟨w.heap.size, 0, none⟩ = some (.int .i64 a.i) ∧ w'.cell? ⟨w.heap.size, 1, none⟩ = some (.int .i64 a.o) ∧ w'.cell? ⟨w.heap.size + 1, 0, none⟩ = some (.int .i64 b.i) ∧ w'.cell? ⟨w.heap.size + 1, 1, none⟩ = some (.int .i64 b.o))
    (simp [go_sem])
    ((go_at_call 86; refine (numberBetween_any _ _ _ _ _ (by assumption) (by assumption) (by assumption) (by assumption) (by assumption) (by assumption) (by assumption) (by assumption)).mono ?_; rintro e w1 ⟨rfl, rfl⟩))
  all_goals
    go_wp2_with fail
    refine bodyPost_ret (v := .agg #[.int .i64 (Fil.btw a.i b.i i n), .int .i64 (Fil.btw a.o b.o i n), .bool false]) (by simp [results, Tryd.results53, go_sem]) rfl ⟨rfl, ?_⟩
    repeat (first | exact Below.refl _ _ | refine Below.setCell ?_ (by simp) _ | refine Below.drew ?_ | refine below_drewN ?_ _ | refine below_more ?_ _)

end Go.Proofs.YtjaffmmocbplaaaDoor
