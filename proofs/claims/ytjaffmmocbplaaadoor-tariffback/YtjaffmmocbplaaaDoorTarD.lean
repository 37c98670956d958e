/-
  ClockS, TarC in one text (made by tools/merge.py).
-/
import Derived.Test.YtjaffmmocbplaaaDoorClockR
import Derived.Deep.RegionHeld3
import Derived.Deep.DrawnRows
import Derived.Test.YtjaffmmocbplaaaDoorTrfW
import Derived.Laws.Tables
import Derived.Deep.WholeRow
import Derived.Laws.CopyOwn
namespace Go.Proofs.YtjaffmmocbplaaaDoor
open Go.RowKit
set_option linter.unusedVariables false
attribute [local go_sem ↓] Go.wp_at_zero Go.wp_at_succ

set_option maxHeartbeats 400000 in
theorem rule_any (a b c d : Int) (w : World) :
    Calls Tryd.prog 75 #[.agg #[.int .i64 a, .int .i64 b, .int .i64 c, .int .i64 d]] w fun e w' => e = .returned (.agg #[.int .i64 a, .int .i64 b, .int .i64 c, .int .i64 d]) ∧
      w' = (w.alloc (.cells #[.int .i64 a, .int .i64 b, .int .i64 c, .int .i64 d] 26)).alloc (.cells #[.int .i64 a, .int .i64 b, .int .i64 c, .int .i64 d] 47) := by
  go_enter Tryd.func75, Tryd.ntmps75
  go_wp2
  exact bodyPost_ret (v := .agg #[.int .i64 a, .int .i64 b, .int .i64 c, .int .i64 d]) (by simp [results, Tryd.results75, go_sem]) rfl ⟨rfl, rfl⟩

set_option maxHeartbeats 1000000 in
theorem zone_any (z : Zon.Zn) (w : World) :
    Calls Tryd.prog 41 #[.agg #[.int .i64 z.off, .int .i64 z.f.m, .int .i64 z.f.w, .int .i64 z.f.d, .int .i64 z.f.h, .int .i64 z.t.m, .int .i64 z.t.w, .int .i64 z.t.d, .int .i64 z.t.h]] w fun e w' => e = .returned (.agg #[.int .i64 z.off, .int .i64 z.f.m, .int .i64 z.f.w, .int .i64 z.f.d, .int .i64 z.f.h, .int .i64 z.t.m, .int .i64 z.t.w, .int .i64 z.t.d, .int .i64 z.t.h]) ∧ Below w.heap.size w w' := by
  go_enter Tryd.func41, Tryd.ntmps41
  go_wp2_with fail
  go_region_held3 (fun w' => w'.cell? ⟨w.heap.size, 0, none⟩ = some (.int .i64 z.off) ∧ w'.cell? ⟨w.heap.size, 1, none⟩ = some (.int .i64 z.f.m) ∧ w'.cell? ⟨w.heap.size, 2, none⟩ = some (.int .i64 z.f.w) ∧ w'.cell? ⟨w.heap.size, 3, none⟩ = some (.int .i64 z.f.d) ∧ w'.cell? ⟨w.heap.size, 4, none⟩ = some (.int .i64 z.f.h) ∧
      w'.cell? ⟨w.heap.size, 5, none⟩ = some (.int .i64 z.t.m) ∧ w'.cell? ⟨w.heap.size, 6, none⟩ = some (.int .i64 z.t.w) ∧ w'.cell? ⟨w.heap.size, 7, none⟩ = some (.int .i64 z.t.d) ∧ w'.cell? ⟨w.heap.size, 8, none⟩ = some (.int .i64 z.t.h)) (simp [go_sem])
    (first | (go_at_call 75; refine (rule_any _ _ _ _ _).mono ?_; rintro e w' ⟨rfl, rfl⟩))
  all_goals
    go_wp2_with fail
    refine bodyPost_ret (v := .agg #[.int .i64 z.off, .int .i64 z.f.m, .int .i64 z.f.w, .int .i64 z.f.d, .int .i64 z.f.h, .int .i64 z.t.m, .int .i64 z.t.w, .int .i64 z.t.d, .int .i64 z.t.h]) (by simp [results, Tryd.results41, go_sem]) rfl ⟨rfl, ?_⟩
    repeat (first | exact Below.refl _ _ | refine Below.setCell ?_ (by simp) _ | refine Below.drew ?_ | refine below_more ?_ _)

end Go.Proofs.YtjaffmmocbplaaaDoor

namespace Go.Proofs.YtjaffmmocbplaaaDoor
open Go.RowKit
set_option linter.unusedVariables false
attribute [local go_sem ↓] Go.wp_at_zero Go.wp_at_succ

theorem heap_three (w : World) (a b c : Obj) : (((w.alloc a).alloc b).drew.alloc c).heap[w.heap.size + 1 + 1]? = some c := by
  have h := heap_alloc_new ((w.alloc a).alloc b).drew c
  have e : ((w.alloc a).alloc b).drew.heap.size = w.heap.size + 1 + 1 := by show ((w.alloc a).alloc b).heap.size = _; simp
  rw [e] at h; exact h
def urow (t : Trf) : Nat → Array Value
  | 0 => #[.int .i64 t.z.off, .int .i64 t.z.f.m, .int .i64 t.z.f.w, .int .i64 t.z.f.d, .int .i64 t.z.f.h, .int .i64 t.z.t.m, .int .i64 t.z.t.w, .int .i64 t.z.t.d, .int .i64 t.z.t.h, .int .i64 t.days, .int .i64 t.gap, .int .i64 t.first, .int .i64 t.last, .string t.h0, .string t.h1, .string t.h2, .string t.h3, .int .i64 0, .int .i64 0, .int .i64 0, .int .i64 0, .int .i64 0, .int .i64 0, .int .i64 0, .int .i64 0, .int .i64 0, .int .i64 0, .int .i64 0, .int .i64 0, .int .i64 0, .int .i64 0, .int .i64 t.fix, .int .i64 t.min, .int .i64 t.tax]
  | 1 => #[.int .i64 t.z.off, .int .i64 t.z.f.m, .int .i64 t.z.f.w, .int .i64 t.z.f.d, .int .i64 t.z.f.h, .int .i64 t.z.t.m, .int .i64 t.z.t.w, .int .i64 t.z.t.d, .int .i64 t.z.t.h, .int .i64 t.days, .int .i64 t.gap, .int .i64 t.first, .int .i64 t.last, .string t.h0, .string t.h1, .string t.h2, .string t.h3, .int .i64 t.b0.x, .int .i64 t.b0.y, .int .i64 t.b0.z, .int .i64 0, .int .i64 0, .int .i64 0, .int .i64 0, .int .i64 0, .int .i64 0, .int .i64 0, .int .i64 0, .int .i64 0, .int .i64 0, .int .i64 0, .int .i64 t.fix, .int .i64 t.min, .int .i64 t.tax]
  | 2 => #[.int .i64 t.z.off, .int .i64 t.z.f.m, .int .i64 t.z.f.w, .int .i64 t.z.f.d, .int .i64 t.z.f.h, .int .i64 t.z.t.m, .int .i64 t.z.t.w, .int .i64 t.z.t.d, .int .i64 t.z.t.h, .int .i64 t.days, .int .i64 t.gap, .int .i64 t.first, .int .i64 t.last, .string t.h0, .string t.h1, .string t.h2, .string t.h3, .int .i64 t.b0.x, .int .i64 t.b0.y, .int .i64 t.b0.z, .int .i64 t.b1.x, .int .i64 t.b1.y, .int .i64 t.b1.z, .int .i64 0, .int .i64 0, .int .i64 0, .int .i64 0, .int .i64 0, .int .i64 0, .int .i64 0, .int .i64 0, .int .i64 t.fix, .int .i64 t.min, .int .i64 t.tax]
  | _ => #[.int .i64 t.z.off, .int .i64 t.z.f.m, .int .i64 t.z.f.w, .int .i64 t.z.f.d, .int .i64 t.z.f.h, .int .i64 t.z.t.m, .int .i64 t.z.t.w, .int .i64 t.z.t.d, .int .i64 t.z.t.h, .int .i64 t.days, .int .i64 t.gap, .int .i64 t.first, .int .i64 t.last, .string t.h0, .string t.h1, .string t.h2, .string t.h3, .int .i64 t.b0.x, .int .i64 t.b0.y, .int .i64 t.b0.z, .int .i64 t.b1.x, .int .i64 t.b1.y, .int .i64 t.b1.z, .int .i64 t.b2.x, .int .i64 t.b2.y, .int .i64 t.b2.z, .int .i64 0, .int .i64 0, .int .i64 0, .int .i64 0, .int .i64 0, .int .i64 t.fix, .int .i64 t.min, .int .i64 t.tax]

theorem hideT {p : Prop} (h : p) : Hid p := h
theorem tc_one (t : Trf) : (#[.int .i64 t.z.off, .int .i64 t.z.f.m, .int .i64 t.z.f.w, .int .i64 t.z.f.d, .int .i64 t.z.f.h, .int .i64 t.z.t.m, .int .i64 t.z.t.w, .int .i64 t.z.t.d, .int .i64 t.z.t.h, .int .i64 t.days, .int .i64 t.gap, .int .i64 t.first, .int .i64 t.last, .string t.h0, .string t.h1, .string t.h2, .string t.h3, .int .i64 t.b0.x, .int .i64 t.b0.y, .int .i64 t.b0.z, .int .i64 t.b1.x, .int .i64 t.b1.y, .int .i64 t.b1.z, .int .i64 t.b2.x, .int .i64 t.b2.y, .int .i64 t.b2.z, .int .i64 t.d.x, .int .i64 t.d.y, .int .i64 t.d.z, .int .i64 t.np, .int .i64 t.nn, .int .i64 t.fix, .int .i64 t.min, .int .i64 t.tax] : Array Value).all (fun v => v.oneCell') = true := by kernel_rfl
theorem tc_size (t : Trf) : (#[.int .i64 0, .int .i64 0, .int .i64 0, .int .i64 0, .int .i64 0, .int .i64 0, .int .i64 0, .int .i64 0, .int .i64 0, .int .i64 0, .int .i64 0, .int .i64 0, .int .i64 0, .string ByteArray.empty, .string ByteArray.empty, .string ByteArray.empty, .string ByteArray.empty, .int .i64 0, .int .i64 0, .int .i64 0, .int .i64 0, .int .i64 0, .int .i64 0, .int .i64 0, .int .i64 0, .int .i64 0, .int .i64 0, .int .i64 0, .int .i64 0, .int .i64 0, .int .i64 0, .int .i64 0, .int .i64 0, .int .i64 0] : Array Value).size = (#[.int .i64 t.z.off, .int .i64 t.z.f.m, .int .i64 t.z.f.w, .int .i64 t.z.f.d, .int .i64 t.z.f.h, .int .i64 t.z.t.m, .int .i64 t.z.t.w, .int .i64 t.z.t.d, .int .i64 t.z.t.h, .int .i64 t.days, .int .i64 t.gap, .int .i64 t.first, .int .i64 t.last, .string t.h0, .string t.h1, .string t.h2, .string t.h3, .int .i64 t.b0.x, .int .i64 t.b0.y, .int .i64 t.b0.z, .int .i64 t.b1.x, .int .i64 t.b1.y, .int .i64 t.b1.z, .int .i64 t.b2.x, .int .i64 t.b2.y, .int .i64 t.b2.z, .int .i64 t.d.x, .int .i64 t.d.y, .int .i64 t.d.z, .int .i64 t.np, .int .i64 t.nn, .int .i64 t.fix, .int .i64 t.min, .int .i64 t.tax] : Array Value).size := rfl
theorem tc_info (t : Trf) : (Tryd.prog.info? 55).map (fun i => i.size) = some (#[.int .i64 t.z.off, .int .i64 t.z.f.m, .int .i64 t.z.f.w, .int .i64 t.z.f.d, .int .i64 t.z.f.h, .int .i64 t.z.t.m, .int .i64 t.z.t.w, .int .i64 t.z.t.d, .int .i64 t.z.t.h, .int .i64 t.days, .int .i64 t.gap, .int .i64 t.first, .int .i64 t.last, .string t.h0, .string t.h1, .string t.h2, .string t.h3, .int .i64 t.b0.x, .int .i64 t.b0.y, .int .i64 t.b0.z, .int .i64 t.b1.x, .int .i64 t.b1.y, .int .i64 t.b1.z, .int .i64 t.b2.x, .int .i64 t.b2.y, .int .i64 t.b2.z, .int .i64 t.d.x, .int .i64 t.d.y, .int .i64 t.d.z, .int .i64 t.np, .int .i64 t.nn, .int .i64 t.fix, .int .i64 t.min, .int .i64 t.tax] : Array Value).size := by kernel_rfl
theorem dnr0 (w : World) (g : Nat) (t : Trf) (h : w.heap[g]? = some (.cells (urow t 3) 55 (0, 0))) : (w.setCell ⟨g, 26, none⟩ (.int .i64 t.d.x)).heap[g]? = some (.cells #[.int .i64 t.z.off, .int .i64 t.z.f.m, .int .i64 t.z.f.w, .int .i64 t.z.f.d, .int .i64 t.z.f.h, .int .i64 t.z.t.m, .int .i64 t.z.t.w, .int .i64 t.z.t.d, .int .i64 t.z.t.h, .int .i64 t.days, .int .i64 t.gap, .int .i64 t.first, .int .i64 t.last, .string t.h0, .string t.h1, .string t.h2, .string t.h3, .int .i64 t.b0.x, .int .i64 t.b0.y, .int .i64 t.b0.z, .int .i64 t.b1.x, .int .i64 t.b1.y, .int .i64 t.b1.z, .int .i64 t.b2.x, .int .i64 t.b2.y, .int .i64 t.b2.z, .int .i64 t.d.x, .int .i64 0, .int .i64 0, .int .i64 0, .int .i64 0, .int .i64 t.fix, .int .i64 t.min, .int .i64 t.tax] 55 (0, 0)) := heap_setCell_same _ g 26 _ _ _ h
theorem dnr1 (w : World) (g : Nat) (t : Trf) (h : w.heap[g]? = some (.cells #[.int .i64 t.z.off, .int .i64 t.z.f.m, .int .i64 t.z.f.w, .int .i64 t.z.f.d, .int .i64 t.z.f.h, .int .i64 t.z.t.m, .int .i64 t.z.t.w, .int .i64 t.z.t.d, .int .i64 t.z.t.h, .int .i64 t.days, .int .i64 t.gap, .int .i64 t.first, .int .i64 t.last, .string t.h0, .string t.h1, .string t.h2, .string t.h3, .int .i64 t.b0.x, .int .i64 t.b0.y, .int .i64 t.b0.z, .int .i64 t.b1.x, .int .i64 t.b1.y, .int .i64 t.b1.z, .int .i64 t.b2.x, .int .i64 t.b2.y, .int .i64 t.b2.z, .int .i64 t.d.x, .int .i64 0, .int .i64 0, .int .i64 0, .int .i64 0, .int .i64 t.fix, .int .i64 t.min, .int .i64 t.tax] 55 (0, 0))) : (w.setCell ⟨g, 27, none⟩ (.int .i64 t.d.y)).heap[g]? = some (.cells #[.int .i64 t.z.off, .int .i64 t.z.f.m, .int .i64 t.z.f.w, .int .i64 t.z.f.d, .int .i64 t.z.f.h, .int .i64 t.z.t.m, .int .i64 t.z.t.w, .int .i64 t.z.t.d, .int .i64 t.z.t.h, .int .i64 t.days, .int .i64 t.gap, .int .i64 t.first, .int .i64 t.last, .string t.h0, .string t.h1, .string t.h2, .string t.h3, .int .i64 t.b0.x, .int .i64 t.b0.y, .int .i64 t.b0.z, .int .i64 t.b1.x, .int .i64 t.b1.y, .int .i64 t.b1.z, .int .i64 t.b2.x, .int .i64 t.b2.y, .int .i64 t.b2.z, .int .i64 t.d.x, .int .i64 t.d.y, .int .i64 0, .int .i64 0, .int .i64 0, .int .i64 t.fix, .int .i64 t.min, .int .i64 t.tax] 55 (0, 0)) := heap_setCell_same _ g 27 _ _ _ h
theorem dnr2 (w : World) (g : Nat) (t : Trf) (h : w.heap[g]? = some (.cells #[.int .i64 t.z.off, .int .i64 t.z.f.m, .int .i64 t.z.f.w, .int .i64 t.z.f.d, .int .i64 t.z.f.h, .int .i64 t.z.t.m, .int .i64 t.z.t.w, .int .i64 t.z.t.d, .int .i64 t.z.t.h, .int .i64 t.days, .int .i64 t.gap, .int .i64 t.first, .int .i64 t.last, .string t.h0, .string t.h1, .string t.h2, .string t.h3, .int .i64 t.b0.x, .int .i64 t.b0.y, .int .i64 t.b0.z, .int .i64 t.b1.x, .int .i64 t.b1.y, .int .i64 t.b1.z, .int .i64 t.b2.x, .int .i64 t.b2.y, .int .i64 t.b2.z, .int .i64 t.d.x, .int .i64 t.d.y, .int .i64 0, .int .i64 0, .int .i64 0, .int .i64 t.fix, .int .i64 t.min, .int .i64 t.tax] 55 (0, 0))) : (w.setCell ⟨g, 28, none⟩ (.int .i64 t.d.z)).heap[g]? = some (.cells #[.int .i64 t.z.off, .int .i64 t.z.f.m, .int .i64 t.z.f.w, .int .i64 t.z.f.d, .int .i64 t.z.f.h, .int .i64 t.z.t.m, .int .i64 t.z.t.w, .int .i64 t.z.t.d, .int .i64 t.z.t.h, .int .i64 t.days, .int .i64 t.gap, .int .i64 t.first, .int .i64 t.last, .string t.h0, .string t.h1, .string t.h2, .string t.h3, .int .i64 t.b0.x, .int .i64 t.b0.y, .int .i64 t.b0.z, .int .i64 t.b1.x, .int .i64 t.b1.y, .int .i64 t.b1.z, .int .i64 t.b2.x, .int .i64 t.b2.y, .int .i64 t.b2.z, .int .i64 t.d.x, .int .i64 t.d.y, .int .i64 t.d.z, .int .i64 0, .int .i64 0, .int .i64 t.fix, .int .i64 t.min, .int .i64 t.tax] 55 (0, 0)) := heap_setCell_same _ g 28 _ _ _ h
theorem dnr3 (w : World) (g : Nat) (t : Trf) (h : w.heap[g]? = some (.cells #[.int .i64 t.z.off, .int .i64 t.z.f.m, .int .i64 t.z.f.w, .int .i64 t.z.f.d, .int .i64 t.z.f.h, .int .i64 t.z.t.m, .int .i64 t.z.t.w, .int .i64 t.z.t.d, .int .i64 t.z.t.h, .int .i64 t.days, .int .i64 t.gap, .int .i64 t.first, .int .i64 t.last, .string t.h0, .string t.h1, .string t.h2, .string t.h3, .int .i64 t.b0.x, .int .i64 t.b0.y, .int .i64 t.b0.z, .int .i64 t.b1.x, .int .i64 t.b1.y, .int .i64 t.b1.z, .int .i64 t.b2.x, .int .i64 t.b2.y, .int .i64 t.b2.z, .int .i64 t.d.x, .int .i64 t.d.y, .int .i64 t.d.z, .int .i64 0, .int .i64 0, .int .i64 t.fix, .int .i64 t.min, .int .i64 t.tax] 55 (0, 0))) : (w.setCell ⟨g, 29, none⟩ (.int .i64 t.np)).heap[g]? = some (.cells #[.int .i64 t.z.off, .int .i64 t.z.f.m, .int .i64 t.z.f.w, .int .i64 t.z.f.d, .int .i64 t.z.f.h, .int .i64 t.z.t.m, .int .i64 t.z.t.w, .int .i64 t.z.t.d, .int .i64 t.z.t.h, .int .i64 t.days, .int .i64 t.gap, .int .i64 t.first, .int .i64 t.last, .string t.h0, .string t.h1, .string t.h2, .string t.h3, .int .i64 t.b0.x, .int .i64 t.b0.y, .int .i64 t.b0.z, .int .i64 t.b1.x, .int .i64 t.b1.y, .int .i64 t.b1.z, .int .i64 t.b2.x, .int .i64 t.b2.y, .int .i64 t.b2.z, .int .i64 t.d.x, .int .i64 t.d.y, .int .i64 t.d.z, .int .i64 t.np, .int .i64 0, .int .i64 t.fix, .int .i64 t.min, .int .i64 t.tax] 55 (0, 0)) := heap_setCell_same _ g 29 _ _ _ h
theorem dnr4 (w : World) (g : Nat) (t : Trf) (h : w.heap[g]? = some (.cells #[.int .i64 t.z.off, .int .i64 t.z.f.m, .int .i64 t.z.f.w, .int .i64 t.z.f.d, .int .i64 t.z.f.h, .int .i64 t.z.t.m, .int .i64 t.z.t.w, .int .i64 t.z.t.d, .int .i64 t.z.t.h, .int .i64 t.days, .int .i64 t.gap, .int .i64 t.first, .int .i64 t.last, .string t.h0, .string t.h1, .string t.h2, .string t.h3, .int .i64 t.b0.x, .int .i64 t.b0.y, .int .i64 t.b0.z, .int .i64 t.b1.x, .int .i64 t.b1.y, .int .i64 t.b1.z, .int .i64 t.b2.x, .int .i64 t.b2.y, .int .i64 t.b2.z, .int .i64 t.d.x, .int .i64 t.d.y, .int .i64 t.d.z, .int .i64 t.np, .int .i64 0, .int .i64 t.fix, .int .i64 t.min, .int .i64 t.tax] 55 (0, 0))) : (w.setCell ⟨g, 30, none⟩ (.int .i64 t.nn)).heap[g]? = some (.cells #[.int .i64 t.z.off, .int .i64 t.z.f.m, .int .i64 t.z.f.w, .int .i64 t.z.f.d, .int .i64 t.z.f.h, .int .i64 t.z.t.m, .int .i64 t.z.t.w, .int .i64 t.z.t.d, .int .i64 t.z.t.h, .int .i64 t.days, .int .i64 t.gap, .int .i64 t.first, .int .i64 t.last, .string t.h0, .string t.h1, .string t.h2, .string t.h3, .int .i64 t.b0.x, .int .i64 t.b0.y, .int .i64 t.b0.z, .int .i64 t.b1.x, .int .i64 t.b1.y, .int .i64 t.b1.z, .int .i64 t.b2.x, .int .i64 t.b2.y, .int .i64 t.b2.z, .int .i64 t.d.x, .int .i64 t.d.y, .int .i64 t.d.z, .int .i64 t.np, .int .i64 t.nn, .int .i64 t.fix, .int .i64 t.min, .int .i64 t.tax] 55 (0, 0)) := heap_setCell_same _ g 30 _ _ _ h
theorem dn_row (w : World) (g : Nat) (t : Trf) (h : w.heap[g]? = some (.cells (urow t 3) 55 (0, 0))) : (((((w.setCell ⟨g, 26, none⟩ (.int .i64 t.d.x)).setCell ⟨g, 27, none⟩ (.int .i64 t.d.y)).setCell ⟨g, 28, none⟩ (.int .i64 t.d.z)).setCell ⟨g, 29, none⟩ (.int .i64 t.np)).setCell ⟨g, 30, none⟩ (.int .i64 t.nn)).heap[g]? = some (.cells #[.int .i64 t.z.off, .int .i64 t.z.f.m, .int .i64 t.z.f.w, .int .i64 t.z.f.d, .int .i64 t.z.f.h, .int .i64 t.z.t.m, .int .i64 t.z.t.w, .int .i64 t.z.t.d, .int .i64 t.z.t.h, .int .i64 t.days, .int .i64 t.gap, .int .i64 t.first, .int .i64 t.last, .string t.h0, .string t.h1, .string t.h2, .string t.h3, .int .i64 t.b0.x, .int .i64 t.b0.y, .int .i64 t.b0.z, .int .i64 t.b1.x, .int .i64 t.b1.y, .int .i64 t.b1.z, .int .i64 t.b2.x, .int .i64 t.b2.y, .int .i64 t.b2.z, .int .i64 t.d.x, .int .i64 t.d.y, .int .i64 t.d.z, .int .i64 t.np, .int .i64 t.nn, .int .i64 t.fix, .int .i64 t.min, .int .i64 t.tax] 55 (0, 0)) := dnr4 _ _ _ (dnr3 _ _ _ (dnr2 _ _ _ (dnr1 _ _ _ (dnr0 _ _ _ h))))
theorem dn_far (w : World) (g k : Nat) (t : Trf) (X : Option Obj) (hk : k < g) (h : w.heap[k]? = X) : (((((w.setCell ⟨g, 26, none⟩ (.int .i64 t.d.x)).setCell ⟨g, 27, none⟩ (.int .i64 t.d.y)).setCell ⟨g, 28, none⟩ (.int .i64 t.d.z)).setCell ⟨g, 29, none⟩ (.int .i64 t.np)).setCell ⟨g, 30, none⟩ (.int .i64 t.nn)).heap[k]? = X := by
  rw [Below.heap_setCell _ _ _ _ (show k ≠ g by omega), Below.heap_setCell _ _ _ _ (show k ≠ g by omega), Below.heap_setCell _ _ _ _ (show k ≠ g by omega), Below.heap_setCell _ _ _ _ (show k ≠ g by omega), Below.heap_setCell _ _ _ _ (show k ≠ g by omega)]
  exact h
theorem blr00 (w : World) (g : Nat) (t : Trf) (h : w.heap[g]? = some (.cells (urow t 0) 55 (0, 0))) : (w.setCell ⟨g, 17, none⟩ (.int .i64 t.b0.x)).heap[g]? = some (.cells #[.int .i64 t.z.off, .int .i64 t.z.f.m, .int .i64 t.z.f.w, .int .i64 t.z.f.d, .int .i64 t.z.f.h, .int .i64 t.z.t.m, .int .i64 t.z.t.w, .int .i64 t.z.t.d, .int .i64 t.z.t.h, .int .i64 t.days, .int .i64 t.gap, .int .i64 t.first, .int .i64 t.last, .string t.h0, .string t.h1, .string t.h2, .string t.h3, .int .i64 t.b0.x, .int .i64 0, .int .i64 0, .int .i64 0, .int .i64 0, .int .i64 0, .int .i64 0, .int .i64 0, .int .i64 0, .int .i64 0, .int .i64 0, .int .i64 0, .int .i64 0, .int .i64 0, .int .i64 t.fix, .int .i64 t.min, .int .i64 t.tax] 55 (0, 0)) := heap_setCell_same _ g 17 _ _ _ h
theorem blr01 (w : World) (g : Nat) (t : Trf) (h : w.heap[g]? = some (.cells #[.int .i64 t.z.off, .int .i64 t.z.f.m, .int .i64 t.z.f.w, .int .i64 t.z.f.d, .int .i64 t.z.f.h, .int .i64 t.z.t.m, .int .i64 t.z.t.w, .int .i64 t.z.t.d, .int .i64 t.z.t.h, .int .i64 t.days, .int .i64 t.gap, .int .i64 t.first, .int .i64 t.last, .string t.h0, .string t.h1, .string t.h2, .string t.h3, .int .i64 t.b0.x, .int .i64 0, .int .i64 0, .int .i64 0, .int .i64 0, .int .i64 0, .int .i64 0, .int .i64 0, .int .i64 0, .int .i64 0, .int .i64 0, .int .i64 0, .int .i64 0, .int .i64 0, .int .i64 t.fix, .int .i64 t.min, .int .i64 t.tax] 55 (0, 0))) : (w.setCell ⟨g, 18, none⟩ (.int .i64 t.b0.y)).heap[g]? = some (.cells #[.int .i64 t.z.off, .int .i64 t.z.f.m, .int .i64 t.z.f.w, .int .i64 t.z.f.d, .int .i64 t.z.f.h, .int .i64 t.z.t.m, .int .i64 t.z.t.w, .int .i64 t.z.t.d, .int .i64 t.z.t.h, .int .i64 t.days, .int .i64 t.gap, .int .i64 t.first, .int .i64 t.last, .string t.h0, .string t.h1, .string t.h2, .string t.h3, .int .i64 t.b0.x, .int .i64 t.b0.y, .int .i64 0, .int .i64 0, .int .i64 0, .int .i64 0, .int .i64 0, .int .i64 0, .int .i64 0, .int .i64 0, .int .i64 0, .int .i64 0, .int .i64 0, .int .i64 0, .int .i64 t.fix, .int .i64 t.min, .int .i64 t.tax] 55 (0, 0)) := heap_setCell_same _ g 18 _ _ _ h
theorem blr02 (w : World) (g : Nat) (t : Trf) (h : w.heap[g]? = some (.cells #[.int .i64 t.z.off, .int .i64 t.z.f.m, .int .i64 t.z.f.w, .int .i64 t.z.f.d, .int .i64 t.z.f.h, .int .i64 t.z.t.m, .int .i64 t.z.t.w, .int .i64 t.z.t.d, .int .i64 t.z.t.h, .int .i64 t.days, .int .i64 t.gap, .int .i64 t.first, .int .i64 t.last, .string t.h0, .string t.h1, .string t.h2, .string t.h3, .int .i64 t.b0.x, .int .i64 t.b0.y, .int .i64 0, .int .i64 0, .int .i64 0, .int .i64 0, .int .i64 0, .int .i64 0, .int .i64 0, .int .i64 0, .int .i64 0, .int .i64 0, .int .i64 0, .int .i64 0, .int .i64 t.fix, .int .i64 t.min, .int .i64 t.tax] 55 (0, 0))) : (w.setCell ⟨g, 19, none⟩ (.int .i64 t.b0.z)).heap[g]? = some (.cells (urow t 1) 55 (0, 0)) := heap_setCell_same _ g 19 _ _ _ h
theorem blr10 (w : World) (g : Nat) (t : Trf) (h : w.heap[g]? = some (.cells (urow t 1) 55 (0, 0))) : (w.setCell ⟨g, 20, none⟩ (.int .i64 t.b1.x)).heap[g]? = some (.cells #[.int .i64 t.z.off, .int .i64 t.z.f.m, .int .i64 t.z.f.w, .int .i64 t.z.f.d, .int .i64 t.z.f.h, .int .i64 t.z.t.m, .int .i64 t.z.t.w, .int .i64 t.z.t.d, .int .i64 t.z.t.h, .int .i64 t.days, .int .i64 t.gap, .int .i64 t.first, .int .i64 t.last, .string t.h0, .string t.h1, .string t.h2, .string t.h3, .int .i64 t.b0.x, .int .i64 t.b0.y, .int .i64 t.b0.z, .int .i64 t.b1.x, .int .i64 0, .int .i64 0, .int .i64 0, .int .i64 0, .int .i64 0, .int .i64 0, .int .i64 0, .int .i64 0, .int .i64 0, .int .i64 0, .int .i64 t.fix, .int .i64 t.min, .int .i64 t.tax] 55 (0, 0)) := heap_setCell_same _ g 20 _ _ _ h
theorem blr11 (w : World) (g : Nat) (t : Trf) (h : w.heap[g]? = some (.cells #[.int .i64 t.z.off, .int .i64 t.z.f.m, .int .i64 t.z.f.w, .int .i64 t.z.f.d, .int .i64 t.z.f.h, .int .i64 t.z.t.m, .int .i64 t.z.t.w, .int .i64 t.z.t.d, .int .i64 t.z.t.h, .int .i64 t.days, .int .i64 t.gap, .int .i64 t.first, .int .i64 t.last, .string t.h0, .string t.h1, .string t.h2, .string t.h3, .int .i64 t.b0.x, .int .i64 t.b0.y, .int .i64 t.b0.z, .int .i64 t.b1.x, .int .i64 0, .int .i64 0, .int .i64 0, .int .i64 0, .int .i64 0, .int .i64 0, .int .i64 0, .int .i64 0, .int .i64 0, .int .i64 0, .int .i64 t.fix, .int .i64 t.min, .int .i64 t.tax] 55 (0, 0))) : (w.setCell ⟨g, 21, none⟩ (.int .i64 t.b1.y)).heap[g]? = some (.cells #[.int .i64 t.z.off, .int .i64 t.z.f.m, .int .i64 t.z.f.w, .int .i64 t.z.f.d, .int .i64 t.z.f.h, .int .i64 t.z.t.m, .int .i64 t.z.t.w, .int .i64 t.z.t.d, .int .i64 t.z.t.h, .int .i64 t.days, .int .i64 t.gap, .int .i64 t.first, .int .i64 t.last, .string t.h0, .string t.h1, .string t.h2, .string t.h3, .int .i64 t.b0.x, .int .i64 t.b0.y, .int .i64 t.b0.z, .int .i64 t.b1.x, .int .i64 t.b1.y, .int .i64 0, .int .i64 0, .int .i64 0, .int .i64 0, .int .i64 0, .int .i64 0, .int .i64 0, .int .i64 0, .int .i64 0, .int .i64 t.fix, .int .i64 t.min, .int .i64 t.tax] 55 (0, 0)) := heap_setCell_same _ g 21 _ _ _ h
theorem blr12 (w : World) (g : Nat) (t : Trf) (h : w.heap[g]? = some (.cells #[.int .i64 t.z.off, .int .i64 t.z.f.m, .int .i64 t.z.f.w, .int .i64 t.z.f.d, .int .i64 t.z.f.h, .int .i64 t.z.t.m, .int .i64 t.z.t.w, .int .i64 t.z.t.d, .int .i64 t.z.t.h, .int .i64 t.days, .int .i64 t.gap, .int .i64 t.first, .int .i64 t.last, .string t.h0, .string t.h1, .string t.h2, .string t.h3, .int .i64 t.b0.x, .int .i64 t.b0.y, .int .i64 t.b0.z, .int .i64 t.b1.x, .int .i64 t.b1.y, .int .i64 0, .int .i64 0, .int .i64 0, .int .i64 0, .int .i64 0, .int .i64 0, .int .i64 0, .int .i64 0, .int .i64 0, .int .i64 t.fix, .int .i64 t.min, .int .i64 t.tax] 55 (0, 0))) : (w.setCell ⟨g, 22, none⟩ (.int .i64 t.b1.z)).heap[g]? = some (.cells (urow t 2) 55 (0, 0)) := heap_setCell_same _ g 22 _ _ _ h
theorem blr20 (w : World) (g : Nat) (t : Trf) (h : w.heap[g]? = some (.cells (urow t 2) 55 (0, 0))) : (w.setCell ⟨g, 23, none⟩ (.int .i64 t.b2.x)).heap[g]? = some (.cells #[.int .i64 t.z.off, .int .i64 t.z.f.m, .int .i64 t.z.f.w, .int .i64 t.z.f.d, .int .i64 t.z.f.h, .int .i64 t.z.t.m, .int .i64 t.z.t.w, .int .i64 t.z.t.d, .int .i64 t.z.t.h, .int .i64 t.days, .int .i64 t.gap, .int .i64 t.first, .int .i64 t.last, .string t.h0, .string t.h1, .string t.h2, .string t.h3, .int .i64 t.b0.x, .int .i64 t.b0.y, .int .i64 t.b0.z, .int .i64 t.b1.x, .int .i64 t.b1.y, .int .i64 t.b1.z, .int .i64 t.b2.x, .int .i64 0, .int .i64 0, .int .i64 0, .int .i64 0, .int .i64 0, .int .i64 0, .int .i64 0, .int .i64 t.fix, .int .i64 t.min, .int .i64 t.tax] 55 (0, 0)) := heap_setCell_same _ g 23 _ _ _ h
theorem blr21 (w : World) (g : Nat) (t : Trf) (h : w.heap[g]? = some (.cells #[.int .i64 t.z.off, .int .i64 t.z.f.m, .int .i64 t.z.f.w, .int .i64 t.z.f.d, .int .i64 t.z.f.h, .int .i64 t.z.t.m, .int .i64 t.z.t.w, .int .i64 t.z.t.d, .int .i64 t.z.t.h, .int .i64 t.days, .int .i64 t.gap, .int .i64 t.first, .int .i64 t.last, .string t.h0, .string t.h1, .string t.h2, .string t.h3, .int .i64 t.b0.x, .int .i64 t.b0.y, .int .i64 t.b0.z, .int .i64 t.b1.x, .int .i64 t.b1.y, .int .i64 t.b1.z, .int .i64 t.b2.x, .int .i64 0, .int .i64 0, .int .i64 0, .int .i64 0, .int .i64 0, .int .i64 0, .int .i64 0, .int .i64 t.fix, .int .i64 t.min, .int .i64 t.tax] 55 (0, 0))) : (w.setCell ⟨g, 24, none⟩ (.int .i64 t.b2.y)).heap[g]? = some (.cells #[.int .i64 t.z.off, .int .i64 t.z.f.m, .int .i64 t.z.f.w, .int .i64 t.z.f.d, .int .i64 t.z.f.h, .int .i64 t.z.t.m, .int .i64 t.z.t.w, .int .i64 t.z.t.d, .int .i64 t.z.t.h, .int .i64 t.days, .int .i64 t.gap, .int .i64 t.first, .int .i64 t.last, .string t.h0, .string t.h1, .string t.h2, .string t.h3, .int .i64 t.b0.x, .int .i64 t.b0.y, .int .i64 t.b0.z, .int .i64 t.b1.x, .int .i64 t.b1.y, .int .i64 t.b1.z, .int .i64 t.b2.x, .int .i64 t.b2.y, .int .i64 0, .int .i64 0, .int .i64 0, .int .i64 0, .int .i64 0, .int .i64 0, .int .i64 t.fix, .int .i64 t.min, .int .i64 t.tax] 55 (0, 0)) := heap_setCell_same _ g 24 _ _ _ h
theorem blr22 (w : World) (g : Nat) (t : Trf) (h : w.heap[g]? = some (.cells #[.int .i64 t.z.off, .int .i64 t.z.f.m, .int .i64 t.z.f.w, .int .i64 t.z.f.d, .int .i64 t.z.f.h, .int .i64 t.z.t.m, .int .i64 t.z.t.w, .int .i64 t.z.t.d, .int .i64 t.z.t.h, .int .i64 t.days, .int .i64 t.gap, .int .i64 t.first, .int .i64 t.last, .string t.h0, .string t.h1, .string t.h2, .string t.h3, .int .i64 t.b0.x, .int .i64 t.b0.y, .int .i64 t.b0.z, .int .i64 t.b1.x, .int .i64 t.b1.y, .int .i64 t.b1.z, .int .i64 t.b2.x, .int .i64 t.b2.y, .int .i64 0, .int .i64 0, .int .i64 0, .int .i64 0, .int .i64 0, .int .i64 0, .int .i64 t.fix, .int .i64 t.min, .int .i64 t.tax] 55 (0, 0))) : (w.setCell ⟨g, 25, none⟩ (.int .i64 t.b2.z)).heap[g]? = some (.cells (urow t 3) 55 (0, 0)) := heap_setCell_same _ g 25 _ _ _ h

set_option maxRecDepth 1000000 in
set_option maxHeartbeats 4000000 in
theorem tariff_any (t : Trf) (w : World) :
    Calls Tryd.prog 12 #[.agg #[.int .i64 t.z.off, .int .i64 t.z.f.m, .int .i64 t.z.f.w, .int .i64 t.z.f.d, .int .i64 t.z.f.h, .int .i64 t.z.t.m, .int .i64 t.z.t.w, .int .i64 t.z.t.d, .int .i64 t.z.t.h, .int .i64 t.days, .int .i64 t.gap, .int .i64 t.first, .int .i64 t.last, .string t.h0, .string t.h1, .string t.h2, .string t.h3, .int .i64 t.b0.x, .int .i64 t.b0.y, .int .i64 t.b0.z, .int .i64 t.b1.x, .int .i64 t.b1.y, .int .i64 t.b1.z, .int .i64 t.b2.x, .int .i64 t.b2.y, .int .i64 t.b2.z, .int .i64 t.d.x, .int .i64 t.d.y, .int .i64 t.d.z, .int .i64 t.np, .int .i64 t.nn, .int .i64 t.fix, .int .i64 t.min, .int .i64 t.tax]] w fun e w' => e = .returned (.agg #[.int .i64 t.z.off, .int .i64 t.z.f.m, .int .i64 t.z.f.w, .int .i64 t.z.f.d, .int .i64 t.z.f.h, .int .i64 t.z.t.m, .int .i64 t.z.t.w, .int .i64 t.z.t.d, .int .i64 t.z.t.h, .int .i64 t.days, .int .i64 t.gap, .int .i64 t.first, .int .i64 t.last, .string t.h0, .string t.h1, .string t.h2, .string t.h3, .int .i64 t.b0.x, .int .i64 t.b0.y, .int .i64 t.b0.z, .int .i64 t.b1.x, .int .i64 t.b1.y, .int .i64 t.b1.z, .int .i64 t.b2.x, .int .i64 t.b2.y, .int .i64 t.b2.z, .int .i64 t.d.x, .int .i64 t.d.y, .int .i64 t.d.z, .int .i64 t.np, .int .i64 t.nn, .int .i64 t.fix, .int .i64 t.min, .int .i64 t.tax]) ∧ Below w.heap.size w w' := by
  go_enter Tryd.func12, Tryd.ntmps12
  go_wp2_with fail
  refine wp_region_held_drew (S := fun w' => w'.heap[w.heap.size]? = some (.cells #[.int .i64 t.z.off, .int .i64 t.z.f.m, .int .i64 t.z.f.w, .int .i64 t.z.f.d, .int .i64 t.z.f.h, .int .i64 t.z.t.m, .int .i64 t.z.t.w, .int .i64 t.z.t.d, .int .i64 t.z.t.h, .int .i64 t.days, .int .i64 t.gap, .int .i64 t.first, .int .i64 t.last, .string t.h0, .string t.h1, .string t.h2, .string t.h3, .int .i64 t.b0.x, .int .i64 t.b0.y, .int .i64 t.b0.z, .int .i64 t.b1.x, .int .i64 t.b1.y, .int .i64 t.b1.z, .int .i64 t.b2.x, .int .i64 t.b2.y, .int .i64 t.b2.z, .int .i64 t.d.x, .int .i64 t.d.y, .int .i64 t.d.z, .int .i64 t.np, .int .i64 t.nn, .int .i64 t.fix, .int .i64 t.min, .int .i64 t.tax] 38 (0, 0))) (by kernel_rfl) ?_ (fun hH0 => ?_)
  · exact (heap_alloc_old _ _ (by simp)).trans (heap_alloc_new _ _)
  refine wpAnyH_take (i := 0) (oi := { dst := some 5, op := Op.fieldAddr 38 (Operand.tmp 1) 0, type := 0, pos := "plain.go:31", after := #[], guard := none }) (v := .pointer (some ⟨w.heap.size, 0, none⟩)) rfl (by kernel_rfl) (by kernel_rfl) (by kernel_rfl) (fun _ _ _ h => h) (Or.inl ⟨by rfl, ?_⟩) (by assumption) ?_
  · intro w9 hSw
    go_simp
  try simp only [Act.put, List.setIfInBounds_toArray, List.set_cons_zero, List.set_cons_succ]
  refine wpAnyH_take (i := 1) (oi := { dst := some 6, op := Op.load 28 (Operand.tmp 5), type := 28, pos := "plain.go:31", after := #[{ on := 0, ground := Ground.data }], guard := none }) (v := .agg #[.int .i64 t.z.off, .int .i64 t.z.f.m, .int .i64 t.z.f.w, .int .i64 t.z.f.d, .int .i64 t.z.f.h, .int .i64 t.z.t.m, .int .i64 t.z.t.w, .int .i64 t.z.t.d, .int .i64 t.z.t.h]) rfl (by kernel_rfl) (by kernel_rfl) (by kernel_rfl) (fun _ _ _ h => h) (Or.inl ⟨by rfl, ?_⟩) (by assumption) ?_
  · intro w9 hSw
    have q0 : w9.cell? ⟨w.heap.size, 0, none⟩ = some (.int .i64 t.z.off) := cell_of_row _ _ _ _ _ _ hSw
    have q1 : w9.cell? ⟨w.heap.size, 1, none⟩ = some (.int .i64 t.z.f.m) := cell_of_row _ _ _ _ _ _ hSw
    have q2 : w9.cell? ⟨w.heap.size, 2, none⟩ = some (.int .i64 t.z.f.w) := cell_of_row _ _ _ _ _ _ hSw
    have q3 : w9.cell? ⟨w.heap.size, 3, none⟩ = some (.int .i64 t.z.f.d) := cell_of_row _ _ _ _ _ _ hSw
    have q4 : w9.cell? ⟨w.heap.size, 4, none⟩ = some (.int .i64 t.z.f.h) := cell_of_row _ _ _ _ _ _ hSw
    have q5 : w9.cell? ⟨w.heap.size, 5, none⟩ = some (.int .i64 t.z.t.m) := cell_of_row _ _ _ _ _ _ hSw
    have q6 : w9.cell? ⟨w.heap.size, 6, none⟩ = some (.int .i64 t.z.t.w) := cell_of_row _ _ _ _ _ _ hSw
    have q7 : w9.cell? ⟨w.heap.size, 7, none⟩ = some (.int .i64 t.z.t.d) := cell_of_row _ _ _ _ _ _ hSw
    have q8 : w9.cell? ⟨w.heap.size, 8, none⟩ = some (.int .i64 t.z.t.h) := cell_of_row _ _ _ _ _ _ hSw
    go_simp
  try simp only [Act.put, List.setIfInBounds_toArray, List.set_cons_zero, List.set_cons_succ]
  refine wpAnyH_take (i := 3) (oi := { dst := some 8, op := Op.fieldAddr 38 (Operand.tmp 1) 1, type := 0, pos := "plain.go:31", after := #[], guard := none }) (v := .pointer (some ⟨w.heap.size, 9, none⟩)) rfl (by kernel_rfl) (by kernel_rfl) (by kernel_rfl) (fun _ _ _ h => h) (Or.inl ⟨by rfl, ?_⟩) (by assumption) ?_
  · intro w9 hSw
    go_simp
  try simp only [Act.put, List.setIfInBounds_toArray, List.set_cons_zero, List.set_cons_succ]
  refine wpAnyH_take (i := 4) (oi := { dst := some 9, op := Op.load 3 (Operand.tmp 8), type := 3, pos := "plain.go:31", after := #[{ on := 3, ground := Ground.data }], guard := none }) (v := .int .i64 t.days) rfl (by kernel_rfl) (by kernel_rfl) (by kernel_rfl) (fun _ _ _ h => h) (Or.inl ⟨by rfl, ?_⟩) (by assumption) ?_
  · intro w9 hSw
    have q9 : w9.cell? ⟨w.heap.size, 9, none⟩ = some (.int .i64 t.days) := cell_of_row _ _ _ _ _ _ hSw
    go_simp
  try simp only [Act.put, List.setIfInBounds_toArray, List.set_cons_zero, List.set_cons_succ]
  refine wpAnyH_take (i := 5) (oi := { dst := some 10, op := Op.fieldAddr 38 (Operand.tmp 1) 2, type := 0, pos := "plain.go:31", after := #[], guard := none }) (v := .pointer (some ⟨w.heap.size, 10, none⟩)) rfl (by kernel_rfl) (by kernel_rfl) (by kernel_rfl) (fun _ _ _ h => h) (Or.inl ⟨by rfl, ?_⟩) (by assumption) ?_
  · intro w9 hSw
    go_simp
  try simp only [Act.put, List.setIfInBounds_toArray, List.set_cons_zero, List.set_cons_succ]
  refine wpAnyH_take (i := 6) (oi := { dst := some 11, op := Op.load 3 (Operand.tmp 10), type := 3, pos := "plain.go:31", after := #[{ on := 5, ground := Ground.data }], guard := none }) (v := .int .i64 t.gap) rfl (by kernel_rfl) (by kernel_rfl) (by kernel_rfl) (fun _ _ _ h => h) (Or.inl ⟨by rfl, ?_⟩) (by assumption) ?_
  · intro w9 hSw
    have q10 : w9.cell? ⟨w.heap.size, 10, none⟩ = some (.int .i64 t.gap) := cell_of_row _ _ _ _ _ _ hSw
    go_simp
  try simp only [Act.put, List.setIfInBounds_toArray, List.set_cons_zero, List.set_cons_succ]
  refine wpAnyH_take (i := 7) (oi := { dst := some 12, op := Op.fieldAddr 38 (Operand.tmp 1) 3, type := 0, pos := "plain.go:31", after := #[], guard := none }) (v := .pointer (some ⟨w.heap.size, 11, none⟩)) rfl (by kernel_rfl) (by kernel_rfl) (by kernel_rfl) (fun _ _ _ h => h) (Or.inl ⟨by rfl, ?_⟩) (by assumption) ?_
  · intro w9 hSw
    go_simp
  try simp only [Act.put, List.setIfInBounds_toArray, List.set_cons_zero, List.set_cons_succ]
  refine wpAnyH_take (i := 8) (oi := { dst := some 13, op := Op.load 3 (Operand.tmp 12), type := 3, pos := "plain.go:31", after := #[{ on := 7, ground := Ground.data }], guard := none }) (v := .int .i64 t.first) rfl (by kernel_rfl) (by kernel_rfl) (by kernel_rfl) (fun _ _ _ h => h) (Or.inl ⟨by rfl, ?_⟩) (by assumption) ?_
  · intro w9 hSw
    have q11 : w9.cell? ⟨w.heap.size, 11, none⟩ = some (.int .i64 t.first) := cell_of_row _ _ _ _ _ _ hSw
    go_simp
  try simp only [Act.put, List.setIfInBounds_toArray, List.set_cons_zero, List.set_cons_succ]
  refine wpAnyH_take (i := 9) (oi := { dst := some 14, op := Op.fieldAddr 38 (Operand.tmp 1) 4, type := 0, pos := "plain.go:31", after := #[], guard := none }) (v := .pointer (some ⟨w.heap.size, 12, none⟩)) rfl (by kernel_rfl) (by kernel_rfl) (by kernel_rfl) (fun _ _ _ h => h) (Or.inl ⟨by rfl, ?_⟩) (by assumption) ?_
  · intro w9 hSw
    go_simp
  try simp only [Act.put, List.setIfInBounds_toArray, List.set_cons_zero, List.set_cons_succ]
  refine wpAnyH_take (i := 10) (oi := { dst := some 15, op := Op.load 3 (Operand.tmp 14), type := 3, pos := "plain.go:31", after := #[{ on := 9, ground := Ground.data }], guard := none }) (v := .int .i64 t.last) rfl (by kernel_rfl) (by kernel_rfl) (by kernel_rfl) (fun _ _ _ h => h) (Or.inl ⟨by rfl, ?_⟩) (by assumption) ?_
  · intro w9 hSw
    have q12 : w9.cell? ⟨w.heap.size, 12, none⟩ = some (.int .i64 t.last) := cell_of_row _ _ _ _ _ _ hSw
    go_simp
  try simp only [Act.put, List.setIfInBounds_toArray, List.set_cons_zero, List.set_cons_succ]
  refine wpAnyH_take (i := 11) (oi := { dst := some 16, op := Op.fieldAddr 38 (Operand.tmp 1) 5, type := 0, pos := "plain.go:31", after := #[], guard := none }) (v := .pointer (some ⟨w.heap.size, 13, none⟩)) rfl (by kernel_rfl) (by kernel_rfl) (by kernel_rfl) (fun _ _ _ h => h) (Or.inl ⟨by rfl, ?_⟩) (by assumption) ?_
  · intro w9 hSw
    go_simp
  try simp only [Act.put, List.setIfInBounds_toArray, List.set_cons_zero, List.set_cons_succ]
  refine wpAnyH_take (i := 12) (oi := { dst := some 17, op := Op.load 29 (Operand.tmp 16), type := 29, pos := "plain.go:31", after := #[{ on := 11, ground := Ground.data }], guard := none }) (v := .agg #[.string t.h0, .string t.h1, .string t.h2, .string t.h3]) rfl (by kernel_rfl) (by kernel_rfl) (by kernel_rfl) (fun _ _ _ h => h) (Or.inl ⟨by rfl, ?_⟩) (by assumption) ?_
  · intro w9 hSw
    have q13 : w9.cell? ⟨w.heap.size, 13, none⟩ = some (.string t.h0) := cell_of_row _ _ _ _ _ _ hSw
    have q14 : w9.cell? ⟨w.heap.size, 14, none⟩ = some (.string t.h1) := cell_of_row _ _ _ _ _ _ hSw
    have q15 : w9.cell? ⟨w.heap.size, 15, none⟩ = some (.string t.h2) := cell_of_row _ _ _ _ _ _ hSw
    have q16 : w9.cell? ⟨w.heap.size, 16, none⟩ = some (.string t.h3) := cell_of_row _ _ _ _ _ _ hSw
    go_simp
  try simp only [Act.put, List.setIfInBounds_toArray, List.set_cons_zero, List.set_cons_succ]
  refine wpAnyH_take (i := 13) (oi := { dst := some 18, op := Op.fieldAddr 38 (Operand.tmp 1) 9, type := 0, pos := "plain.go:31", after := #[], guard := none }) (v := .pointer (some ⟨w.heap.size, 31, none⟩)) rfl (by kernel_rfl) (by kernel_rfl) (by kernel_rfl) (fun _ _ _ h => h) (Or.inl ⟨by rfl, ?_⟩) (by assumption) ?_
  · intro w9 hSw
    go_simp
  try simp only [Act.put, List.setIfInBounds_toArray, List.set_cons_zero, List.set_cons_succ]
  refine wpAnyH_take (i := 14) (oi := { dst := some 19, op := Op.load 3 (Operand.tmp 18), type := 3, pos := "plain.go:31", after := #[{ on := 13, ground := Ground.data }], guard := none }) (v := .int .i64 t.fix) rfl (by kernel_rfl) (by kernel_rfl) (by kernel_rfl) (fun _ _ _ h => h) (Or.inl ⟨by rfl, ?_⟩) (by assumption) ?_
  · intro w9 hSw
    have q31 : w9.cell? ⟨w.heap.size, 31, none⟩ = some (.int .i64 t.fix) := cell_of_row _ _ _ _ _ _ hSw
    go_simp
  try simp only [Act.put, List.setIfInBounds_toArray, List.set_cons_zero, List.set_cons_succ]
  refine wpAnyH_take (i := 15) (oi := { dst := some 20, op := Op.fieldAddr 38 (Operand.tmp 1) 10, type := 0, pos := "plain.go:31", after := #[], guard := none }) (v := .pointer (some ⟨w.heap.size, 32, none⟩)) rfl (by kernel_rfl) (by kernel_rfl) (by kernel_rfl) (fun _ _ _ h => h) (Or.inl ⟨by rfl, ?_⟩) (by assumption) ?_
  · intro w9 hSw
    go_simp
  try simp only [Act.put, List.setIfInBounds_toArray, List.set_cons_zero, List.set_cons_succ]
  refine wpAnyH_take (i := 16) (oi := { dst := some 21, op := Op.load 3 (Operand.tmp 20), type := 3, pos := "plain.go:31", after := #[{ on := 15, ground := Ground.data }], guard := none }) (v := .int .i64 t.min) rfl (by kernel_rfl) (by kernel_rfl) (by kernel_rfl) (fun _ _ _ h => h) (Or.inl ⟨by rfl, ?_⟩) (by assumption) ?_
  · intro w9 hSw
    have q32 : w9.cell? ⟨w.heap.size, 32, none⟩ = some (.int .i64 t.min) := cell_of_row _ _ _ _ _ _ hSw
    go_simp
  try simp only [Act.put, List.setIfInBounds_toArray, List.set_cons_zero, List.set_cons_succ]
  refine wpAnyH_take (i := 17) (oi := { dst := some 22, op := Op.fieldAddr 38 (Operand.tmp 1) 11, type := 0, pos := "plain.go:31", after := #[], guard := none }) (v := .pointer (some ⟨w.heap.size, 33, none⟩)) rfl (by kernel_rfl) (by kernel_rfl) (by kernel_rfl) (fun _ _ _ h => h) (Or.inl ⟨by rfl, ?_⟩) (by assumption) ?_
  · intro w9 hSw
    go_simp
  try simp only [Act.put, List.setIfInBounds_toArray, List.set_cons_zero, List.set_cons_succ]
  refine wpAnyH_take (i := 18) (oi := { dst := some 23, op := Op.load 3 (Operand.tmp 22), type := 3, pos := "plain.go:31", after := #[{ on := 17, ground := Ground.data }], guard := none }) (v := .int .i64 t.tax) rfl (by kernel_rfl) (by kernel_rfl) (by kernel_rfl) (fun _ _ _ h => h) (Or.inl ⟨by rfl, ?_⟩) (by assumption) ?_
  · intro w9 hSw
    have q33 : w9.cell? ⟨w.heap.size, 33, none⟩ = some (.int .i64 t.tax) := cell_of_row _ _ _ _ _ _ hSw
    go_simp
  try simp only [Act.put, List.setIfInBounds_toArray, List.set_cons_zero, List.set_cons_succ]
  refine wpAnyH_ready (rs := [2, 20]) (by kernel_rfl) (by simp) ?_
  refine AllReadyH.cons (o := { dst := some 7, op := Op.call { callee := Callee.value (Operand.func 41), args := #[Operand.tmp 6], argTypes := #[28] }, type := 49, pos := "plain.go:31", after := #[{ on := 1, ground := Ground.data }], guard := none }) rfl (fun K hK => ?_) ?_
  · go_simp
    refine (zone_any t.z _).mono ?_
    rintro e w3 ⟨rfl, hb3'⟩
    have hb3 := below_then (Below.drew (Below.refl _ _)) hb3'
    clear hb3'
    go_wp2_with fail
    refine hK.out _ _ ((hb3.block _ (by simp; omega)).trans hH0) (fun hH1 => ?_)
    clear hK K
    try simp only [Act.put, List.setIfInBounds_toArray, List.set_cons_zero, List.set_cons_succ]
    refine wpAnyH_take (i := 19) (oi := { dst := some 24, op := Op.build 55 #[(0, Operand.tmp 7), (1, Operand.tmp 9), (2, Operand.tmp 11), (3, Operand.tmp 13), (4, Operand.tmp 15), (5, Operand.tmp 17), (9, Operand.tmp 19), (10, Operand.tmp 21), (11, Operand.tmp 23)], type := 55, pos := "plain.go:31", after := #[{ on := 2, ground := Ground.data }, { on := 4, ground := Ground.data }, { on := 6, ground := Ground.data }, { on := 8, ground := Ground.data }, { on := 10, ground := Ground.data }, { on := 12, ground := Ground.data }, { on := 14, ground := Ground.data }, { on := 16, ground := Ground.data }, { on := 18, ground := Ground.data }], guard := none }) (v := .agg #[.int .i64 t.z.off, .int .i64 t.z.f.m, .int .i64 t.z.f.w, .int .i64 t.z.f.d, .int .i64 t.z.f.h, .int .i64 t.z.t.m, .int .i64 t.z.t.w, .int .i64 t.z.t.d, .int .i64 t.z.t.h, .int .i64 t.days, .int .i64 t.gap, .int .i64 t.first, .int .i64 t.last, .string t.h0, .string t.h1, .string t.h2, .string t.h3, .int .i64 0, .int .i64 0, .int .i64 0, .int .i64 0, .int .i64 0, .int .i64 0, .int .i64 0, .int .i64 0, .int .i64 0, .int .i64 0, .int .i64 0, .int .i64 0, .int .i64 0, .int .i64 0, .int .i64 t.fix, .int .i64 t.min, .int .i64 t.tax]) rfl (by kernel_rfl) (by kernel_rfl) (by kernel_rfl) (fun _ _ _ h => h) (Or.inl ⟨by rfl, ?_⟩) (by assumption) ?_
    · intro w9 hSw
      go_simp
    try simp only [Act.put, List.setIfInBounds_toArray, List.set_cons_zero, List.set_cons_succ]
    refine wpAnyH_ready (rs := [20]) (by kernel_rfl) (by simp) ?_
    refine AllReadyH.cons (o := { dst := some 3, op := Op.alloc 55, type := 0, pos := "plain.go:31", after := #[], guard := none }) rfl (fun K hK => ?_) AllReadyH.nil
    go_simp
    refine hK.out _ _ ((heap_alloc_old _ _ (by have := hb3.size; simp at this; omega)).trans hH1) (fun hH2 => ?_)
    clear hK K
    try simp only [Act.put, List.setIfInBounds_toArray, List.set_cons_zero, List.set_cons_succ]
    refine wpAnyH_ready (rs := [21]) (by kernel_rfl) (by simp) ?_
    refine AllReadyH.cons (o := { dst := none, op := Op.store 55 (Operand.tmp 3) (Operand.tmp 24), type := 0, pos := "plain.go:31", after := #[{ on := 20, ground := Ground.data }, { on := 19, ground := Ground.data }, { on := 2, ground := Ground.chain }, { on := 0, ground := Ground.phase }, { on := 1, ground := Ground.phase }, { on := 2, ground := Ground.phase }, { on := 3, ground := Ground.phase }, { on := 4, ground := Ground.phase }, { on := 5, ground := Ground.phase }, { on := 6, ground := Ground.phase }, { on := 7, ground := Ground.phase }, { on := 8, ground := Ground.phase }, { on := 9, ground := Ground.phase }, { on := 10, ground := Ground.phase }, { on := 11, ground := Ground.phase }, { on := 12, ground := Ground.phase }, { on := 13, ground := Ground.phase }, { on := 14, ground := Ground.phase }, { on := 15, ground := Ground.phase }, { on := 16, ground := Ground.phase }, { on := 17, ground := Ground.phase }, { on := 18, ground := Ground.phase }, { on := 19, ground := Ground.phase }, { on := 20, ground := Ground.phase }], guard := none }) rfl (fun K hK => ?_) AllReadyH.nil
    rw [if_pos (by rfl)]
    refine wp_store_row 55 _ _ rfl w3.heap.size #[.int .i64 t.z.off, .int .i64 t.z.f.m, .int .i64 t.z.f.w, .int .i64 t.z.f.d, .int .i64 t.z.f.h, .int .i64 t.z.t.m, .int .i64 t.z.t.w, .int .i64 t.z.t.d, .int .i64 t.z.t.h, .int .i64 t.days, .int .i64 t.gap, .int .i64 t.first, .int .i64 t.last, .string t.h0, .string t.h1, .string t.h2, .string t.h3, .int .i64 0, .int .i64 0, .int .i64 0, .int .i64 0, .int .i64 0, .int .i64 0, .int .i64 0, .int .i64 0, .int .i64 0, .int .i64 0, .int .i64 0, .int .i64 0, .int .i64 0, .int .i64 0, .int .i64 t.fix, .int .i64 t.min, .int .i64 t.tax] rfl rfl 55 _ (heap_alloc_new _ _) (by kernel_rfl) (by rfl) (by first | rfl | kernel_rfl | (simp [Value.oneCell'])) ?_
    refine hK.out _ _ ((setRow_other _ _ _ _ (by have := hb3.size; simp at this; omega)).trans hH2) (fun hH3 => ?_)
    clear hK K
    try simp only [Act.put]
    refine wpAnyH_done (by kernel_rfl) ?_ _
    rw [World.setRow_alloc_new]
    have hz3 := hb3.size
    simp at hz3
    have RR : w3.heap[w.heap.size + 1]? = some (.cells #[.int .i64 0, .int .i64 0, .int .i64 0, .int .i64 0, .int .i64 0, .int .i64 0, .int .i64 0, .int .i64 0, .int .i64 0, .int .i64 0, .int .i64 0, .int .i64 0, .int .i64 0, .string ByteArray.empty, .string ByteArray.empty, .string ByteArray.empty, .string ByteArray.empty, .int .i64 0, .int .i64 0, .int .i64 0, .int .i64 0, .int .i64 0, .int .i64 0, .int .i64 0, .int .i64 0, .int .i64 0, .int .i64 0, .int .i64 0, .int .i64 0, .int .i64 0, .int .i64 0, .int .i64 0, .int .i64 0, .int .i64 0] 55 (0, 0)) := (hb3.block _ (by simp)).trans (heap_alloc2_new _ _ _)
    have B3 : Below w.heap.size w w3 := below_then (below_more (below_more (Below.refl _ _) _) _) hb3
    obtain ⟨W, hW⟩ : ∃ W, W = w3.alloc (.cells #[.int .i64 t.z.off, .int .i64 t.z.f.m, .int .i64 t.z.f.w, .int .i64 t.z.f.d, .int .i64 t.z.f.h, .int .i64 t.z.t.m, .int .i64 t.z.t.w, .int .i64 t.z.t.d, .int .i64 t.z.t.h, .int .i64 t.days, .int .i64 t.gap, .int .i64 t.first, .int .i64 t.last, .string t.h0, .string t.h1, .string t.h2, .string t.h3, .int .i64 0, .int .i64 0, .int .i64 0, .int .i64 0, .int .i64 0, .int .i64 0, .int .i64 0, .int .i64 0, .int .i64 0, .int .i64 0, .int .i64 0, .int .i64 0, .int .i64 0, .int .i64 0, .int .i64 t.fix, .int .i64 t.min, .int .i64 t.tax] 55) := ⟨_, rfl⟩
    obtain ⟨g, hg⟩ : ∃ g, g = w3.heap.size := ⟨_, rfl⟩
    have G : W.heap[g]? = some (.cells (urow t 0) 55 (0, 0)) := by rw [hW, hg]; exact heap_alloc_new _ _
    have TT : W.heap[w.heap.size]? = some (.cells #[.int .i64 t.z.off, .int .i64 t.z.f.m, .int .i64 t.z.f.w, .int .i64 t.z.f.d, .int .i64 t.z.f.h, .int .i64 t.z.t.m, .int .i64 t.z.t.w, .int .i64 t.z.t.d, .int .i64 t.z.t.h, .int .i64 t.days, .int .i64 t.gap, .int .i64 t.first, .int .i64 t.last, .string t.h0, .string t.h1, .string t.h2, .string t.h3, .int .i64 t.b0.x, .int .i64 t.b0.y, .int .i64 t.b0.z, .int .i64 t.b1.x, .int .i64 t.b1.y, .int .i64 t.b1.z, .int .i64 t.b2.x, .int .i64 t.b2.y, .int .i64 t.b2.z, .int .i64 t.d.x, .int .i64 t.d.y, .int .i64 t.d.z, .int .i64 t.np, .int .i64 t.nn, .int .i64 t.fix, .int .i64 t.min, .int .i64 t.tax] 38 (0, 0)) := by rw [hW]; exact (heap_alloc_old _ _ (by omega)).trans hH1
    have R1 : W.heap[w.heap.size + 1]? = some (.cells #[.int .i64 0, .int .i64 0, .int .i64 0, .int .i64 0, .int .i64 0, .int .i64 0, .int .i64 0, .int .i64 0, .int .i64 0, .int .i64 0, .int .i64 0, .int .i64 0, .int .i64 0, .string ByteArray.empty, .string ByteArray.empty, .string ByteArray.empty, .string ByteArray.empty, .int .i64 0, .int .i64 0, .int .i64 0, .int .i64 0, .int .i64 0, .int .i64 0, .int .i64 0, .int .i64 0, .int .i64 0, .int .i64 0, .int .i64 0, .int .i64 0, .int .i64 0, .int .i64 0, .int .i64 0, .int .i64 0, .int .i64 0] 55 (0, 0)) := by rw [hW]; exact (heap_alloc_old _ _ (by omega)).trans RR
    have BB : Below w.heap.size w W := by rw [hW]; exact below_more B3 _
    have hg1 : w.heap.size + 2 ≤ g := by rw [hg]; omega
    have hg2 : g < W.heap.size := by rw [hW, hg]; simp
    rw [← hW]
    have HG : Hid (g = w3.heap.size) := hg
    simp only [← hg]
    clear hg hW hH0 hH1 hH2 hH3 hb3 hz3 RR B3
    go_wp2_with fail
    go_loopw [4] (fun i wr => ∃ k : Nat, i = .int .i64 k ∧ k ≤ 3 ∧ wr.heap[g]? = some (.cells (urow t k) 55 (0, 0)) ∧ Below g W wr) (fun i _ => 3 - (intOf i).toNat)
    case atStart => exact ⟨0, rfl, by omega, G, Below.refl _ _⟩
    case round =>
      obtain ⟨k, rfl, hk, hG, hbw⟩ := hrel
      have hgl := (Array.getElem?_eq_some_iff.1 hG).1
      have hT : wr.heap[w.heap.size]? = some (.cells #[.int .i64 t.z.off, .int .i64 t.z.f.m, .int .i64 t.z.f.w, .int .i64 t.z.f.d, .int .i64 t.z.f.h, .int .i64 t.z.t.m, .int .i64 t.z.t.w, .int .i64 t.z.t.d, .int .i64 t.z.t.h, .int .i64 t.days, .int .i64 t.gap, .int .i64 t.first, .int .i64 t.last, .string t.h0, .string t.h1, .string t.h2, .string t.h3, .int .i64 t.b0.x, .int .i64 t.b0.y, .int .i64 t.b0.z, .int .i64 t.b1.x, .int .i64 t.b1.y, .int .i64 t.b1.z, .int .i64 t.b2.x, .int .i64 t.b2.y, .int .i64 t.b2.z, .int .i64 t.d.x, .int .i64 t.d.y, .int .i64 t.d.z, .int .i64 t.np, .int .i64 t.nn, .int .i64 t.fix, .int .i64 t.min, .int .i64 t.tax] 38 (0, 0)) := (hbw.block _ (by omega)).trans TT
      have hR : wr.heap[w.heap.size + 1]? = some (.cells #[.int .i64 0, .int .i64 0, .int .i64 0, .int .i64 0, .int .i64 0, .int .i64 0, .int .i64 0, .int .i64 0, .int .i64 0, .int .i64 0, .int .i64 0, .int .i64 0, .int .i64 0, .string ByteArray.empty, .string ByteArray.empty, .string ByteArray.empty, .string ByteArray.empty, .int .i64 0, .int .i64 0, .int .i64 0, .int .i64 0, .int .i64 0, .int .i64 0, .int .i64 0, .int .i64 0, .int .i64 0, .int .i64 0, .int .i64 0, .int .i64 0, .int .i64 0, .int .i64 0, .int .i64 0, .int .i64 0, .int .i64 0] 55 (0, 0)) := (hbw.block _ (by omega)).trans R1
      have hne : ¬ w.heap.size = g := by omega
      have hne' : ¬ g = w.heap.size := by omega
      have hwl : w.heap.size < wr.heap.size := by omega
      by_cases hlt : k < 3
      · rcases (by omega : k = 0 ∨ k = 1 ∨ k = 2) with rfl | rfl | rfl
        · have q0 : wr.cell? ⟨w.heap.size, 17, none⟩ = some (.int .i64 t.b0.x) := cell_of_row _ _ _ _ _ _ hT
          have q1 : wr.cell? ⟨w.heap.size, 18, none⟩ = some (.int .i64 t.b0.y) := cell_of_row _ _ _ _ _ _ hT
          have q2 : wr.cell? ⟨w.heap.size, 19, none⟩ = some (.int .i64 t.b0.z) := cell_of_row _ _ _ _ _ _ hT
          have p0 : wr.cell? ⟨g, 17, none⟩ = some (.int .i64 0) := cell_of_row _ _ _ _ _ _ hG
          have f0 : wr.frozen? ⟨g, 17, none⟩ = false := frozen_of_row _ _ _ _ _ hG
          have p1 : wr.cell? ⟨g, 18, none⟩ = some (.int .i64 0) := cell_of_row _ _ _ _ _ _ hG
          have f1 : wr.frozen? ⟨g, 18, none⟩ = false := frozen_of_row _ _ _ _ _ hG
          have p2 : wr.cell? ⟨g, 19, none⟩ = some (.int .i64 0) := cell_of_row _ _ _ _ _ _ hG
          have f2 : wr.frozen? ⟨g, 19, none⟩ = false := frozen_of_row _ _ _ _ _ hG
          have HT : Hid (wr.heap[w.heap.size]? = some (.cells #[.int .i64 t.z.off, .int .i64 t.z.f.m, .int .i64 t.z.f.w, .int .i64 t.z.f.d, .int .i64 t.z.f.h, .int .i64 t.z.t.m, .int .i64 t.z.t.w, .int .i64 t.z.t.d, .int .i64 t.z.t.h, .int .i64 t.days, .int .i64 t.gap, .int .i64 t.first, .int .i64 t.last, .string t.h0, .string t.h1, .string t.h2, .string t.h3, .int .i64 t.b0.x, .int .i64 t.b0.y, .int .i64 t.b0.z, .int .i64 t.b1.x, .int .i64 t.b1.y, .int .i64 t.b1.z, .int .i64 t.b2.x, .int .i64 t.b2.y, .int .i64 t.b2.z, .int .i64 t.d.x, .int .i64 t.d.y, .int .i64 t.d.z, .int .i64 t.np, .int .i64 t.nn, .int .i64 t.fix, .int .i64 t.min, .int .i64 t.tax] 38 (0, 0))) := hT
          have HGG : Hid (wr.heap[g]? = some (.cells (urow t 0) 55 (0, 0))) := hG
          clear hT hG hR TT R1 G
          go_wp2_with fail
          go_region_held3 (fun w' => w'.cell? ⟨w.heap.size, 17, none⟩ = some (.int .i64 t.b0.x) ∧ w'.cell? ⟨w.heap.size, 18, none⟩ = some (.int .i64 t.b0.y) ∧ w'.cell? ⟨w.heap.size, 19, none⟩ = some (.int .i64 t.b0.z)) (simp [go_sem, *]) (fail)
          go_wp2_with fail
          go_roundw
          case rel =>
            refine ⟨1, by first | rfl | go_num, by omega, ?_, ?_⟩
            · exact blr02 _ _ _ (blr01 _ _ _ (blr00 _ _ _ HGG.out))
            · exact Below.setCell (Below.setCell (Below.setCell (Below.drew hbw) (Nat.le_refl g) _) (Nat.le_refl g) _) (Nat.le_refl g) _
          case measure => simp [intOf]
        · have q0 : wr.cell? ⟨w.heap.size, 20, none⟩ = some (.int .i64 t.b1.x) := cell_of_row _ _ _ _ _ _ hT
          have q1 : wr.cell? ⟨w.heap.size, 21, none⟩ = some (.int .i64 t.b1.y) := cell_of_row _ _ _ _ _ _ hT
          have q2 : wr.cell? ⟨w.heap.size, 22, none⟩ = some (.int .i64 t.b1.z) := cell_of_row _ _ _ _ _ _ hT
          have p0 : wr.cell? ⟨g, 20, none⟩ = some (.int .i64 0) := cell_of_row _ _ _ _ _ _ hG
          have f0 : wr.frozen? ⟨g, 20, none⟩ = false := frozen_of_row _ _ _ _ _ hG
          have p1 : wr.cell? ⟨g, 21, none⟩ = some (.int .i64 0) := cell_of_row _ _ _ _ _ _ hG
          have f1 : wr.frozen? ⟨g, 21, none⟩ = false := frozen_of_row _ _ _ _ _ hG
          have p2 : wr.cell? ⟨g, 22, none⟩ = some (.int .i64 0) := cell_of_row _ _ _ _ _ _ hG
          have f2 : wr.frozen? ⟨g, 22, none⟩ = false := frozen_of_row _ _ _ _ _ hG
          have HT : Hid (wr.heap[w.heap.size]? = some (.cells #[.int .i64 t.z.off, .int .i64 t.z.f.m, .int .i64 t.z.f.w, .int .i64 t.z.f.d, .int .i64 t.z.f.h, .int .i64 t.z.t.m, .int .i64 t.z.t.w, .int .i64 t.z.t.d, .int .i64 t.z.t.h, .int .i64 t.days, .int .i64 t.gap, .int .i64 t.first, .int .i64 t.last, .string t.h0, .string t.h1, .string t.h2, .string t.h3, .int .i64 t.b0.x, .int .i64 t.b0.y, .int .i64 t.b0.z, .int .i64 t.b1.x, .int .i64 t.b1.y, .int .i64 t.b1.z, .int .i64 t.b2.x, .int .i64 t.b2.y, .int .i64 t.b2.z, .int .i64 t.d.x, .int .i64 t.d.y, .int .i64 t.d.z, .int .i64 t.np, .int .i64 t.nn, .int .i64 t.fix, .int .i64 t.min, .int .i64 t.tax] 38 (0, 0))) := hT
          have HGG : Hid (wr.heap[g]? = some (.cells (urow t 1) 55 (0, 0))) := hG
          clear hT hG hR TT R1 G
          go_wp2_with fail
          go_region_held3 (fun w' => w'.cell? ⟨w.heap.size, 20, none⟩ = some (.int .i64 t.b1.x) ∧ w'.cell? ⟨w.heap.size, 21, none⟩ = some (.int .i64 t.b1.y) ∧ w'.cell? ⟨w.heap.size, 22, none⟩ = some (.int .i64 t.b1.z)) (simp [go_sem, *]) (fail)
          go_wp2_with fail
          go_roundw
          case rel =>
            refine ⟨2, by first | rfl | go_num, by omega, ?_, ?_⟩
            · exact blr12 _ _ _ (blr11 _ _ _ (blr10 _ _ _ HGG.out))
            · exact Below.setCell (Below.setCell (Below.setCell (Below.drew hbw) (Nat.le_refl g) _) (Nat.le_refl g) _) (Nat.le_refl g) _
          case measure => simp [intOf]
        · have q0 : wr.cell? ⟨w.heap.size, 23, none⟩ = some (.int .i64 t.b2.x) := cell_of_row _ _ _ _ _ _ hT
          have q1 : wr.cell? ⟨w.heap.size, 24, none⟩ = some (.int .i64 t.b2.y) := cell_of_row _ _ _ _ _ _ hT
          have q2 : wr.cell? ⟨w.heap.size, 25, none⟩ = some (.int .i64 t.b2.z) := cell_of_row _ _ _ _ _ _ hT
          have p0 : wr.cell? ⟨g, 23, none⟩ = some (.int .i64 0) := cell_of_row _ _ _ _ _ _ hG
          have f0 : wr.frozen? ⟨g, 23, none⟩ = false := frozen_of_row _ _ _ _ _ hG
          have p1 : wr.cell? ⟨g, 24, none⟩ = some (.int .i64 0) := cell_of_row _ _ _ _ _ _ hG
          have f1 : wr.frozen? ⟨g, 24, none⟩ = false := frozen_of_row _ _ _ _ _ hG
          have p2 : wr.cell? ⟨g, 25, none⟩ = some (.int .i64 0) := cell_of_row _ _ _ _ _ _ hG
          have f2 : wr.frozen? ⟨g, 25, none⟩ = false := frozen_of_row _ _ _ _ _ hG
          have HT : Hid (wr.heap[w.heap.size]? = some (.cells #[.int .i64 t.z.off, .int .i64 t.z.f.m, .int .i64 t.z.f.w, .int .i64 t.z.f.d, .int .i64 t.z.f.h, .int .i64 t.z.t.m, .int .i64 t.z.t.w, .int .i64 t.z.t.d, .int .i64 t.z.t.h, .int .i64 t.days, .int .i64 t.gap, .int .i64 t.first, .int .i64 t.last, .string t.h0, .string t.h1, .string t.h2, .string t.h3, .int .i64 t.b0.x, .int .i64 t.b0.y, .int .i64 t.b0.z, .int .i64 t.b1.x, .int .i64 t.b1.y, .int .i64 t.b1.z, .int .i64 t.b2.x, .int .i64 t.b2.y, .int .i64 t.b2.z, .int .i64 t.d.x, .int .i64 t.d.y, .int .i64 t.d.z, .int .i64 t.np, .int .i64 t.nn, .int .i64 t.fix, .int .i64 t.min, .int .i64 t.tax] 38 (0, 0))) := hT
          have HGG : Hid (wr.heap[g]? = some (.cells (urow t 2) 55 (0, 0))) := hG
          clear hT hG hR TT R1 G
          go_wp2_with fail
          go_region_held3 (fun w' => w'.cell? ⟨w.heap.size, 23, none⟩ = some (.int .i64 t.b2.x) ∧ w'.cell? ⟨w.heap.size, 24, none⟩ = some (.int .i64 t.b2.y) ∧ w'.cell? ⟨w.heap.size, 25, none⟩ = some (.int .i64 t.b2.z)) (simp [go_sem, *]) (fail)
          go_wp2_with fail
          go_roundw
          case rel =>
            refine ⟨3, by first | rfl | go_num, by omega, ?_, ?_⟩
            · exact blr22 _ _ _ (blr21 _ _ _ (blr20 _ _ _ HGG.out))
            · exact Below.setCell (Below.setCell (Below.setCell (Below.drew hbw) (Nat.le_refl g) _) (Nat.le_refl g) _) (Nat.le_refl g) _
          case measure => simp [intOf]
      · have hk3 : k = 3 := by omega
        subst hk3
        have q0 : wr.cell? ⟨w.heap.size, 26, none⟩ = some (.int .i64 t.d.x) := cell_of_row _ _ _ _ _ _ hT
        have p0 : wr.cell? ⟨g, 26, none⟩ = some (.int .i64 0) := cell_of_row _ _ _ _ _ _ hG
        have f0 : wr.frozen? ⟨g, 26, none⟩ = false := frozen_of_row _ _ _ _ _ hG
        have q1 : wr.cell? ⟨w.heap.size, 27, none⟩ = some (.int .i64 t.d.y) := cell_of_row _ _ _ _ _ _ hT
        have p1 : wr.cell? ⟨g, 27, none⟩ = some (.int .i64 0) := cell_of_row _ _ _ _ _ _ hG
        have f1 : wr.frozen? ⟨g, 27, none⟩ = false := frozen_of_row _ _ _ _ _ hG
        have q2 : wr.cell? ⟨w.heap.size, 28, none⟩ = some (.int .i64 t.d.z) := cell_of_row _ _ _ _ _ _ hT
        have p2 : wr.cell? ⟨g, 28, none⟩ = some (.int .i64 0) := cell_of_row _ _ _ _ _ _ hG
        have f2 : wr.frozen? ⟨g, 28, none⟩ = false := frozen_of_row _ _ _ _ _ hG
        have q3 : wr.cell? ⟨w.heap.size, 29, none⟩ = some (.int .i64 t.np) := cell_of_row _ _ _ _ _ _ hT
        have p3 : wr.cell? ⟨g, 29, none⟩ = some (.int .i64 0) := cell_of_row _ _ _ _ _ _ hG
        have f3 : wr.frozen? ⟨g, 29, none⟩ = false := frozen_of_row _ _ _ _ _ hG
        have q4 : wr.cell? ⟨w.heap.size, 30, none⟩ = some (.int .i64 t.nn) := cell_of_row _ _ _ _ _ _ hT
        have p4 : wr.cell? ⟨g, 30, none⟩ = some (.int .i64 0) := cell_of_row _ _ _ _ _ _ hG
        have f4 : wr.frozen? ⟨g, 30, none⟩ = false := frozen_of_row _ _ _ _ _ hG
        have HF := hideT (dn_row wr g t hG)
        have HR5 := hideT (dn_far wr g (w.heap.size + 1) t _ (by omega) hR)
        have B5 : Below w.heap.size w (((((wr.setCell ⟨g, 26, none⟩ (.int .i64 t.d.x)).setCell ⟨g, 27, none⟩ (.int .i64 t.d.y)).setCell ⟨g, 28, none⟩ (.int .i64 t.d.z)).setCell ⟨g, 29, none⟩ (.int .i64 t.np)).setCell ⟨g, 30, none⟩ (.int .i64 t.nn)) := Below.setCell (Below.setCell (Below.setCell (Below.setCell (Below.setCell (BB.trans (hbw.mono (by omega))) (show w.heap.size ≤ g by omega) _) (show w.heap.size ≤ g by omega) _) (show w.heap.size ≤ g by omega) _) (show w.heap.size ≤ g by omega) _) (show w.heap.size ≤ g by omega) _
        clear hT hG hR TT R1 G
        go_wp2_with (first
          | (with_reducible show wpList _ _ _ _ _ (((((wr.setCell ⟨g, 26, none⟩ (.int .i64 t.d.x)).setCell ⟨g, 27, none⟩ (.int .i64 t.d.y)).setCell ⟨g, 28, none⟩ (.int .i64 t.d.z)).setCell ⟨g, 29, none⟩ (.int .i64 t.np)).setCell ⟨g, 30, none⟩ (.int .i64 t.nn)); refine wpList_load_row rfl 55 _ rfl g rfl 55 _ (0, 0) _ HF.out Tryd.underlying55 rfl (by kernel_rfl) ?_)
          | (with_reducible show wpList _ _ _ _ _ (((((wr.setCell ⟨g, 26, none⟩ (.int .i64 t.d.x)).setCell ⟨g, 27, none⟩ (.int .i64 t.d.y)).setCell ⟨g, 28, none⟩ (.int .i64 t.d.z)).setCell ⟨g, 29, none⟩ (.int .i64 t.np)).setCell ⟨g, 30, none⟩ (.int .i64 t.nn)); refine wpList_store_row rfl 55 _ _ rfl (w.heap.size + 1) #[.int .i64 t.z.off, .int .i64 t.z.f.m, .int .i64 t.z.f.w, .int .i64 t.z.f.d, .int .i64 t.z.f.h, .int .i64 t.z.t.m, .int .i64 t.z.t.w, .int .i64 t.z.t.d, .int .i64 t.z.t.h, .int .i64 t.days, .int .i64 t.gap, .int .i64 t.first, .int .i64 t.last, .string t.h0, .string t.h1, .string t.h2, .string t.h3, .int .i64 t.b0.x, .int .i64 t.b0.y, .int .i64 t.b0.z, .int .i64 t.b1.x, .int .i64 t.b1.y, .int .i64 t.b1.z, .int .i64 t.b2.x, .int .i64 t.b2.y, .int .i64 t.b2.z, .int .i64 t.d.x, .int .i64 t.d.y, .int .i64 t.d.z, .int .i64 t.np, .int .i64 t.nn, .int .i64 t.fix, .int .i64 t.min, .int .i64 t.tax] rfl rfl 55 _ HR5.out (tc_info t) (tc_size t) (tc_one t) ?_))
        refine bodyPost_ret (v := .agg #[.int .i64 t.z.off, .int .i64 t.z.f.m, .int .i64 t.z.f.w, .int .i64 t.z.f.d, .int .i64 t.z.f.h, .int .i64 t.z.t.m, .int .i64 t.z.t.w, .int .i64 t.z.t.d, .int .i64 t.z.t.h, .int .i64 t.days, .int .i64 t.gap, .int .i64 t.first, .int .i64 t.last, .string t.h0, .string t.h1, .string t.h2, .string t.h3, .int .i64 t.b0.x, .int .i64 t.b0.y, .int .i64 t.b0.z, .int .i64 t.b1.x, .int .i64 t.b1.y, .int .i64 t.b1.z, .int .i64 t.b2.x, .int .i64 t.b2.y, .int .i64 t.b2.z, .int .i64 t.d.x, .int .i64 t.d.y, .int .i64 t.d.z, .int .i64 t.np, .int .i64 t.nn, .int .i64 t.fix, .int .i64 t.min, .int .i64 t.tax]) (results_cell_row rfl _ _ (w.heap.size + 1) 55 _ (0, 0) _ rfl (setRow_heap _ _ _ _ _ _ HR5.out) Tryd.underlying55 rfl (tc_info t)) rfl ⟨rfl, ?_⟩
        exact below_setRow B5 (by omega) _
  · refine AllReadyH.cons (o := { dst := some 3, op := Op.alloc 55, type := 0, pos := "plain.go:31", after := #[], guard := none }) rfl (fun K hK => ?_) AllReadyH.nil
    go_simp
    refine hK.out _ _ ((heap_alloc_old _ _ (by simp; omega)).trans hH0) (fun hH1 => ?_)
    clear hK K
    try simp only [Act.put, List.setIfInBounds_toArray, List.set_cons_zero, List.set_cons_succ]
    refine wpAnyH_ready (rs := [2]) (by kernel_rfl) (by simp) ?_
    refine AllReadyH.cons (o := { dst := some 7, op := Op.call { callee := Callee.value (Operand.func 41), args := #[Operand.tmp 6], argTypes := #[28] }, type := 49, pos := "plain.go:31", after := #[{ on := 1, ground := Ground.data }], guard := none }) rfl (fun K hK => ?_) AllReadyH.nil
    go_simp
    refine (zone_any t.z _).mono ?_
    rintro e w3 ⟨rfl, hb3⟩
    go_wp2_with fail
    refine hK.out _ _ ((hb3.block _ (by simp; omega)).trans hH1) (fun hH2 => ?_)
    clear hK K
    try simp only [Act.put, List.setIfInBounds_toArray, List.set_cons_zero, List.set_cons_succ]
    refine wpAnyH_take (i := 19) (oi := { dst := some 24, op := Op.build 55 #[(0, Operand.tmp 7), (1, Operand.tmp 9), (2, Operand.tmp 11), (3, Operand.tmp 13), (4, Operand.tmp 15), (5, Operand.tmp 17), (9, Operand.tmp 19), (10, Operand.tmp 21), (11, Operand.tmp 23)], type := 55, pos := "plain.go:31", after := #[{ on := 2, ground := Ground.data }, { on := 4, ground := Ground.data }, { on := 6, ground := Ground.data }, { on := 8, ground := Ground.data }, { on := 10, ground := Ground.data }, { on := 12, ground := Ground.data }, { on := 14, ground := Ground.data }, { on := 16, ground := Ground.data }, { on := 18, ground := Ground.data }], guard := none }) (v := .agg #[.int .i64 t.z.off, .int .i64 t.z.f.m, .int .i64 t.z.f.w, .int .i64 t.z.f.d, .int .i64 t.z.f.h, .int .i64 t.z.t.m, .int .i64 t.z.t.w, .int .i64 t.z.t.d, .int .i64 t.z.t.h, .int .i64 t.days, .int .i64 t.gap, .int .i64 t.first, .int .i64 t.last, .string t.h0, .string t.h1, .string t.h2, .string t.h3, .int .i64 0, .int .i64 0, .int .i64 0, .int .i64 0, .int .i64 0, .int .i64 0, .int .i64 0, .int .i64 0, .int .i64 0, .int .i64 0, .int .i64 0, .int .i64 0, .int .i64 0, .int .i64 0, .int .i64 t.fix, .int .i64 t.min, .int .i64 t.tax]) rfl (by kernel_rfl) (by kernel_rfl) (by kernel_rfl) (fun _ _ _ h => h) (Or.inl ⟨by rfl, ?_⟩) (by assumption) ?_
    · intro w9 hSw
      go_simp
    try simp only [Act.put, List.setIfInBounds_toArray, List.set_cons_zero, List.set_cons_succ]
    refine wpAnyH_ready (rs := [21]) (by kernel_rfl) (by simp) ?_
    refine AllReadyH.cons (o := { dst := none, op := Op.store 55 (Operand.tmp 3) (Operand.tmp 24), type := 0, pos := "plain.go:31", after := #[{ on := 20, ground := Ground.data }, { on := 19, ground := Ground.data }, { on := 2, ground := Ground.chain }, { on := 0, ground := Ground.phase }, { on := 1, ground := Ground.phase }, { on := 2, ground := Ground.phase }, { on := 3, ground := Ground.phase }, { on := 4, ground := Ground.phase }, { on := 5, ground := Ground.phase }, { on := 6, ground := Ground.phase }, { on := 7, ground := Ground.phase }, { on := 8, ground := Ground.phase }, { on := 9, ground := Ground.phase }, { on := 10, ground := Ground.phase }, { on := 11, ground := Ground.phase }, { on := 12, ground := Ground.phase }, { on := 13, ground := Ground.phase }, { on := 14, ground := Ground.phase }, { on := 15, ground := Ground.phase }, { on := 16, ground := Ground.phase }, { on := 17, ground := Ground.phase }, { on := 18, ground := Ground.phase }, { on := 19, ground := Ground.phase }, { on := 20, ground := Ground.phase }], guard := none }) rfl (fun K hK => ?_) AllReadyH.nil
    rw [if_pos (by rfl)]
    have GG : w3.heap[w.heap.size + 1 + 1]? = some (.cells #[.int .i64 0, .int .i64 0, .int .i64 0, .int .i64 0, .int .i64 0, .int .i64 0, .int .i64 0, .int .i64 0, .int .i64 0, .int .i64 0, .int .i64 0, .int .i64 0, .int .i64 0, .string ByteArray.empty, .string ByteArray.empty, .string ByteArray.empty, .string ByteArray.empty, .int .i64 0, .int .i64 0, .int .i64 0, .int .i64 0, .int .i64 0, .int .i64 0, .int .i64 0, .int .i64 0, .int .i64 0, .int .i64 0, .int .i64 0, .int .i64 0, .int .i64 0, .int .i64 0, .int .i64 0, .int .i64 0, .int .i64 0] 55 (0, 0)) := (hb3.block _ (by simp)).trans (heap_three _ _ _ _)
    refine wp_store_row 55 _ _ rfl (w.heap.size + 1 + 1) #[.int .i64 t.z.off, .int .i64 t.z.f.m, .int .i64 t.z.f.w, .int .i64 t.z.f.d, .int .i64 t.z.f.h, .int .i64 t.z.t.m, .int .i64 t.z.t.w, .int .i64 t.z.t.d, .int .i64 t.z.t.h, .int .i64 t.days, .int .i64 t.gap, .int .i64 t.first, .int .i64 t.last, .string t.h0, .string t.h1, .string t.h2, .string t.h3, .int .i64 0, .int .i64 0, .int .i64 0, .int .i64 0, .int .i64 0, .int .i64 0, .int .i64 0, .int .i64 0, .int .i64 0, .int .i64 0, .int .i64 0, .int .i64 0, .int .i64 0, .int .i64 0, .int .i64 t.fix, .int .i64 t.min, .int .i64 t.tax] rfl rfl 55 _ GG (by kernel_rfl) (by rfl) (by first | rfl | kernel_rfl) ?_
    refine hK.out _ _ ((setRow_other _ _ _ _ (by omega)).trans hH2) (fun hH3 => ?_)
    clear hK K
    try simp only [Act.put]
    refine wpAnyH_done (by kernel_rfl) ?_ _
    have hz3 := hb3.size
    simp at hz3
    have B3 : Below w.heap.size w w3 := below_then (below_more (Below.drew (below_more (below_more (Below.refl _ _) _) _)) _) hb3
    obtain ⟨W, hW⟩ : ∃ W, W = w3.setRow (w.heap.size + 1 + 1) #[.int .i64 t.z.off, .int .i64 t.z.f.m, .int .i64 t.z.f.w, .int .i64 t.z.f.d, .int .i64 t.z.f.h, .int .i64 t.z.t.m, .int .i64 t.z.t.w, .int .i64 t.z.t.d, .int .i64 t.z.t.h, .int .i64 t.days, .int .i64 t.gap, .int .i64 t.first, .int .i64 t.last, .string t.h0, .string t.h1, .string t.h2, .string t.h3, .int .i64 0, .int .i64 0, .int .i64 0, .int .i64 0, .int .i64 0, .int .i64 0, .int .i64 0, .int .i64 0, .int .i64 0, .int .i64 0, .int .i64 0, .int .i64 0, .int .i64 0, .int .i64 0, .int .i64 t.fix, .int .i64 t.min, .int .i64 t.tax] := ⟨_, rfl⟩
    obtain ⟨g, hg⟩ : ∃ g, g = w.heap.size + 1 + 1 := ⟨_, rfl⟩
    have G : W.heap[g]? = some (.cells (urow t 0) 55 (0, 0)) := by rw [hW, hg]; exact setRow_heap _ _ _ _ _ _ GG
    have TT : W.heap[w.heap.size]? = some (.cells #[.int .i64 t.z.off, .int .i64 t.z.f.m, .int .i64 t.z.f.w, .int .i64 t.z.f.d, .int .i64 t.z.f.h, .int .i64 t.z.t.m, .int .i64 t.z.t.w, .int .i64 t.z.t.d, .int .i64 t.z.t.h, .int .i64 t.days, .int .i64 t.gap, .int .i64 t.first, .int .i64 t.last, .string t.h0, .string t.h1, .string t.h2, .string t.h3, .int .i64 t.b0.x, .int .i64 t.b0.y, .int .i64 t.b0.z, .int .i64 t.b1.x, .int .i64 t.b1.y, .int .i64 t.b1.z, .int .i64 t.b2.x, .int .i64 t.b2.y, .int .i64 t.b2.z, .int .i64 t.d.x, .int .i64 t.d.y, .int .i64 t.d.z, .int .i64 t.np, .int .i64 t.nn, .int .i64 t.fix, .int .i64 t.min, .int .i64 t.tax] 38 (0, 0)) := by rw [hW]; exact hH3
    have R1 : W.heap[w.heap.size + 1]? = some (.cells #[.int .i64 0, .int .i64 0, .int .i64 0, .int .i64 0, .int .i64 0, .int .i64 0, .int .i64 0, .int .i64 0, .int .i64 0, .int .i64 0, .int .i64 0, .int .i64 0, .int .i64 0, .string ByteArray.empty, .string ByteArray.empty, .string ByteArray.empty, .string ByteArray.empty, .int .i64 0, .int .i64 0, .int .i64 0, .int .i64 0, .int .i64 0, .int .i64 0, .int .i64 0, .int .i64 0, .int .i64 0, .int .i64 0, .int .i64 0, .int .i64 0, .int .i64 0, .int .i64 0, .int .i64 0, .int .i64 0, .int .i64 0] 55 (0, 0)) := by rw [hW, setRow_other _ _ _ _ (by omega)]; exact (hb3.block _ (by simp)).trans ((heap_alloc_old _ _ (by simp)).trans (heap_alloc2_new _ _ _))
    have BB : Below w.heap.size w W := by rw [hW]; exact below_setRow B3 (by omega) _
    have hg1 : w.heap.size + 2 ≤ g := by rw [hg]; omega
    have hg2 : g < W.heap.size := by rw [hW, hg]; simp; omega
    rw [← hW]
    have HG : Hid (g = w.heap.size + 1 + 1) := hg
    simp only [← hg]
    clear hg hW hH0 hH1 hH2 hH3 hb3 hz3 GG B3
    go_wp2_with fail
    go_loopw [4] (fun i wr => ∃ k : Nat, i = .int .i64 k ∧ k ≤ 3 ∧ wr.heap[g]? = some (.cells (urow t k) 55 (0, 0)) ∧ Below g W wr) (fun i _ => 3 - (intOf i).toNat)
    case atStart => exact ⟨0, rfl, by omega, G, Below.refl _ _⟩
    case round =>
      obtain ⟨k, rfl, hk, hG, hbw⟩ := hrel
      have hgl := (Array.getElem?_eq_some_iff.1 hG).1
      have hT : wr.heap[w.heap.size]? = some (.cells #[.int .i64 t.z.off, .int .i64 t.z.f.m, .int .i64 t.z.f.w, .int .i64 t.z.f.d, .int .i64 t.z.f.h, .int .i64 t.z.t.m, .int .i64 t.z.t.w, .int .i64 t.z.t.d, .int .i64 t.z.t.h, .int .i64 t.days, .int .i64 t.gap, .int .i64 t.first, .int .i64 t.last, .string t.h0, .string t.h1, .string t.h2, .string t.h3, .int .i64 t.b0.x, .int .i64 t.b0.y, .int .i64 t.b0.z, .int .i64 t.b1.x, .int .i64 t.b1.y, .int .i64 t.b1.z, .int .i64 t.b2.x, .int .i64 t.b2.y, .int .i64 t.b2.z, .int .i64 t.d.x, .int .i64 t.d.y, .int .i64 t.d.z, .int .i64 t.np, .int .i64 t.nn, .int .i64 t.fix, .int .i64 t.min, .int .i64 t.tax] 38 (0, 0)) := (hbw.block _ (by omega)).trans TT
      have hR : wr.heap[w.heap.size + 1]? = some (.cells #[.int .i64 0, .int .i64 0, .int .i64 0, .int .i64 0, .int .i64 0, .int .i64 0, .int .i64 0, .int .i64 0, .int .i64 0, .int .i64 0, .int .i64 0, .int .i64 0, .int .i64 0, .string ByteArray.empty, .string ByteArray.empty, .string ByteArray.empty, .string ByteArray.empty, .int .i64 0, .int .i64 0, .int .i64 0, .int .i64 0, .int .i64 0, .int .i64 0, .int .i64 0, .int .i64 0, .int .i64 0, .int .i64 0, .int .i64 0, .int .i64 0, .int .i64 0, .int .i64 0, .int .i64 0, .int .i64 0, .int .i64 0] 55 (0, 0)) := (hbw.block _ (by omega)).trans R1
      have hne : ¬ w.heap.size = g := by omega
      have hne' : ¬ g = w.heap.size := by omega
      have hwl : w.heap.size < wr.heap.size := by omega
      by_cases hlt : k < 3
      · rcases (by omega : k = 0 ∨ k = 1 ∨ k = 2) with rfl | rfl | rfl
        · have q0 : wr.cell? ⟨w.heap.size, 17, none⟩ = some (.int .i64 t.b0.x) := cell_of_row _ _ _ _ _ _ hT
          have q1 : wr.cell? ⟨w.heap.size, 18, none⟩ = some (.int .i64 t.b0.y) := cell_of_row _ _ _ _ _ _ hT
          have q2 : wr.cell? ⟨w.heap.size, 19, none⟩ = some (.int .i64 t.b0.z) := cell_of_row _ _ _ _ _ _ hT
          have p0 : wr.cell? ⟨g, 17, none⟩ = some (.int .i64 0) := cell_of_row _ _ _ _ _ _ hG
          have f0 : wr.frozen? ⟨g, 17, none⟩ = false := frozen_of_row _ _ _ _ _ hG
          have p1 : wr.cell? ⟨g, 18, none⟩ = some (.int .i64 0) := cell_of_row _ _ _ _ _ _ hG
          have f1 : wr.frozen? ⟨g, 18, none⟩ = false := frozen_of_row _ _ _ _ _ hG
          have p2 : wr.cell? ⟨g, 19, none⟩ = some (.int .i64 0) := cell_of_row _ _ _ _ _ _ hG
          have f2 : wr.frozen? ⟨g, 19, none⟩ = false := frozen_of_row _ _ _ _ _ hG
          have HT : Hid (wr.heap[w.heap.size]? = some (.cells #[.int .i64 t.z.off, .int .i64 t.z.f.m, .int .i64 t.z.f.w, .int .i64 t.z.f.d, .int .i64 t.z.f.h, .int .i64 t.z.t.m, .int .i64 t.z.t.w, .int .i64 t.z.t.d, .int .i64 t.z.t.h, .int .i64 t.days, .int .i64 t.gap, .int .i64 t.first, .int .i64 t.last, .string t.h0, .string t.h1, .string t.h2, .string t.h3, .int .i64 t.b0.x, .int .i64 t.b0.y, .int .i64 t.b0.z, .int .i64 t.b1.x, .int .i64 t.b1.y, .int .i64 t.b1.z, .int .i64 t.b2.x, .int .i64 t.b2.y, .int .i64 t.b2.z, .int .i64 t.d.x, .int .i64 t.d.y, .int .i64 t.d.z, .int .i64 t.np, .int .i64 t.nn, .int .i64 t.fix, .int .i64 t.min, .int .i64 t.tax] 38 (0, 0))) := hT
          have HGG : Hid (wr.heap[g]? = some (.cells (urow t 0) 55 (0, 0))) := hG
          clear hT hG hR TT R1 G
          go_wp2_with fail
          go_region_held3 (fun w' => w'.cell? ⟨w.heap.size, 17, none⟩ = some (.int .i64 t.b0.x) ∧ w'.cell? ⟨w.heap.size, 18, none⟩ = some (.int .i64 t.b0.y) ∧ w'.cell? ⟨w.heap.size, 19, none⟩ = some (.int .i64 t.b0.z)) (simp [go_sem, *]) (fail)
          go_wp2_with fail
          go_roundw
          case rel =>
            refine ⟨1, by first | rfl | go_num, by omega, ?_, ?_⟩
            · exact blr02 _ _ _ (blr01 _ _ _ (blr00 _ _ _ HGG.out))
            · exact Below.setCell (Below.setCell (Below.setCell (Below.drew hbw) (Nat.le_refl g) _) (Nat.le_refl g) _) (Nat.le_refl g) _
          case measure => simp [intOf]
        · have q0 : wr.cell? ⟨w.heap.size, 20, none⟩ = some (.int .i64 t.b1.x) := cell_of_row _ _ _ _ _ _ hT
          have q1 : wr.cell? ⟨w.heap.size, 21, none⟩ = some (.int .i64 t.b1.y) := cell_of_row _ _ _ _ _ _ hT
          have q2 : wr.cell? ⟨w.heap.size, 22, none⟩ = some (.int .i64 t.b1.z) := cell_of_row _ _ _ _ _ _ hT
          have p0 : wr.cell? ⟨g, 20, none⟩ = some (.int .i64 0) := cell_of_row _ _ _ _ _ _ hG
          have f0 : wr.frozen? ⟨g, 20, none⟩ = false := frozen_of_row _ _ _ _ _ hG
          have p1 : wr.cell? ⟨g, 21, none⟩ = some (.int .i64 0) := cell_of_row _ _ _ _ _ _ hG
          have f1 : wr.frozen? ⟨g, 21, none⟩ = false := frozen_of_row _ _ _ _ _ hG
          have p2 : wr.cell? ⟨g, 22, none⟩ = some (.int .i64 0) := cell_of_row _ _ _ _ _ _ hG
          have f2 : wr.frozen? ⟨g, 22, none⟩ = false := frozen_of_row _ _ _ _ _ hG
          have HT : Hid (wr.heap[w.heap.size]? = some (.cells #[.int .i64 t.z.off, .int .i64 t.z.f.m, .int .i64 t.z.f.w, .int .i64 t.z.f.d, .int .i64 t.z.f.h, .int .i64 t.z.t.m, .int .i64 t.z.t.w, .int .i64 t.z.t.d, .int .i64 t.z.t.h, .int .i64 t.days, .int .i64 t.gap, .int .i64 t.first, .int .i64 t.last, .string t.h0, .string t.h1, .string t.h2, .string t.h3, .int .i64 t.b0.x, .int .i64 t.b0.y, .int .i64 t.b0.z, .int .i64 t.b1.x, .int .i64 t.b1.y, .int .i64 t.b1.z, .int .i64 t.b2.x, .int .i64 t.b2.y, .int .i64 t.b2.z, .int .i64 t.d.x, .int .i64 t.d.y, .int .i64 t.d.z, .int .i64 t.np, .int .i64 t.nn, .int .i64 t.fix, .int .i64 t.min, .int .i64 t.tax] 38 (0, 0))) := hT
          have HGG : Hid (wr.heap[g]? = some (.cells (urow t 1) 55 (0, 0))) := hG
          clear hT hG hR TT R1 G
          go_wp2_with fail
          go_region_held3 (fun w' => w'.cell? ⟨w.heap.size, 20, none⟩ = some (.int .i64 t.b1.x) ∧ w'.cell? ⟨w.heap.size, 21, none⟩ = some (.int .i64 t.b1.y) ∧ w'.cell? ⟨w.heap.size, 22, none⟩ = some (.int .i64 t.b1.z)) (simp [go_sem, *]) (fail)
          go_wp2_with fail
          go_roundw
          case rel =>
            refine ⟨2, by first | rfl | go_num, by omega, ?_, ?_⟩
            · exact blr12 _ _ _ (blr11 _ _ _ (blr10 _ _ _ HGG.out))
            · exact Below.setCell (Below.setCell (Below.setCell (Below.drew hbw) (Nat.le_refl g) _) (Nat.le_refl g) _) (Nat.le_refl g) _
          case measure => simp [intOf]
        · have q0 : wr.cell? ⟨w.heap.size, 23, none⟩ = some (.int .i64 t.b2.x) := cell_of_row _ _ _ _ _ _ hT
          have q1 : wr.cell? ⟨w.heap.size, 24, none⟩ = some (.int .i64 t.b2.y) := cell_of_row _ _ _ _ _ _ hT
          have q2 : wr.cell? ⟨w.heap.size, 25, none⟩ = some (.int .i64 t.b2.z) := cell_of_row _ _ _ _ _ _ hT
          have p0 : wr.cell? ⟨g, 23, none⟩ = some (.int .i64 0) := cell_of_row _ _ _ _ _ _ hG
          have f0 : wr.frozen? ⟨g, 23, none⟩ = false := frozen_of_row _ _ _ _ _ hG
          have p1 : wr.cell? ⟨g, 24, none⟩ = some (.int .i64 0) := cell_of_row _ _ _ _ _ _ hG
          have f1 : wr.frozen? ⟨g, 24, none⟩ = false := frozen_of_row _ _ _ _ _ hG
          have p2 : wr.cell? ⟨g, 25, none⟩ = some (.int .i64 0) := cell_of_row _ _ _ _ _ _ hG
          have f2 : wr.frozen? ⟨g, 25, none⟩ = false := frozen_of_row _ _ _ _ _ hG
          have HT : Hid (wr.heap[w.heap.size]? = some (.cells #[.int .i64 t.z.off, .int .i64 t.z.f.m, .int .i64 t.z.f.w, .int .i64 t.z.f.d, .int .i64 t.z.f.h, .int .i64 t.z.t.m, .int .i64 t.z.t.w, .int .i64 t.z.t.d, .int .i64 t.z.t.h, .int .i64 t.days, .int .i64 t.gap, .int .i64 t.first, .int .i64 t.last, .string t.h0, .string t.h1, .string t.h2, .string t.h3, .int .i64 t.b0.x, .int .i64 t.b0.y, .int .i64 t.b0.z, .int .i64 t.b1.x, .int .i64 t.b1.y, .int .i64 t.b1.z, .int .i64 t.b2.x, .int .i64 t.b2.y, .int .i64 t.b2.z, .int .i64 t.d.x, .int .i64 t.d.y, .int .i64 t.d.z, .int .i64 t.np, .int .i64 t.nn, .int .i64 t.fix, .int .i64 t.min, .int .i64 t.tax] 38 (0, 0))) := hT
          have HGG : Hid (wr.heap[g]? = some (.cells (urow t 2) 55 (0, 0))) := hG
          clear hT hG hR TT R1 G
          go_wp2_with fail
          go_region_held3 (fun w' => w'.cell? ⟨w.heap.size, 23, none⟩ = some (.int .i64 t.b2.x) ∧ w'.cell? ⟨w.heap.size, 24, none⟩ = some (.int .i64 t.b2.y) ∧ w'.cell? ⟨w.heap.size, 25, none⟩ = some (.int .i64 t.b2.z)) (simp [go_sem, *]) (fail)
          go_wp2_with fail
          go_roundw
          case rel =>
            refine ⟨3, by first | rfl | go_num, by omega, ?_, ?_⟩
            · exact blr22 _ _ _ (blr21 _ _ _ (blr20 _ _ _ HGG.out))
            · exact Below.setCell (Below.setCell (Below.setCell (Below.drew hbw) (Nat.le_refl g) _) (Nat.le_refl g) _) (Nat.le_refl g) _
          case measure => simp [intOf]
      · have hk3 : k = 3 := by omega
        subst hk3
        have q0 : wr.cell? ⟨w.heap.size, 26, none⟩ = some (.int .i64 t.d.x) := cell_of_row _ _ _ _ _ _ hT
        have p0 : wr.cell? ⟨g, 26, none⟩ = some (.int .i64 0) := cell_of_row _ _ _ _ _ _ hG
        have f0 : wr.frozen? ⟨g, 26, none⟩ = false := frozen_of_row _ _ _ _ _ hG
        have q1 : wr.cell? ⟨w.heap.size, 27, none⟩ = some (.int .i64 t.d.y) := cell_of_row _ _ _ _ _ _ hT
        have p1 : wr.cell? ⟨g, 27, none⟩ = some (.int .i64 0) := cell_of_row _ _ _ _ _ _ hG
        have f1 : wr.frozen? ⟨g, 27, none⟩ = false := frozen_of_row _ _ _ _ _ hG
        have q2 : wr.cell? ⟨w.heap.size, 28, none⟩ = some (.int .i64 t.d.z) := cell_of_row _ _ _ _ _ _ hT
        have p2 : wr.cell? ⟨g, 28, none⟩ = some (.int .i64 0) := cell_of_row _ _ _ _ _ _ hG
        have f2 : wr.frozen? ⟨g, 28, none⟩ = false := frozen_of_row _ _ _ _ _ hG
        have q3 : wr.cell? ⟨w.heap.size, 29, none⟩ = some (.int .i64 t.np) := cell_of_row _ _ _ _ _ _ hT
        have p3 : wr.cell? ⟨g, 29, none⟩ = some (.int .i64 0) := cell_of_row _ _ _ _ _ _ hG
        have f3 : wr.frozen? ⟨g, 29, none⟩ = false := frozen_of_row _ _ _ _ _ hG
        have q4 : wr.cell? ⟨w.heap.size, 30, none⟩ = some (.int .i64 t.nn) := cell_of_row _ _ _ _ _ _ hT
        have p4 : wr.cell? ⟨g, 30, none⟩ = some (.int .i64 0) := cell_of_row _ _ _ _ _ _ hG
        have f4 : wr.frozen? ⟨g, 30, none⟩ = false := frozen_of_row _ _ _ _ _ hG
        have HF := hideT (dn_row wr g t hG)
        have HR5 := hideT (dn_far wr g (w.heap.size + 1) t _ (by omega) hR)
        have B5 : Below w.heap.size w (((((wr.setCell ⟨g, 26, none⟩ (.int .i64 t.d.x)).setCell ⟨g, 27, none⟩ (.int .i64 t.d.y)).setCell ⟨g, 28, none⟩ (.int .i64 t.d.z)).setCell ⟨g, 29, none⟩ (.int .i64 t.np)).setCell ⟨g, 30, none⟩ (.int .i64 t.nn)) := Below.setCell (Below.setCell (Below.setCell (Below.setCell (Below.setCell (BB.trans (hbw.mono (by omega))) (show w.heap.size ≤ g by omega) _) (show w.heap.size ≤ g by omega) _) (show w.heap.size ≤ g by omega) _) (show w.heap.size ≤ g by omega) _) (show w.heap.size ≤ g by omega) _
        clear hT hG hR TT R1 G
        go_wp2_with (first
          | (with_reducible show wpList _ _ _ _ _ (((((wr.setCell ⟨g, 26, none⟩ (.int .i64 t.d.x)).setCell ⟨g, 27, none⟩ (.int .i64 t.d.y)).setCell ⟨g, 28, none⟩ (.int .i64 t.d.z)).setCell ⟨g, 29, none⟩ (.int .i64 t.np)).setCell ⟨g, 30, none⟩ (.int .i64 t.nn)); refine wpList_load_row rfl 55 _ rfl g rfl 55 _ (0, 0) _ HF.out Tryd.underlying55 rfl (by kernel_rfl) ?_)
          | (with_reducible show wpList _ _ _ _ _ (((((wr.setCell ⟨g, 26, none⟩ (.int .i64 t.d.x)).setCell ⟨g, 27, none⟩ (.int .i64 t.d.y)).setCell ⟨g, 28, none⟩ (.int .i64 t.d.z)).setCell ⟨g, 29, none⟩ (.int .i64 t.np)).setCell ⟨g, 30, none⟩ (.int .i64 t.nn)); refine wpList_store_row rfl 55 _ _ rfl (w.heap.size + 1) #[.int .i64 t.z.off, .int .i64 t.z.f.m, .int .i64 t.z.f.w, .int .i64 t.z.f.d, .int .i64 t.z.f.h, .int .i64 t.z.t.m, .int .i64 t.z.t.w, .int .i64 t.z.t.d, .int .i64 t.z.t.h, .int .i64 t.days, .int .i64 t.gap, .int .i64 t.first, .int .i64 t.last, .string t.h0, .string t.h1, .string t.h2, .string t.h3, .int .i64 t.b0.x, .int .i64 t.b0.y, .int .i64 t.b0.z, .int .i64 t.b1.x, .int .i64 t.b1.y, .int .i64 t.b1.z, .int .i64 t.b2.x, .int .i64 t.b2.y, .int .i64 t.b2.z, .int .i64 t.d.x, .int .i64 t.d.y, .int .i64 t.d.z, .int .i64 t.np, .int .i64 t.nn, .int .i64 t.fix, .int .i64 t.min, .int .i64 t.tax] rfl rfl 55 _ HR5.out (tc_info t) (tc_size t) (tc_one t) ?_))
        refine bodyPost_ret (v := .agg #[.int .i64 t.z.off, .int .i64 t.z.f.m, .int .i64 t.z.f.w, .int .i64 t.z.f.d, .int .i64 t.z.f.h, .int .i64 t.z.t.m, .int .i64 t.z.t.w, .int .i64 t.z.t.d, .int .i64 t.z.t.h, .int .i64 t.days, .int .i64 t.gap, .int .i64 t.first, .int .i64 t.last, .string t.h0, .string t.h1, .string t.h2, .string t.h3, .int .i64 t.b0.x, .int .i64 t.b0.y, .int .i64 t.b0.z, .int .i64 t.b1.x, .int .i64 t.b1.y, .int .i64 t.b1.z, .int .i64 t.b2.x, .int .i64 t.b2.y, .int .i64 t.b2.z, .int .i64 t.d.x, .int .i64 t.d.y, .int .i64 t.d.z, .int .i64 t.np, .int .i64 t.nn, .int .i64 t.fix, .int .i64 t.min, .int .i64 t.tax]) (results_cell_row rfl _ _ (w.heap.size + 1) 55 _ (0, 0) _ rfl (setRow_heap _ _ _ _ _ _ HR5.out) Tryd.underlying55 rfl (tc_info t)) rfl ⟨rfl, ?_⟩
        exact below_setRow B5 (by omega) _

end Go.Proofs.YtjaffmmocbplaaaDoor
