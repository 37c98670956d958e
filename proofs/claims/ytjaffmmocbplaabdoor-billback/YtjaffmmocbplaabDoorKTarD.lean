/-
  ClockS, TarC in one text (made by tools/merge.py).
-/
import Derived.Test.YtjaffmmocbplaabDoorK21
import Derived.Deep.RegionHeld3
import Derived.Deep.DrawnRows
import Derived.Test.YtjaffmmocbplaabDoorK12
import Derived.Laws.Tables
import Derived.Deep.WholeRow
import Derived.Laws.CopyOwn
namespace Go.Proofs.YtjaffmmocbplaabDoor
open Go.RowKit
set_option linter.unusedVariables false
attribute [local go_sem ↓] Go.wp_at_zero Go.wp_at_succ

end Go.Proofs.YtjaffmmocbplaabDoor

namespace Go.Proofs.YtjaffmmocbplaabDoor
open Go.RowKit
set_option linter.unusedVariables false
attribute [local go_sem ↓] Go.wp_at_zero Go.wp_at_succ

theorem heap_three (w : World) (a b c : Obj) : (((w.alloc a).alloc b).drew.alloc c).heap[w.heap.size + 1 + 1]? = some c := by
  have h := heap_alloc_new ((w.alloc a).alloc b).drew c
  have e : ((w.alloc a).alloc b).drew.heap.size = w.heap.size + 1 + 1 := by show ((w.alloc a).alloc b).heap.size = _; simp
  rw [e] at h; exact h
def urow (t : Trf) : Nat → Array Value
  | 0 => #[.int .i64 t.z.off, .int .i64 t.z.f.m, .int .i64 t.z.f.w, .int .i64 t.z.f.d, .int .i64 t.z.f.h, .int .i64 t.z.t.m, .int .i64 t.z.t.w, .int .i64 t.z.t.d, .int .i64 t.z.t.h, .int .i64 t.days, .int .i64 t.gap, .int .i64 t.first, .int .i64 t.last, .string t.h0, .string t.h1, .string t.h2, .string t.h3, .int .i64 0, .int .i64 0, .int .i64 0, .int .i64 0, .int .i64 0, .int .i64 0, .int .i64 0, .int .i64 0, .int .i64 0, .int .i64 0, .int .i64 0, .int .i64 0, .int .i64 0, .int .i64 0, .int .i64 t.fix, .int .i64 t.min, .int .i64 t.tax]
  | 1 => #[.int .i64 t.z.off, .int .i64 t.z.f.m, .int .i64 t.z.f.w, .int .i64 t.z.f.d, .int .i64 t.z.f.h, .int .i64 t.z.t.m, .int .i64 t.z.t.w, .int .i64 t.z.t.d, .int .i64 t.z.t.h, .int .i64 t.days, .int .i64 t.gap, .int .i64 t.first, .int .i64 t.last, .string t.h0, .string t.h1, .string t.h2, .string t.h3, .int .i64 t.b0.x, .int .i64 t.b0.y, .int .i64 t.b0.z, .int .i64 0, .int .i64 0, .int .i64 0, .int .i64 0, .int .i64 0, .int .i64 0, .int .i64 0, .int .i64 0, .int .i64 0, .int .i64 0, .int .i64 0, .int .i64 t.fix, .int .i64 t.min, .int .i64 t.tax]
  | 2 => #[.int .i64 t.z.off, .int .i64 t.z.f.m, .int .i64 t.z.f.w, .int .i64 t.z.f.d, .int .i64 t.z.f.h, .int .i64 t.z.t.m, .int .i64 t.z.t.w, .int .i64 t.z.t.d, .int .i64 t.z.t.h, .int .i64 t.days, .int .i64 t.gap, .int .i64 t.first, .int .i64 t.last, .string t.h0, .string t.h1, .string t.h2, .string t.h3, .int .i64 t.b0.x, .int .i64 t.b0.y, .int .i64 t.b0.z, .int .i64 t.b1.x, .int .i64 t.b1.y, .int .i64 t.b1.z, .int .i64 0, .int .i64 0, .int .i64 0, .int .i64 0, .int .i64 0, .int .i64 0, .int .i64 0, .int .i64 0, .int .i64 t.fix, .int .i64 t.min, .int .i64 t.tax]
  | _ => #[.int .i64 t.z.off, .int .i64 t.z.f.m, .int .i64 t.z.f.w, .int .i64 t.z.f.d, .int .i64 t.z.f.h, .int .i64 t.z.t.m, .int .i64 t.z.t.w, .int .i64 t.z.t.d, .int .i64 t.z.t.h, .int .i64 t.days, .int .i64 t.gap, .int .i64 t.first, .int .i64 t.last, .string t.h0, .string t.h1, .string t.h2, .string t.h3, .int .i64 t.b0.x, .int .i64 t.b0.y, .int .i64 t.b0.z, .int .i64 t.b1.x, .int .i64 t.b1.y, .int .i64 t.b1.z, .int .i64 t.b2.x, .int .i64 t.b2.y, .int .i64 t.b2.z, .int .i64 0, .int .i64 0, .int .i64 0, .int .i64 0, .int .i64 0, .int .i64 t.fix, .int .i64 t.min, .int .i64 t.tax]

theorem hideT {p : Prop} (h : p) : Hid p := h
theorem tc_one (t : Trf) : (#[.int .i64 t.z.off, .int .i64 t.z.f.m, .int .i64 t.z.f.w, .int .i64 t.z.f.d, .int .i64 t.z.f.h, .int .i64 t.z.t.m, .int .i64 t.z.t.w, .int .i64 t.z.t.d, .int .i64 t.z.t.h, .int .i64 t.days, .int .i64 t.gap, .int .i64 t.first, .int .i64 t.last, .string t.h0, .string t.h1, .string t.h2, .string t.h3, .int .i64 t.b0.x, .int .i64 t.b0.y, .int .i64 t.b0.z, .int .i64 t.b1.x, .int .i64 t.b1.y, .int .i64 t.b1.z, .int .i64 t.b2.x, .int .i64 t.b2.y, .int .i64 t.b2.z, .int .i64 t.d.x, .int .i64 t.d.y, .int .i64 t.d.z, .int .i64 t.np, .int .i64 t.nn, .int .i64 t.fix, .int .i64 t.min, .int .i64 t.tax] : Array Value).all (fun v => v.oneCell') = true := by kernel_rfl
theorem tc_size (t : Trf) : (#[.int .i64 0, .int .i64 0, .int .i64 0, .int .i64 0, .int .i64 0, .int .i64 0, .int .i64 0, .int .i64 0, .int .i64 0, .int .i64 0, .int .i64 0, .int .i64 0, .int .i64 0, .string ByteArray.empty, .string ByteArray.empty, .string ByteArray.empty, .string ByteArray.empty, .int .i64 0, .int .i64 0, .int .i64 0, .int .i64 0, .int .i64 0, .int .i64 0, .int .i64 0, .int .i64 0, .int .i64 0, .int .i64 0, .int .i64 0, .int .i64 0, .int .i64 0, .int .i64 0, .int .i64 0, .int .i64 0, .int .i64 0] : Array Value).size = (#[.int .i64 t.z.off, .int .i64 t.z.f.m, .int .i64 t.z.f.w, .int .i64 t.z.f.d, .int .i64 t.z.f.h, .int .i64 t.z.t.m, .int .i64 t.z.t.w, .int .i64 t.z.t.d, .int .i64 t.z.t.h, .int .i64 t.days, .int .i64 t.gap, .int .i64 t.first, .int .i64 t.last, .string t.h0, .string t.h1, .string t.h2, .string t.h3, .int .i64 t.b0.x, .int .i64 t.b0.y, .int .i64 t.b0.z, .int .i64 t.b1.x, .int .i64 t.b1.y, .int .i64 t.b1.z, .int .i64 t.b2.x, .int .i64 t.b2.y, .int .i64 t.b2.z, .int .i64 t.d.x, .int .i64 t.d.y, .int .i64 t.d.z, .int .i64 t.np, .int .i64 t.nn, .int .i64 t.fix, .int .i64 t.min, .int .i64 t.tax] : Array Value).size := rfl
theorem dn_far (w : World) (g k : Nat) (t : Trf) (X : Option Obj) (hk : k < g) (h : w.heap[k]? = X) : (((((w.setCell ⟨g, 26, none⟩ (.int .i64 t.d.x)).setCell ⟨g, 27, none⟩ (.int .i64 t.d.y)).setCell ⟨g, 28, none⟩ (.int .i64 t.d.z)).setCell ⟨g, 29, none⟩ (.int .i64 t.np)).setCell ⟨g, 30, none⟩ (.int .i64 t.nn)).heap[k]? = X := by
  rw [Below.heap_setCell _ _ _ _ (show k ≠ g by omega), Below.heap_setCell _ _ _ _ (show k ≠ g by omega), Below.heap_setCell _ _ _ _ (show k ≠ g by omega), Below.heap_setCell _ _ _ _ (show k ≠ g by omega), Below.heap_setCell _ _ _ _ (show k ≠ g by omega)]
  exact h
end Go.Proofs.YtjaffmmocbplaabDoor
