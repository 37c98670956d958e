/-
  The document's ReadTariff: the walk (made by tools/gentdr.py).
-/
import Derived.Test.YtjaffmmocbplaaaDoorTdR
namespace Go.Proofs.YtjaffmmocbplaaaDoor
open Go.RowKit
set_option linter.unusedVariables false
attribute [local go_sem ↓] Go.wp_at_zero Go.wp_at_succ

theorem heap_three0 (w : World) (a b c : Obj) : (((w.alloc a).alloc b).alloc c).heap[w.heap.size + 2]? = some c := by
  have := heap_alloc_new ((w.alloc a).alloc b) c
  simpa using this
theorem DSt.same_world {w wi wj : World} {t : ByteArray} {x : Trf} {s : Txt.Sc} {av : Value} {m : Nat} (h : DSt w t wi x s av m) (e : wj = wi) : DSt w t wj x s av m := by rw [e]; exact h

end Go.Proofs.YtjaffmmocbplaaaDoor
