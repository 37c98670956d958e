/-
  The walk of one value: the document's.
-/
import Derived.Test.YtjaffmmocbplaaaDoorValW
import Derived.Deep.AppendLies
namespace Go.Proofs.YtjaffmmocbplaaaDoor
open Go.RowKit
set_option linter.unusedVariables false

theorem own_at {w : World} {base g cap n : Nat} {e : TypeId} {l : List Int} (h : w.ownsRow base e 1 (.slice (some ⟨g, 0, none⟩) n cap) n (ints l)) (j : Nat) (hj : j < n) (x : Int) (hx : l[j]? = some x) : w.cell? ⟨g, j, none⟩ = some (.int .i64 x) := by
  rw [h.cellAt j (by omega)]; simp [ints, hx]

end Go.Proofs.YtjaffmmocbplaaaDoor
