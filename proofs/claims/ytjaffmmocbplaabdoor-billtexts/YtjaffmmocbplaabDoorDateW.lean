/-
  The walks of Day and Date: the program's and the document's.
-/
import Derived.Test.YtjaffmmocbplaabDoorDayW
import Derived.BigQuiet
import Derived.Deep.QuietTactic
namespace Go.Proofs.YtjaffmmocbplaabDoor
open Go.RowKit
set_option linter.unusedVariables false

theorem ret_two {a b : Int} {v : Value} (h : a = b) : Ending.returned (.tuple #[.int .i64 a, v]) = .returned (.tuple #[.int .i64 b, v]) := by rw [h]

end Go.Proofs.YtjaffmmocbplaabDoor
