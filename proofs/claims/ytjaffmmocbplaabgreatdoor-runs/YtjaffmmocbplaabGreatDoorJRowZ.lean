/-
  The program's values as the document's, and whether two lists of values are the same.
-/
import Derived.Test.YtjaffmmocbplaabGreatDoorJ04
import Derived.Deep.RegionHeld3
import Derived.Deep.DrawnRows
namespace Go.Proofs.YtjaffmmocbplaabGreatDoor
open Go.RowKit
set_option linter.unusedVariables false
attribute [local go_sem ↓] Go.wp_at_zero Go.wp_at_succ

end Go.Proofs.YtjaffmmocbplaabGreatDoor
