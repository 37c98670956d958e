/-
  ClockR, GdW in one text.
-/
import Derived.Test.YtjaffmmocbplaabDoorK01
import Derived.Test.YtjaffmmocbplaabDoorZon
import Derived.Test.YtjaffmmocbplaabDoorK05
import Derived.Test.YtjaffmmocbplaabDoorK12
import Derived.Test.YtjaffmmocbplaabDoorK04
namespace Go.Proofs.YtjaffmmocbplaabDoor
open Go.RowKit
set_option linter.unusedVariables false

end Go.Proofs.YtjaffmmocbplaabDoor

namespace Go.Proofs.YtjaffmmocbplaabDoor
open Go.RowKit
set_option linter.unusedVariables false

def goodB (t : Trf) : Bool := decide (badN t = 13)
end Go.Proofs.YtjaffmmocbplaabDoor
