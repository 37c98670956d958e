/-
  DERIVED. GIVEN WITH THE SEED: THE CARDS: each row of YtjaffmmocbplaabDoorRows.lean that lists a variable, with what it lists TIED to the program's text (the seventh form; the later family's looks); each row that meets fmt, with fmt's text TOLD by the authors' own Lean function (tested against real Go, not proved from fmt's source: count such statements apart). THE CARD IS WHAT COUNTS. Prove the row's statement (the work); the ties are given (YtjaffmmocbplaabDoorTie.lean); close each card by the builder's one call (the guide's Derived/Test/ToyasCard.lean, 'card_holds'). Laid BY PROGRAM, IN A SANDBOX (cutbox-door.mjs). By AI agents, Wed Nov 11 2026. No macro, syntax, notation, axiom, sorry.
-/
import Derived.Test.YtjaffmmocbplaabDoorRows
import GoSem.ClaimSeven
namespace Go.Proofs.YtjaffmmocbplaabDoor
namespace Rows

/-- THE TIED CARD OF 'meterlaw.BillTexts'. -/
def billTextsCard : Claim7 := { stood := { row := billTextsRow, standIns := [], harness := (true, "61db78cd8db1e2ed94f8ede78e4a13d230d60f199b5be9525ec786e34fce5926"), looks := false }, kinds := [], alts := [], laidByText := true, laidKinds := [.data, .data, .data], laidTests := true, laidLooks := .later }
def BillTextsCardSaid : Prop := Claim7.holds Tryd.pinned (.plain (OpenSpec.ofChange billTextsSpec)) billTextsCard

/-- THE TIED CARD OF 'meterlaw.BillBack'. -/
def billBackCard : Claim7 := { stood := { row := billBackRow, standIns := [], harness := (true, "61db78cd8db1e2ed94f8ede78e4a13d230d60f199b5be9525ec786e34fce5926"), looks := false }, kinds := [], alts := [], laidByText := true, laidKinds := [.data, .data, .data], laidTests := true, laidLooks := .later }
def BillBackCardSaid : Prop := Claim7.holds Tryd.pinned (.plain (OpenSpec.ofChange billBackSpec)) billBackCard

/-- THE SECOND FORM's CARD OF 'meterlaw.BillTexts'. -/
def billTextsUptoCard : Claim7 := { stood := { row := billTextsUptoRow, standIns := [], harness := (true, "61db78cd8db1e2ed94f8ede78e4a13d230d60f199b5be9525ec786e34fce5926"), looks := false }, kinds := [], alts := [], laidByText := true, laidKinds := [.data, .data, .data], laidTests := true, laidLooks := .later }
def BillTextsUptoCardSaid : Prop := Claim7.holds Tryd.pinned (.plain (OpenSpec.upto billTextsSpec)) billTextsUptoCard

/-- THE SECOND FORM's CARD OF 'meterlaw.BillBack'. -/
def billBackUptoCard : Claim7 := { stood := { row := billBackUptoRow, standIns := [], harness := (true, "61db78cd8db1e2ed94f8ede78e4a13d230d60f199b5be9525ec786e34fce5926"), looks := false }, kinds := [], alts := [], laidByText := true, laidKinds := [.data, .data, .data], laidTests := true, laidLooks := .later }
def BillBackUptoCardSaid : Prop := Claim7.holds Tryd.pinned (.plain (OpenSpec.upto billBackSpec)) billBackUptoCard
end Rows
end Go.Proofs.YtjaffmmocbplaabDoor
