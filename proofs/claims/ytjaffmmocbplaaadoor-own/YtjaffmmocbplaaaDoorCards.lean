/-
  DERIVED. GIVEN WITH THE SEED: THE CARDS: each row of YtjaffmmocbplaaaDoorRows.lean that lists a variable, with what it lists TIED to the program's text (the seventh form; the later family's looks); each row that meets fmt, with fmt's text TOLD by the authors' own Lean function (tested against real Go, not proved from fmt's source: count such statements apart). THE CARD IS WHAT COUNTS. Prove the row's statement (the work); the ties are given (YtjaffmmocbplaaaDoorTie.lean); close each card by the builder's one call (the guide's Derived/Test/ToyasCard.lean, 'card_holds'). Laid BY PROGRAM, IN A SANDBOX (cutbox-door.mjs). By AI agents, Wed Nov 11 2026. No macro, syntax, notation, axiom, sorry.
-/
import Derived.Test.YtjaffmmocbplaaaDoorRows
import GoSem.ClaimSeven
namespace Go.Proofs.YtjaffmmocbplaaaDoor
namespace Rows

/-- THE TIED CARD OF 'meterlaw.Prints'. -/
def printsCard : Claim7 := { stood := { row := printsRow, standIns := [], harness := (true, "8e0fdf0cae6d36082a1efe823df5eeb13c1ddce2d5d07f333d5d73c2dd17ee4a"), looks := false }, kinds := [], alts := [], laidByText := true, laidKinds := [.data, .data, .data], laidTests := true, laidLooks := .later }
def PrintsCardSaid : Prop := Claim7.holds Tryd.pinned (.plain (OpenSpec.ofChange printsSpec)) printsCard

/-- THE TIED CARD OF 'meterlaw.MeterBack'. -/
def meterBackCard : Claim7 := { stood := { row := meterBackRow, standIns := [], harness := (true, "8e0fdf0cae6d36082a1efe823df5eeb13c1ddce2d5d07f333d5d73c2dd17ee4a"), looks := false }, kinds := [], alts := [], laidByText := true, laidKinds := [.data, .data, .data], laidTests := true, laidLooks := .later }
def MeterBackCardSaid : Prop := Claim7.holds Tryd.pinned (.plain (OpenSpec.ofChange meterBackSpec)) meterBackCard

/-- THE TIED CARD OF 'meterlaw.TariffBack'. -/
def tariffBackCard : Claim7 := { stood := { row := tariffBackRow, standIns := [], harness := (true, "8e0fdf0cae6d36082a1efe823df5eeb13c1ddce2d5d07f333d5d73c2dd17ee4a"), looks := false }, kinds := [], alts := [], laidByText := true, laidKinds := [.data, .data, .data], laidTests := true, laidLooks := .later }
def TariffBackCardSaid : Prop := Claim7.holds Tryd.pinned (.plain (OpenSpec.ofChange tariffBackSpec)) tariffBackCard

/-- THE TIED CARD OF 'meterlaw.Own'. -/
def ownCard : Claim7 := { stood := { row := ownRow, standIns := [], harness := (true, "8e0fdf0cae6d36082a1efe823df5eeb13c1ddce2d5d07f333d5d73c2dd17ee4a"), looks := false }, kinds := [], alts := [], laidByText := true, laidKinds := [.data, .data, .data], laidTests := true, laidLooks := .later }
def OwnCardSaid : Prop := Claim7.holds Tryd.pinned (.plain (OpenSpec.ofChange ownSpec)) ownCard

/-- THE SECOND FORM's CARD OF 'meterlaw.Prints'. -/
def printsUptoCard : Claim7 := { stood := { row := printsUptoRow, standIns := [], harness := (true, "8e0fdf0cae6d36082a1efe823df5eeb13c1ddce2d5d07f333d5d73c2dd17ee4a"), looks := false }, kinds := [], alts := [], laidByText := true, laidKinds := [.data, .data, .data], laidTests := true, laidLooks := .later }
def PrintsUptoCardSaid : Prop := Claim7.holds Tryd.pinned (.plain (OpenSpec.upto printsSpec)) printsUptoCard

/-- THE SECOND FORM's CARD OF 'meterlaw.MeterBack'. -/
def meterBackUptoCard : Claim7 := { stood := { row := meterBackUptoRow, standIns := [], harness := (true, "8e0fdf0cae6d36082a1efe823df5eeb13c1ddce2d5d07f333d5d73c2dd17ee4a"), looks := false }, kinds := [], alts := [], laidByText := true, laidKinds := [.data, .data, .data], laidTests := true, laidLooks := .later }
def MeterBackUptoCardSaid : Prop := Claim7.holds Tryd.pinned (.plain (OpenSpec.upto meterBackSpec)) meterBackUptoCard

/-- THE SECOND FORM's CARD OF 'meterlaw.TariffBack'. -/
def tariffBackUptoCard : Claim7 := { stood := { row := tariffBackUptoRow, standIns := [], harness := (true, "8e0fdf0cae6d36082a1efe823df5eeb13c1ddce2d5d07f333d5d73c2dd17ee4a"), looks := false }, kinds := [], alts := [], laidByText := true, laidKinds := [.data, .data, .data], laidTests := true, laidLooks := .later }
def TariffBackUptoCardSaid : Prop := Claim7.holds Tryd.pinned (.plain (OpenSpec.upto tariffBackSpec)) tariffBackUptoCard

/-- THE SECOND FORM's CARD OF 'meterlaw.Own'. -/
def ownUptoCard : Claim7 := { stood := { row := ownUptoRow, standIns := [], harness := (true, "8e0fdf0cae6d36082a1efe823df5eeb13c1ddce2d5d07f333d5d73c2dd17ee4a"), looks := false }, kinds := [], alts := [], laidByText := true, laidKinds := [.data, .data, .data], laidTests := true, laidLooks := .later }
def OwnUptoCardSaid : Prop := Claim7.holds Tryd.pinned (.plain (OpenSpec.upto ownSpec)) ownUptoCard
end Rows
end Go.Proofs.YtjaffmmocbplaaaDoor
