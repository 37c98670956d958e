/-
  No cell of these rows narrows 'for every input' (looked for: loops, veiled, ifaces, maps, wideKeys, modest, calm, conditions, laid).
  DERIVED. THE GIVEN ROWS OF THIS SEAT. 8 by the template 'for every input the law returns true; each argument reads behind the call as it read before'; 0 by the template 'total and deterministic' (their statements: YtjaffmmocbplaaaTotals.lean).
  GIVEN WITH THE SEED: the statements are not yours to turn. If you find one false, say at which input.
  Laid BY PROGRAM, IN A SANDBOX (cutbox-rows.mjs): the forced cells as the released guide's own fill.sh prints them over the translation b49cd6691cc3b3ab… (all of the seat's roots in one cut). By AI agents, Wed Nov 11 2026. No macro, syntax, notation, axiom, sorry.
-/
import Derived.Test.YtjaffmmocbplaaaChecked
import GoSem.Claim
import GoSem.ClaimJoined
import GoSem.ClaimMapViews
import Derived.JoinedTies
import Derived.KernelRfl
namespace Go.Proofs.Ytjaffmmocbplaaa
/- THE CELL 'sum', in the pinned program and in every row, IS THE sha256 OF THE DUMP (.gsa) THAT YtjaffmmocbplaaaProg.lean LOADS. Nothing in Lean hashes anything: it is a label: what it is worth is what the hold of that sum in a sandbox is worth. -/
noncomputable def Try.pinned : Pinned := { name := "ytjaffmmocbplaaa", sum := "b49cd6691cc3b3ab11ce9df69f67eb64e49765327939c5510c66fb414a259c1a", checked := Try.checked }
namespace Rows
def none {H : Type} : Left H := { results := [], args := [] }

/-- 'meterlaw.Dates': WHATEVER THE INPUT: true; the input reads as it did. -/
def datesSpec : ChangeSpec := { name := "dates", fn := fun _ => fun
  | [d1, d2, d3, d4] => { results := [.lit (.bool true)], args := [d1, d2, d3, d4] }
  | _ => none }
def datesRow : OpenClaim := { program := "ytjaffmmocbplaaa", sum := "b49cd6691cc3b3ab11ce9df69f67eb64e49765327939c5510c66fb414a259c1a", func := "meter/meterlaw.Dates", spec := "dates", apart := false }
def DatesSaid : Prop := datesRow.holds Try.pinned (OpenSpec.ofChange datesSpec)

/-- ITS FALSE NEIGHBOUR: 'it returns false'. Refute it at one input. -/
def datesWrong : ChangeSpec := { name := "dates", fn := fun _ => fun
  | [d1, d2, d3, d4] => { results := [.lit (.bool false)], args := [d1, d2, d3, d4] }
  | _ => none }
def DatesWrongFalsely : Prop := datesRow.holds Try.pinned (OpenSpec.ofChange datesWrong)

/-- 'meterlaw.Calendar': WHATEVER THE INPUT: true; the input reads as it did. -/
def calendarSpec : ChangeSpec := { name := "calendar", fn := fun _ => fun
  | [d] => { results := [.lit (.bool true)], args := [d] }
  | _ => none }
def calendarRow : OpenClaim := { program := "ytjaffmmocbplaaa", sum := "b49cd6691cc3b3ab11ce9df69f67eb64e49765327939c5510c66fb414a259c1a", func := "meter/meterlaw.Calendar", spec := "calendar", apart := false }
def CalendarSaid : Prop := calendarRow.holds Try.pinned (OpenSpec.ofChange calendarSpec)

/-- ITS FALSE NEIGHBOUR: 'it returns false'. Refute it at one input. -/
def calendarWrong : ChangeSpec := { name := "calendar", fn := fun _ => fun
  | [d] => { results := [.lit (.bool false)], args := [d] }
  | _ => none }
def CalendarWrongFalsely : Prop := calendarRow.holds Try.pinned (OpenSpec.ofChange calendarWrong)

/-- 'meterlaw.Clocks': WHATEVER THE INPUT: true; the input reads as it did. -/
def clocksSpec : ChangeSpec := { name := "clocks", fn := fun _ => fun
  | [d1, d2] => { results := [.lit (.bool true)], args := [d1, d2] }
  | _ => none }
def clocksRow : OpenClaim := { program := "ytjaffmmocbplaaa", sum := "b49cd6691cc3b3ab11ce9df69f67eb64e49765327939c5510c66fb414a259c1a", func := "meter/meterlaw.Clocks", spec := "clocks", apart := false }
def ClocksSaid : Prop := clocksRow.holds Try.pinned (OpenSpec.ofChange clocksSpec)

/-- ITS FALSE NEIGHBOUR: 'it returns false'. Refute it at one input. -/
def clocksWrong : ChangeSpec := { name := "clocks", fn := fun _ => fun
  | [d1, d2] => { results := [.lit (.bool false)], args := [d1, d2] }
  | _ => none }
def ClocksWrongFalsely : Prop := clocksRow.holds Try.pinned (OpenSpec.ofChange clocksWrong)

/-- 'meterlaw.Ticks': WHATEVER THE INPUT: true; the input reads as it did. -/
def ticksSpec : ChangeSpec := { name := "ticks", fn := fun _ => fun
  | [d1, d2] => { results := [.lit (.bool true)], args := [d1, d2] }
  | _ => none }
def ticksRow : OpenClaim := { program := "ytjaffmmocbplaaa", sum := "b49cd6691cc3b3ab11ce9df69f67eb64e49765327939c5510c66fb414a259c1a", func := "meter/meterlaw.Ticks", spec := "ticks", apart := false }
def TicksSaid : Prop := ticksRow.holds Try.pinned (OpenSpec.ofChange ticksSpec)

/-- ITS FALSE NEIGHBOUR: 'it returns false'. Refute it at one input. -/
def ticksWrong : ChangeSpec := { name := "ticks", fn := fun _ => fun
  | [d1, d2] => { results := [.lit (.bool false)], args := [d1, d2] }
  | _ => none }
def TicksWrongFalsely : Prop := ticksRow.holds Try.pinned (OpenSpec.ofChange ticksWrong)

/-- 'meterlaw.Meters': WHATEVER THE INPUT: true; the input reads as it did. -/
def metersSpec : ChangeSpec := { name := "meters", fn := fun _ => fun
  | [d] => { results := [.lit (.bool true)], args := [d] }
  | _ => none }
def metersRow : OpenClaim := { program := "ytjaffmmocbplaaa", sum := "b49cd6691cc3b3ab11ce9df69f67eb64e49765327939c5510c66fb414a259c1a", func := "meter/meterlaw.Meters", spec := "meters", apart := false }
def MetersSaid : Prop := metersRow.holds Try.pinned (OpenSpec.ofChange metersSpec)

/-- ITS FALSE NEIGHBOUR: 'it returns false'. Refute it at one input. -/
def metersWrong : ChangeSpec := { name := "meters", fn := fun _ => fun
  | [d] => { results := [.lit (.bool false)], args := [d] }
  | _ => none }
def MetersWrongFalsely : Prop := metersRow.holds Try.pinned (OpenSpec.ofChange metersWrong)

/-- 'meterlaw.Tariffs': WHATEVER THE INPUT: true; the input reads as it did. -/
def tariffsSpec : ChangeSpec := { name := "tariffs", fn := fun _ => fun
  | [d] => { results := [.lit (.bool true)], args := [d] }
  | _ => none }
def tariffsRow : OpenClaim := { program := "ytjaffmmocbplaaa", sum := "b49cd6691cc3b3ab11ce9df69f67eb64e49765327939c5510c66fb414a259c1a", func := "meter/meterlaw.Tariffs", spec := "tariffs", apart := false }
def TariffsSaid : Prop := tariffsRow.holds Try.pinned (OpenSpec.ofChange tariffsSpec)

/-- ITS FALSE NEIGHBOUR: 'it returns false'. Refute it at one input. -/
def tariffsWrong : ChangeSpec := { name := "tariffs", fn := fun _ => fun
  | [d] => { results := [.lit (.bool false)], args := [d] }
  | _ => none }
def TariffsWrongFalsely : Prop := tariffsRow.holds Try.pinned (OpenSpec.ofChange tariffsWrong)

/-- 'meterlaw.Fills': WHATEVER THE INPUT: true; the input reads as it did. -/
def fillsSpec : ChangeSpec := { name := "fills", fn := fun _ => fun
  | [d1, d2] => { results := [.lit (.bool true)], args := [d1, d2] }
  | _ => none }
def fillsRow : OpenClaim := { program := "ytjaffmmocbplaaa", sum := "b49cd6691cc3b3ab11ce9df69f67eb64e49765327939c5510c66fb414a259c1a", func := "meter/meterlaw.Fills", spec := "fills", apart := false }
def FillsSaid : Prop := fillsRow.holds Try.pinned (OpenSpec.ofChange fillsSpec)

/-- ITS FALSE NEIGHBOUR: 'it returns false'. Refute it at one input. -/
def fillsWrong : ChangeSpec := { name := "fills", fn := fun _ => fun
  | [d1, d2] => { results := [.lit (.bool false)], args := [d1, d2] }
  | _ => none }
def FillsWrongFalsely : Prop := fillsRow.holds Try.pinned (OpenSpec.ofChange fillsWrong)

/-- 'meterlaw.FillKeeps': WHATEVER THE INPUT: true; the input reads as it did. -/
def fillKeepsSpec : ChangeSpec := { name := "fillKeeps", fn := fun _ => fun
  | [d1, d2] => { results := [.lit (.bool true)], args := [d1, d2] }
  | _ => none }
def fillKeepsRow : OpenClaim := { program := "ytjaffmmocbplaaa", sum := "b49cd6691cc3b3ab11ce9df69f67eb64e49765327939c5510c66fb414a259c1a", func := "meter/meterlaw.FillKeeps", spec := "fillKeeps", apart := false }
def FillKeepsSaid : Prop := fillKeepsRow.holds Try.pinned (OpenSpec.ofChange fillKeepsSpec)

/-- ITS FALSE NEIGHBOUR: 'it returns false'. Refute it at one input. -/
def fillKeepsWrong : ChangeSpec := { name := "fillKeeps", fn := fun _ => fun
  | [d1, d2] => { results := [.lit (.bool false)], args := [d1, d2] }
  | _ => none }
def FillKeepsWrongFalsely : Prop := fillKeepsRow.holds Try.pinned (OpenSpec.ofChange fillKeepsWrong)

/- THE SECOND FORM. 'bulk': how many values and letters a reading holds, each counted each time it is reached (what is shared counts as often as it is met; a slice's spare places count too). A statement '..UptoSaid' is the law's where the arguments, and the package variables that the reading takes, are together of bulk at most 1048576: NARROWER than '..Said'. Prove '..Said' where nothing that the law and all that it calls make is longer than what came in: it says more and counts as full. Else prove '..UptoSaid'. A law counts once. -/
mutual
def uptoBulk {H : Type} : DataW H → Nat
  | .lit (.string bytes) => bytes.length + 1
  | .lit _ => 1
  | .nil => 1
  | .ptr d => uptoBulk d + 1
  | .slice elems spare => uptoBulkAll elems + uptoBulkAll spare + 1
  | .agg parts => uptoBulkAll parts + 1
  | .iface _ d => uptoBulk d + 1
  | .map entries => uptoBulkEntries entries + 1
  | .held _ => 1
def uptoBulkAll {H : Type} : List (DataW H) → Nat
  | [] => 0
  | d :: r => uptoBulk d + uptoBulkAll r
def uptoBulkEntries {H : Type} : List (Lit × DataW H) → Nat
  | [] => 0
  | x :: r => uptoBulkEntry x + uptoBulkEntries r
def uptoBulkEntry {H : Type} : Lit × DataW H → Nat
  | (.string bytes, d) => bytes.length + uptoBulk d + 1
  | (_, d) => uptoBulk d + 1
 end
def uptoSmall : (H : Type) → List (DataW H) → Bool := fun _ ds => decide (uptoBulkAll ds ≤ 1048576)
def OpenSpec.upto (s : _root_.Go.ChangeSpec) : _root_.Go.OpenSpec := { _root_.Go.OpenSpec.ofChange s with cond := some uptoSmall }

/-- 'meterlaw.Dates', WHERE WHAT IT READS IS OF BULK AT MOST 1048576: true; the input reads as it did. -/
def datesUptoRow : OpenClaim := { program := "ytjaffmmocbplaaa", sum := "b49cd6691cc3b3ab11ce9df69f67eb64e49765327939c5510c66fb414a259c1a", func := "meter/meterlaw.Dates", spec := "dates", apart := false, narrowed := true }
def DatesUptoSaid : Prop := datesUptoRow.holds Try.pinned (OpenSpec.upto datesSpec)

/-- 'meterlaw.Calendar', WHERE WHAT IT READS IS OF BULK AT MOST 1048576: true; the input reads as it did. -/
def calendarUptoRow : OpenClaim := { program := "ytjaffmmocbplaaa", sum := "b49cd6691cc3b3ab11ce9df69f67eb64e49765327939c5510c66fb414a259c1a", func := "meter/meterlaw.Calendar", spec := "calendar", apart := false, narrowed := true }
def CalendarUptoSaid : Prop := calendarUptoRow.holds Try.pinned (OpenSpec.upto calendarSpec)

/-- 'meterlaw.Clocks', WHERE WHAT IT READS IS OF BULK AT MOST 1048576: true; the input reads as it did. -/
def clocksUptoRow : OpenClaim := { program := "ytjaffmmocbplaaa", sum := "b49cd6691cc3b3ab11ce9df69f67eb64e49765327939c5510c66fb414a259c1a", func := "meter/meterlaw.Clocks", spec := "clocks", apart := false, narrowed := true }
def ClocksUptoSaid : Prop := clocksUptoRow.holds Try.pinned (OpenSpec.upto clocksSpec)

/-- 'meterlaw.Ticks', WHERE WHAT IT READS IS OF BULK AT MOST 1048576: true; the input reads as it did. -/
def ticksUptoRow : OpenClaim := { program := "ytjaffmmocbplaaa", sum := "b49cd6691cc3b3ab11ce9df69f67eb64e49765327939c5510c66fb414a259c1a", func := "meter/meterlaw.Ticks", spec := "ticks", apart := false, narrowed := true }
def TicksUptoSaid : Prop := ticksUptoRow.holds Try.pinned (OpenSpec.upto ticksSpec)

/-- 'meterlaw.Meters', WHERE WHAT IT READS IS OF BULK AT MOST 1048576: true; the input reads as it did. -/
def metersUptoRow : OpenClaim := { program := "ytjaffmmocbplaaa", sum := "b49cd6691cc3b3ab11ce9df69f67eb64e49765327939c5510c66fb414a259c1a", func := "meter/meterlaw.Meters", spec := "meters", apart := false, narrowed := true }
def MetersUptoSaid : Prop := metersUptoRow.holds Try.pinned (OpenSpec.upto metersSpec)

/-- 'meterlaw.Tariffs', WHERE WHAT IT READS IS OF BULK AT MOST 1048576: true; the input reads as it did. -/
def tariffsUptoRow : OpenClaim := { program := "ytjaffmmocbplaaa", sum := "b49cd6691cc3b3ab11ce9df69f67eb64e49765327939c5510c66fb414a259c1a", func := "meter/meterlaw.Tariffs", spec := "tariffs", apart := false, narrowed := true }
def TariffsUptoSaid : Prop := tariffsUptoRow.holds Try.pinned (OpenSpec.upto tariffsSpec)

/-- 'meterlaw.Fills', WHERE WHAT IT READS IS OF BULK AT MOST 1048576: true; the input reads as it did. -/
def fillsUptoRow : OpenClaim := { program := "ytjaffmmocbplaaa", sum := "b49cd6691cc3b3ab11ce9df69f67eb64e49765327939c5510c66fb414a259c1a", func := "meter/meterlaw.Fills", spec := "fills", apart := false, narrowed := true }
def FillsUptoSaid : Prop := fillsUptoRow.holds Try.pinned (OpenSpec.upto fillsSpec)

/-- 'meterlaw.FillKeeps', WHERE WHAT IT READS IS OF BULK AT MOST 1048576: true; the input reads as it did. -/
def fillKeepsUptoRow : OpenClaim := { program := "ytjaffmmocbplaaa", sum := "b49cd6691cc3b3ab11ce9df69f67eb64e49765327939c5510c66fb414a259c1a", func := "meter/meterlaw.FillKeeps", spec := "fillKeeps", apart := false, narrowed := true }
def FillKeepsUptoSaid : Prop := fillKeepsUptoRow.holds Try.pinned (OpenSpec.upto fillKeepsSpec)

end Rows
end Go.Proofs.Ytjaffmmocbplaaa
