/-
  Is a meter file valid: the document's test; the document's sum.
-/
import Derived.Test.YtjaffmmocbplaabDoorJ04
namespace Go.Proofs.YtjaffmmocbplaabDoor
open Go.RowKit
set_option linter.unusedVariables false

theorem meterB_len {step start : Int} {l : List Txt.Val} (h : ¬ (1 ≤ (l.length : Int) ∧ (l.length : Int) ≤ 200)) : meterB step start l = false := by
  simp [meterB, inB_false h]
theorem meterB_start {step start : Int} {l : List Txt.Val} (h : ¬ (0 ≤ start ∧ start ≤ 52596000 - step * l.length)) : meterB step start l = false := by
  simp [meterB, inB_false h]
theorem meterB_mod {step start : Int} {l : List Txt.Val} (h : ¬ start % step = 0) : meterB step start l = false := by
  simp [meterB, h]

end Go.Proofs.YtjaffmmocbplaabDoor
