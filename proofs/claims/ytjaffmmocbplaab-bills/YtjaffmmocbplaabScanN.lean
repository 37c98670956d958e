/-
  The walks of the program's scanner: numbers.
-/
import Derived.Test.YtjaffmmocbplaabScanW
namespace Go.Proofs.Ytjaffmmocbplaab
open Go.RowKit
set_option linter.unusedVariables false

/-- what number makes of the scanner -/
theorem runD_step {t : ByteArray} {k p : Nat} {n : Int} (h : Txt.digB (Txt.byteAt t p) = true) : Txt.runD t (k + 1) p n = Txt.runD t k (p + 1) (n * 10 + (Txt.byteAt t p - 48)) := by
  show (if _ then _ else _) = _
  rw [if_pos h]
theorem runD_stop {t : ByteArray} {k p : Nat} {n : Int} (h : Txt.digB (Txt.byteAt t p) = false) : Txt.runD t k p n = (n, p) := by
  cases k with
  | zero => rfl
  | succ k => show (if _ then _ else _) = _; rw [if_neg (by simp [h])]
theorem byte_sub (c : UInt8) (h : 48 ≤ (c.toNat : Int)) : IntKind.u8.wrap ((c.toNat : Int) - 48) = (c.toNat : Int) - 48 := by
  have := UInt8.toNat_lt c
  simp [IntKind.wrap, IntKind.bits, IntKind.signed]; omega

end Go.Proofs.Ytjaffmmocbplaab
