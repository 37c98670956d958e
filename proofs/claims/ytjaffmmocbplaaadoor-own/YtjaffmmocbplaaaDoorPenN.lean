/-
  The walks of the document's pen: numbers.
-/
import Derived.Test.YtjaffmmocbplaaaDoorPenW
import Derived.Test.YtjaffmmocbplaaaDoorScanN
namespace Go.Proofs.YtjaffmmocbplaaaDoor
open Go.RowKit
set_option linter.unusedVariables false

/-- how far the document's number has come, behind k digits of value x, at place p -/
def numSt (t : ByteArray) (m : Nat) (s : Txt.Sc) (k p : Nat) (x : Int) : Prop :=
  (k = 0 ∧ p = s.pos ∧ x = 0) ∨ (s.bad = false ∧ k = 1 ∧ x = 0 ∧ Txt.num t m s = (0, ⟨p, false⟩)) ∨
  (s.bad = false ∧ 1 ≤ k ∧ 1 ≤ x ∧ Txt.num t m s = ((Txt.runD t (m - k) p x).1, ⟨(Txt.runD t (m - k) p x).2, false⟩))

theorem num_zero {t : ByteArray} {m : Nat} {s : Txt.Sc} (hb : s.bad = false) (h : Txt.byteAt t s.pos = 48) : Txt.num t m s = (0, ⟨s.pos + 1, false⟩) := by
  unfold Txt.num; rw [if_neg (by simp [hb]), if_pos h]
theorem num_none {t : ByteArray} {m : Nat} {s : Txt.Sc} (hb : s.bad = false) (h : ¬ (48 ≤ Txt.byteAt t s.pos ∧ Txt.byteAt t s.pos ≤ 57)) : Txt.num t m s = (0, ⟨s.pos, true⟩) := by
  unfold Txt.num; rw [if_neg (by simp [hb]), if_neg (by omega), if_neg (by rw [Txt.digB_iff]; exact h)]
theorem num_some {t : ByteArray} {m : Nat} {s : Txt.Sc} (hb : s.bad = false) (hm : 1 ≤ m) (h : 49 ≤ Txt.byteAt t s.pos ∧ Txt.byteAt t s.pos ≤ 57) :
    Txt.num t m s = ((Txt.runD t (m - 1) (s.pos + 1) (Txt.byteAt t s.pos - 48)).1, ⟨(Txt.runD t (m - 1) (s.pos + 1) (Txt.byteAt t s.pos - 48)).2, false⟩) := by
  have hd : Txt.digB (Txt.byteAt t s.pos) = true := Txt.digB_iff.mpr (by omega)
  unfold Txt.num; rw [if_neg (by simp [hb]), if_neg (by omega), if_pos hd]
  obtain ⟨k, rfl⟩ : ∃ k, m = k + 1 := ⟨m - 1, by omega⟩
  rw [runD_step hd]; simp

end Go.Proofs.YtjaffmmocbplaaaDoor
