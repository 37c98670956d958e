/-
  Tariffs: whether two tariffs are the same; the law (made by tools/gentds.py).
-/
import Derived.Test.YtjaffmmocbplaabDoorK22
import Derived.Test.YtjaffmmocbplaabDoorKTarD
namespace Go.Proofs.YtjaffmmocbplaabDoor.tariffs
open Go.RowKit
set_option linter.unusedVariables false
attribute [local go_sem ↓] Go.wp_at_zero Go.wp_at_succ

theorem yields_row {P : Program} {ops : Array Oper} {S : World → Prop} {op : Oper} {a : Act} (hw : Region.wanted op (yielded ops a.tmps) = true) (ty : TypeId) (x : Operand) (ho : op.op = .load ty x)
    (g : Nat) (hx : a.eval x = .pointer (some ⟨g, 0, none⟩)) (cs : Array Value) (t : TypeId) (fr : Nat × Nat) (d : TypeDesc) (hS : ∀ w, S w → w.heap[g]? = some (.cells cs t fr))
    (hu : P.underlying ty = some d) (hd : (match d with | .struct _ | .array _ _ => true | _ => false) = true) (hi : (P.info? ty).map (·.size) = some cs.size) : YieldsIf P ops S op (.agg cs) a :=
  .inl ⟨hw, fun w hw' => by
    unfold execOp
    simp only [ho, hx, Instr.loadAt, Instr.sureAddr, Sem.run_bind, Sem.run_pure, Result.andThen_ok, run_loadVar_row w g t ty cs fr d (hS w hw') hu hd hi]⟩
theorem fine (t : ByteArray) (xp xd : Trf) (hp : xp = rdT t (hrP t)) (hd : xd = rdT t (hrD t)) (h : (Txt.fin t (sT t 13)).bad = false) : xd = xp := by
  obtain ⟨_, h2⟩ := fin_good h
  rw [hp, hd, rd_good h2]
theorem y_sizes (t : ByteArray) (xp y : Trf) (hp : xp = rdT t (hrP t)) (hy : y = rtV t xp) : y.h0.size ≤ maxLen ∧ y.h1.size ≤ maxLen ∧ y.h2.size ≤ maxLen ∧ y.h3.size ≤ maxLen := by
  rw [hy]; unfold rtV
  split
  · rw [hp]
    refine ⟨?_, ?_, ?_, ?_⟩
    · show (hrP t 3).size ≤ _; rw [hrP_size]; unfold maxLen; omega
    · show (hrP t 4).size ≤ _; rw [hrP_size]; unfold maxLen; omega
    · show (hrP t 5).size ≤ _; rw [hrP_size]; unfold maxLen; omega
    · show (hrP t 6).size ≤ _; rw [hrP_size]; unfold maxLen; omega
  · refine ⟨?_, ?_, ?_, ?_⟩ <;> (show ByteArray.empty.size ≤ _; unfold maxLen; decide)

end Go.Proofs.YtjaffmmocbplaabDoor.tariffs
