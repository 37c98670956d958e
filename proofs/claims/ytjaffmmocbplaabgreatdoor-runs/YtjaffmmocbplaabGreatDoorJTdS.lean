/-
  Tariffs: whether two tariffs are the same; the law (made by tools/gentds.py).
-/
import Derived.Test.YtjaffmmocbplaabGreatDoorJTdQ
import Derived.Test.YtjaffmmocbplaabGreatDoorJTarD
namespace Go.Proofs.YtjaffmmocbplaabGreatDoor.tariffs
open Go.RowKit
set_option linter.unusedVariables false
attribute [local go_sem ↓] Go.wp_at_zero Go.wp_at_succ

theorem yields_row {P : Program} {ops : Array Oper} {S : World → Prop} {op : Oper} {a : Act} (hw : Region.wanted op (yielded ops a.tmps) = true) (ty : TypeId) (x : Operand) (ho : op.op = .load ty x)
    (g : Nat) (hx : a.eval x = .pointer (some ⟨g, 0, none⟩)) (cs : Array Value) (t : TypeId) (fr : Nat × Nat) (d : TypeDesc) (hS : ∀ w, S w → w.heap[g]? = some (.cells cs t fr))
    (hu : P.underlying ty = some d) (hd : (match d with | .struct _ | .array _ _ => true | _ => false) = true) (hi : (P.info? ty).map (·.size) = some cs.size) : YieldsIf P ops S op (.agg cs) a :=
  .inl ⟨hw, fun w hw' => by
    unfold execOp
    simp only [ho, hx, Instr.loadAt, Instr.sureAddr, Sem.run_bind, Sem.run_pure, Result.andThen_ok, run_loadVar_row w g t ty cs fr d (hS w hw') hu hd hi]⟩
theorem fine (t : ByteArray) (xp xd : Trf) (hp : xp = rdT t (hrP t)) (hd : xd = rdT t (hrD t)) (h : (Txt.fin t (sT t 13)).bad = false) : xd = xp := by
  obtain ⟨_, h2⟩ := fin_good h
  rw [hp, hd, rd_good h2]
theorem ref_any (t : ByteArray) (xp xd y : Trf) (hp : xp = rdT t (hrP t)) (hd : xd = rdT t (hrD t)) (hy : y = rtV t xp) (w : World) (hm : t.size ≤ maxLen) :
    Calls Tryz.prog 12 #[.string t] w fun e w' => e = .returned (.tuple #[.agg #[.int .i64 y.z.off, .int .i64 y.z.f.m, .int .i64 y.z.f.w, .int .i64 y.z.f.d, .int .i64 y.z.f.h, .int .i64 y.z.t.m, .int .i64 y.z.t.w, .int .i64 y.z.t.d, .int .i64 y.z.t.h, .int .i64 y.days, .int .i64 y.gap, .int .i64 y.first, .int .i64 y.last, .string y.h0, .string y.h1, .string y.h2, .string y.h3, .int .i64 y.b0.x, .int .i64 y.b0.y, .int .i64 y.b0.z, .int .i64 y.b1.x, .int .i64 y.b1.y, .int .i64 y.b1.z, .int .i64 y.b2.x, .int .i64 y.b2.y, .int .i64 y.b2.z, .int .i64 y.d.x, .int .i64 y.d.y, .int .i64 y.d.z, .int .i64 y.np, .int .i64 y.nn, .int .i64 y.fix, .int .i64 y.min, .int .i64 y.tax], .int .i64 (rtE t xp), .int .i64 (rtA t xp)]) ∧ Below w.heap.size w w' := by
  by_cases h8 : 8000 < t.size
  · have e1 : rtE t xp = 1 := by unfold rtE; rw [if_pos h8]
    have e2 : rtA t xp = 0 := by unfold rtA; rw [if_pos h8]
    have e3 : y = trf0 := by rw [hy]; unfold rtV; rw [e1, if_neg (by omega)]
    rw [e1, e2, e3]
    exact refReadTariff_long t w h8 hm
  · refine refReadTariff_run t xd hd w (by omega) _ _ y (fun hb => ?_) (fun hb hn => ?_) (fun hb hn => ?_)
    · have e1 : rtE t xp = 2 := by unfold rtE; rw [if_neg h8, hb, if_pos rfl]
      exact ⟨e1, by unfold rtA; rw [if_neg h8, hb, if_pos rfl], by rw [hy]; unfold rtV; rw [e1, if_neg (by omega)]⟩
    · have ex := fine t xp xd hp hd hb
      rw [ex] at hn ⊢
      have e1 : rtE t xp = 5 := by unfold rtE; rw [if_neg h8, hb, if_neg (by simp), if_pos hn]
      refine ⟨e1, ?_, by rw [hy]; unfold rtV; rw [e1, if_neg (by omega)]⟩
      unfold rtA; rw [if_neg h8, hb, if_neg (by simp), if_pos hn, lineAt_ok (fin_good hb).2 (by omega)]
    · have ex := fine t xp xd hp hd hb
      rw [ex] at hn ⊢
      have e1 : rtE t xp = 0 := by unfold rtE; rw [if_neg h8, hb, if_neg (by simp), if_neg hn]
      exact ⟨e1, by unfold rtA; rw [if_neg h8, hb, if_neg (by simp), if_neg hn], by rw [hy]; unfold rtV; rw [if_pos e1]⟩
theorem y_sizes (t : ByteArray) (xp y : Trf) (hp : xp = rdT t (hrP t)) (hy : y = rtV t xp) : y.h0.size ≤ maxLen ∧ y.h1.size ≤ maxLen ∧ y.h2.size ≤ maxLen ∧ y.h3.size ≤ maxLen := by
  rw [hy]; unfold rtV
  split
  · rw [hp]
    refine ⟨?_, ?_, ?_, ?_⟩
    · show (hrP t 3).size ≤ _; rw [hrP_size]; unfold maxLen; omega
    · show (hrP t 4).size ≤ _; rw [hrP_size]; unfold maxLen; omega
    · show (hrP t 5).size ≤ _; rw [hrP_size]; unfold maxLen; omega
    · show (hrP t 6).size ≤ _; rw [hrP_size]; unfold maxLen; omega
  · refine ⟨?_, ?_, ?_, ?_⟩ <;> (show ByteArray.empty.size ≤ _; unfold maxLen; decide)

end Go.Proofs.YtjaffmmocbplaabGreatDoor.tariffs
