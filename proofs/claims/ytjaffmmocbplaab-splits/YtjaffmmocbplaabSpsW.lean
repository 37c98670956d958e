/-
  Splits: the law's walk (made by tools/gensps.py).
-/
import Derived.Test.YtjaffmmocbplaabRspY
import Derived.Test.YtjaffmmocbplaabTarC
import Derived.Test.YtjaffmmocbplaabRowZ
import Derived.Test.YtjaffmmocbplaabFormM
import Derived.Test.YtjaffmmocbplaabFormT
namespace Go.Proofs.Ytjaffmmocbplaab.splits
open Go.RowKit
set_option linter.unusedVariables false
attribute [local go_sem ↓] Go.wp_at_zero Go.wp_at_succ

theorem spL_len (t : Trf) (step start : Int) (l : List Txt.Val) : (spL t step start l).length ≤ 36556 := by
  by_cases hz : spE t step start l = 0
  · obtain ⟨hm, hb13, hfe, hokc, hsl⟩ := sp_ok hz
    obtain ⟨hst, hsa⟩ := meterB_step hm
    obtain ⟨len1, len2, hall⟩ := meterB_fit hm
    have hLn := (fL_len step start t.gap l).2
    have hLv : (fL step start t.gap l).all valB = true := by
      unfold fL; split
      · split
        · rename_i hr; exact fl_valB hall hr
        · rfl
      · rfl
    rw [hsl]; exact (perL_all hb13 hst hLv hLn hokc).2
  · rw [sp_no hz]; simp
theorem refSplit_any (t : Trf) (step start : Int) (v : Value) (l : List Txt.Val) (w : World) (h : VRow w v l) (s0 : t.h0.size ≤ maxLen) (s1 : t.h1.size ≤ maxLen) (s2 : t.h2.size ≤ maxLen) (s3 : t.h3.size ≤ maxLen) :
    Calls Try.prog 12 #[.agg #[.int .i64 step, .int .i64 start, v], .agg #[.int .i64 t.z.off, .int .i64 t.z.f.m, .int .i64 t.z.f.w, .int .i64 t.z.f.d, .int .i64 t.z.f.h, .int .i64 t.z.t.m, .int .i64 t.z.t.w, .int .i64 t.z.t.d, .int .i64 t.z.t.h, .int .i64 t.days, .int .i64 t.gap, .int .i64 t.first, .int .i64 t.last, .string t.h0, .string t.h1, .string t.h2, .string t.h3, .int .i64 t.b0.x, .int .i64 t.b0.y, .int .i64 t.b0.z, .int .i64 t.b1.x, .int .i64 t.b1.y, .int .i64 t.b1.z, .int .i64 t.b2.x, .int .i64 t.b2.y, .int .i64 t.b2.z, .int .i64 t.d.x, .int .i64 t.d.y, .int .i64 t.d.z, .int .i64 t.np, .int .i64 t.nn, .int .i64 t.fix, .int .i64 t.min, .int .i64 t.tax]] w fun e w' => ∃ v', e = .returned (.tuple #[v', .int .i64 (spE t step start l), .int .i64 (spA t step start l)]) ∧
      w'.ownsRow w.heap.size 93 5 v' (spL t step start l).length (pcs (spL t step start l)) ∧ Below w.heap.size w w' := by
  by_cases hno : meterB step start l = false ∨ badN t < 13 ∨ ¬ fE step start t.gap l = 0
  · refine (refSplit_no t step start v l w h s0 s1 s2 s3 hno).mono ?_
    rintro e w' ⟨rfl, hb⟩
    have e0 : spL t step start l = [] := by
      unfold spL
      cases hm : meterB step start l
      · rfl
      · by_cases hb' : badN t < 13
        · simp [hb']
        · by_cases hf : fE step start t.gap l = 0
          · rcases hno with h' | h' | h'
            · rw [hm] at h'; cases h'
            · exact absurd h' hb'
            · exact absurd hf h'
          · simp [hb', hf]
    exact ⟨_, rfl, by rw [e0]; exact World.ownsRow_nil _ _ _ _, hb⟩
  · have hm : meterB step start l = true := by
      cases q : meterB step start l
      · exact absurd (.inl q) hno
      · rfl
    have hb : ¬ badN t < 13 := fun q => hno (.inr (.inl q))
    have hf : fE step start t.gap l = 0 := by
      by_cases q : fE step start t.gap l = 0
      · exact q
      · exact absurd (.inr (.inr q)) hno
    have e1 : spE t step start l = ppE t step start (fL step start t.gap l) := by unfold spE; rw [hm, if_pos rfl, if_neg hb, if_pos hf]
    have e2 : spA t step start l = ppA t step start (fL step start t.gap l) := by unfold spA; rw [hm, if_pos rfl, if_neg hb, if_pos hf]
    have e3 : spL t step start l = ppL t step start (fL step start t.gap l) := by unfold spL; rw [hm, if_pos rfl, if_neg hb, if_pos hf]
    rw [e1, e2, e3]
    exact refSplit_run t step start v l w h s0 s1 s2 s3 hm (by have := badN_le t; omega) hf
theorem yields_row {P : Program} {ops : Array Oper} {S : World → Prop} {op : Oper} {a : Act} (hw : Region.wanted op (yielded ops a.tmps) = true) (ty : TypeId) (x : Operand) (ho : op.op = .load ty x)
    (g : Nat) (hx : a.eval x = .pointer (some ⟨g, 0, none⟩)) (cs : Array Value) (t : TypeId) (fr : Nat × Nat) (d : TypeDesc) (hS : ∀ w, S w → w.heap[g]? = some (.cells cs t fr))
    (hu : P.underlying ty = some d) (hd : (match d with | .struct _ | .array _ _ => true | _ => false) = true) (hi : (P.info? ty).map (·.size) = some cs.size) : YieldsIf P ops S op (.agg cs) a :=
  .inl ⟨hw, fun w hw' => by
    unfold execOp
    simp only [ho, hx, Instr.loadAt, Instr.sureAddr, Sem.run_bind, Sem.run_pure, Result.andThen_ok, run_loadVar_row w g t ty cs fr d (hS w hw') hu hd hi]⟩

set_option maxRecDepth 1000000 in
set_option maxHeartbeats 2000000 in
theorem walk (t : Trf) (step start : Int) (v : Value) (l : List Txt.Val) (w : World) (h : VRow w v l) (hreach : l.length * 24 ≤ 140737488351232) (s0 : t.h0.size ≤ maxLen) (s1 : t.h1.size ≤ maxLen) (s2 : t.h2.size ≤ maxLen) (s3 : t.h3.size ≤ maxLen) :
    Calls Try.prog 3 #[.agg #[.int .i64 step, .int .i64 start, v], .agg #[.int .i64 t.z.off, .int .i64 t.z.f.m, .int .i64 t.z.f.w, .int .i64 t.z.f.d, .int .i64 t.z.f.h, .int .i64 t.z.t.m, .int .i64 t.z.t.w, .int .i64 t.z.t.d, .int .i64 t.z.t.h, .int .i64 t.days, .int .i64 t.gap, .int .i64 t.first, .int .i64 t.last, .string t.h0, .string t.h1, .string t.h2, .string t.h3, .int .i64 t.b0.x, .int .i64 t.b0.y, .int .i64 t.b0.z, .int .i64 t.b1.x, .int .i64 t.b1.y, .int .i64 t.b1.z, .int .i64 t.b2.x, .int .i64 t.b2.y, .int .i64 t.b2.z, .int .i64 t.d.x, .int .i64 t.d.y, .int .i64 t.d.z, .int .i64 t.np, .int .i64 t.nn, .int .i64 t.fix, .int .i64 t.min, .int .i64 t.tax]] w fun e w' => e = .returned (.bool true) ∧ Below w.heap.size w w' := by
  have sp := fun w1 (hb : Below w.heap.size w w1) => Split_any t step start v l w1 (h.below hb) s0 s1 s2 s3
  have rds := fun w1 (hb : Below w.heap.size w w1) => reads_any step start v l w1 (h.below hb) hreach
  have rs := fun w1 v' (V : VRow w1 v' l) => refSplit_any t step start v' l w1 V s0 s1 s2 s3
  have hpl := spL_len t step start l
  obtain ⟨a, cap, rfl⟩ := h.form
  obtain ⟨ps, hps⟩ : ∃ ps, ps = spL t step start l := ⟨_, rfl⟩
  obtain ⟨E, hE⟩ : ∃ E, E = spE t step start l := ⟨_, rfl⟩
  obtain ⟨A, hA⟩ : ∃ A, A = spA t step start l := ⟨_, rfl⟩
  rw [← hps, ← hE, ← hA] at sp rs
  rw [← hps] at hpl
  have smp := fun w1 v1 v2 (V1 : PRow w1 v1 ps) (V2 : PRow w1 v2 ps) => samePeriods_any v1 v2 ps w1 V1 V2 (by omega)
  have B0 : Below w.heap.size w ((w.alloc (.cells #[.int .i64 step, .int .i64 start, .slice a l.length cap] 24)).alloc (.cells #[.int .i64 t.z.off, .int .i64 t.z.f.m, .int .i64 t.z.f.w, .int .i64 t.z.f.d, .int .i64 t.z.f.h, .int .i64 t.z.t.m, .int .i64 t.z.t.w, .int .i64 t.z.t.d, .int .i64 t.z.t.h, .int .i64 t.days, .int .i64 t.gap, .int .i64 t.first, .int .i64 t.last, .string t.h0, .string t.h1, .string t.h2, .string t.h3, .int .i64 t.b0.x, .int .i64 t.b0.y, .int .i64 t.b0.z, .int .i64 t.b1.x, .int .i64 t.b1.y, .int .i64 t.b1.z, .int .i64 t.b2.x, .int .i64 t.b2.y, .int .i64 t.b2.z, .int .i64 t.d.x, .int .i64 t.d.y, .int .i64 t.d.z, .int .i64 t.np, .int .i64 t.nn, .int .i64 t.fix, .int .i64 t.min, .int .i64 t.tax] 38)) := below_more (below_more (Below.refl _ _) _) _
  have MT : ((w.alloc (.cells #[.int .i64 step, .int .i64 start, .slice a l.length cap] 24)).alloc (.cells #[.int .i64 t.z.off, .int .i64 t.z.f.m, .int .i64 t.z.f.w, .int .i64 t.z.f.d, .int .i64 t.z.f.h, .int .i64 t.z.t.m, .int .i64 t.z.t.w, .int .i64 t.z.t.d, .int .i64 t.z.t.h, .int .i64 t.days, .int .i64 t.gap, .int .i64 t.first, .int .i64 t.last, .string t.h0, .string t.h1, .string t.h2, .string t.h3, .int .i64 t.b0.x, .int .i64 t.b0.y, .int .i64 t.b0.z, .int .i64 t.b1.x, .int .i64 t.b1.y, .int .i64 t.b1.z, .int .i64 t.b2.x, .int .i64 t.b2.y, .int .i64 t.b2.z, .int .i64 t.d.x, .int .i64 t.d.y, .int .i64 t.d.z, .int .i64 t.np, .int .i64 t.nn, .int .i64 t.fix, .int .i64 t.min, .int .i64 t.tax] 38)).heap[w.heap.size + 1]? = some (.cells #[.int .i64 t.z.off, .int .i64 t.z.f.m, .int .i64 t.z.f.w, .int .i64 t.z.f.d, .int .i64 t.z.f.h, .int .i64 t.z.t.m, .int .i64 t.z.t.w, .int .i64 t.z.t.d, .int .i64 t.z.t.h, .int .i64 t.days, .int .i64 t.gap, .int .i64 t.first, .int .i64 t.last, .string t.h0, .string t.h1, .string t.h2, .string t.h3, .int .i64 t.b0.x, .int .i64 t.b0.y, .int .i64 t.b0.z, .int .i64 t.b1.x, .int .i64 t.b1.y, .int .i64 t.b1.z, .int .i64 t.b2.x, .int .i64 t.b2.y, .int .i64 t.b2.z, .int .i64 t.d.x, .int .i64 t.d.y, .int .i64 t.d.z, .int .i64 t.np, .int .i64 t.nn, .int .i64 t.fix, .int .i64 t.min, .int .i64 t.tax] 38) := heap_alloc2_new _ _ _
  have MM : ((w.alloc (.cells #[.int .i64 step, .int .i64 start, .slice a l.length cap] 24)).alloc (.cells #[.int .i64 t.z.off, .int .i64 t.z.f.m, .int .i64 t.z.f.w, .int .i64 t.z.f.d, .int .i64 t.z.f.h, .int .i64 t.z.t.m, .int .i64 t.z.t.w, .int .i64 t.z.t.d, .int .i64 t.z.t.h, .int .i64 t.days, .int .i64 t.gap, .int .i64 t.first, .int .i64 t.last, .string t.h0, .string t.h1, .string t.h2, .string t.h3, .int .i64 t.b0.x, .int .i64 t.b0.y, .int .i64 t.b0.z, .int .i64 t.b1.x, .int .i64 t.b1.y, .int .i64 t.b1.z, .int .i64 t.b2.x, .int .i64 t.b2.y, .int .i64 t.b2.z, .int .i64 t.d.x, .int .i64 t.d.y, .int .i64 t.d.z, .int .i64 t.np, .int .i64 t.nn, .int .i64 t.fix, .int .i64 t.min, .int .i64 t.tax] 38)).heap[w.heap.size]? = some (.cells #[.int .i64 step, .int .i64 start, .slice a l.length cap] 24) := (heap_alloc_old _ _ (by simp)).trans (heap_alloc_new _ _)
  clear hps hE hA h
  go_enter Try.func3, Try.ntmps3
  go_wp2_with (first
    | (refine wpList_load_row rfl 38 _ rfl (w.heap.size + 1) rfl 38 _ (0, 0) _ mt1 Try.underlying38 rfl (by kernel_rfl) ?_)
    | (refine wpList_load_row rfl 38 _ rfl (w.heap.size + 1) rfl 38 _ (0, 0) _ MT Try.underlying38 rfl (by kernel_rfl) ?_)
    | (go_at_call 11; have _ := hb1; refine (sp _ (below_then B0 hb1)).mono ?_; rintro e w2 ⟨v2, rfl, own2, hb2⟩; obtain ⟨a2, cap2, rfl⟩ := own_slice own2)
    | (go_at_call 11; refine (sp _ B0).mono ?_; rintro e w1 ⟨v1, rfl, own1, hb1⟩; obtain ⟨a1, cap1, rfl⟩ := own_slice own1; obtain ⟨hc1, hf1⟩ := bcell hb1; have hs1 : w.heap.size + 1 < w1.heap.size := (by have := hb1.size; simp at this; omega); have hs1' : w.heap.size < w1.heap.size := (by omega); have mt1 := (hb1.block (w.heap.size + 1) (by simp)).trans MT))
  have U1 := hideF (PRow.of_own own1 rfl)
  have BW := below_then B0 hb1
  have hMT := hideF mt1
  have hMM := hideF ((hb1.block w.heap.size (by simp; omega)).trans MM)
  clear hc1 hf1 hb1 own1 mt1 MT MM B0 sp
  go_loopw [11] (fun p wr => ∃ (k : Nat) (Z : List Per), p = .int .i64 k ∧ k ≤ ps.length ∧ Below w1.heap.size w1 wr ∧ Z.length = ps.length ∧ wr.ownsRow w1.heap.size 45 5 (.slice a2 ps.length cap2) ps.length (pcs Z)) (fun p _ => ps.length - (intOf p).toNat)
  case atStart => exact ⟨0, ps, rfl, by omega, hb2, rfl, own2⟩
  case round =>
    clear own2 hb2
    obtain ⟨k, Z, rfl, hk, hbw, hZ, hown⟩ := hrel
    have HZ := hideF hZ
    clear hZ
    by_cases hlt : k < ps.length
    · have hlt' : (k : Int) < (ps.length : Int) := by omega
      have hk0 : (0 : Int) ≤ (k : Int) := by omega
      obtain ⟨g, cap', eg, hgb, hglt⟩ := hown.form (by omega)
      cases eg
      have hcapP : (ps.length : Int) ≤ (cap2 : Int) := by
        rcases hown.2 with ⟨h1, _⟩ | ⟨g', cap', cur, hv, _, _, hc, _⟩
        · cases h1
        · cases hv; omega
      have hkz : k < Z.length := by rw [HZ.out]; exact hlt
      obtain ⟨x, hx⟩ : ∃ x, Z[k]? = some x := ⟨Z[k], List.getElem?_eq_getElem hkz⟩
      obtain ⟨c0', c1', c2', c3', c4'⟩ := pcs_get Z k x hx
      have c0 : wr.cell? ⟨g, k * 5, none⟩ = some (.int .i64 x.i0) := by rw [hown.cellAt _ (by omega)]; exact c0'
      have c1 : wr.cell? ⟨g, k * 5 + 1, none⟩ = some (.int .i64 x.i1) := by rw [hown.cellAt _ (by omega)]; exact c1'
      have c2 : wr.cell? ⟨g, k * 5 + 2, none⟩ = some (.int .i64 x.i2) := by rw [hown.cellAt _ (by omega)]; exact c2'
      have c3 : wr.cell? ⟨g, k * 5 + 3, none⟩ = some (.int .i64 x.o) := by rw [hown.cellAt _ (by omega)]; exact c3'
      have c4 : wr.cell? ⟨g, k * 5 + 4, none⟩ = some (.int .i64 x.pk) := by rw [hown.cellAt _ (by omega)]; exact c4'
      have g0 := hown.frozenAt (k * 5)
      have g1 := hown.frozenAt (k * 5 + 1)
      have g2 := hown.frozenAt (k * 5 + 2)
      have g3 := hown.frozenAt (k * 5 + 3)
      have g4 := hown.frozenAt (k * 5 + 4)
      clear c0' c1' c2' c3' c4' hx
      go_wp2_with fail
      go_roundw
      case rel => exact ⟨k + 1, Z.set k per0, by go_num, by omega, Below.setCell (Below.setCell (Below.setCell (Below.setCell (Below.setCell hbw hgb _) hgb _) hgb _) hgb _) hgb _, by rw [List.length_set]; exact HZ.out, own_putP hown hkz per0⟩
      case measure => simp [intOf]; omega
    · have hlt' : ¬ (k : Int) < (ps.length : Int) := by omega
      have hszw := hbw.size
      have HMr := hideF ((hbw.block w.heap.size (by omega)).trans hMM.out)
      have HTr := hideF ((hbw.block (w.heap.size + 1) (by omega)).trans hMT.out)
      have BR := below_then BW hbw
      clear hown
      go_wp2_with fail
      refine wp_region_held_drew (S := fun w' => w'.heap[w.heap.size]? = some (.cells #[.int .i64 step, .int .i64 start, .slice a l.length cap] 24 (0, 0)) ∧ w'.heap[w.heap.size + 1]? = some (.cells #[.int .i64 t.z.off, .int .i64 t.z.f.m, .int .i64 t.z.f.w, .int .i64 t.z.f.d, .int .i64 t.z.f.h, .int .i64 t.z.t.m, .int .i64 t.z.t.w, .int .i64 t.z.t.d, .int .i64 t.z.t.h, .int .i64 t.days, .int .i64 t.gap, .int .i64 t.first, .int .i64 t.last, .string t.h0, .string t.h1, .string t.h2, .string t.h3, .int .i64 t.b0.x, .int .i64 t.b0.y, .int .i64 t.b0.z, .int .i64 t.b1.x, .int .i64 t.b1.y, .int .i64 t.b1.z, .int .i64 t.b2.x, .int .i64 t.b2.y, .int .i64 t.b2.z, .int .i64 t.d.x, .int .i64 t.d.y, .int .i64 t.d.z, .int .i64 t.np, .int .i64 t.nn, .int .i64 t.fix, .int .i64 t.min, .int .i64 t.tax] 38 (0, 0))) (by kernel_rfl) ?_ (fun hH0 => ?_)
      · exact ⟨HMr.out, HTr.out⟩
      refine wpAnyH_take (i := 0) (oi := { dst := some 40, op := Op.load 24 (Operand.tmp 2), type := 24, pos := "law.go:67", after := #[], guard := none }) (v := .agg #[.int .i64 step, .int .i64 start, .slice a l.length cap]) rfl (by kernel_rfl) (by kernel_rfl) (by kernel_rfl) (fun _ _ _ h => h) (yields_row (by rfl) 24 _ rfl w.heap.size rfl _ 24 (0, 0) _ (fun w9 hSw => hSw.1) Try.underlying24 rfl (by kernel_rfl)) (by assumption) ?_
      try simp only [Act.put, List.setIfInBounds_toArray, List.set_cons_zero, List.set_cons_succ]
      refine wpAnyH_take (i := 2) (oi := { dst := some 42, op := Op.load 38 (Operand.tmp 3), type := 38, pos := "law.go:67", after := #[], guard := none }) (v := .agg #[.int .i64 t.z.off, .int .i64 t.z.f.m, .int .i64 t.z.f.w, .int .i64 t.z.f.d, .int .i64 t.z.f.h, .int .i64 t.z.t.m, .int .i64 t.z.t.w, .int .i64 t.z.t.d, .int .i64 t.z.t.h, .int .i64 t.days, .int .i64 t.gap, .int .i64 t.first, .int .i64 t.last, .string t.h0, .string t.h1, .string t.h2, .string t.h3, .int .i64 t.b0.x, .int .i64 t.b0.y, .int .i64 t.b0.z, .int .i64 t.b1.x, .int .i64 t.b1.y, .int .i64 t.b1.z, .int .i64 t.b2.x, .int .i64 t.b2.y, .int .i64 t.b2.z, .int .i64 t.d.x, .int .i64 t.d.y, .int .i64 t.d.z, .int .i64 t.np, .int .i64 t.nn, .int .i64 t.fix, .int .i64 t.min, .int .i64 t.tax]) rfl (by kernel_rfl) (by kernel_rfl) (by kernel_rfl) (fun _ _ _ h => h) (yields_row (by rfl) 38 _ rfl (w.heap.size + 1) rfl _ 38 (0, 0) _ (fun w9 hSw => hSw.2) Try.underlying38 rfl (by kernel_rfl)) (by assumption) ?_
      try simp only [Act.put, List.setIfInBounds_toArray, List.set_cons_zero, List.set_cons_succ]
      refine wpAnyH_ready (rs := [1]) (by kernel_rfl) (by simp) ?_
      refine AllReadyH.cons (o := { dst := some 41, op := Op.call { callee := Callee.value (Operand.func 13), args := #[Operand.tmp 40], argTypes := #[24] }, type := 51, pos := "law.go:67", after := #[{ on := 0, ground := Ground.data }], guard := none }) rfl (fun K hK => ?_) AllReadyH.nil
      go_simp
      refine (rds _ (Below.drew BR)).mono ?_
      rintro e w5 ⟨v5, rfl, V5, hb5'⟩
      obtain ⟨a5, cap5, rfl⟩ := V5.form
      have hb5 : Below wr.heap.size wr w5 := below_then (Below.drew (Below.refl _ _)) hb5'
      clear hb5'
      go_wp2_with fail
      refine hK.out _ _ ⟨(hb5.block _ (by omega)).trans HMr.out, (hb5.block _ (by omega)).trans HTr.out⟩ (fun hH1 => ?_)
      clear hK K
      try simp only [Act.put, List.setIfInBounds_toArray, List.set_cons_zero, List.set_cons_succ]
      refine wpAnyH_ready (rs := [3]) (by kernel_rfl) (by simp) ?_
      refine AllReadyH.cons (o := { dst := some 43, op := Op.call { callee := Callee.value (Operand.func 14), args := #[Operand.tmp 42], argTypes := #[38] }, type := 61, pos := "law.go:67", after := #[{ on := 2, ground := Ground.data }, { on := 1, ground := Ground.chain }], guard := none }) rfl (fun K hK => ?_) AllReadyH.nil
      go_simp
      refine (tariff_any t _).mono ?_
      rintro e w6 ⟨rfl, hb6⟩
      go_wp2_with fail
      refine hK.out _ _ ⟨(hb6.block _ (by have := hb5.size; omega)).trans hH1.1, (hb6.block _ (by have := hb5.size; omega)).trans hH1.2⟩ (fun hH2 => ?_)
      clear hK K
      try simp only [Act.put, List.setIfInBounds_toArray, List.set_cons_zero, List.set_cons_succ]
      refine wpAnyH_ready (rs := [4]) (by kernel_rfl) (by simp) ?_
      refine AllReadyH.cons (o := { dst := some 44, op := Op.call { callee := Callee.value (Operand.func 12), args := #[Operand.tmp 41, Operand.tmp 43], argTypes := #[51, 61] }, type := 47, pos := "law.go:67", after := #[{ on := 1, ground := Ground.data }, { on := 3, ground := Ground.data }, { on := 3, ground := Ground.chain }], guard := none }) rfl (fun K hK => ?_) AllReadyH.nil
      go_simp
      refine (rs _ _ (V5.below hb6)).mono ?_
      rintro e w7 ⟨v7, rfl, own7, hb7⟩
      obtain ⟨a7, cap7, rfl⟩ := own_slice own7
      go_wp2_with fail
      refine hK.out _ _ ⟨(hb7.block _ (by have := hb5.size; have := hb6.size; omega)).trans hH2.1, (hb7.block _ (by have := hb5.size; have := hb6.size; omega)).trans hH2.2⟩ (fun hH3 => ?_)
      clear hK K
      try simp only [Act.put, List.setIfInBounds_toArray, List.set_cons_zero, List.set_cons_succ]
      refine wpAnyH_take (i := 5) (oi := { dst := some 39, op := Op.move (Operand.tmp 44), type := 47, pos := "law.go:67", after := #[{ on := 4, ground := Ground.data }], guard := none }) (v := .tuple #[.slice a7 ps.length cap7, .int .i64 E, .int .i64 A]) rfl (by kernel_rfl) (by kernel_rfl) (by kernel_rfl) (fun _ _ _ h => h) (Or.inl ⟨by rfl, ?_⟩) (by assumption) ?_
      · intro w9 hSw
        go_simp
      try simp only [Act.put, List.setIfInBounds_toArray, List.set_cons_zero, List.set_cons_succ]
      refine wpAnyH_take (i := 6) (oi := { dst := some 45, op := Op.extract (Operand.tmp 39) 0, type := 46, pos := "law.go:67", after := #[{ on := 5, ground := Ground.data }], guard := none }) (v := .slice a7 ps.length cap7) rfl (by kernel_rfl) (by kernel_rfl) (by kernel_rfl) (fun _ _ _ h => h) (Or.inl ⟨by rfl, ?_⟩) (by assumption) ?_
      · intro w9 hSw
        go_simp
      try simp only [Act.put, List.setIfInBounds_toArray, List.set_cons_zero, List.set_cons_succ]
      refine wpAnyH_take (i := 7) (oi := { dst := some 46, op := Op.extract (Operand.tmp 39) 1, type := 3, pos := "law.go:67", after := #[{ on := 5, ground := Ground.data }, { on := 9, ground := Ground.gcOnly Departure.lateStores }], guard := none }) (v := .int .i64 E) rfl (by kernel_rfl) (by kernel_rfl) (by kernel_rfl) (fun _ _ _ h => h) (Or.inl ⟨by rfl, ?_⟩) (by assumption) ?_
      · intro w9 hSw
        go_simp
      try simp only [Act.put, List.setIfInBounds_toArray, List.set_cons_zero, List.set_cons_succ]
      refine wpAnyH_take (i := 8) (oi := { dst := some 47, op := Op.extract (Operand.tmp 39) 2, type := 3, pos := "law.go:67", after := #[{ on := 5, ground := Ground.data }, { on := 10, ground := Ground.gcOnly Departure.lateStores }], guard := none }) (v := .int .i64 A) rfl (by kernel_rfl) (by kernel_rfl) (by kernel_rfl) (fun _ _ _ h => h) (Or.inl ⟨by rfl, ?_⟩) (by assumption) ?_
      · intro w9 hSw
        go_simp
      try simp only [Act.put, List.setIfInBounds_toArray, List.set_cons_zero, List.set_cons_succ]
      refine wpAnyH_take (i := 9) (oi := { dst := some 12, op := Op.assign (Operand.tmp 45), type := 46, pos := "law.go:67", after := #[{ on := 6, ground := Ground.data }, { on := 4, ground := Ground.chain }, { on := 0, ground := Ground.phase }, { on := 1, ground := Ground.phase }, { on := 2, ground := Ground.phase }, { on := 3, ground := Ground.phase }, { on := 4, ground := Ground.phase }, { on := 5, ground := Ground.phase }, { on := 6, ground := Ground.phase }, { on := 7, ground := Ground.textOnly Departure.lateStores }, { on := 8, ground := Ground.textOnly Departure.lateStores }], guard := none }) (v := .slice a7 ps.length cap7) rfl (by kernel_rfl) (by kernel_rfl) (by kernel_rfl) (fun _ _ _ h => h) (Or.inl ⟨by rfl, ?_⟩) (by assumption) ?_
      · intro w9 hSw
        go_simp
      try simp only [Act.put, List.setIfInBounds_toArray, List.set_cons_zero, List.set_cons_succ]
      refine wpAnyH_take (i := 10) (oi := { dst := some 13, op := Op.assign (Operand.tmp 46), type := 3, pos := "law.go:67", after := #[{ on := 7, ground := Ground.data }, { on := 9, ground := Ground.chain }, { on := 0, ground := Ground.phase }, { on := 1, ground := Ground.phase }, { on := 2, ground := Ground.phase }, { on := 3, ground := Ground.phase }, { on := 4, ground := Ground.phase }, { on := 5, ground := Ground.phase }, { on := 6, ground := Ground.phase }, { on := 7, ground := Ground.phase }, { on := 8, ground := Ground.textOnly Departure.lateStores }, { on := 9, ground := Ground.phase }], guard := none }) (v := .int .i64 E) rfl (by kernel_rfl) (by kernel_rfl) (by kernel_rfl) (fun _ _ _ h => h) (Or.inl ⟨by rfl, ?_⟩) (by assumption) ?_
      · intro w9 hSw
        go_simp
      try simp only [Act.put, List.setIfInBounds_toArray, List.set_cons_zero, List.set_cons_succ]
      refine wpAnyH_take (i := 11) (oi := { dst := some 14, op := Op.assign (Operand.tmp 47), type := 3, pos := "law.go:67", after := #[{ on := 8, ground := Ground.data }, { on := 10, ground := Ground.chain }, { on := 0, ground := Ground.phase }, { on := 1, ground := Ground.phase }, { on := 2, ground := Ground.phase }, { on := 3, ground := Ground.phase }, { on := 4, ground := Ground.phase }, { on := 5, ground := Ground.phase }, { on := 6, ground := Ground.phase }, { on := 7, ground := Ground.phase }, { on := 8, ground := Ground.phase }, { on := 9, ground := Ground.phase }, { on := 10, ground := Ground.phase }], guard := none }) (v := .int .i64 A) rfl (by kernel_rfl) (by kernel_rfl) (by kernel_rfl) (fun _ _ _ h => h) (Or.inl ⟨by rfl, ?_⟩) (by assumption) ?_
      · intro w9 hSw
        go_simp
      try simp only [Act.put, List.setIfInBounds_toArray, List.set_cons_zero, List.set_cons_succ]
      refine wpAnyH_done (by kernel_rfl) ?_ _
      go_wp2_with (first
        | (go_at_call 15; refine (smp _ _ _ (U1.out.below (below_then (below_then (below_then hbw hb5) hb6) hb7)) (PRow.of_own own7 rfl)).mono ?_; rintro e w8 ⟨rfl, hb8⟩)
        | (go_at_call 16; refine (num_any _ _).mono ?_; rintro e w9 ⟨rfl, h9⟩; have h10 := h9.symm; subst h10))
      go_ret
      exact ⟨ret_bool (by simp), below_then (below_then (below_then (below_then BR hb5) hb6) hb7) hb8⟩

end Go.Proofs.Ytjaffmmocbplaab.splits
