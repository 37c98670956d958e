/-
  Fills: the law's walk and its row.
-/
import Derived.Test.YtjaffmmocbplaaaRows
import Derived.Test.YtjaffmmocbplaaaFilT
import Derived.Test.YtjaffmmocbplaaaRowZ
import Derived.Test.YtjaffmmocbplaaaFormM
import Derived.ProofKit
import Derived.OpenShut
namespace Go.Proofs.Ytjaffmmocbplaaa.fills
open Go.ChangeShapes Go.WideShapes Go.ChangeAt Go.RowKit
set_option linter.unusedVariables false
attribute [local go_sem ↓] Go.wp_at_zero Go.wp_at_succ

theorem own : ownKnob Try.prog.godebug = none := by kernel_rfl
theorem laidOut : laidOutB Try.prog = true := by kernel_rfl
theorem some_set {w : World} {g j o : Nat} {u : Value} (h : ∃ x, w.cell? ⟨g, j, none⟩ = some x) : ∃ x, (w.setCell ⟨g, o, none⟩ u).cell? ⟨g, j, none⟩ = some x := by
  obtain ⟨x, hx⟩ := h
  by_cases e : o = j
  · subst e; exact ⟨u, World.cell?_setCell_same' w ⟨g, o, none⟩ u (by rw [hx]; rfl)⟩
  · exact ⟨x, (World.cell?_setCell_other (w := w) (a := ⟨g, o, none⟩) (v := u) (b := ⟨g, j, none⟩) (by simp)).trans hx⟩

set_option maxRecDepth 1000000 in
set_option maxHeartbeats 2000000 in
theorem walk (step start gap : Int) (v : Value) (l : List Txt.Val) (w : World) (h : VRow w v l) (hreach : l.length * 24 ≤ 140737488351232) :
    Calls Try.prog 9 #[.agg #[.int .i64 step, .int .i64 start, v], .int .i64 gap] w fun e w' => e = .returned (.bool true) ∧ Below w.heap.size w w' := by
  obtain ⟨_, hLn⟩ := fL_len step start gap l
  have fl1 := fun w1 (hb : Below w.heap.size w w1) => Fill_any step start gap v l w1 (h.below hb)
  have rds := fun w1 (hb : Below w.heap.size w w1) => reads_any step start v l w1 (h.below hb) hreach
  have rfi := fun w1 v' (V : VRow w1 v' l) => refFill_any step start gap v' l w1 V
  obtain ⟨L, hL⟩ : ∃ L, L = fL step start gap l := ⟨_, rfl⟩
  obtain ⟨E, hE⟩ : ∃ E, E = fE step start gap l := ⟨_, rfl⟩
  obtain ⟨A, hA⟩ : ∃ A, A = fA step start gap l := ⟨_, rfl⟩
  rw [← hL, ← hE, ← hA] at fl1 rfi
  rw [← hL] at hLn
  clear hL hE hA
  have vls := fun w1 v1 (V : VRow w1 v1 L) => values_any v1 L w1 V (by omega)
  have svs := fun w1 v1 v2 (V1 : VRow w1 v1 L) (V2 : VRow w1 v2 L) => sameValues_any v1 v2 L w1 V1 V2 (by omega)
  obtain ⟨a, cap, rfl⟩ := h.form
  clear h
  go_enter Try.func9, Try.ntmps9
  go_wp2_with (first
    | (go_at_call 28; have _ := hb1; refine (fl1 _ (below_then (below_more (Below.refl _ _) _) hb1)).mono ?_; rintro e w2 ⟨v2, rfl, own2, hb2⟩; obtain ⟨a2, cap2, rfl⟩ := own_slice own2)
    | (go_at_call 28; refine (fl1 _ (below_more (Below.refl _ _) _)).mono ?_; rintro e w1 ⟨v1, rfl, own1, hb1⟩; obtain ⟨a1, cap1, rfl⟩ := own_slice own1; obtain ⟨hc1, hf1⟩ := bcell hb1))
  have m0 : w1.cell? ⟨w.heap.size, 0, none⟩ = some (.int .i64 step) := by simp [go_sem, hc1]
  have m1 : w1.cell? ⟨w.heap.size, 1, none⟩ = some (.int .i64 start) := by simp [go_sem, hc1]
  have m2 : w1.cell? ⟨w.heap.size, 2, none⟩ = some (.slice a l.length cap) := by simp [go_sem, hc1]
  have hz1 : w.heap.size < w1.heap.size := by have := hb1.size; simp at this; omega
  have BW := below_then (below_more (Below.refl w.heap.size w) (.cells #[.int .i64 step, .int .i64 start, .slice a l.length cap] 50)) hb1
  clear hc1 hf1 hb1 fl1
  have U1 := VRow.of_own own1 rfl
  go_loopw [11] (fun p wr => ∃ k : Nat, p = .int .i64 k ∧ k ≤ L.length ∧ Below w1.heap.size w1 wr ∧ (0 < L.length → ∃ g, a2 = some ⟨g, 0, none⟩ ∧ L.length ≤ cap2 ∧ w1.heap.size ≤ g ∧ ∀ j, j < L.length * 3 → (∃ u, wr.cell? ⟨g, j, none⟩ = some u) ∧ wr.frozen? ⟨g, j, none⟩ = false)) (fun p _ => L.length - (intOf p).toNat)
  case atStart =>
    refine ⟨0, rfl, by omega, hb2, fun hp => ?_⟩
    obtain ⟨g, cap', e, hgb, hglt⟩ := own2.form hp
    cases e
    have hcap : L.length ≤ cap2 := by
      rcases own2.2 with ⟨h1, _⟩ | ⟨g', cap', cur, hv, _, _, hc, _⟩
      · cases h1
      · cases hv; exact hc
    refine ⟨g, rfl, hcap, hgb, fun j hj => ⟨?_, own2.frozenAt j⟩⟩
    rw [own2.cellAt j hj]
    exact ⟨(vcs L)[j]'(by rw [vcs_length]; exact hj), List.getElem?_eq_getElem _⟩
  case round =>
    obtain ⟨k, rfl, hk, hbw, hz⟩ := hrel
    by_cases hlt : k < L.length
    · have hlt' : (k : Int) < (L.length : Int) := by omega
      have hk0 : (0 : Int) ≤ (k : Int) := by omega
      obtain ⟨g, rfl, hcap, hgb, hcs⟩ := hz (by omega)
      have hcap' : (L.length : Int) ≤ (cap2 : Int) := by omega
      obtain ⟨⟨u0, c0⟩, f0⟩ := hcs (k * 3) (by omega)
      obtain ⟨⟨u1, c1⟩, f1⟩ := hcs (k * 3 + 1) (by omega)
      obtain ⟨⟨u2, c2⟩, f2⟩ := hcs (k * 3 + 2) (by omega)
      have HCS : Hid (∀ j, j < L.length * 3 → (∃ u, wr.cell? ⟨g, j, none⟩ = some u) ∧ wr.frozen? ⟨g, j, none⟩ = false) := hcs
      clear hz hcs own2 hb2 own1 U1
      go_wp2_with fail
      go_roundw
      case rel =>
        refine ⟨k + 1, by go_num, by omega, ?_, fun _ => ⟨g, rfl, hcap, hgb, fun j hj => ⟨?_, ?_⟩⟩⟩
        · repeat (first | exact hbw | refine Below.setCell ?_ (by first | omega | (simp; done) | (simp; omega)) _)
        · repeat (first | exact (HCS.out j hj).1 | refine some_set ?_)
        · simp [(HCS.out j hj).2]
      case measure => simp [intOf]; omega
    · have hlt' : ¬ (k : Int) < (L.length : Int) := by omega
      have p0 : wr.cell? ⟨w.heap.size, 0, none⟩ = some (.int .i64 step) := vcell_below hbw hz1 m0
      have p1 : wr.cell? ⟨w.heap.size, 1, none⟩ = some (.int .i64 start) := vcell_below hbw hz1 m1
      have p2 : wr.cell? ⟨w.heap.size, 2, none⟩ = some (.slice a l.length cap) := vcell_below hbw hz1 m2
      have BR := below_then BW hbw
      clear hz own2 hb2 m0 m1 m2
      go_wp2_with (first
        | (go_at_call 23; refine (rds _ BR).mono ?_; rintro e w3 ⟨v3, rfl, V3, hb3⟩; obtain ⟨a3, cap3, rfl⟩ := V3.form)
        | (go_at_call 29; refine (rfi _ _ V3).mono ?_; rintro e w4 ⟨v4, rfl, own4, hb4⟩; obtain ⟨a4, cap4, rfl⟩ := own_slice own4)
        | (go_at_call 31; refine (vls _ _ (U1.below (below_then (below_then hbw hb3) hb4))).mono ?_; rintro e w5 ⟨v5, rfl, own5, hb5⟩; obtain ⟨a5, cap5, rfl⟩ := own_slice own5)
        | (go_at_call 30; refine (svs _ _ _ (VRow.of_own own5 rfl) ((VRow.of_own own4 rfl).below hb5)).mono ?_; rintro e w6 ⟨rfl, n6, rfl⟩)
        | (go_at_call 15; refine (num_any _ _).mono ?_; rintro e w7 ⟨rfl, rfl⟩))
      go_ret
      exact ⟨rfl, below_drewN (below_then (below_then (below_then BR hb3) hb4) hb5) _⟩

/-! ### THE ROW's STEP -/
set_option maxRecDepth 100000 in
theorem lifted (os : Os) (started : os.Started) (H : Type) (enc : TypeId × Value → H) :
    ReturnsInHanded {} Try.checked os 9 .any (Rows.fillsSpec.pre6 enc Try.prog Try.f9 Rows.fillsRow.domain false) (Rows.fillsSpec.post enc Try.prog Try.f9 false true false false) := by
  refine returnsInHanded_of_change_sized (C := Try.checked) own started (by kernel_rfl) Try.func9
    (ChangeSpec.witness6 (enc := enc) (C := Try.checked) false ⟨#[], #[.agg #[.int .i64 0, .int .i64 0, .slice none 0 0], .int .i64 0], []⟩ 8 (by kernel_rfl) (by kernel_rfl) (by kernel_rfl) (by kernel_rfl)) ?_
  intro W base args ds gs before hval0 hW hcnd hsz0 _
  have hsz : (DataW.weightsEach Try.prog (Try.f9.params.toList ++ Rows.fillsSpec.plain.varTypes Try.prog) (ds ++ gs)).all (· ≤ reachBytes) = true := hsz0
  have hval : ∀ (j : Nat) t v, Try.f9.params[j]? = some t → args[j]? = some v → Value.okWide Try.prog W .any base t v := hval0
  have hW' := hW
  obtain ⟨p, q, hA0, hV, rfl, hfz, hnd⟩ := hW
  have hA : DataW.TrodAll enc Try.prog W 0 (fun _ => true) true Try.f9.params.toList args.toList ds p := hA0
  rw [Try.params9] at hA hval hsz
  obtain ⟨v0, vs0, d0, ds0, p0, q0, hargs, rfl, rfl, h0, r0⟩ := trodAll_cons hA
  obtain ⟨v1, vs1, d1, ds1, p1, q1, rfl, rfl, rfl, h1, r1⟩ := trodAll_cons r0
  obtain ⟨rfl, rfl, rfl⟩ := trodAll_nil r1
  obtain rfl : args = #[v0, v1] := by cases args; simp_all
  obtain ⟨rfl, rfl⟩ := trodVars_none hV
  have k0 := h0
  have lt0 : ∀ x ∈ p0, x.block < W.heap.size := by obtain ⟨m, hm⟩ := k0; exact DataW.trod_lt m _ _ _ hm
  obtain ⟨step, start, u, l, e0, e1, e2, rfl, hu, rfl, hle⟩ := open_meter (hval 0 50 v0 rfl rfl) h0
  obtain ⟨a1, rfl, rfl, rfl, w1⟩ := open_int Try.underlying3 (hval 1 3 v1 rfl rfl) h1
  have hreach := reach_meter hsz
  clear hA0 hval0
  refine (walk step start a1 u l W hu (by omega)).mono fun e W' ⟨he, bel⟩ => ?_
  subst he
  exact ⟨_, rfl, _, _, _, [], _, [], hW', trodAll_mk1 (shut_bool Try.underlying4 _), (trodAll_cons_mk (Below.trod laidOut (by kernel_rfl) (of_decide_eq_true (by kernel_rfl)) k0 bel lt0) (trodAll_cons_mk (shut_int Try.underlying3 w1) trodAll_mk0)), rfl, bel.frame _, fun h => by cases h⟩

theorem over : Rows.fillsRow.holds Try.pinned (OpenSpec.ofChange Rows.fillsSpec) :=
  OpenClaim.holds_of_wide 9 Try.f9 rfl rfl rfl rfl rfl rfl rfl ⟨rfl, rfl, rfl, rfl, rfl⟩ rfl rfl rfl rfl rfl (by kernel_rfl) Try.func9 (by kernel_rfl)
    (of_decide_eq_true (by kernel_rfl)) (by unfold Func.isWrapper; first | (rw [if_pos (by decide +kernel)]; kernel_rfl) | (rw [if_neg (by decide +kernel)]; exact ⟨rfl, rfl⟩))
    (fun os started H enc _ => lifted os started H enc)

theorem proved : Rows.FillsSaid := over
#print axioms proved
end Go.Proofs.Ytjaffmmocbplaaa.fills
namespace Go.Proofs.Ytjaffmmocbplaaa
theorem fills_holds : Rows.FillsSaid := fills.proved
end Go.Proofs.Ytjaffmmocbplaaa
