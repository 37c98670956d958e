/-
  Fill: the document's.
-/
import Derived.Test.YtjaffmmocbplaaaDoorFilS
import Derived.Test.YtjaffmmocbplaaaDoorFilX
namespace Go.Proofs.YtjaffmmocbplaaaDoor
open Go.RowKit
set_option linter.unusedVariables false
attribute [local go_sem ↓] Go.wp_at_zero Go.wp_at_succ

theorem val_m {x : Txt.Val} (h : x.m = false) : ([⟨x.i, x.o, false⟩] : List Txt.Val) = [x] := by
  obtain ⟨a, b, c⟩ := x
  simp only at h; subst h; rfl

set_option maxHeartbeats 1000000 in
theorem refFill_no (step start gap : Int) (v : Value) (l : List Txt.Val) (w : World) (h : VRow w v l) (hok : fOk step start gap l = false) :
    Calls Tryd.prog 23 #[.agg #[.int .i64 step, .int .i64 start, v], .int .i64 gap] w fun e w' => e = .returned (.tuple #[.slice none 0 0, .int .i64 3, .int .i64 0]) ∧ Below w.heap.size w w' := by
  have gm := fun w1 (hb : Below w.heap.size w w1) => GoodMeter_any step start v l w1 (h.below hb)
  obtain ⟨a, cap, rfl⟩ := h.form
  cases hm : meterB step start l
  case false =>
    rw [hm] at gm
    clear h hok
    go_enter Tryd.func23, Tryd.ntmps23
    go_wp2_with (go_at_call 13; refine (gm _ (below_more (Below.refl _ _) _)).mono ?_; rintro e w1 ⟨rfl, hb1⟩)
    exact bodyPost_ret (v := .tuple #[.slice none 0 0, .int .i64 3, .int .i64 0]) (by simp [results, Tryd.results23, go_sem]) rfl ⟨rfl, below_then (below_more (Below.refl _ _) _) hb1⟩
  case true =>
    have hg : inB gap 0 8 = false := by simpa [fOk, hm] using hok
    rw [hm] at gm
    have hg' : gap < 0 ∨ (¬ gap < 0 ∧ 8 < gap) := by simp [inB] at hg; omega
    clear h hok hg
    rcases hg' with hg | ⟨hg, hg2⟩
    all_goals
      go_enter Tryd.func23, Tryd.ntmps23
      go_wp2_with (go_at_call 13; refine (gm _ (below_more (Below.refl _ _) _)).mono ?_; rintro e w1 ⟨rfl, hb1⟩)
      exact bodyPost_ret (v := .tuple #[.slice none 0 0, .int .i64 3, .int .i64 0]) (by simp [results, Tryd.results23, go_sem]) rfl ⟨rfl, below_then (below_more (Below.refl _ _) _) hb1⟩

set_option maxRecDepth 1000000 in
set_option maxHeartbeats 2000000 in
theorem refFill_yes (step start gap : Int) (v : Value) (l : List Txt.Val) (w : World) (h : VRow w v l) (hok : fOk step start gap l = true) :
    Calls Tryd.prog 23 #[.agg #[.int .i64 step, .int .i64 start, v], .int .i64 gap] w fun e w' => ∃ v', e = .returned (.tuple #[v', .int .i64 (fE step start gap l), .int .i64 (fA step start gap l)]) ∧
      w'.ownsRow w.heap.size 99 3 v' (fL step start gap l).length (vcs (fL step start gap l)) ∧ Below w.heap.size w w' := by
  obtain ⟨i0, hi, hz0, hz1, hz2⟩ := info_parts infoRV
  obtain ⟨hm, hg⟩ := fOk_iff.mp hok
  obtain ⟨len1, len2, hall⟩ := meterB_fit hm
  obtain ⟨g1, g2⟩ := inB_iff.mp hg
  have gm := fun w1 (hb : Below w.heap.size w w1) => GoodMeter_any step start v l w1 (h.below hb)
  have rw_ := fun w1 (hb : Below w.heap.size w w1) => rows_any v l gap w1 (h.below hb) (by omega)
  have ng1 : ¬ gap < 0 := by omega
  have ng2 : ¬ 8 < gap := by omega
  rw [hm] at gm
  have rng := Fil.rows_rng l gap _ 0 (Nat.le_refl _)
  by_cases hr : Fil.rows l gap 0 = -1
  case neg =>
    obtain ⟨a, cap, rfl⟩ := h.form
    have HG := hideF (f_gap hok hr)
    have hr0 : 0 ≤ Fil.rows l gap 0 := by omega
    obtain ⟨R, hR⟩ : ∃ R, R = Fil.rows l gap 0 := ⟨_, rfl⟩
    rw [← hR] at rw_ hr0 HG
    clear hR hr rng h hm hg hok
    go_enter Tryd.func23, Tryd.ntmps23
    go_wp2_with (first
      | (go_at_call 13; refine (gm _ (below_more (Below.refl _ _) _)).mono ?_; rintro e w1 ⟨rfl, hb1⟩; obtain ⟨hc1, hf1⟩ := bcell hb1)
      | (go_at_call 54; refine (rw_ _ (below_then (below_more (Below.refl _ _) _) hb1)).mono ?_; rintro e w2 ⟨rfl, rfl⟩))
    exact bodyPost_ret (v := .tuple #[.slice none 0 0, .int .i64 6, .int .i64 R]) (by simp [results, Tryd.results23, go_sem]) rfl ⟨_, ret_fill rfl HG.out.1.symm HG.out.2.1.symm, by rw [HG.out.2.2]; exact World.ownsRow_nil _ _ _ _, below_then (below_more (Below.refl _ _) _) hb1⟩
  case pos =>
    have HG := hideF (f_yes hok hr)
    have h0 := Fil.rows_first hr
    have fd := fun w1 (k : Nat) (hk : k < l.length) (hb : Below w.heap.size w w1) => filled_any v l k w1 (h.below hb) hk h0 (Fil.rows_ok l gap _ 0 (Nat.le_refl _) hr k (by omega) hk) hall len2
    obtain ⟨a, cap, rfl⟩ := h.form
    rw [hr] at rw_
    clear hr rng h hm hg hok h0
    go_enter Tryd.func23, Tryd.ntmps23
    go_wp2_with (first
      | (go_at_call 13; refine (gm _ (below_more (Below.refl _ _) _)).mono ?_; rintro e w1 ⟨rfl, hb1⟩; obtain ⟨hc1, hf1⟩ := bcell hb1)
      | (go_at_call 54; refine (rw_ _ (below_then (below_more (Below.refl _ _) _) hb1)).mono ?_; rintro e w2 ⟨rfl, rfl⟩))
    go_loopw [9, 10] (fun f p wr => ∃ k : Nat, p = .int .i64 k ∧ k ≤ l.length ∧ wr.ownsRow (w.heap.size + 1) 99 3 f k (vcs (Fil.fl l k)) ∧ Below w.heap.size w wr ∧ w.heap.size < wr.heap.size ∧ wr.cell? ⟨w.heap.size, 2, none⟩ = some (.slice a l.length cap)) (fun _ p _ => l.length - (intOf p).toNat)
    case atStart => exact ⟨0, rfl, by omega, World.ownsRow_nil _ _ _ _, below_then (below_more (Below.refl _ _) _) hb1, by have := hb1.size; simp at this; omega, by simp [go_sem, hc1]⟩
    case round =>
      clear gm rw_
      obtain ⟨k, rfl, hk, hown, hbw, hsz, m2⟩ := hrel
      obtain ⟨a0, cap0, rfl⟩ := own_slice hown
      by_cases hlt : k < l.length
      · have hlt' : (k : Int) < (l.length : Int) := by omega
        have hoN : ∀ j, (Value.ownBlock (.slice a0 k cap0)) = some j → w.heap.size + 1 ≤ j := fun j hj => (hown.lt j hj).1
        have HF : Hid (Fil.fl l (k + 1) = Fil.fl l k ++ [⟨(Fil.fv l k).i, (Fil.fv l k).o, false⟩]) := by
          show _ = _
          rw [Fil.fl_succ]
          rw [val_m (Fil.fv_m hlt)]
        have fk := fd wr k hlt hbw
        obtain ⟨I, hI⟩ : ∃ I, I = (Fil.fv l k).i := ⟨_, rfl⟩
        obtain ⟨O, hO⟩ : ∃ O, O = (Fil.fv l k).o := ⟨_, rfl⟩
        rw [← hI, ← hO] at fk HF
        clear hI hO fd
        go_wp2_with (first
          | (go_at_call 55; refine fk.mono ?_; rintro e w3 ⟨rfl, hb3⟩; obtain ⟨hc3, hf3⟩ := bcell hb3; have hs3 := hb3.size)
          | (at_builtin; refine wpList_append_own _ rfl _ _ 42 rfl (w.heap.size + 1) 99 i0 (.agg #[.int .i64 0, .int .i64 0, .bool false]) 3 24 Tryd.underlying42 hi hz0 hz1 hz2 rfl (by decide) _ _ _ rfl (own_below hown (below_more (below_more hb3 _) _)) ⟨w3.heap.size + 1, 0, none⟩ 1 1 (vcell ⟨I, O, false⟩) rfl rfl (by have := cell_three_new (w3.alloc (.cells #[.int .i64 I, .int .i64 O, .bool false] 99)) (.int .i64 I) (.int .i64 O) (.bool false) 99; simpa [vcell] using this) (fun x hx => by simp [vcell] at hx; rcases hx with rfl | rfl | rfl <;> rfl) (by unfold maxLen; omega) (by omega) (by simp; omega) ?_; intro v' w4 own4 g4 nil4; obtain ⟨a4, cap4, rfl⟩ := own_slice own4))
        go_roundw
        case rel =>
          refine ⟨k + 1, by go_num, by omega, by rw [HF.out, vcs_snoc]; exact own4, Below.grown (below_then hbw (below_more (below_more hb3 _) _)) g4 (by simp; omega) (fun j' hj' => by have := hoN j' hj'; omega), by have := g4.size; simp at this; omega, ?_⟩
          rw [World.cell?_of_block (a := ⟨w.heap.size, 2, none⟩) (g4.block w.heap.size (by simp; omega) (fun h => by have := hoN _ h.symm; omega))]
          have q1 : w.heap.size < w3.heap.size := by omega
          simp [go_sem, hc3, hsz, q1, m2]
        case measure => simp [intOf]; omega
      · have hlt' : ¬ (k : Int) < (l.length : Int) := by omega
        have hkn : k = l.length := by omega
        subst hkn
        go_wp2_with fail
        exact bodyPost_ret (v := .tuple #[.slice a0 l.length cap0, .int .i64 0, .int .i64 0]) (by simp [results, Tryd.results23, go_sem]) rfl ⟨_, ret_fill rfl HG.out.1.symm HG.out.2.1.symm, by rw [HG.out.2.2, Fil.fl_len]; exact own_base hown (by omega), hbw⟩

/-- both, at every input -/
theorem Fill_any (step start gap : Int) (v : Value) (l : List Txt.Val) (w : World) (h : VRow w v l) :
    Calls Tryd.prog 22 #[.agg #[.int .i64 step, .int .i64 start, v], .int .i64 gap] w fun e w' => ∃ v', e = .returned (.tuple #[v', .int .i64 (fE step start gap l), .int .i64 (fA step start gap l)]) ∧
      w'.ownsRow w.heap.size 88 3 v' (fL step start gap l).length (vcs (fL step start gap l)) ∧ Below w.heap.size w w' := by
  cases hok : fOk step start gap l
  · obtain ⟨e1, e2, e3⟩ := f_no hok
    refine (Fill_no step start gap v l w h hok).mono ?_
    rintro e w' ⟨rfl, hb⟩
    exact ⟨_, ret_fill rfl e1.symm e2.symm, by rw [e3]; exact World.ownsRow_nil _ _ _ _, hb⟩
  · exact Fill_yes step start gap v l w h hok
theorem refFill_any (step start gap : Int) (v : Value) (l : List Txt.Val) (w : World) (h : VRow w v l) :
    Calls Tryd.prog 23 #[.agg #[.int .i64 step, .int .i64 start, v], .int .i64 gap] w fun e w' => ∃ v', e = .returned (.tuple #[v', .int .i64 (fE step start gap l), .int .i64 (fA step start gap l)]) ∧
      w'.ownsRow w.heap.size 99 3 v' (fL step start gap l).length (vcs (fL step start gap l)) ∧ Below w.heap.size w w' := by
  cases hok : fOk step start gap l
  · obtain ⟨e1, e2, e3⟩ := f_no hok
    refine (refFill_no step start gap v l w h hok).mono ?_
    rintro e w' ⟨rfl, hb⟩
    exact ⟨_, ret_fill rfl e1.symm e2.symm, by rw [e3]; exact World.ownsRow_nil _ _ _ _, hb⟩
  · exact refFill_yes step start gap v l w h hok
theorem fL_len (step start gap : Int) (l : List Txt.Val) : (fL step start gap l).length ≤ l.length ∧ (fL step start gap l).length ≤ 200 := by
  unfold fL
  split
  · rename_i h
    have := (meterB_fit (fOk_iff.mp h).1).2.1
    split
    · rw [Fil.fl_len]; omega
    · simp
  · simp

end Go.Proofs.YtjaffmmocbplaaaDoor
