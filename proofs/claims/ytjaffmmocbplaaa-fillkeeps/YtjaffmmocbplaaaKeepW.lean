/-
  FillKeeps: the law's walk.
-/
import Derived.Test.YtjaffmmocbplaaaFilT
import Derived.Test.YtjaffmmocbplaaaRowZ
import Derived.BigQuiet
namespace Go.Proofs.Ytjaffmmocbplaaa.keeps
open Go.RowKit
set_option linter.unusedVariables false
attribute [local go_sem ↓] Go.wp_at_zero Go.wp_at_succ

def lst (a b : Int) : Int := if a < b then a else b
def mst (a b : Int) : Int := if b < a then a else b
theorem least_any (a b : Int) (w : World) : Calls Try.prog 33 #[.int .i64 a, .int .i64 b] w fun e w' => e = .returned (.int .i64 (lst a b)) ∧ w' = w := by
  by_cases h : a < b
  all_goals
    go_enter Try.func33, Try.ntmps33
    go_wp2
    go_ret
    exact ⟨ret_int (by unfold lst; split <;> omega), rfl⟩
theorem most_any (a b : Int) (w : World) : Calls Try.prog 34 #[.int .i64 a, .int .i64 b] w fun e w' => e = .returned (.int .i64 (mst a b)) ∧ w' = w := by
  by_cases h : b < a
  all_goals
    go_enter Try.func34, Try.ntmps34
    go_wp2
    go_ret
    exact ⟨ret_int (by unfold mst; split <;> omega), rfl⟩

def anyM (l : List Txt.Val) (k : Nat) : Bool := (l.take k).any (fun x => x.m)
theorem anyM_succ {l : List Txt.Val} {k : Nat} {x : Txt.Val} (hx : l[k]? = some x) : anyM l (k + 1) = (anyM l k || x.m) := by
  unfold anyM; rw [List.take_add_one, hx]; simp
theorem anyM_all {l : List Txt.Val} {j : Nat} (h : Fil.mAt l j = true) : anyM l l.length = true := by
  unfold anyM
  rw [List.take_of_length_le (by omega), List.any_eq_true]
  exact ⟨Fil.vAt l j, List.mem_of_getElem? (Fil.get_ex (Fil.mAt_lt h)), by rw [← Fil.mAt_v (Fil.mAt_lt h)]; exact h⟩

set_option maxRecDepth 1000000 in
set_option maxHeartbeats 2000000 in
theorem walk_bad (step start gap : Int) (v : Value) (l : List Txt.Val) (w : World) (h : VRow w v l) (hreach : l.length * 24 ≤ 140737488351232) (hne : fOk step start gap l = false ∨ (fOk step start gap l = true ∧ ¬ Fil.rows l gap 0 = -1)) :
    Calls Try.prog 10 #[.agg #[.int .i64 step, .int .i64 start, v], .int .i64 gap] w fun e w' => e = .returned (.bool true) ∧ Below w.heap.size w w' := by
  have hE : ¬ fE step start gap l = 0 ∧ fL step start gap l = [] := by
    rcases hne with g | ⟨g, g'⟩
    · obtain ⟨e1, _, e3⟩ := f_no g; exact ⟨by omega, e3⟩
    · obtain ⟨e1, _, e3⟩ := f_gap g g'; exact ⟨by omega, e3⟩
  have HB : Hid (fOk step start gap l = true → anyM l l.length = true) := fun g => by
    rcases hne with g' | ⟨_, g'⟩
    · rw [g] at g'; cases g'
    · obtain ⟨j, hj⟩ := Fil.rows_miss l gap _ 0 (Nat.le_refl _) g'
      exact anyM_all hj
  have fl1 := fun w1 (hb : Below w.heap.size w w1) => Fill_any step start gap v l w1 (h.below hb)
  have rds := fun w1 (hb : Below w.heap.size w w1) => reads_any step start v l w1 (h.below hb) hreach
  have gdm := fun w1 v' (V : VRow w1 v' l) => GoodMeter_any step start v' l w1 V
  rw [hE.2] at fl1
  obtain ⟨E, hE'⟩ : ∃ E, E = fE step start gap l := ⟨_, rfl⟩
  obtain ⟨A, hA⟩ : ∃ A, A = fA step start gap l := ⟨_, rfl⟩
  have hE0 := hE.1
  rw [← hE', ← hA] at fl1
  rw [← hE'] at hE0
  have hEB : (E != 0) = true := by simpa using hE0
  clear hE hE' hA hne hE0
  have hbad : fOk step start gap l = (meterB step start l && !decide (gap < 0) && !decide (8 < gap)) := by
    unfold fOk inB
    cases meterB step start l <;> by_cases a : gap < 0 <;> by_cases b : 8 < gap <;> simp [a, b] <;> omega
  obtain ⟨a, cap, rfl⟩ := h.form
  obtain ⟨M, hM⟩ : ∃ M, M = meterB step start l := ⟨_, rfl⟩
  have HM : Hid (fOk step start gap l = (M && !decide (gap < 0) && !decide (8 < gap))) := by rw [hM]; exact hbad
  rw [← hM] at gdm
  clear hM hbad
  have HV : Hid (VRow w (.slice a l.length cap) l) := h
  clear h
  cases M <;> by_cases g1 : gap < 0 <;> by_cases g2 : 8 < gap
  all_goals try omega
  all_goals
    go_enter Try.func10, Try.ntmps10
    go_wp2_with (first
      | (go_at_call 28; refine (fl1 _ (below_more (Below.refl _ _) _)).mono ?_; rintro e w1 ⟨v1, rfl, own1, hb1⟩; obtain ⟨a1, cap1, rfl⟩ := own_slice own1; obtain ⟨hc1, hf1⟩ := bcell hb1; have BW := below_then (below_more (Below.refl w.heap.size w) (.cells #[.int .i64 step, .int .i64 start, .slice a l.length cap] 50)) hb1; have hz1 : w.heap.size < w1.heap.size := (by have := hb1.size; simp at this; omega))
      | (go_at_call 15; refine (num_any _ _).mono ?_; rintro e w7 ⟨rfl, h7⟩; have h8 := h7.symm; subst h8)
      | (go_at_call 23; refine (rds _ BW).mono ?_; rintro e w3 ⟨v3, rfl, V3, hb3⟩; obtain ⟨a3, cap3, rfl⟩ := V3.form)
      | (go_at_call 32; refine (gdm _ _ V3).mono ?_; rintro e w4 ⟨rfl, hb4⟩))
    have m1 : w1.cell? ⟨w.heap.size, 2, none⟩ = some (.slice a l.length cap) := by simp [go_sem, hc1]
    have m2 := vcell_below hb4 (by have := hb3.size; omega) (vcell_below hb3 hz1 m1)
    have B4 := below_then (below_then BW hb3) hb4
    clear hc1 hf1 m1 own1 V3 hb1 hb3 hb4 BW fl1 rds gdm
    go_loopw [9, 10] (fun ms p wr => ∃ k : Nat, p = .int .i64 k ∧ k ≤ l.length ∧ ms = .bool (anyM l k) ∧ wr = w4) (fun _ p _ => l.length - (intOf p).toNat)
    case atStart => exact ⟨0, rfl, by omega, rfl, rfl⟩
    case round =>
      obtain ⟨k, rfl, hk, rfl, rfl⟩ := hrel
      by_cases hlt : k < l.length
      · have hlt' : (k : Int) < (l.length : Int) := by omega
        have hk0 : (0 : Int) ≤ (k : Int) := by omega
        obtain ⟨x, hx⟩ : ∃ x, l[k]? = some x := ⟨l[k], List.getElem?_eq_getElem hlt⟩
        obtain ⟨b, off, rfl, hcap, hblt, c0, c1, c2⟩ := (HV.out.below B4).at hx
        have hcap' : (l.length : Int) ≤ (cap : Int) := by omega
        have HS : Hid (anyM l (k + 1) = (anyM l k || x.m)) := anyM_succ hx
        cases hm : x.m
        all_goals
          rw [hm] at c2 HS
          clear hx
          go_wp2_with fail
          go_roundw
          case rel => exact ⟨k + 1, by go_num, by omega, by rw [HS.out]; simp, by trivial⟩
          case measure => simp [intOf]; omega
      · have hlt' : ¬ (k : Int) < (l.length : Int) := by omega
        have hkn : k = l.length := by omega
        subst hkn
        go_wp2_with fail
        go_ret
        first
          | exact ⟨rfl, B4⟩
          | exact ⟨ret_bool (HB.out (by rw [HM.out]; simp [g1, g2] <;> omega)), B4⟩
          | exact ⟨ret_bool (by have := HB.out (by rw [HM.out]; simp [g1, g2] <;> omega); simp [this]), B4⟩

end Go.Proofs.Ytjaffmmocbplaaa.keeps
