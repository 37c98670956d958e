/-
  The program's values as the document's, and whether two lists of values are the same.
-/
import Derived.Test.YtjaffmmocbplaaaDoorRowW
import Derived.Deep.RegionHeld3
import Derived.Deep.DrawnRows
namespace Go.Proofs.YtjaffmmocbplaaaDoor
open Go.RowKit
set_option linter.unusedVariables false
attribute [local go_sem ↓] Go.wp_at_zero Go.wp_at_succ

set_option maxHeartbeats 1000000 in
theorem sameValues_any (v v' : Value) (l : List Txt.Val) (w : World) (h : VRow w v l) (h' : VRow w v' l) (hl : l.length * 24 ≤ 140737488351232) :
    Calls Tryd.prog 29 #[v, v'] w fun e w' => e = .returned (.bool true) ∧ ∃ n, w' = w.drewN n := by
  obtain ⟨a, cap, rfl⟩ := h.form
  obtain ⟨a', cap', rfl⟩ := h'.form
  go_enter Tryd.func29, Tryd.ntmps29
  go_wp2_with fail
  go_loopw [5] (fun i wr => ∃ k n : Nat, i = .int .i64 k ∧ k ≤ l.length ∧ wr = w.drewN n) (fun i _ => l.length - (intOf i).toNat)
  case atStart => exact ⟨0, 0, rfl, by omega, rfl⟩
  case round =>
    obtain ⟨k, n, rfl, hk, rfl⟩ := hrel
    by_cases hlt : k < l.length
    · have hlt' : (k : Int) < (l.length : Int) := by omega
      have hk0 : (0 : Int) ≤ (k : Int) := by omega
      obtain ⟨x, hx⟩ : ∃ x, l[k]? = some x := ⟨l[k], List.getElem?_eq_getElem hlt⟩
      obtain ⟨b, off, rfl, hcap, hblt, c0, c1, c2⟩ := h.at hx
      obtain ⟨b', off', rfl, hcap2, hblt', d0, d1, d2⟩ := h'.at hx
      have hcap' : (l.length : Int) ≤ (cap : Int) := by omega
      have hcap2' : (l.length : Int) ≤ (cap' : Int) := by omega
      clear hx h h'
      go_wp2_with fail
      go_quiet (fail)
      go_wp2_with fail
      go_roundw
      case rel => exact ⟨k + 1, _, by go_num, by omega, rfl⟩
      case measure => simp [intOf]; omega
    · have hlt' : ¬ (k : Int) < (l.length : Int) := by omega
      go_wp2_with fail
      go_ret
      exact ⟨rfl, _, rfl⟩

set_option maxHeartbeats 1000000 in
theorem sameMeter_any (step start : Int) (v v' : Value) (l : List Txt.Val) (w : World) (h : VRow w v l) (h' : VRow w v' l) (hl : l.length * 24 ≤ 140737488351232) :
    Calls Tryd.prog 16 #[.agg #[.int .i64 step, .int .i64 start, v], .agg #[.int .i64 step, .int .i64 start, v']] w fun e w' => e = .returned (.bool true) ∧ Below w.heap.size w w' := by
  have sv := fun w1 (hb : Below w.heap.size w w1) => sameValues_any v v' l w1 (h.below hb) (h'.below hb) hl
  obtain ⟨a, cap, rfl⟩ := h.form
  obtain ⟨a', cap', rfl⟩ := h'.form
  clear h h'
  go_enter Tryd.func16, Tryd.ntmps16
  go_wp2_with (go_at_call 29; refine (sv _ (below_more (below_more (Below.refl _ _) _) _)).mono ?_; rintro e w1 ⟨rfl, n1, rfl⟩)
  go_ret
  exact ⟨rfl, below_drewN (below_more (below_more (Below.refl _ _) _) _) _⟩

set_option maxRecDepth 1000000 in
set_option maxHeartbeats 1000000 in
theorem values_any (v : Value) (l : List Txt.Val) (w : World) (h : VRow w v l) (hl : l.length * 24 ≤ 140737488351232) :
    Calls Tryd.prog 20 #[v] w fun e w' => ∃ v', e = .returned v' ∧ w'.ownsRow w.heap.size 99 3 v' l.length (vcs l) ∧ Below w.heap.size w w' := by
  obtain ⟨i0, hi, hz0, hz1, hz2⟩ := info_parts infoRV
  obtain ⟨a, cap, rfl⟩ := h.form
  go_enter Tryd.func20, Tryd.ntmps20
  go_wp2_with fail
  go_loopw [3, 4] (fun o i wr => ∃ k : Nat, i = .int .i64 k ∧ k ≤ l.length ∧ wr.ownsRow w.heap.size 99 3 o k (vcs (l.take k)) ∧ Below w.heap.size w wr) (fun _ i _ => l.length - (intOf i).toNat)
  case atStart => exact ⟨0, rfl, by omega, World.ownsRow_nil _ _ _ _, Below.refl _ _⟩
  case round =>
    obtain ⟨k, rfl, hk, hown, hbw⟩ := hrel
    by_cases hlt : k < l.length
    · have hlt' : (k : Int) < (l.length : Int) := by omega
      have hk0 : (0 : Int) ≤ (k : Int) := by omega
      obtain ⟨x, hx⟩ : ∃ x, l[k]? = some x := ⟨l[k], List.getElem?_eq_getElem hlt⟩
      obtain ⟨b, off, rfl, hcap, hblt, c0, c1, c2⟩ := h.at hx
      have hcap' : (l.length : Int) ≤ (cap : Int) := by omega
      have k0 := vcell_below hbw hblt c0
      have k1 := vcell_below hbw hblt c1
      have k2 := vcell_below hbw hblt c2
      have hsz := hbw.size
      have hbr : b < wr.heap.size := by omega
      have HT : Hid (vcs (l.take (k + 1)) = vcs (l.take k) ++ vcell x) := by show _ = _; rw [List.take_add_one, hx]; exact vcs_snoc _ _
      have hoN : ∀ j, (Value.ownBlock _) = some j → w.heap.size ≤ j := fun j hj => (hown.lt j hj).1
      clear hx h c0 c1 c2
      go_wp2_with fail
      go_region_held3 (fun w' => w'.cell? ⟨b, off + k * 3, none⟩ = some (.int .i64 x.i) ∧ w'.cell? ⟨b, off + k * 3 + 1, none⟩ = some (.int .i64 x.o) ∧ w'.cell? ⟨b, off + k * 3 + 2, none⟩ = some (.bool x.m))
        (first
          | (simp [go_sem, k0, k1, k2, hbr])
          | (refine ⟨?_, ?_, ?_⟩ <;> (rw [hgrow.cell_far _ (by simp; omega) (fun e => by have := hoN b e.symm; omega)]; simp [go_sem, k0, k1, k2, hbr])))
        ((refine step_append_lies _ (by rfl) _ _ _ (by rfl) w.heap.size 99 i0 _ 3 24 Tryd.underlying42 hi hz0 hz1 hz2 rfl (by omega) _ k _ (by rfl) ((hown.alloc _).drew) ⟨wr.heap.size, 0, none⟩ 1 1 (vcell x) (by rfl) (by rfl) (World.news_of_block (cs := #[.int .i64 x.i, .int .i64 x.o, .bool x.m]) (t := 99) (fr := (0, 0)) (heap_alloc_new wr _)) (by simp [vcell, Value.oneCell']) (by omega) (by unfold maxLen; omega) (by omega) (by simp; omega) (wr.heap.size + 1) (by simp) ?_; intro gg cap2 w1 hown1 hgrow hat hlt1))
      go_wp2_with fail
      go_roundw
      case rel => exact ⟨k + 1, by go_num, by omega, by rw [HT.out]; exact hown1, Below.grown (below_more hbw _).drew hgrow (by simp; omega) hoN⟩
      case measure => simp [intOf]; omega
    · have hlt' : ¬ (k : Int) < (l.length : Int) := by omega
      have hkn : k = l.length := by omega
      subst hkn
      rw [List.take_of_length_le (by omega)] at hown
      go_wp2_with fail
      go_ret
      exact ⟨_, rfl, hown, hbw⟩

set_option maxRecDepth 1000000 in
set_option maxHeartbeats 1000000 in
theorem reads_any (step start : Int) (v : Value) (l : List Txt.Val) (w : World) (h : VRow w v l) (hl : l.length * 24 ≤ 140737488351232) :
    Calls Tryd.prog 10 #[.agg #[.int .i64 step, .int .i64 start, v]] w fun e w' => ∃ v', e = .returned (.agg #[.int .i64 step, .int .i64 start, v']) ∧ VRow w' v' l ∧ Below w.heap.size w w' := by
  have vs := fun w1 (hb : Below w.heap.size w w1) => values_any v l w1 (h.below hb) hl
  obtain ⟨a, cap, rfl⟩ := h.form
  clear h
  go_enter Tryd.func10, Tryd.ntmps10
  go_wp2_with fail
  go_region_held3 (fun w' => w'.cell? ⟨w.heap.size, 0, none⟩ = some (.int .i64 step) ∧ w'.cell? ⟨w.heap.size, 1, none⟩ = some (.int .i64 start) ∧ w'.cell? ⟨w.heap.size, 2, none⟩ = some (.slice a l.length cap))
    (first | (simp [go_sem]; done) | (simp [go_sem, hc1]; done))
    ((go_at_call 20; refine (vs _ (Below.drew (below_more (below_more (Below.refl _ _) _) _))).mono ?_; rintro e w1 ⟨v', rfl, own1, hb1⟩; obtain ⟨hc1, hf1⟩ := bcell hb1; obtain ⟨a1, cap1, rfl⟩ := own_slice own1))
  all_goals
    go_wp2_with fail
    have r0 : w1.cell? ⟨w.heap.size + 1, 0, none⟩ = some (.int .i64 0) := by simp [go_sem, hc1]
    have r1 : w1.cell? ⟨w.heap.size + 1, 1, none⟩ = some (.int .i64 0) := by simp [go_sem, hc1]
    have r2 : w1.cell? ⟨w.heap.size + 1, 2, none⟩ = some (.slice none 0 0) := by simp [go_sem, hc1]
    refine bodyPost_ret (v := .agg #[.int .i64 step, .int .i64 start, .slice a1 l.length cap1]) (by simp [results, Tryd.results10, go_sem, r0, r1, r2]) rfl ⟨_, rfl, ?_, ?_⟩
    · have own2 := own_base own1 (base' := w.heap.size + 2) (by simp)
      refine VRow.of_own (base := w.heap.size + 2) (e := 99) (n := l.length) ?_ rfl
      repeat (first | exact own2 | refine ownsRow_setCell_below ?_ (by simp) _)
    · repeat (first | exact below_then (Below.drew (below_more (below_more (Below.refl _ _) _) _)) hb1 | refine Below.setCell ?_ (by simp) _)

end Go.Proofs.YtjaffmmocbplaaaDoor
