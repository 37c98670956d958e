/-
  LinW, SamL, EarM, EarW, Earlier in one text (made by tools/merge.py).
-/
import Derived.Test.YtjaffmmocbplaabLinR
import Derived.BigQuiet
import Derived.Test.YtjaffmmocbplaabBilM
import Derived.Laws.Tables
import Derived.Deep.WholeRow
import Derived.Test.YtjaffmmocbplaabFormM
import Derived.Test.YtjaffmmocbplaabFormT
import Derived.Test.YtjaffmmocbplaabRows
import Derived.ProofKit
import Derived.OpenShut
namespace Go.Proofs.Ytjaffmmocbplaab
open Go.RowKit Bil
set_option linter.unusedVariables false
attribute [local go_sem ↓] Go.wp_at_zero Go.wp_at_succ

theorem infoRL : (Try.prog.info? 108).map (fun i => (i.zero, i.size, i.bytes)) = some (some (.agg #[.int .i64 0, .int .i64 0, .int .i64 0, .int .i64 0, .int .i64 0, .int .i64 0, .int .i64 0, .int .i64 0, .int .i64 0, .int .i64 0, .int .i64 0, .int .i64 0, .int .i64 0, .int .i64 0, .int .i64 0]), 15, 120) := by kernel_rfl
theorem RL_cell (w : World) (x : Ln) : ∀ j u, (lcell x)[j]? = some u → (w.alloc (.cells #[.int .i64 x.i0, .int .i64 x.i1, .int .i64 x.i2, .int .i64 x.o, .int .i64 x.pk, .int .i64 x.bl, .int .i64 x.en, .int .i64 x.pw, .int .i64 x.ap, .int .i64 x.ex, .int .i64 x.pd, .int .i64 x.bk, .int .i64 x.su, .int .i64 x.tx, .int .i64 x.to] 108)).cell? ((⟨w.heap.size, 0, none⟩ : Addr).add j) = some u := by
  intro j u hj
  have hadd : (⟨w.heap.size, 0, none⟩ : Addr).add j = ⟨w.heap.size, j, none⟩ := by unfold Addr.add; split <;> simp_all
  rw [hadd, cell_of_row _ _ _ _ _ _ (heap_alloc_new _ _), ← hj]
  simp [lcell]

set_option maxRecDepth 100000 in
set_option maxHeartbeats 1000000 in
theorem line1_any (x : Ln) (w : World) :
    Calls Try.prog 49 #[.agg #[.int .i64 x.i0, .int .i64 x.i1, .int .i64 x.i2, .int .i64 x.o, .int .i64 x.pk, .int .i64 x.bl, .int .i64 x.en, .int .i64 x.pw, .int .i64 x.ap, .int .i64 x.ex, .int .i64 x.pd, .int .i64 x.bk, .int .i64 x.su, .int .i64 x.tx, .int .i64 x.to]] w fun e w' => e = .returned (.agg #[.int .i64 x.i0, .int .i64 x.i1, .int .i64 x.i2, .int .i64 x.o, .int .i64 x.pk, .int .i64 x.bl, .int .i64 x.en, .int .i64 x.pw, .int .i64 x.ap, .int .i64 x.ex, .int .i64 x.pd, .int .i64 x.bk, .int .i64 x.su, .int .i64 x.tx, .int .i64 x.to]) ∧ Below w.heap.size w w' := by
  go_enter Try.func49, Try.ntmps49
  go_wp2_with fail
  refine bodyPost_ret (v := .agg #[.int .i64 x.i0, .int .i64 x.i1, .int .i64 x.i2, .int .i64 x.o, .int .i64 x.pk, .int .i64 x.bl, .int .i64 x.en, .int .i64 x.pw, .int .i64 x.ap, .int .i64 x.ex, .int .i64 x.pd, .int .i64 x.bk, .int .i64 x.su, .int .i64 x.tx, .int .i64 x.to]) (by simp [results, Try.results49, go_sem]) rfl ⟨rfl, ?_⟩
  exact below_more (below_more (Below.refl _ _) _) _

set_option maxRecDepth 100000 in
set_option maxHeartbeats 2000000 in
theorem lines_any (v : Value) (l : List Ln) (w : World) (h : LRow w v l) (hl : l.length ≤ 100000) :
    Calls Try.prog 22 #[v] w fun e w' => ∃ v', e = .returned v' ∧ w'.ownsRow w.heap.size 108 15 v' l.length (lcs l) ∧ Below w.heap.size w w' := by
  obtain ⟨i0, hi, hz0, hz1, hz2⟩ := info_parts infoRL
  obtain ⟨a, cap, rfl⟩ := h.form
  have HV := hideF h
  clear h
  go_enter Try.func22, Try.ntmps22
  go_wp2_with fail
  go_loopw [3, 4] (fun f p wr => ∃ k : Nat, p = .int .i64 k ∧ k ≤ l.length ∧ wr.ownsRow w.heap.size 108 15 f k (lcs (l.take k)) ∧ Below w.heap.size w wr) (fun _ p _ => l.length - (intOf p).toNat)
  case atStart => exact ⟨0, rfl, by omega, World.ownsRow_nil _ _ _ _, Below.refl _ _⟩
  case round =>
    obtain ⟨k, rfl, hk, hown, hb⟩ := hrel
    obtain ⟨a0, cap0, rfl⟩ := own_slice hown
    have hsz := hb.size
    by_cases hlt : k < l.length
    · have hlt' : (k : Int) < (l.length : Int) := by omega
      have hk0 : (0 : Int) ≤ (k : Int) := by omega
      obtain ⟨x, hx⟩ : ∃ x, l[k]? = some x := ⟨l[k], List.getElem?_eq_getElem hlt⟩
      obtain ⟨b, rfl, hcap, hblt, cc⟩ := (HV.out.below hb).at hx
      have hcap' : (l.length : Int) ≤ (cap : Int) := by omega
      have HT : Hid (l.take (k + 1) = l.take k ++ [x]) := take_snoc hx
      have c0 : wr.cell? ⟨b, k * 15, none⟩ = some (.int .i64 x.i0) := cc 0 _ rfl
      have c1 : wr.cell? ⟨b, k * 15 + 1, none⟩ = some (.int .i64 x.i1) := cc 1 _ rfl
      have c2 : wr.cell? ⟨b, k * 15 + 2, none⟩ = some (.int .i64 x.i2) := cc 2 _ rfl
      have c3 : wr.cell? ⟨b, k * 15 + 3, none⟩ = some (.int .i64 x.o) := cc 3 _ rfl
      have c4 : wr.cell? ⟨b, k * 15 + 4, none⟩ = some (.int .i64 x.pk) := cc 4 _ rfl
      have c5 : wr.cell? ⟨b, k * 15 + 5, none⟩ = some (.int .i64 x.bl) := cc 5 _ rfl
      have c6 : wr.cell? ⟨b, k * 15 + 6, none⟩ = some (.int .i64 x.en) := cc 6 _ rfl
      have c7 : wr.cell? ⟨b, k * 15 + 7, none⟩ = some (.int .i64 x.pw) := cc 7 _ rfl
      have c8 : wr.cell? ⟨b, k * 15 + 8, none⟩ = some (.int .i64 x.ap) := cc 8 _ rfl
      have c9 : wr.cell? ⟨b, k * 15 + 9, none⟩ = some (.int .i64 x.ex) := cc 9 _ rfl
      have c10 : wr.cell? ⟨b, k * 15 + 10, none⟩ = some (.int .i64 x.pd) := cc 10 _ rfl
      have c11 : wr.cell? ⟨b, k * 15 + 11, none⟩ = some (.int .i64 x.bk) := cc 11 _ rfl
      have c12 : wr.cell? ⟨b, k * 15 + 12, none⟩ = some (.int .i64 x.su) := cc 12 _ rfl
      have c13 : wr.cell? ⟨b, k * 15 + 13, none⟩ = some (.int .i64 x.tx) := cc 13 _ rfl
      have c14 : wr.cell? ⟨b, k * 15 + 14, none⟩ = some (.int .i64 x.to) := cc 14 _ rfl
      have hoN : ∀ j, (Value.ownBlock (.slice a0 k cap0)) = some j → w.heap.size ≤ j := fun j hj => (hown.lt j hj).1
      clear cc hx
      go_wp2_with (first
        | (go_at_call 49; refine (line1_any x _).mono ?_; rintro e w2 ⟨rfl, hb2⟩; have own2 := own_below hown hb2; have B2 := below_then hb hb2; have hs2 := hb2.size)
        | (at_builtin; have _ := B2; refine wpList_append_own _ rfl _ _ 76 rfl w.heap.size 108 i0 (.agg #[.int .i64 0, .int .i64 0, .int .i64 0, .int .i64 0, .int .i64 0, .int .i64 0, .int .i64 0, .int .i64 0, .int .i64 0, .int .i64 0, .int .i64 0, .int .i64 0, .int .i64 0, .int .i64 0, .int .i64 0]) 15 120 Try.underlying76 hi hz0 hz1 hz2 rfl (by decide) _ _ _ rfl (own2.alloc _) ⟨w2.heap.size, 0, none⟩ 1 1 (lcell x) rfl rfl (RL_cell _ x) (fun y hy => by simp [lcell] at hy; rcases hy with rfl | rfl | rfl | rfl | rfl | rfl | rfl | rfl | rfl | rfl | rfl | rfl | rfl | rfl | rfl <;> rfl) (by unfold maxLen; omega) (by omega) (by simp; omega) ?_; intro v' w6 own6 g6 nil6; obtain ⟨a6, cap6, rfl⟩ := own_slice own6))
      go_roundw
      case rel => exact ⟨k + 1, by go_num, by omega, by rw [HT.out, lcs_snoc]; exact own6, Below.grown (below_more B2 _) g6 (by simp; omega) (fun j hj => hoN j hj)⟩
      case measure => simp [intOf]; omega
    · have hlt' : ¬ (k : Int) < (l.length : Int) := by omega
      have HKE : Hid (k = l.length) := (by omega : k = l.length)
      have HK : Hid (l.take k = l) := List.take_of_length_le (by omega)
      go_wp2_with fail
      refine bodyPost_ret (v := .slice a0 k cap0) (by simp [results, Try.results22, go_sem]) rfl ⟨_, rfl, ?_, hb⟩
      rw [HK.out] at hown
      rw [← HKE.out]; exact hown

end Go.Proofs.Ytjaffmmocbplaab

namespace Go.Proofs.Ytjaffmmocbplaab
open Go.RowKit Bil
set_option linter.unusedVariables false
attribute [local go_sem ↓] Go.wp_at_zero Go.wp_at_succ

set_option maxRecDepth 100000 in
set_option maxHeartbeats 1000000 in
theorem Numbers_any (x : Ln) (w : World) :
    Calls Try.prog 48 #[.agg #[.int .i64 x.i0, .int .i64 x.i1, .int .i64 x.i2, .int .i64 x.o, .int .i64 x.pk, .int .i64 x.bl, .int .i64 x.en, .int .i64 x.pw, .int .i64 x.ap, .int .i64 x.ex, .int .i64 x.pd, .int .i64 x.bk, .int .i64 x.su, .int .i64 x.tx, .int .i64 x.to]] w fun e w' => ∃ g, e = .returned (.slice (some ⟨g, 0, none⟩) 15 15) ∧ w.heap.size ≤ g ∧ w'.heap[g]? = some (.cells #[.int .i64 x.i0, .int .i64 x.i1, .int .i64 x.i2, .int .i64 x.o, .int .i64 x.pk, .int .i64 x.bl, .int .i64 x.en, .int .i64 x.pw, .int .i64 x.ap, .int .i64 x.ex, .int .i64 x.pd, .int .i64 x.bk, .int .i64 x.su, .int .i64 x.tx, .int .i64 x.to] 3 (0, 0)) ∧ Below w.heap.size w w' := by
  go_enter Try.func48, Try.ntmps48
  go_wp2_with fail
  refine bodyPost_ret (v := .slice (some ⟨w.heap.size + 1, 0, none⟩) 15 15) (by simp [results, Try.results48, go_sem]) rfl ⟨_, rfl, by omega, heap_alloc2_new _ _ _, below_more (below_more (Below.refl _ _) _) _⟩

def lnN (x : Ln) (j : Nat) : Int := [x.i0, x.i1, x.i2, x.o, x.pk, x.bl, x.en, x.pw, x.ap, x.ex, x.pd, x.bk, x.su, x.tx, x.to].getD j 0
theorem lnN_at (x : Ln) (j : Nat) (hj : j < 15) : (#[.int .i64 x.i0, .int .i64 x.i1, .int .i64 x.i2, .int .i64 x.o, .int .i64 x.pk, .int .i64 x.bl, .int .i64 x.en, .int .i64 x.pw, .int .i64 x.ap, .int .i64 x.ex, .int .i64 x.pd, .int .i64 x.bk, .int .i64 x.su, .int .i64 x.tx, .int .i64 x.to] : Array Value)[j]? = some (.int .i64 (lnN x j)) := by
  match j, hj with
  | 0, _ => rfl
  | 1, _ => rfl
  | 2, _ => rfl
  | 3, _ => rfl
  | 4, _ => rfl
  | 5, _ => rfl
  | 6, _ => rfl
  | 7, _ => rfl
  | 8, _ => rfl
  | 9, _ => rfl
  | 10, _ => rfl
  | 11, _ => rfl
  | 12, _ => rfl
  | 13, _ => rfl
  | 14, _ => rfl

set_option maxRecDepth 100000 in
set_option maxHeartbeats 2000000 in
theorem sameLines_any (v v' : Value) (l : List Ln) (w : World) (h : LRow w v l) (h' : LRow w v' l) (hl : l.length ≤ 100000) :
    Calls Try.prog 21 #[v, v'] w fun e w' => e = .returned (.bool true) ∧ Below w.heap.size w w' := by
  obtain ⟨a, cap, rfl⟩ := h.form
  obtain ⟨a', cap', rfl⟩ := h'.form
  have HA := hideF h
  have HB := hideF h'
  clear h h'
  go_enter Try.func21, Try.ntmps21
  go_wp2_with fail
  go_loopw [5] (fun p wr => ∃ k : Nat, p = .int .i64 k ∧ k ≤ l.length ∧ Below w.heap.size w wr) (fun p _ => l.length - (intOf p).toNat)
  case atStart => exact ⟨0, rfl, by omega, Below.refl _ _⟩
  case round =>
    obtain ⟨k, rfl, hk, hb⟩ := hrel
    have hsz := hb.size
    by_cases hlt : k < l.length
    · have hlt' : (k : Int) < (l.length : Int) := by omega
      have hk0 : (0 : Int) ≤ (k : Int) := by omega
      obtain ⟨x, hx⟩ : ∃ x, l[k]? = some x := ⟨l[k], List.getElem?_eq_getElem hlt⟩
      obtain ⟨b, rfl, hcap, hblt, cc⟩ := (HA.out.below hb).at hx
      obtain ⟨b', rfl, hcap2, hblt', dc⟩ := (HB.out.below hb).at hx
      have hcap' : (l.length : Int) ≤ (cap : Int) := by omega
      have hcap2' : (l.length : Int) ≤ (cap' : Int) := by omega
      have c0 : wr.cell? ⟨b, k * 15, none⟩ = some (.int .i64 x.i0) := cc 0 _ rfl
      have c1 : wr.cell? ⟨b, k * 15 + 1, none⟩ = some (.int .i64 x.i1) := cc 1 _ rfl
      have c2 : wr.cell? ⟨b, k * 15 + 2, none⟩ = some (.int .i64 x.i2) := cc 2 _ rfl
      have c3 : wr.cell? ⟨b, k * 15 + 3, none⟩ = some (.int .i64 x.o) := cc 3 _ rfl
      have c4 : wr.cell? ⟨b, k * 15 + 4, none⟩ = some (.int .i64 x.pk) := cc 4 _ rfl
      have c5 : wr.cell? ⟨b, k * 15 + 5, none⟩ = some (.int .i64 x.bl) := cc 5 _ rfl
      have c6 : wr.cell? ⟨b, k * 15 + 6, none⟩ = some (.int .i64 x.en) := cc 6 _ rfl
      have c7 : wr.cell? ⟨b, k * 15 + 7, none⟩ = some (.int .i64 x.pw) := cc 7 _ rfl
      have c8 : wr.cell? ⟨b, k * 15 + 8, none⟩ = some (.int .i64 x.ap) := cc 8 _ rfl
      have c9 : wr.cell? ⟨b, k * 15 + 9, none⟩ = some (.int .i64 x.ex) := cc 9 _ rfl
      have c10 : wr.cell? ⟨b, k * 15 + 10, none⟩ = some (.int .i64 x.pd) := cc 10 _ rfl
      have c11 : wr.cell? ⟨b, k * 15 + 11, none⟩ = some (.int .i64 x.bk) := cc 11 _ rfl
      have c12 : wr.cell? ⟨b, k * 15 + 12, none⟩ = some (.int .i64 x.su) := cc 12 _ rfl
      have c13 : wr.cell? ⟨b, k * 15 + 13, none⟩ = some (.int .i64 x.tx) := cc 13 _ rfl
      have c14 : wr.cell? ⟨b, k * 15 + 14, none⟩ = some (.int .i64 x.to) := cc 14 _ rfl
      have hdc := hideF dc
      clear cc dc hx
      go_wp2_with (first
        | (go_at_call 48; have _ := hb2; refine (Numbers_any x _).mono ?_; rintro e w3 ⟨g2, rfl, hg2, R2, hb3⟩)
        | (go_at_call 48; refine (Numbers_any x _).mono ?_; rintro e w2 ⟨g1, rfl, hg1, R1, hb2⟩; have e0 : w2.cell? ⟨b', k * 15, none⟩ = some (.int .i64 x.i0) := vcell_below hb2 hblt' (hdc.out 0 _ rfl); have e1 : w2.cell? ⟨b', k * 15 + 1, none⟩ = some (.int .i64 x.i1) := vcell_below hb2 hblt' (hdc.out 1 _ rfl); have e2 : w2.cell? ⟨b', k * 15 + 2, none⟩ = some (.int .i64 x.i2) := vcell_below hb2 hblt' (hdc.out 2 _ rfl); have e3 : w2.cell? ⟨b', k * 15 + 3, none⟩ = some (.int .i64 x.o) := vcell_below hb2 hblt' (hdc.out 3 _ rfl); have e4 : w2.cell? ⟨b', k * 15 + 4, none⟩ = some (.int .i64 x.pk) := vcell_below hb2 hblt' (hdc.out 4 _ rfl); have e5 : w2.cell? ⟨b', k * 15 + 5, none⟩ = some (.int .i64 x.bl) := vcell_below hb2 hblt' (hdc.out 5 _ rfl); have e6 : w2.cell? ⟨b', k * 15 + 6, none⟩ = some (.int .i64 x.en) := vcell_below hb2 hblt' (hdc.out 6 _ rfl); have e7 : w2.cell? ⟨b', k * 15 + 7, none⟩ = some (.int .i64 x.pw) := vcell_below hb2 hblt' (hdc.out 7 _ rfl); have e8 : w2.cell? ⟨b', k * 15 + 8, none⟩ = some (.int .i64 x.ap) := vcell_below hb2 hblt' (hdc.out 8 _ rfl); have e9 : w2.cell? ⟨b', k * 15 + 9, none⟩ = some (.int .i64 x.ex) := vcell_below hb2 hblt' (hdc.out 9 _ rfl); have e10 : w2.cell? ⟨b', k * 15 + 10, none⟩ = some (.int .i64 x.pd) := vcell_below hb2 hblt' (hdc.out 10 _ rfl); have e11 : w2.cell? ⟨b', k * 15 + 11, none⟩ = some (.int .i64 x.bk) := vcell_below hb2 hblt' (hdc.out 11 _ rfl); have e12 : w2.cell? ⟨b', k * 15 + 12, none⟩ = some (.int .i64 x.su) := vcell_below hb2 hblt' (hdc.out 12 _ rfl); have e13 : w2.cell? ⟨b', k * 15 + 13, none⟩ = some (.int .i64 x.tx) := vcell_below hb2 hblt' (hdc.out 13 _ rfl); have e14 : w2.cell? ⟨b', k * 15 + 14, none⟩ = some (.int .i64 x.to) := vcell_below hb2 hblt' (hdc.out 14 _ rfl)))
      have hg1l : g1 < w2.heap.size := (Array.getElem?_eq_some_iff.1 R1).1
      have hg2l : g2 < w3.heap.size := (Array.getElem?_eq_some_iff.1 R2).1
      have R1' : w3.heap[g1]? = some (.cells #[.int .i64 x.i0, .int .i64 x.i1, .int .i64 x.i2, .int .i64 x.o, .int .i64 x.pk, .int .i64 x.bl, .int .i64 x.en, .int .i64 x.pw, .int .i64 x.ap, .int .i64 x.ex, .int .i64 x.pd, .int .i64 x.bk, .int .i64 x.su, .int .i64 x.tx, .int .i64 x.to] 3 (0, 0)) := (hb3.block g1 hg1l).trans R1
      have H1 := hideF R1'
      have H2 := hideF R2
      have B3 := below_then hb (below_then hb2 hb3)
      have hs3 := hb3.size
      clear R1 R2 R1' hb2 hb3 c0 e0 c1 e1 c2 e2 c3 e3 c4 e4 c5 e5 c6 e6 c7 e7 c8 e8 c9 e9 c10 e10 c11 e11 c12 e12 c13 e13 c14 e14
      go_loopw [8] (fun p wi => ∃ j : Nat, p = .int .i64 j ∧ j ≤ 15 ∧ Below w3.heap.size w3 wi) (fun p _ => 15 - (intOf p).toNat)
      case atStart => exact ⟨0, rfl, by omega, Below.refl _ _⟩
      case round =>
        obtain ⟨j, rfl, hj, hbi⟩ := hrel
        by_cases hjl : j < 15
        · have hjl' : (j : Int) < 15 := by omega
          have hj0 : (0 : Int) ≤ (j : Int) := by omega
          have p1 : wr.cell? ⟨g1, j, none⟩ = some (.int .i64 (lnN x j)) := vcell_below hbi (by omega) ((cell_of_row _ _ _ _ _ _ H1.out).trans (lnN_at x j hjl))
          have p2 : wr.cell? ⟨g2, j, none⟩ = some (.int .i64 (lnN x j)) := vcell_below hbi hg2l ((cell_of_row _ _ _ _ _ _ H2.out).trans (lnN_at x j hjl))
          go_wp2_with fail
          go_quiet (fail)
          go_wp2_with fail
          go_roundw
          case rel => exact ⟨j + 1, by go_num, by omega, by first | exact below_drewN hbi _ | exact Below.drew hbi⟩
          case measure => simp [intOf]; omega
        · have hjl' : ¬ (j : Int) < 15 := by omega
          go_wp2_with fail
          go_roundw
          case rel => exact ⟨k + 1, by go_num, by omega, below_then B3 hbi⟩
          case measure => simp [intOf]; omega
    · have hlt' : ¬ (k : Int) < (l.length : Int) := by omega
      go_wp2_with fail
      go_ret
      exact ⟨rfl, hb⟩

end Go.Proofs.Ytjaffmmocbplaab

namespace Go.Proofs.Ytjaffmmocbplaab
open Txt (Val)
set_option linter.unusedVariables false
namespace Fil
theorem mAt_take {l : List Val} {n i : Nat} (h : i < n) : mAt (l.take n) i = mAt l i := by
  unfold mAt; rw [List.getElem?_take_of_lt h]
theorem vAt_take {l : List Val} {n i : Nat} (h : i < n) : vAt (l.take n) i = vAt l i := by
  unfold vAt; rw [List.getElem?_take_of_lt h]
theorem re_uni {l : List Val} {m : Nat} (hm : mAt l m = false) : ∀ d i, m = i + d → (∀ j, i ≤ j → j < m → mAt l j = true) → re l i = m
  | 0, i, e, _ => by subst e; exact re_not hm
  | d + 1, i, e, h => by
    rw [re_miss (h i (Nat.le_refl _) (by omega))]
    exact re_uni hm d (i + 1) (by omega) (fun j h1 h2 => h j (by omega) h2)
theorem lf_take {l : List Val} {n : Nat} : ∀ i, i < n → lf (l.take n) i = lf l i
  | 0, _ => rfl
  | i + 1, h => by
    show (if mAt (l.take n) (i + 1) = true then lf (l.take n) i else i + 1) = (if mAt l (i + 1) = true then lf l i else i + 1)
    rw [mAt_take h, lf_take i (by omega)]
theorem take_len {l : List Val} {n : Nat} (h : n ≤ l.length) : (l.take n).length = n := by rw [List.length_take]; omega
theorem re_take {l : List Val} {n i : Nat} (hn : n ≤ l.length) (hi : i < n) (h : re l i < n) : re (l.take n) i = re l i := by
  have hge := re_ge (l := l) (i := i) (by omega)
  exact re_uni (by rw [mAt_take h]; exact re_end (by omega)) (re l i - i) i (by omega) (fun j h1 h2 => by rw [mAt_take (by omega)]; exact (re_in (by omega) h1 h2).1)
theorem re_of_take {l : List Val} {n i : Nat} (hn : n ≤ l.length) (hi : i < n) (h : re (l.take n) i < n) : re l i = re (l.take n) i := by
  have hl := take_len hn
  have hge := re_ge (l := l.take n) (i := i) (by omega)
  exact re_uni (by rw [← mAt_take h]; exact re_end (by omega)) (re (l.take n) i - i) i (by omega) (fun j h1 h2 => by rw [← mAt_take (n := n) (by omega)]; exact (re_in (by omega) h1 h2).1)
theorem rows_take {l : List Val} {gap : Int} {n : Nat} (hn1 : 1 ≤ n) (hn : n ≤ l.length) (hm : mAt l (n - 1) = false) : ∀ f i, n - i ≤ f → rows l gap i = -1 → rows (l.take n) gap i = -1
  | 0, i, hf, hr => rows_end (by rw [take_len hn]; omega)
  | f + 1, i, hf, hr => by
    have hl := take_len hn
    by_cases hi : i < n
    · cases g : mAt l i
      · rw [rows_not (by omega) g] at hr
        rw [rows_not (by omega) (by rw [mAt_take hi]; exact g)]
        exact rows_take hn1 hn hm f (i + 1) (by omega) hr
      · have hgt := re_gt g
        have hre : re l i < n := by
          rcases Nat.lt_or_ge (re l i) n with q | q
          · exact q
          · have := (re_in (l := l) (i := i) (j := n - 1) (by omega) (by omega) (by omega)).1
            rw [hm] at this; cases this
        by_cases hb : i = 0 ∨ re l i = l.length ∨ gap < (re l i : Int) - i
        · rw [rows_bad g hb] at hr; omega
        · rw [rows_good g hb] at hr
          have e := re_take hn hi hre
          rw [rows_good (by rw [mAt_take hi]; exact g) (by rw [e, hl]; omega), e]
          exact rows_take hn1 hn hm f (re l i) (by omega) hr
    · exact rows_end (by omega)
theorem fv_take {l : List Val} {gap : Int} {n i : Nat} (hn : n ≤ l.length) (hr : rows (l.take n) gap 0 = -1) (hi : i < n) : fv (l.take n) i = fv l i := by
  have hl := take_len hn
  have h1 := rows_ok (l.take n) gap _ 0 (Nat.le_refl _) hr i (by omega) (by omega)
  rw [hl] at h1
  have h2 := re_of_take hn hi h1
  have h3 := lf_le l i
  unfold fv
  rw [mAt_take hi, vAt_take hi, lf_take i hi, vAt_take (show lf l i < n by omega), h2, vAt_take h1]
end Fil

theorem runP_take {t : Trf} {step start : Int} {L L' : List Val} : ∀ k, (∀ i, i < k → Fil.vAt L' i = Fil.vAt L i) → runP t step start L' k = runP t step start L k
  | 0, _ => rfl
  | k + 1, h => by
    show stepP t step start L' (runP t step start L' k) k = stepP t step start L (runP t step start L k) k
    rw [runP_take k (fun i hi => h i (by omega))]
    unfold stepP
    rw [h k (by omega)]
theorem push_pre {days day : Int} (hd : 1 ≤ days) : ∀ (n : Nat) (s : PSt), (day + 1 - s.en).toNat ≤ n → s.dn <+: (pushP days day s).dn
  | n, s, hn => by
    by_cases g : s.en ≤ day
    · cases n with
      | zero => omega
      | succ n =>
        rw [push_go hd g]
        exact List.IsPrefix.trans ⟨[s.p], rfl⟩ (push_pre (day := day) hd n ⟨s.dn ++ [s.p], per0, s.en + days⟩ (by simp only; omega))
    · rw [push_stop g]; exact List.prefix_refl _
theorem run_pre {t : Trf} {step start : Int} {l : List Val} (hd : 1 ≤ t.days) (k : Nat) : ∀ d, (runP t step start l k).dn <+: (runP t step start l (k + d)).dn
  | 0 => List.prefix_refl _
  | d + 1 => by
    refine List.IsPrefix.trans (run_pre hd k d) ?_
    show _ <+: (stepP t step start l (runP t step start l (k + d)) (k + d)).dn
    unfold stepP
    have := push_pre (day := dayAt t step start (k + d)) hd _ (begP t step start (runP t step start l (k + d)) (k + d)) (Nat.le_refl _)
    have e : (begP t step start (runP t step start l (k + d)) (k + d)).dn = (runP t step start l (k + d)).dn := by unfold begP; split <;> rfl
    rw [e] at this; exact this

namespace Bil
theorem pkR_eq {ps ps' : List Per} {a : Nat} : ∀ n, (∀ k, k < a + n → pAt ps' k = pAt ps k) → pkR ps' a n = pkR ps a n
  | 0, _ => rfl
  | n + 1, h => by
    show mx (pkR ps' a n) (pAt ps' (a + n)).pk = mx (pkR ps a n) (pAt ps (a + n)).pk
    rw [pkR_eq n (fun k hk => h k (by omega)), h (a + n) (by omega)]
theorem blOf_eq {t : Trf} {ps ps' : List Per} {i : Nat} (h : ∀ k, k ≤ i → pAt ps' k = pAt ps k) : blOf t ps' i = blOf t ps i := by
  unfold blOf pkA
  rw [h i (Nat.le_refl _)]
  by_cases g : from0 i t.d.z ≤ i
  · rw [pkR_eq _ (fun k hk => h k (by omega))]
  · rw [show i - from0 i t.d.z = 0 by omega]; rfl
theorem lnOf_eq {t : Trf} {ps ps' : List Per} {c : List Int} {i : Nat} (h : ∀ k, k ≤ i → pAt ps' k = pAt ps k) : lnOf t ps' c i = lnOf t ps c i ∧ c3Of t ps' c i = c3Of t ps c i := by
  have e1 := blOf_eq (t := t) h
  have e2 := h i (Nat.le_refl _)
  have e3 : c3Of t ps' c i = c3Of t ps c i := by unfold c3Of c2Of pdOf; rw [e2]
  refine ⟨?_, e3⟩
  unfold lnOf
  rw [e3]
  unfold suOf pwOf apOf pdOf
  rw [e1, e2]
theorem crR_eq {t : Trf} {ps ps' : List Per} : ∀ k, (∀ j, j < k → pAt ps' j = pAt ps j) → crR t ps' k = crR t ps k
  | 0, _ => rfl
  | k + 1, h => by
    show c3Of t ps' (crR t ps' k) k = c3Of t ps (crR t ps k) k
    rw [crR_eq k (fun j hj => h j (by omega)), (lnOf_eq (fun j hj => h j (by omega))).2]
theorem lnR_eq {t : Trf} {ps ps' : List Per} : ∀ k, (∀ j, j < k → pAt ps' j = pAt ps j) → lnR t ps' k = lnR t ps k
  | 0, _ => rfl
  | k + 1, h => by
    show lnR t ps' k ++ [lnOf t ps' (crR t ps' k) k] = lnR t ps k ++ [lnOf t ps (crR t ps k) k]
    rw [lnR_eq k (fun j hj => h j (by omega)), crR_eq k (fun j hj => h j (by omega)), (lnOf_eq (fun j hj => h j (by omega))).1]
theorem lnR_take {t : Trf} {ps : List Per} (c : Nat) : ∀ d, (lnR t ps (c + d)).take c = lnR t ps c
  | 0 => by rw [List.take_of_length_le]; rfl; rw [lnR_len]; exact Nat.le_refl _
  | d + 1 => by
    show (lnR t ps (c + d) ++ [_]).take c = _
    rw [List.take_append_of_le_length (by rw [lnR_len]; omega)]
    exact lnR_take c d
end Bil

theorem meterB_take {step start : Int} {l : List Val} {n : Nat} (hn1 : 1 ≤ n) (hn : n ≤ l.length) (h : meterB step start l = true) : meterB step start (l.take n) = true := by
  have hs := (meterB_step h).1
  have hl := Fil.take_len hn
  unfold meterB at h ⊢
  simp only [Bool.and_eq_true, Bool.or_eq_true, decide_eq_true_eq, inB_iff] at h ⊢
  obtain ⟨⟨⟨⟨h1, h2⟩, h3⟩, h4⟩, h5⟩ := h
  refine ⟨⟨⟨⟨h1, by omega⟩, ?_⟩, h4⟩, ?_⟩
  · rw [hl]; rcases hs with rfl | rfl | rfl <;> omega
  · rw [List.all_eq_true] at h5 ⊢
    exact fun x hx => h5 x (List.mem_of_mem_take hx)
/-- what a bill over the first values is -/
theorem ear {t : Trf} {step start : Int} {l : List Val} {n : Nat} (hn1 : 1 ≤ n) (hn : n ≤ l.length) (hz : spE t step start l = 0) :
    (spE t step start (l.take n) = 6 ∧ Fil.mAt l (n - 1) = true) ∨
    (spE t step start (l.take n) = 0 ∧ (spL t step start (l.take n)).length ≤ (spL t step start l).length ∧
      ∀ c, c + 1 ≤ (spL t step start (l.take n)).length → Bil.lnR t (spL t step start (l.take n)) c = Bil.lnR t (spL t step start l) c) := by
  obtain ⟨hm, hb13, hfe, hokc, hsl⟩ := sp_ok hz
  have hm' := meterB_take hn1 hn hm
  have hl := Fil.take_len hn
  have hgap : inB t.gap 0 8 = true := by
    have : (inB t.days 1 31 && inB t.gap 0 8) = true := badN_good (t := t) (j := 1) (by omega)
    simp only [Bool.and_eq_true] at this; exact this.2
  have hf : fOk step start t.gap l = true := fOk_iff.2 ⟨hm, hgap⟩
  have hf' : fOk step start t.gap (l.take n) = true := fOk_iff.2 ⟨hm', hgap⟩
  have hr : Fil.rows l t.gap 0 = -1 := by
    unfold fE at hfe
    rw [hf, if_pos rfl] at hfe
    by_cases q : Fil.rows l t.gap 0 = -1
    · exact q
    · rw [if_neg q] at hfe; omega
  have hFL : fL step start t.gap l = Fil.fl l l.length := (f_yes hf hr).2.2
  rw [hFL, Fil.fl_len] at hokc
  have hb : ¬ badN t < 13 := by omega
  by_cases hr' : Fil.rows (l.take n) t.gap 0 = -1
  · right
    obtain ⟨g1, g2, g3⟩ := f_yes hf' hr'
    rw [hl] at g3
    obtain ⟨p1, p2, p3⟩ := pp_yes (t := t) (step := step) (start := start) (l := Fil.fl (l.take n) n) (fun j hj => hokc j (by rw [Fil.fl_len] at hj; omega))
    have hE : spE t step start (l.take n) = 0 := by
      unfold spE; rw [hm', if_pos rfl, if_neg hb, if_pos g1, g3]; exact p1.symm
    obtain ⟨_, _, _, _, hsl'⟩ := sp_ok hE
    rw [g3] at hsl'
    rw [hFL] at hsl
    have hv : ∀ i, i < n → Fil.vAt (Fil.fl (l.take n) n) i = Fil.vAt (Fil.fl l l.length) i := fun i hi => by
      rw [Fil.vAt_some (Fil.fl_get hi), Fil.vAt_some (Fil.fl_get (show i < l.length by omega)), Fil.fv_take hn hr' hi]
    have hrun : runP t step start (Fil.fl (l.take n) n) n = runP t step start (Fil.fl l l.length) n := runP_take n hv
    have hpre := run_pre (t := t) (step := step) (start := start) (l := Fil.fl l l.length) (days_ok hb13).1 n (l.length - n)
    rw [show n + (l.length - n) = l.length by omega] at hpre
    rw [hsl, hsl']
    unfold perL
    rw [Fil.fl_len, Fil.fl_len, hrun]
    obtain ⟨s, hs⟩ : ∃ s, s = runP t step start (Fil.fl l l.length) n := ⟨_, rfl⟩
    obtain ⟨s2, hs2⟩ : ∃ s, s = runP t step start (Fil.fl l l.length) l.length := ⟨_, rfl⟩
    rw [← hs, ← hs2] at hpre ⊢
    obtain ⟨r, hr2⟩ := hpre
    refine ⟨hE, ?_, fun c hc => ?_⟩
    · rw [← hr2]; simp
    · rw [List.length_append, List.length_singleton] at hc
      refine Bil.lnR_eq c fun j hj => ?_
      have a1 : (s.dn ++ [s.p])[j]? = s.dn[j]? := List.getElem?_append_left (by omega)
      have a2 : (s2.dn ++ [s2.p])[j]? = s.dn[j]? := by
        rw [List.getElem?_append_left (by rw [← hr2, List.length_append]; omega), ← hr2, List.getElem?_append_left (by omega)]
      unfold Bil.pAt
      rw [List.getD_eq_getElem?_getD, List.getD_eq_getElem?_getD, a1, a2]
  · left
    refine ⟨?_, ?_⟩
    · obtain ⟨g1, g2, g3⟩ := f_gap hf' hr'
      unfold spE; rw [hm', if_pos rfl, if_neg hb, if_neg (by omega), g1]
    · cases q : Fil.mAt l (n - 1)
      · exact absurd (Fil.rows_take hn1 hn q _ 0 (Nat.le_refl _) hr) hr'
      · rfl
end Go.Proofs.Ytjaffmmocbplaab

namespace Go.Proofs.Ytjaffmmocbplaab.earlier
open Go.RowKit Bil
set_option linter.unusedVariables false
attribute [local go_sem ↓] Go.wp_at_zero Go.wp_at_succ

theorem yields_row {P : Program} {ops : Array Oper} {S : World → Prop} {op : Oper} {a : Act} (hw : Region.wanted op (yielded ops a.tmps) = true) (ty : TypeId) (x : Operand) (ho : op.op = .load ty x)
    (g : Nat) (hx : a.eval x = .pointer (some ⟨g, 0, none⟩)) (cs : Array Value) (t : TypeId) (fr : Nat × Nat) (d : TypeDesc) (hS : ∀ w, S w → w.heap[g]? = some (.cells cs t fr))
    (hu : P.underlying ty = some d) (hd : (match d with | .struct _ | .array _ _ => true | _ => false) = true) (hi : (P.info? ty).map (·.size) = some cs.size) : YieldsIf P ops S op (.agg cs) a :=
  .inl ⟨hw, fun w hw' => by
    unfold execOp
    simp only [ho, hx, Instr.loadAt, Instr.sureAddr, Sem.run_bind, Sem.run_pure, Result.andThen_ok, run_loadVar_row w g t ty cs fr d (hS w hw') hu hd hi]⟩
theorem VRow_take {w : World} {a : Option Addr} {n cap : Nat} {l : List Txt.Val} (h : VRow w (.slice a n cap) l) {k : Nat} (hk : k ≤ l.length) : VRow w (.slice a k cap) (l.take k) := by
  have hl := Fil.take_len hk
  obtain ⟨a', cap', hv, h⟩ := h
  cases hv
  refine ⟨a, cap, by rw [hl], ?_⟩
  rcases h with rfl | ⟨b, off, rfl, hc, h⟩
  · left; simp
  · refine .inr ⟨b, off, rfl, by omega, fun i x hx => h i x ?_⟩
    have hi : i < k := by
      rcases Nat.lt_or_ge i k with q | q
      · exact q
      · rw [List.getElem?_eq_none (by omega)] at hx; cases hx
    rw [List.getElem?_take_of_lt hi] at hx; exact hx
theorem LRow_take {w : World} {a : Option Addr} {n cap : Nat} {l : List Ln} (h : LRow w (.slice a n cap) l) {k : Nat} (hk : k ≤ l.length) : LRow w (.slice a k cap) (l.take k) := by
  have hl : (l.take k).length = k := by rw [List.length_take]; omega
  obtain ⟨a', cap', hv, h⟩ := h
  cases hv
  refine ⟨a, cap, by rw [hl], ?_⟩
  rcases h with rfl | ⟨b, rfl, hc, hlt, h⟩
  · left; simp
  · refine .inr ⟨b, rfl, by omega, hlt, fun i x hx => h i x ?_⟩
    have hi : i < k := by
      rcases Nat.lt_or_ge i k with q | q
      · exact q
      · rw [List.getElem?_eq_none (by omega)] at hx; cases hx
    rw [List.getElem?_take_of_lt hi] at hx; exact hx

set_option maxRecDepth 1000000 in
set_option maxHeartbeats 2000000 in
theorem walk_out (t : Trf) (step start : Int) (v : Value) (l : List Txt.Val) (n : Int) (w : World) (h : VRow w v l) (hn : n < 1 ∨ (l.length : Int) < n) :
    Calls Try.prog 10 #[.agg #[.int .i64 step, .int .i64 start, v], .agg #[.int .i64 t.z.off, .int .i64 t.z.f.m, .int .i64 t.z.f.w, .int .i64 t.z.f.d, .int .i64 t.z.f.h, .int .i64 t.z.t.m, .int .i64 t.z.t.w, .int .i64 t.z.t.d, .int .i64 t.z.t.h, .int .i64 t.days, .int .i64 t.gap, .int .i64 t.first, .int .i64 t.last, .string t.h0, .string t.h1, .string t.h2, .string t.h3, .int .i64 t.b0.x, .int .i64 t.b0.y, .int .i64 t.b0.z, .int .i64 t.b1.x, .int .i64 t.b1.y, .int .i64 t.b1.z, .int .i64 t.b2.x, .int .i64 t.b2.y, .int .i64 t.b2.z, .int .i64 t.d.x, .int .i64 t.d.y, .int .i64 t.d.z, .int .i64 t.np, .int .i64 t.nn, .int .i64 t.fix, .int .i64 t.min, .int .i64 t.tax], .int .i64 n] w fun e w' => e = .returned (.bool true) ∧ Below w.heap.size w w' := by
  obtain ⟨a, cap, rfl⟩ := h.form
  clear h
  by_cases h1 : n < 1
  · go_enter Try.func10, Try.ntmps10
    go_wp2_with fail
    go_ret
    exact ⟨rfl, below_more (below_more (Below.refl _ _) _) _⟩
  · have h2 : (l.length : Int) < n := by omega
    clear hn
    go_enter Try.func10, Try.ntmps10
    go_wp2_with fail
    go_ret
    exact ⟨rfl, below_more (below_more (Below.refl _ _) _) _⟩

set_option maxRecDepth 1000000 in
set_option maxHeartbeats 2000000 in
theorem walk_no (t : Trf) (step start : Int) (b off cap : Nat) (l : List Txt.Val) (K : Nat) (w : World) (h : VRow w (.slice (some ⟨b, off, none⟩) l.length cap) l) (hK : K + 1 ≤ l.length) (s0 : t.h0.size ≤ maxLen) (s1 : t.h1.size ≤ maxLen) (s2 : t.h2.size ≤ maxLen) (s3 : t.h3.size ≤ maxLen) (hne : ¬ spE t step start l = 0) :
    Calls Try.prog 10 #[.agg #[.int .i64 step, .int .i64 start, .slice (some ⟨b, off, none⟩) l.length cap], .agg #[.int .i64 t.z.off, .int .i64 t.z.f.m, .int .i64 t.z.f.w, .int .i64 t.z.f.d, .int .i64 t.z.f.h, .int .i64 t.z.t.m, .int .i64 t.z.t.w, .int .i64 t.z.t.d, .int .i64 t.z.t.h, .int .i64 t.days, .int .i64 t.gap, .int .i64 t.first, .int .i64 t.last, .string t.h0, .string t.h1, .string t.h2, .string t.h3, .int .i64 t.b0.x, .int .i64 t.b0.y, .int .i64 t.b0.z, .int .i64 t.b1.x, .int .i64 t.b1.y, .int .i64 t.b1.z, .int .i64 t.b2.x, .int .i64 t.b2.y, .int .i64 t.b2.z, .int .i64 t.d.x, .int .i64 t.d.y, .int .i64 t.d.z, .int .i64 t.np, .int .i64 t.nn, .int .i64 t.fix, .int .i64 t.min, .int .i64 t.tax], .int .i64 ((K : Int) + 1)] w fun e w' => e = .returned (.bool true) ∧ Below w.heap.size w w' := by
  have bn := fun w1 (hb : Below w.heap.size w w1) => Bill_no t step start _ l w1 (h.below hb) s0 s1 s2 s3 hne
  obtain ⟨E, hE⟩ : ∃ E, E = spE t step start l := ⟨_, rfl⟩
  obtain ⟨A, hA⟩ : ∃ A, A = spA t step start l := ⟨_, rfl⟩
  rw [← hE, ← hA] at bn
  rw [← hE] at hne
  have hEB : (E != 0) = true := by simpa using hne
  have B0 : Below w.heap.size w ((w.alloc (.cells #[.int .i64 step, .int .i64 start, .slice (some ⟨b, off, none⟩) l.length cap] 24)).alloc (.cells #[.int .i64 t.z.off, .int .i64 t.z.f.m, .int .i64 t.z.f.w, .int .i64 t.z.f.d, .int .i64 t.z.f.h, .int .i64 t.z.t.m, .int .i64 t.z.t.w, .int .i64 t.z.t.d, .int .i64 t.z.t.h, .int .i64 t.days, .int .i64 t.gap, .int .i64 t.first, .int .i64 t.last, .string t.h0, .string t.h1, .string t.h2, .string t.h3, .int .i64 t.b0.x, .int .i64 t.b0.y, .int .i64 t.b0.z, .int .i64 t.b1.x, .int .i64 t.b1.y, .int .i64 t.b1.z, .int .i64 t.b2.x, .int .i64 t.b2.y, .int .i64 t.b2.z, .int .i64 t.d.x, .int .i64 t.d.y, .int .i64 t.d.z, .int .i64 t.np, .int .i64 t.nn, .int .i64 t.fix, .int .i64 t.min, .int .i64 t.tax] 38)) := below_more (below_more (Below.refl _ _) _) _
  have MT : ((w.alloc (.cells #[.int .i64 step, .int .i64 start, .slice (some ⟨b, off, none⟩) l.length cap] 24)).alloc (.cells #[.int .i64 t.z.off, .int .i64 t.z.f.m, .int .i64 t.z.f.w, .int .i64 t.z.f.d, .int .i64 t.z.f.h, .int .i64 t.z.t.m, .int .i64 t.z.t.w, .int .i64 t.z.t.d, .int .i64 t.z.t.h, .int .i64 t.days, .int .i64 t.gap, .int .i64 t.first, .int .i64 t.last, .string t.h0, .string t.h1, .string t.h2, .string t.h3, .int .i64 t.b0.x, .int .i64 t.b0.y, .int .i64 t.b0.z, .int .i64 t.b1.x, .int .i64 t.b1.y, .int .i64 t.b1.z, .int .i64 t.b2.x, .int .i64 t.b2.y, .int .i64 t.b2.z, .int .i64 t.d.x, .int .i64 t.d.y, .int .i64 t.d.z, .int .i64 t.np, .int .i64 t.nn, .int .i64 t.fix, .int .i64 t.min, .int .i64 t.tax] 38)).heap[w.heap.size + 1]? = some (.cells #[.int .i64 t.z.off, .int .i64 t.z.f.m, .int .i64 t.z.f.w, .int .i64 t.z.f.d, .int .i64 t.z.f.h, .int .i64 t.z.t.m, .int .i64 t.z.t.w, .int .i64 t.z.t.d, .int .i64 t.z.t.h, .int .i64 t.days, .int .i64 t.gap, .int .i64 t.first, .int .i64 t.last, .string t.h0, .string t.h1, .string t.h2, .string t.h3, .int .i64 t.b0.x, .int .i64 t.b0.y, .int .i64 t.b0.z, .int .i64 t.b1.x, .int .i64 t.b1.y, .int .i64 t.b1.z, .int .i64 t.b2.x, .int .i64 t.b2.y, .int .i64 t.b2.z, .int .i64 t.d.x, .int .i64 t.d.y, .int .i64 t.d.z, .int .i64 t.np, .int .i64 t.nn, .int .i64 t.fix, .int .i64 t.min, .int .i64 t.tax] 38) := heap_alloc2_new _ _ _
  have MM : ((w.alloc (.cells #[.int .i64 step, .int .i64 start, .slice (some ⟨b, off, none⟩) l.length cap] 24)).alloc (.cells #[.int .i64 t.z.off, .int .i64 t.z.f.m, .int .i64 t.z.f.w, .int .i64 t.z.f.d, .int .i64 t.z.f.h, .int .i64 t.z.t.m, .int .i64 t.z.t.w, .int .i64 t.z.t.d, .int .i64 t.z.t.h, .int .i64 t.days, .int .i64 t.gap, .int .i64 t.first, .int .i64 t.last, .string t.h0, .string t.h1, .string t.h2, .string t.h3, .int .i64 t.b0.x, .int .i64 t.b0.y, .int .i64 t.b0.z, .int .i64 t.b1.x, .int .i64 t.b1.y, .int .i64 t.b1.z, .int .i64 t.b2.x, .int .i64 t.b2.y, .int .i64 t.b2.z, .int .i64 t.d.x, .int .i64 t.d.y, .int .i64 t.d.z, .int .i64 t.np, .int .i64 t.nn, .int .i64 t.fix, .int .i64 t.min, .int .i64 t.tax] 38)).heap[w.heap.size]? = some (.cells #[.int .i64 step, .int .i64 start, .slice (some ⟨b, off, none⟩) l.length cap] 24) := (heap_alloc_old _ _ (by simp)).trans (heap_alloc_new _ _)
  have k1 : ¬ (K : Int) + 1 < 1 := by omega
  have k2 : ¬ (l.length : Int) < (K : Int) + 1 := by omega
  clear hE hA hne h MM
  go_enter Try.func10, Try.ntmps10
  go_wp2_with (first
    | (with_reducible show wpList _ _ _ _ _ ((w.alloc (.cells #[.int .i64 step, .int .i64 start, .slice (some ⟨b, off, none⟩) l.length cap] 24)).alloc (.cells #[.int .i64 t.z.off, .int .i64 t.z.f.m, .int .i64 t.z.f.w, .int .i64 t.z.f.d, .int .i64 t.z.f.h, .int .i64 t.z.t.m, .int .i64 t.z.t.w, .int .i64 t.z.t.d, .int .i64 t.z.t.h, .int .i64 t.days, .int .i64 t.gap, .int .i64 t.first, .int .i64 t.last, .string t.h0, .string t.h1, .string t.h2, .string t.h3, .int .i64 t.b0.x, .int .i64 t.b0.y, .int .i64 t.b0.z, .int .i64 t.b1.x, .int .i64 t.b1.y, .int .i64 t.b1.z, .int .i64 t.b2.x, .int .i64 t.b2.y, .int .i64 t.b2.z, .int .i64 t.d.x, .int .i64 t.d.y, .int .i64 t.d.z, .int .i64 t.np, .int .i64 t.nn, .int .i64 t.fix, .int .i64 t.min, .int .i64 t.tax] 38)); refine wpList_load_row rfl 38 _ rfl (w.heap.size + 1) rfl 38 _ (0, 0) _ MT Try.underlying38 rfl (by kernel_rfl) ?_)
    | (go_at_call 19; refine (bn _ B0).mono ?_; rintro e w1 ⟨rfl, hb1⟩)
    | (go_at_call 16; refine (num_any _ _).mono ?_; rintro e w7 ⟨rfl, h7⟩; have h8 := h7.symm; subst h8))
  go_ret
  exact ⟨rfl, below_then B0 hb1⟩

set_option maxRecDepth 1000000 in
set_option maxHeartbeats 2000000 in
theorem walk_gap (t : Trf) (step start : Int) (b off cap : Nat) (l : List Txt.Val) (K : Nat) (w : World) (h : VRow w (.slice (some ⟨b, off, none⟩) l.length cap) l) (hK : K + 1 ≤ l.length) (s0 : t.h0.size ≤ maxLen) (s1 : t.h1.size ≤ maxLen) (s2 : t.h2.size ≤ maxLen) (s3 : t.h3.size ≤ maxLen) (hz : spE t step start l = 0) (h6 : spE t step start (l.take (K + 1)) = 6) (hm : Fil.mAt l K = true) :
    Calls Try.prog 10 #[.agg #[.int .i64 step, .int .i64 start, .slice (some ⟨b, off, none⟩) l.length cap], .agg #[.int .i64 t.z.off, .int .i64 t.z.f.m, .int .i64 t.z.f.w, .int .i64 t.z.f.d, .int .i64 t.z.f.h, .int .i64 t.z.t.m, .int .i64 t.z.t.w, .int .i64 t.z.t.d, .int .i64 t.z.t.h, .int .i64 t.days, .int .i64 t.gap, .int .i64 t.first, .int .i64 t.last, .string t.h0, .string t.h1, .string t.h2, .string t.h3, .int .i64 t.b0.x, .int .i64 t.b0.y, .int .i64 t.b0.z, .int .i64 t.b1.x, .int .i64 t.b1.y, .int .i64 t.b1.z, .int .i64 t.b2.x, .int .i64 t.b2.y, .int .i64 t.b2.z, .int .i64 t.d.x, .int .i64 t.d.y, .int .i64 t.d.z, .int .i64 t.np, .int .i64 t.nn, .int .i64 t.fix, .int .i64 t.min, .int .i64 t.tax], .int .i64 ((K : Int) + 1)] w fun e w' => e = .returned (.bool true) ∧ Below w.heap.size w w' := by
  have hl200 : l.length ≤ 200 := (meterB_fit (sp_ok hz).1).2.1
  have bn := fun w1 (hb : Below w.heap.size w w1) => Bill_yes t step start _ l w1 (h.below hb) s0 s1 s2 s3 hz
  have ok := bok hz
  have hT : ∀ w1, Below w.heap.size w w1 → VRow w1 (.slice (some ⟨b, off, none⟩) (K + 1) cap) (l.take (K + 1)) := fun w1 hb => VRow_take (h.below hb) hK
  have hcap : l.length ≤ cap := by
    obtain ⟨b', off', e, hc, _⟩ := h.at (Fil.get_ex (show K < l.length by omega))
    exact hc
  have hcap1 : (K : Int) + 1 ≤ (cap : Int) := by omega
  have hcap2 : (l.length : Int) ≤ (cap : Int) := by omega
  have hc2 := fun w1 (hb : Below w.heap.size w w1) => ((h.below hb).at (Fil.get_ex (show K < l.length by omega)))
  have hxm : (Fil.vAt l K).m = true := by rw [← Fil.mAt_v (by omega)]; exact hm
  rw [hxm] at hc2
  have bg := fun w1 (hb : Below w.heap.size w w1) => Bill_no t step start _ (l.take (K + 1)) w1 (hT w1 hb) s0 s1 s2 s3 (by omega)
  rw [h6] at bg
  obtain ⟨A, hA⟩ : ∃ A, A = spA t step start (l.take (K + 1)) := ⟨_, rfl⟩
  rw [← hA] at bg
  have hpn : 0 < (spL t step start l).length := by have := ok.n; omega
  have B0 : Below w.heap.size w ((w.alloc (.cells #[.int .i64 step, .int .i64 start, .slice (some ⟨b, off, none⟩) l.length cap] 24)).alloc (.cells #[.int .i64 t.z.off, .int .i64 t.z.f.m, .int .i64 t.z.f.w, .int .i64 t.z.f.d, .int .i64 t.z.f.h, .int .i64 t.z.t.m, .int .i64 t.z.t.w, .int .i64 t.z.t.d, .int .i64 t.z.t.h, .int .i64 t.days, .int .i64 t.gap, .int .i64 t.first, .int .i64 t.last, .string t.h0, .string t.h1, .string t.h2, .string t.h3, .int .i64 t.b0.x, .int .i64 t.b0.y, .int .i64 t.b0.z, .int .i64 t.b1.x, .int .i64 t.b1.y, .int .i64 t.b1.z, .int .i64 t.b2.x, .int .i64 t.b2.y, .int .i64 t.b2.z, .int .i64 t.d.x, .int .i64 t.d.y, .int .i64 t.d.z, .int .i64 t.np, .int .i64 t.nn, .int .i64 t.fix, .int .i64 t.min, .int .i64 t.tax] 38)) := below_more (below_more (Below.refl _ _) _) _
  have MT : ((w.alloc (.cells #[.int .i64 step, .int .i64 start, .slice (some ⟨b, off, none⟩) l.length cap] 24)).alloc (.cells #[.int .i64 t.z.off, .int .i64 t.z.f.m, .int .i64 t.z.f.w, .int .i64 t.z.f.d, .int .i64 t.z.f.h, .int .i64 t.z.t.m, .int .i64 t.z.t.w, .int .i64 t.z.t.d, .int .i64 t.z.t.h, .int .i64 t.days, .int .i64 t.gap, .int .i64 t.first, .int .i64 t.last, .string t.h0, .string t.h1, .string t.h2, .string t.h3, .int .i64 t.b0.x, .int .i64 t.b0.y, .int .i64 t.b0.z, .int .i64 t.b1.x, .int .i64 t.b1.y, .int .i64 t.b1.z, .int .i64 t.b2.x, .int .i64 t.b2.y, .int .i64 t.b2.z, .int .i64 t.d.x, .int .i64 t.d.y, .int .i64 t.d.z, .int .i64 t.np, .int .i64 t.nn, .int .i64 t.fix, .int .i64 t.min, .int .i64 t.tax] 38)).heap[w.heap.size + 1]? = some (.cells #[.int .i64 t.z.off, .int .i64 t.z.f.m, .int .i64 t.z.f.w, .int .i64 t.z.f.d, .int .i64 t.z.f.h, .int .i64 t.z.t.m, .int .i64 t.z.t.w, .int .i64 t.z.t.d, .int .i64 t.z.t.h, .int .i64 t.days, .int .i64 t.gap, .int .i64 t.first, .int .i64 t.last, .string t.h0, .string t.h1, .string t.h2, .string t.h3, .int .i64 t.b0.x, .int .i64 t.b0.y, .int .i64 t.b0.z, .int .i64 t.b1.x, .int .i64 t.b1.y, .int .i64 t.b1.z, .int .i64 t.b2.x, .int .i64 t.b2.y, .int .i64 t.b2.z, .int .i64 t.d.x, .int .i64 t.d.y, .int .i64 t.d.z, .int .i64 t.np, .int .i64 t.nn, .int .i64 t.fix, .int .i64 t.min, .int .i64 t.tax] 38) := heap_alloc2_new _ _ _
  have MM : ((w.alloc (.cells #[.int .i64 step, .int .i64 start, .slice (some ⟨b, off, none⟩) l.length cap] 24)).alloc (.cells #[.int .i64 t.z.off, .int .i64 t.z.f.m, .int .i64 t.z.f.w, .int .i64 t.z.f.d, .int .i64 t.z.f.h, .int .i64 t.z.t.m, .int .i64 t.z.t.w, .int .i64 t.z.t.d, .int .i64 t.z.t.h, .int .i64 t.days, .int .i64 t.gap, .int .i64 t.first, .int .i64 t.last, .string t.h0, .string t.h1, .string t.h2, .string t.h3, .int .i64 t.b0.x, .int .i64 t.b0.y, .int .i64 t.b0.z, .int .i64 t.b1.x, .int .i64 t.b1.y, .int .i64 t.b1.z, .int .i64 t.b2.x, .int .i64 t.b2.y, .int .i64 t.b2.z, .int .i64 t.d.x, .int .i64 t.d.y, .int .i64 t.d.z, .int .i64 t.np, .int .i64 t.nn, .int .i64 t.fix, .int .i64 t.min, .int .i64 t.tax] 38)).heap[w.heap.size]? = some (.cells #[.int .i64 step, .int .i64 start, .slice (some ⟨b, off, none⟩) l.length cap] 24) := (heap_alloc_old _ _ (by simp)).trans (heap_alloc_new _ _)
  have k1 : ¬ (K : Int) + 1 < 1 := by omega
  have k2 : ¬ (l.length : Int) < (K : Int) + 1 := by omega
  obtain ⟨ps, hps⟩ : ∃ ps, ps = spL t step start l := ⟨_, rfl⟩
  rw [← hps] at bn hpn
  clear hps hz ok h6 hm hxm hA h hT
  go_enter Try.func10, Try.ntmps10
  go_wp2_with (first
    | (with_reducible show wpList _ _ _ _ _ ((w.alloc (.cells #[.int .i64 step, .int .i64 start, .slice (some ⟨b, off, none⟩) l.length cap] 24)).alloc (.cells #[.int .i64 t.z.off, .int .i64 t.z.f.m, .int .i64 t.z.f.w, .int .i64 t.z.f.d, .int .i64 t.z.f.h, .int .i64 t.z.t.m, .int .i64 t.z.t.w, .int .i64 t.z.t.d, .int .i64 t.z.t.h, .int .i64 t.days, .int .i64 t.gap, .int .i64 t.first, .int .i64 t.last, .string t.h0, .string t.h1, .string t.h2, .string t.h3, .int .i64 t.b0.x, .int .i64 t.b0.y, .int .i64 t.b0.z, .int .i64 t.b1.x, .int .i64 t.b1.y, .int .i64 t.b1.z, .int .i64 t.b2.x, .int .i64 t.b2.y, .int .i64 t.b2.z, .int .i64 t.d.x, .int .i64 t.d.y, .int .i64 t.d.z, .int .i64 t.np, .int .i64 t.nn, .int .i64 t.fix, .int .i64 t.min, .int .i64 t.tax] 38)); refine wpList_load_row rfl 38 _ rfl (w.heap.size + 1) rfl 38 _ (0, 0) _ MT Try.underlying38 rfl (by kernel_rfl) ?_)
    | (go_at_call 19; refine (bn _ B0).mono ?_; rintro e w1 ⟨v1, rfl, own1, hb1⟩; obtain ⟨g1, cap1, rfl, hg1, hg1l⟩ := own1.form hpn; clear bn)
    | (go_at_call 16; refine (num_any _ _).mono ?_; rintro e w7 ⟨rfl, h7⟩; have h8 := h7.symm; subst h8))
  have hs1 : w.heap.size + 2 ≤ w1.heap.size := by have := hb1.size; simp at this; omega
  have HMr := hideF ((hb1.block w.heap.size (by simp; omega)).trans MM)
  have HTr := hideF ((hb1.block (w.heap.size + 1) (by simp)).trans MT)
  have BW := below_then B0 hb1
  clear MM MT B0
  go_wp2_with fail
  refine wp_region_held_drew (S := (fun w' => w'.heap[w.heap.size]? = some (.cells #[.int .i64 step, .int .i64 start, .slice (some ⟨b, off, none⟩) l.length cap] 24 (0, 0)) ∧ w'.heap[w.heap.size + 1]? = some (.cells #[.int .i64 t.z.off, .int .i64 t.z.f.m, .int .i64 t.z.f.w, .int .i64 t.z.f.d, .int .i64 t.z.f.h, .int .i64 t.z.t.m, .int .i64 t.z.t.w, .int .i64 t.z.t.d, .int .i64 t.z.t.h, .int .i64 t.days, .int .i64 t.gap, .int .i64 t.first, .int .i64 t.last, .string t.h0, .string t.h1, .string t.h2, .string t.h3, .int .i64 t.b0.x, .int .i64 t.b0.y, .int .i64 t.b0.z, .int .i64 t.b1.x, .int .i64 t.b1.y, .int .i64 t.b1.z, .int .i64 t.b2.x, .int .i64 t.b2.y, .int .i64 t.b2.z, .int .i64 t.d.x, .int .i64 t.d.y, .int .i64 t.d.z, .int .i64 t.np, .int .i64 t.nn, .int .i64 t.fix, .int .i64 t.min, .int .i64 t.tax] 38 (0, 0)))) (by kernel_rfl) ?_ (fun hH0 => ?_)
  · exact ⟨HMr.out, HTr.out⟩
  refine wpAnyH_take (i := 0) (oi := { dst := some 37, op := Go.Op.fieldAddr 24 (Go.Operand.tmp 3) 0, type := 0, pos := "outright.go:299", after := #[], guard := none }) (v := .pointer (some ⟨w.heap.size, 0, none⟩)) rfl (by kernel_rfl) (by kernel_rfl) (by kernel_rfl) (fun _ _ _ h => h) (Or.inl ⟨by rfl, ?_⟩) (by assumption) ?_
  · intro w9 hSw
    go_simp
  try simp only [Act.put, List.setIfInBounds_toArray, List.set_cons_zero, List.set_cons_succ]
  refine wpAnyH_take (i := 1) (oi := { dst := some 38, op := Go.Op.load 3 (Go.Operand.tmp 37), type := 3, pos := "outright.go:299", after := #[{ on := 0, ground := Go.Ground.data }], guard := none }) (v := .int .i64 step) rfl (by kernel_rfl) (by kernel_rfl) (by kernel_rfl) (fun _ _ _ h => h) (Or.inl ⟨by rfl, ?_⟩) (by assumption) ?_
  · intro w9 hSw
    have q : w9.cell? ⟨w.heap.size, 0, none⟩ = some (.int .i64 step) := cell_of_row _ _ _ _ _ _ hSw.1; go_simp
  try simp only [Act.put, List.setIfInBounds_toArray, List.set_cons_zero, List.set_cons_succ]
  refine wpAnyH_take (i := 2) (oi := { dst := some 39, op := Go.Op.fieldAddr 24 (Go.Operand.tmp 3) 1, type := 0, pos := "outright.go:299", after := #[], guard := none }) (v := .pointer (some ⟨w.heap.size, 1, none⟩)) rfl (by kernel_rfl) (by kernel_rfl) (by kernel_rfl) (fun _ _ _ h => h) (Or.inl ⟨by rfl, ?_⟩) (by assumption) ?_
  · intro w9 hSw
    go_simp
  try simp only [Act.put, List.setIfInBounds_toArray, List.set_cons_zero, List.set_cons_succ]
  refine wpAnyH_take (i := 3) (oi := { dst := some 40, op := Go.Op.load 3 (Go.Operand.tmp 39), type := 3, pos := "outright.go:299", after := #[{ on := 2, ground := Go.Ground.data }], guard := none }) (v := .int .i64 start) rfl (by kernel_rfl) (by kernel_rfl) (by kernel_rfl) (fun _ _ _ h => h) (Or.inl ⟨by rfl, ?_⟩) (by assumption) ?_
  · intro w9 hSw
    have q : w9.cell? ⟨w.heap.size, 1, none⟩ = some (.int .i64 start) := cell_of_row _ _ _ _ _ _ hSw.1; go_simp
  try simp only [Act.put, List.setIfInBounds_toArray, List.set_cons_zero, List.set_cons_succ]
  refine wpAnyH_take (i := 4) (oi := { dst := some 41, op := Go.Op.fieldAddr 24 (Go.Operand.tmp 3) 2, type := 0, pos := "outright.go:299", after := #[], guard := none }) (v := .pointer (some ⟨w.heap.size, 2, none⟩)) rfl (by kernel_rfl) (by kernel_rfl) (by kernel_rfl) (fun _ _ _ h => h) (Or.inl ⟨by rfl, ?_⟩) (by assumption) ?_
  · intro w9 hSw
    go_simp
  try simp only [Act.put, List.setIfInBounds_toArray, List.set_cons_zero, List.set_cons_succ]
  refine wpAnyH_take (i := 5) (oi := { dst := some 42, op := Go.Op.load 22 (Go.Operand.tmp 41), type := 22, pos := "outright.go:299", after := #[{ on := 4, ground := Go.Ground.data }], guard := none }) (v := (.slice (some ⟨b, off, none⟩) l.length cap)) rfl (by kernel_rfl) (by kernel_rfl) (by kernel_rfl) (fun _ _ _ h => h) (Or.inl ⟨by rfl, ?_⟩) (by assumption) ?_
  · intro w9 hSw
    have q : w9.cell? ⟨w.heap.size, 2, none⟩ = some ((.slice (some ⟨b, off, none⟩) l.length cap)) := cell_of_row _ _ _ _ _ _ hSw.1; go_simp
  try simp only [Act.put, List.setIfInBounds_toArray, List.set_cons_zero, List.set_cons_succ]
  refine wpAnyH_take (i := 6) (oi := { dst := some 43, op := Go.Op.move (Go.Operand.tmp 2), type := 3, pos := "outright.go:299", after := #[], guard := none }) (v := .int .i64 ((K : Int) + 1)) rfl (by kernel_rfl) (by kernel_rfl) (by kernel_rfl) (fun _ _ _ h => h) (Or.inl ⟨by rfl, ?_⟩) (by assumption) ?_
  · intro w9 hSw
    go_simp
  try simp only [Act.put, List.setIfInBounds_toArray, List.set_cons_zero, List.set_cons_succ]
  refine wpAnyH_take (i := 7) (oi := { dst := some 44, op := Go.Op.slice 22 (Go.Operand.tmp 42) none (some (Go.Operand.tmp 43)) none, type := 22, pos := "outright.go:299", after := #[{ on := 5, ground := Go.Ground.data }, { on := 6, ground := Go.Ground.data }], guard := none }) (v := .slice (some ⟨b, off, none⟩) (K + 1) cap) rfl (by kernel_rfl) (by kernel_rfl) (by kernel_rfl) (fun _ _ _ h => h) (Or.inl ⟨by rfl, ?_⟩) (by assumption) ?_
  · intro w9 hSw
    go_simp; intro q; omega
  try simp only [Act.put, List.setIfInBounds_toArray, List.set_cons_zero, List.set_cons_succ]
  refine wpAnyH_take (i := 8) (oi := { dst := some 45, op := Go.Op.build 24 #[(0, Go.Operand.tmp 38), (1, Go.Operand.tmp 40), (2, Go.Operand.tmp 44)], type := 24, pos := "outright.go:299", after := #[{ on := 1, ground := Go.Ground.data }, { on := 3, ground := Go.Ground.data }, { on := 7, ground := Go.Ground.data }], guard := none }) (v := .agg #[.int .i64 step, .int .i64 start, .slice (some ⟨b, off, none⟩) (K + 1) cap]) rfl (by kernel_rfl) (by kernel_rfl) (by kernel_rfl) (fun _ _ _ h => h) (Or.inl ⟨by rfl, ?_⟩) (by assumption) ?_
  · intro w9 hSw
    go_simp
  try simp only [Act.put, List.setIfInBounds_toArray, List.set_cons_zero, List.set_cons_succ]
  refine wpAnyH_take (i := 9) (oi := { dst := some 46, op := Go.Op.load 38 (Go.Operand.tmp 4), type := 38, pos := "outright.go:299", after := #[], guard := none }) (v := .agg #[.int .i64 t.z.off, .int .i64 t.z.f.m, .int .i64 t.z.f.w, .int .i64 t.z.f.d, .int .i64 t.z.f.h, .int .i64 t.z.t.m, .int .i64 t.z.t.w, .int .i64 t.z.t.d, .int .i64 t.z.t.h, .int .i64 t.days, .int .i64 t.gap, .int .i64 t.first, .int .i64 t.last, .string t.h0, .string t.h1, .string t.h2, .string t.h3, .int .i64 t.b0.x, .int .i64 t.b0.y, .int .i64 t.b0.z, .int .i64 t.b1.x, .int .i64 t.b1.y, .int .i64 t.b1.z, .int .i64 t.b2.x, .int .i64 t.b2.y, .int .i64 t.b2.z, .int .i64 t.d.x, .int .i64 t.d.y, .int .i64 t.d.z, .int .i64 t.np, .int .i64 t.nn, .int .i64 t.fix, .int .i64 t.min, .int .i64 t.tax]) rfl (by kernel_rfl) (by kernel_rfl) (by kernel_rfl) (fun _ _ _ h => h) (yields_row (by rfl) 38 _ rfl (w.heap.size + 1) rfl _ 38 (0, 0) _ (fun w9 hSw => hSw.2) Try.underlying38 rfl (by kernel_rfl)) (by assumption) ?_
  try simp only [Act.put, List.setIfInBounds_toArray, List.set_cons_zero, List.set_cons_succ]
  refine wpAnyH_ready (rs := [10]) (by kernel_rfl) (by simp) ?_
  refine AllReadyH.cons (o := { dst := some 47, op := Go.Op.call { callee := Go.Callee.value (Go.Operand.func 19), args := #[Go.Operand.tmp 45, Go.Operand.tmp 46], argTypes := #[24, 38] }, type := 72, pos := "outright.go:299", after := #[{ on := 8, ground := Go.Ground.data }, { on := 9, ground := Go.Ground.data }], guard := none }) rfl (fun K hK => ?_) AllReadyH.nil
  go_simp
  refine (bg _ (Below.drew BW)).mono ?_
  rintro e w3 ⟨rfl, hb3'⟩
  have hb3 : Below w1.heap.size w1 w3 := below_then (Below.drew (Below.refl _ _)) hb3'
  clear hb3'
  go_wp2_with fail
  refine hK.out _ _ ⟨(hb3.block _ (by omega)).trans HMr.out, (hb3.block _ (by omega)).trans HTr.out⟩ (fun hH1 => ?_)
  clear hK K
  try simp only [Act.put, List.setIfInBounds_toArray, List.set_cons_zero, List.set_cons_succ]
  refine wpAnyH_take (i := 11) (oi := { dst := some 36, op := Go.Op.move (Go.Operand.tmp 47), type := 72, pos := "outright.go:299", after := #[{ on := 10, ground := Go.Ground.data }], guard := none }) (v := .tuple #[.slice none 0 0, .int .i64 6, .int .i64 A]) rfl (by kernel_rfl) (by kernel_rfl) (by kernel_rfl) (fun _ _ _ h => h) (Or.inl ⟨by rfl, ?_⟩) (by assumption) ?_
  · intro w9 hSw
    go_simp
  try simp only [Act.put, List.setIfInBounds_toArray, List.set_cons_zero, List.set_cons_succ]
  refine wpAnyH_take (i := 12) (oi := { dst := some 48, op := Go.Op.extract (Go.Operand.tmp 36) 0, type := 71, pos := "outright.go:299", after := #[{ on := 11, ground := Go.Ground.data }], guard := none }) (v := .slice none 0 0) rfl (by kernel_rfl) (by kernel_rfl) (by kernel_rfl) (fun _ _ _ h => h) (Or.inl ⟨by rfl, ?_⟩) (by assumption) ?_
  · intro w9 hSw
    go_simp
  try simp only [Act.put, List.setIfInBounds_toArray, List.set_cons_zero, List.set_cons_succ]
  refine wpAnyH_take (i := 13) (oi := { dst := some 49, op := Go.Op.extract (Go.Operand.tmp 36) 1, type := 40, pos := "outright.go:299", after := #[{ on := 11, ground := Go.Ground.data }, { on := 15, ground := Go.Ground.gcOnly Go.Departure.lateStores }], guard := none }) (v := .int .i64 6) rfl (by kernel_rfl) (by kernel_rfl) (by kernel_rfl) (fun _ _ _ h => h) (Or.inl ⟨by rfl, ?_⟩) (by assumption) ?_
  · intro w9 hSw
    go_simp
  try simp only [Act.put, List.setIfInBounds_toArray, List.set_cons_zero, List.set_cons_succ]
  refine wpAnyH_take (i := 14) (oi := { dst := some 50, op := Go.Op.extract (Go.Operand.tmp 36) 2, type := 3, pos := "outright.go:299", after := #[{ on := 11, ground := Go.Ground.data }, { on := 16, ground := Go.Ground.gcOnly Go.Departure.lateStores }], guard := none }) (v := .int .i64 A) rfl (by kernel_rfl) (by kernel_rfl) (by kernel_rfl) (fun _ _ _ h => h) (Or.inl ⟨by rfl, ?_⟩) (by assumption) ?_
  · intro w9 hSw
    go_simp
  try simp only [Act.put, List.setIfInBounds_toArray, List.set_cons_zero, List.set_cons_succ]
  refine wpAnyH_take (i := 15) (oi := { dst := some 10, op := Go.Op.assign (Go.Operand.tmp 48), type := 71, pos := "outright.go:299", after := #[{ on := 12, ground := Go.Ground.data }, { on := 10, ground := Go.Ground.chain }, { on := 0, ground := Go.Ground.phase }, { on := 1, ground := Go.Ground.phase }, { on := 2, ground := Go.Ground.phase }, { on := 3, ground := Go.Ground.phase }, { on := 4, ground := Go.Ground.phase }, { on := 5, ground := Go.Ground.phase }, { on := 6, ground := Go.Ground.phase }, { on := 7, ground := Go.Ground.phase }, { on := 8, ground := Go.Ground.phase }, { on := 9, ground := Go.Ground.phase }, { on := 10, ground := Go.Ground.phase }, { on := 11, ground := Go.Ground.phase }, { on := 12, ground := Go.Ground.phase }, { on := 13, ground := Go.Ground.textOnly Go.Departure.lateStores }, { on := 14, ground := Go.Ground.textOnly Go.Departure.lateStores }], guard := none }) (v := .slice none 0 0) rfl (by kernel_rfl) (by kernel_rfl) (by kernel_rfl) (fun _ _ _ h => h) (Or.inl ⟨by rfl, ?_⟩) (by assumption) ?_
  · intro w9 hSw
    go_simp
  try simp only [Act.put, List.setIfInBounds_toArray, List.set_cons_zero, List.set_cons_succ]
  refine wpAnyH_take (i := 16) (oi := { dst := some 11, op := Go.Op.assign (Go.Operand.tmp 49), type := 40, pos := "outright.go:299", after := #[{ on := 13, ground := Go.Ground.data }, { on := 15, ground := Go.Ground.chain }, { on := 0, ground := Go.Ground.phase }, { on := 1, ground := Go.Ground.phase }, { on := 2, ground := Go.Ground.phase }, { on := 3, ground := Go.Ground.phase }, { on := 4, ground := Go.Ground.phase }, { on := 5, ground := Go.Ground.phase }, { on := 6, ground := Go.Ground.phase }, { on := 7, ground := Go.Ground.phase }, { on := 8, ground := Go.Ground.phase }, { on := 9, ground := Go.Ground.phase }, { on := 10, ground := Go.Ground.phase }, { on := 11, ground := Go.Ground.phase }, { on := 12, ground := Go.Ground.phase }, { on := 13, ground := Go.Ground.phase }, { on := 14, ground := Go.Ground.textOnly Go.Departure.lateStores }, { on := 15, ground := Go.Ground.phase }], guard := none }) (v := .int .i64 6) rfl (by kernel_rfl) (by kernel_rfl) (by kernel_rfl) (fun _ _ _ h => h) (Or.inl ⟨by rfl, ?_⟩) (by assumption) ?_
  · intro w9 hSw
    go_simp
  try simp only [Act.put, List.setIfInBounds_toArray, List.set_cons_zero, List.set_cons_succ]
  refine wpAnyH_take (i := 17) (oi := { dst := some 12, op := Go.Op.assign (Go.Operand.tmp 50), type := 3, pos := "outright.go:299", after := #[{ on := 14, ground := Go.Ground.data }, { on := 16, ground := Go.Ground.chain }, { on := 0, ground := Go.Ground.phase }, { on := 1, ground := Go.Ground.phase }, { on := 2, ground := Go.Ground.phase }, { on := 3, ground := Go.Ground.phase }, { on := 4, ground := Go.Ground.phase }, { on := 5, ground := Go.Ground.phase }, { on := 6, ground := Go.Ground.phase }, { on := 7, ground := Go.Ground.phase }, { on := 8, ground := Go.Ground.phase }, { on := 9, ground := Go.Ground.phase }, { on := 10, ground := Go.Ground.phase }, { on := 11, ground := Go.Ground.phase }, { on := 12, ground := Go.Ground.phase }, { on := 13, ground := Go.Ground.phase }, { on := 14, ground := Go.Ground.phase }, { on := 15, ground := Go.Ground.phase }, { on := 16, ground := Go.Ground.phase }], guard := none }) (v := .int .i64 A) rfl (by kernel_rfl) (by kernel_rfl) (by kernel_rfl) (fun _ _ _ h => h) (Or.inl ⟨by rfl, ?_⟩) (by assumption) ?_
  · intro w9 hSw
    go_simp
  try simp only [Act.put, List.setIfInBounds_toArray, List.set_cons_zero, List.set_cons_succ]
  refine wpAnyH_done (by kernel_rfl) ?_ _
  obtain ⟨b', off', eb, _, hblt, _, _, cm'⟩ := hc2 _ (below_then BW hb3)
  injection eb with eb
  injection eb with eb1 eb2 _
  subst eb1 eb2
  have cm := cm'
  have m2 : w3.cell? ⟨w.heap.size, 2, none⟩ = some (.slice (some ⟨b, off, none⟩) l.length cap) := cell_of_row _ _ _ _ _ _ hH1.1
  have kl1 : (K : Int) < (l.length : Int) := by omega
  have kl0 : (0 : Int) ≤ (K : Int) := by omega
  go_wp2_with (first
    | (go_at_call 16; refine (num_any _ _).mono ?_; rintro e w7 ⟨rfl, h7⟩; have h8 := h7.symm; subst h8))
  go_ret
  exact ⟨rfl, below_then BW hb3⟩

set_option maxRecDepth 1000000 in
set_option maxHeartbeats 2000000 in
theorem walk_yes (t : Trf) (step start : Int) (b off cap : Nat) (l : List Txt.Val) (K : Nat) (w : World) (h : VRow w (.slice (some ⟨b, off, none⟩) l.length cap) l) (hK : K + 1 ≤ l.length) (s0 : t.h0.size ≤ maxLen) (s1 : t.h1.size ≤ maxLen) (s2 : t.h2.size ≤ maxLen) (s3 : t.h3.size ≤ maxLen) (hz : spE t step start l = 0) (hz2 : spE t step start (l.take (K + 1)) = 0) (hle : (spL t step start (l.take (K + 1))).length ≤ (spL t step start l).length)
    (heq : ∀ c, c + 1 ≤ (spL t step start (l.take (K + 1))).length → lnR t (spL t step start (l.take (K + 1))) c = lnR t (spL t step start l) c) :
    Calls Try.prog 10 #[.agg #[.int .i64 step, .int .i64 start, .slice (some ⟨b, off, none⟩) l.length cap], .agg #[.int .i64 t.z.off, .int .i64 t.z.f.m, .int .i64 t.z.f.w, .int .i64 t.z.f.d, .int .i64 t.z.f.h, .int .i64 t.z.t.m, .int .i64 t.z.t.w, .int .i64 t.z.t.d, .int .i64 t.z.t.h, .int .i64 t.days, .int .i64 t.gap, .int .i64 t.first, .int .i64 t.last, .string t.h0, .string t.h1, .string t.h2, .string t.h3, .int .i64 t.b0.x, .int .i64 t.b0.y, .int .i64 t.b0.z, .int .i64 t.b1.x, .int .i64 t.b1.y, .int .i64 t.b1.z, .int .i64 t.b2.x, .int .i64 t.b2.y, .int .i64 t.b2.z, .int .i64 t.d.x, .int .i64 t.d.y, .int .i64 t.d.z, .int .i64 t.np, .int .i64 t.nn, .int .i64 t.fix, .int .i64 t.min, .int .i64 t.tax], .int .i64 ((K : Int) + 1)] w fun e w' => e = .returned (.bool true) ∧ Below w.heap.size w w' := by
  have hl200 : l.length ≤ 200 := (meterB_fit (sp_ok hz).1).2.1
  have bn := fun w1 (hb : Below w.heap.size w w1) => Bill_yes t step start _ l w1 (h.below hb) s0 s1 s2 s3 hz
  have ok := bok hz
  have hT : ∀ w1, Below w.heap.size w w1 → VRow w1 (.slice (some ⟨b, off, none⟩) (K + 1) cap) (l.take (K + 1)) := fun w1 hb => VRow_take (h.below hb) hK
  have hcap : l.length ≤ cap := by
    obtain ⟨b', off', e, hc, _⟩ := h.at (Fil.get_ex (show K < l.length by omega))
    exact hc
  have hcap1 : (K : Int) + 1 ≤ (cap : Int) := by omega
  have hcap2 : (l.length : Int) ≤ (cap : Int) := by omega
  have bg := fun w1 (hb : Below w.heap.size w w1) => Bill_yes t step start _ (l.take (K + 1)) w1 (hT w1 hb) s0 s1 s2 s3 hz2
  have ok2 := bok hz2
  have hpn : 0 < (spL t step start l).length := by have := ok.n; omega
  have hpn2 : 0 < (spL t step start (l.take (K + 1))).length := by have := ok2.n; omega
  have hpm := ok.n.2
  have B0 : Below w.heap.size w ((w.alloc (.cells #[.int .i64 step, .int .i64 start, .slice (some ⟨b, off, none⟩) l.length cap] 24)).alloc (.cells #[.int .i64 t.z.off, .int .i64 t.z.f.m, .int .i64 t.z.f.w, .int .i64 t.z.f.d, .int .i64 t.z.f.h, .int .i64 t.z.t.m, .int .i64 t.z.t.w, .int .i64 t.z.t.d, .int .i64 t.z.t.h, .int .i64 t.days, .int .i64 t.gap, .int .i64 t.first, .int .i64 t.last, .string t.h0, .string t.h1, .string t.h2, .string t.h3, .int .i64 t.b0.x, .int .i64 t.b0.y, .int .i64 t.b0.z, .int .i64 t.b1.x, .int .i64 t.b1.y, .int .i64 t.b1.z, .int .i64 t.b2.x, .int .i64 t.b2.y, .int .i64 t.b2.z, .int .i64 t.d.x, .int .i64 t.d.y, .int .i64 t.d.z, .int .i64 t.np, .int .i64 t.nn, .int .i64 t.fix, .int .i64 t.min, .int .i64 t.tax] 38)) := below_more (below_more (Below.refl _ _) _) _
  have MT : ((w.alloc (.cells #[.int .i64 step, .int .i64 start, .slice (some ⟨b, off, none⟩) l.length cap] 24)).alloc (.cells #[.int .i64 t.z.off, .int .i64 t.z.f.m, .int .i64 t.z.f.w, .int .i64 t.z.f.d, .int .i64 t.z.f.h, .int .i64 t.z.t.m, .int .i64 t.z.t.w, .int .i64 t.z.t.d, .int .i64 t.z.t.h, .int .i64 t.days, .int .i64 t.gap, .int .i64 t.first, .int .i64 t.last, .string t.h0, .string t.h1, .string t.h2, .string t.h3, .int .i64 t.b0.x, .int .i64 t.b0.y, .int .i64 t.b0.z, .int .i64 t.b1.x, .int .i64 t.b1.y, .int .i64 t.b1.z, .int .i64 t.b2.x, .int .i64 t.b2.y, .int .i64 t.b2.z, .int .i64 t.d.x, .int .i64 t.d.y, .int .i64 t.d.z, .int .i64 t.np, .int .i64 t.nn, .int .i64 t.fix, .int .i64 t.min, .int .i64 t.tax] 38)).heap[w.heap.size + 1]? = some (.cells #[.int .i64 t.z.off, .int .i64 t.z.f.m, .int .i64 t.z.f.w, .int .i64 t.z.f.d, .int .i64 t.z.f.h, .int .i64 t.z.t.m, .int .i64 t.z.t.w, .int .i64 t.z.t.d, .int .i64 t.z.t.h, .int .i64 t.days, .int .i64 t.gap, .int .i64 t.first, .int .i64 t.last, .string t.h0, .string t.h1, .string t.h2, .string t.h3, .int .i64 t.b0.x, .int .i64 t.b0.y, .int .i64 t.b0.z, .int .i64 t.b1.x, .int .i64 t.b1.y, .int .i64 t.b1.z, .int .i64 t.b2.x, .int .i64 t.b2.y, .int .i64 t.b2.z, .int .i64 t.d.x, .int .i64 t.d.y, .int .i64 t.d.z, .int .i64 t.np, .int .i64 t.nn, .int .i64 t.fix, .int .i64 t.min, .int .i64 t.tax] 38) := heap_alloc2_new _ _ _
  have MM : ((w.alloc (.cells #[.int .i64 step, .int .i64 start, .slice (some ⟨b, off, none⟩) l.length cap] 24)).alloc (.cells #[.int .i64 t.z.off, .int .i64 t.z.f.m, .int .i64 t.z.f.w, .int .i64 t.z.f.d, .int .i64 t.z.f.h, .int .i64 t.z.t.m, .int .i64 t.z.t.w, .int .i64 t.z.t.d, .int .i64 t.z.t.h, .int .i64 t.days, .int .i64 t.gap, .int .i64 t.first, .int .i64 t.last, .string t.h0, .string t.h1, .string t.h2, .string t.h3, .int .i64 t.b0.x, .int .i64 t.b0.y, .int .i64 t.b0.z, .int .i64 t.b1.x, .int .i64 t.b1.y, .int .i64 t.b1.z, .int .i64 t.b2.x, .int .i64 t.b2.y, .int .i64 t.b2.z, .int .i64 t.d.x, .int .i64 t.d.y, .int .i64 t.d.z, .int .i64 t.np, .int .i64 t.nn, .int .i64 t.fix, .int .i64 t.min, .int .i64 t.tax] 38)).heap[w.heap.size]? = some (.cells #[.int .i64 step, .int .i64 start, .slice (some ⟨b, off, none⟩) l.length cap] 24) := (heap_alloc_old _ _ (by simp)).trans (heap_alloc_new _ _)
  have k1 : ¬ (K : Int) + 1 < 1 := by omega
  have k2 : ¬ (l.length : Int) < (K : Int) + 1 := by omega
  obtain ⟨ps, hps⟩ : ∃ ps, ps = spL t step start l := ⟨_, rfl⟩
  rw [← hps] at bn hpn hpm hle heq
  obtain ⟨qs, hqs⟩ : ∃ qs, qs = spL t step start (l.take (K + 1)) := ⟨_, rfl⟩
  rw [← hqs] at bg hpn2 hle heq
  obtain ⟨C, hC⟩ : ∃ C, qs.length = C + 1 := ⟨qs.length - 1, by omega⟩
  have hq := heq C (by omega)
  rw [hC] at bg hle
  have HT1 : Hid ((lnR t ps ps.length).take C = lnR t ps C) := by
    show _ = _
    have := lnR_take (t := t) (ps := ps) C (ps.length - C)
    rwa [show C + (ps.length - C) = ps.length by omega] at this
  have HT2 : Hid ((lnR t qs (C + 1)).take C = lnR t ps C) := by
    show _ = _
    rw [lnR_take (t := t) (ps := qs) C 1]; exact hq
  have HL1 := hideF (lnR_len t ps ps.length)
  have HL2 := hideF (lnR_len t qs (C + 1))
  have HLC := hideF (lnR_len t ps C)
  clear hps hqs hz hz2 ok ok2 heq hq hC hpn2 h hT
  go_enter Try.func10, Try.ntmps10
  go_wp2_with (first
    | (with_reducible show wpList _ _ _ _ _ ((w.alloc (.cells #[.int .i64 step, .int .i64 start, .slice (some ⟨b, off, none⟩) l.length cap] 24)).alloc (.cells #[.int .i64 t.z.off, .int .i64 t.z.f.m, .int .i64 t.z.f.w, .int .i64 t.z.f.d, .int .i64 t.z.f.h, .int .i64 t.z.t.m, .int .i64 t.z.t.w, .int .i64 t.z.t.d, .int .i64 t.z.t.h, .int .i64 t.days, .int .i64 t.gap, .int .i64 t.first, .int .i64 t.last, .string t.h0, .string t.h1, .string t.h2, .string t.h3, .int .i64 t.b0.x, .int .i64 t.b0.y, .int .i64 t.b0.z, .int .i64 t.b1.x, .int .i64 t.b1.y, .int .i64 t.b1.z, .int .i64 t.b2.x, .int .i64 t.b2.y, .int .i64 t.b2.z, .int .i64 t.d.x, .int .i64 t.d.y, .int .i64 t.d.z, .int .i64 t.np, .int .i64 t.nn, .int .i64 t.fix, .int .i64 t.min, .int .i64 t.tax] 38)); refine wpList_load_row rfl 38 _ rfl (w.heap.size + 1) rfl 38 _ (0, 0) _ MT Try.underlying38 rfl (by kernel_rfl) ?_)
    | (go_at_call 19; refine (bn _ B0).mono ?_; rintro e w1 ⟨v1, rfl, own1, hb1⟩; obtain ⟨g1, cap1, rfl, hg1, hg1l⟩ := own1.form hpn; clear bn)
    | (go_at_call 16; refine (num_any _ _).mono ?_; rintro e w7 ⟨rfl, h7⟩; have h8 := h7.symm; subst h8))
  have hs1 : w.heap.size + 2 ≤ w1.heap.size := by have := hb1.size; simp at this; omega
  have HMr := hideF ((hb1.block w.heap.size (by simp; omega)).trans MM)
  have HTr := hideF ((hb1.block (w.heap.size + 1) (by simp)).trans MT)
  have BW := below_then B0 hb1
  clear MM MT B0
  go_wp2_with fail
  refine wp_region_held_drew (S := (fun w' => w'.heap[w.heap.size]? = some (.cells #[.int .i64 step, .int .i64 start, .slice (some ⟨b, off, none⟩) l.length cap] 24 (0, 0)) ∧ w'.heap[w.heap.size + 1]? = some (.cells #[.int .i64 t.z.off, .int .i64 t.z.f.m, .int .i64 t.z.f.w, .int .i64 t.z.f.d, .int .i64 t.z.f.h, .int .i64 t.z.t.m, .int .i64 t.z.t.w, .int .i64 t.z.t.d, .int .i64 t.z.t.h, .int .i64 t.days, .int .i64 t.gap, .int .i64 t.first, .int .i64 t.last, .string t.h0, .string t.h1, .string t.h2, .string t.h3, .int .i64 t.b0.x, .int .i64 t.b0.y, .int .i64 t.b0.z, .int .i64 t.b1.x, .int .i64 t.b1.y, .int .i64 t.b1.z, .int .i64 t.b2.x, .int .i64 t.b2.y, .int .i64 t.b2.z, .int .i64 t.d.x, .int .i64 t.d.y, .int .i64 t.d.z, .int .i64 t.np, .int .i64 t.nn, .int .i64 t.fix, .int .i64 t.min, .int .i64 t.tax] 38 (0, 0)))) (by kernel_rfl) ?_ (fun hH0 => ?_)
  · exact ⟨HMr.out, HTr.out⟩
  refine wpAnyH_take (i := 0) (oi := { dst := some 37, op := Go.Op.fieldAddr 24 (Go.Operand.tmp 3) 0, type := 0, pos := "outright.go:299", after := #[], guard := none }) (v := .pointer (some ⟨w.heap.size, 0, none⟩)) rfl (by kernel_rfl) (by kernel_rfl) (by kernel_rfl) (fun _ _ _ h => h) (Or.inl ⟨by rfl, ?_⟩) (by assumption) ?_
  · intro w9 hSw
    go_simp
  try simp only [Act.put, List.setIfInBounds_toArray, List.set_cons_zero, List.set_cons_succ]
  refine wpAnyH_take (i := 1) (oi := { dst := some 38, op := Go.Op.load 3 (Go.Operand.tmp 37), type := 3, pos := "outright.go:299", after := #[{ on := 0, ground := Go.Ground.data }], guard := none }) (v := .int .i64 step) rfl (by kernel_rfl) (by kernel_rfl) (by kernel_rfl) (fun _ _ _ h => h) (Or.inl ⟨by rfl, ?_⟩) (by assumption) ?_
  · intro w9 hSw
    have q : w9.cell? ⟨w.heap.size, 0, none⟩ = some (.int .i64 step) := cell_of_row _ _ _ _ _ _ hSw.1; go_simp
  try simp only [Act.put, List.setIfInBounds_toArray, List.set_cons_zero, List.set_cons_succ]
  refine wpAnyH_take (i := 2) (oi := { dst := some 39, op := Go.Op.fieldAddr 24 (Go.Operand.tmp 3) 1, type := 0, pos := "outright.go:299", after := #[], guard := none }) (v := .pointer (some ⟨w.heap.size, 1, none⟩)) rfl (by kernel_rfl) (by kernel_rfl) (by kernel_rfl) (fun _ _ _ h => h) (Or.inl ⟨by rfl, ?_⟩) (by assumption) ?_
  · intro w9 hSw
    go_simp
  try simp only [Act.put, List.setIfInBounds_toArray, List.set_cons_zero, List.set_cons_succ]
  refine wpAnyH_take (i := 3) (oi := { dst := some 40, op := Go.Op.load 3 (Go.Operand.tmp 39), type := 3, pos := "outright.go:299", after := #[{ on := 2, ground := Go.Ground.data }], guard := none }) (v := .int .i64 start) rfl (by kernel_rfl) (by kernel_rfl) (by kernel_rfl) (fun _ _ _ h => h) (Or.inl ⟨by rfl, ?_⟩) (by assumption) ?_
  · intro w9 hSw
    have q : w9.cell? ⟨w.heap.size, 1, none⟩ = some (.int .i64 start) := cell_of_row _ _ _ _ _ _ hSw.1; go_simp
  try simp only [Act.put, List.setIfInBounds_toArray, List.set_cons_zero, List.set_cons_succ]
  refine wpAnyH_take (i := 4) (oi := { dst := some 41, op := Go.Op.fieldAddr 24 (Go.Operand.tmp 3) 2, type := 0, pos := "outright.go:299", after := #[], guard := none }) (v := .pointer (some ⟨w.heap.size, 2, none⟩)) rfl (by kernel_rfl) (by kernel_rfl) (by kernel_rfl) (fun _ _ _ h => h) (Or.inl ⟨by rfl, ?_⟩) (by assumption) ?_
  · intro w9 hSw
    go_simp
  try simp only [Act.put, List.setIfInBounds_toArray, List.set_cons_zero, List.set_cons_succ]
  refine wpAnyH_take (i := 5) (oi := { dst := some 42, op := Go.Op.load 22 (Go.Operand.tmp 41), type := 22, pos := "outright.go:299", after := #[{ on := 4, ground := Go.Ground.data }], guard := none }) (v := (.slice (some ⟨b, off, none⟩) l.length cap)) rfl (by kernel_rfl) (by kernel_rfl) (by kernel_rfl) (fun _ _ _ h => h) (Or.inl ⟨by rfl, ?_⟩) (by assumption) ?_
  · intro w9 hSw
    have q : w9.cell? ⟨w.heap.size, 2, none⟩ = some ((.slice (some ⟨b, off, none⟩) l.length cap)) := cell_of_row _ _ _ _ _ _ hSw.1; go_simp
  try simp only [Act.put, List.setIfInBounds_toArray, List.set_cons_zero, List.set_cons_succ]
  refine wpAnyH_take (i := 6) (oi := { dst := some 43, op := Go.Op.move (Go.Operand.tmp 2), type := 3, pos := "outright.go:299", after := #[], guard := none }) (v := .int .i64 ((K : Int) + 1)) rfl (by kernel_rfl) (by kernel_rfl) (by kernel_rfl) (fun _ _ _ h => h) (Or.inl ⟨by rfl, ?_⟩) (by assumption) ?_
  · intro w9 hSw
    go_simp
  try simp only [Act.put, List.setIfInBounds_toArray, List.set_cons_zero, List.set_cons_succ]
  refine wpAnyH_take (i := 7) (oi := { dst := some 44, op := Go.Op.slice 22 (Go.Operand.tmp 42) none (some (Go.Operand.tmp 43)) none, type := 22, pos := "outright.go:299", after := #[{ on := 5, ground := Go.Ground.data }, { on := 6, ground := Go.Ground.data }], guard := none }) (v := .slice (some ⟨b, off, none⟩) (K + 1) cap) rfl (by kernel_rfl) (by kernel_rfl) (by kernel_rfl) (fun _ _ _ h => h) (Or.inl ⟨by rfl, ?_⟩) (by assumption) ?_
  · intro w9 hSw
    go_simp; intro q; omega
  try simp only [Act.put, List.setIfInBounds_toArray, List.set_cons_zero, List.set_cons_succ]
  refine wpAnyH_take (i := 8) (oi := { dst := some 45, op := Go.Op.build 24 #[(0, Go.Operand.tmp 38), (1, Go.Operand.tmp 40), (2, Go.Operand.tmp 44)], type := 24, pos := "outright.go:299", after := #[{ on := 1, ground := Go.Ground.data }, { on := 3, ground := Go.Ground.data }, { on := 7, ground := Go.Ground.data }], guard := none }) (v := .agg #[.int .i64 step, .int .i64 start, .slice (some ⟨b, off, none⟩) (K + 1) cap]) rfl (by kernel_rfl) (by kernel_rfl) (by kernel_rfl) (fun _ _ _ h => h) (Or.inl ⟨by rfl, ?_⟩) (by assumption) ?_
  · intro w9 hSw
    go_simp
  try simp only [Act.put, List.setIfInBounds_toArray, List.set_cons_zero, List.set_cons_succ]
  refine wpAnyH_take (i := 9) (oi := { dst := some 46, op := Go.Op.load 38 (Go.Operand.tmp 4), type := 38, pos := "outright.go:299", after := #[], guard := none }) (v := .agg #[.int .i64 t.z.off, .int .i64 t.z.f.m, .int .i64 t.z.f.w, .int .i64 t.z.f.d, .int .i64 t.z.f.h, .int .i64 t.z.t.m, .int .i64 t.z.t.w, .int .i64 t.z.t.d, .int .i64 t.z.t.h, .int .i64 t.days, .int .i64 t.gap, .int .i64 t.first, .int .i64 t.last, .string t.h0, .string t.h1, .string t.h2, .string t.h3, .int .i64 t.b0.x, .int .i64 t.b0.y, .int .i64 t.b0.z, .int .i64 t.b1.x, .int .i64 t.b1.y, .int .i64 t.b1.z, .int .i64 t.b2.x, .int .i64 t.b2.y, .int .i64 t.b2.z, .int .i64 t.d.x, .int .i64 t.d.y, .int .i64 t.d.z, .int .i64 t.np, .int .i64 t.nn, .int .i64 t.fix, .int .i64 t.min, .int .i64 t.tax]) rfl (by kernel_rfl) (by kernel_rfl) (by kernel_rfl) (fun _ _ _ h => h) (yields_row (by rfl) 38 _ rfl (w.heap.size + 1) rfl _ 38 (0, 0) _ (fun w9 hSw => hSw.2) Try.underlying38 rfl (by kernel_rfl)) (by assumption) ?_
  try simp only [Act.put, List.setIfInBounds_toArray, List.set_cons_zero, List.set_cons_succ]
  refine wpAnyH_ready (rs := [10]) (by kernel_rfl) (by simp) ?_
  refine AllReadyH.cons (o := { dst := some 47, op := Go.Op.call { callee := Go.Callee.value (Go.Operand.func 19), args := #[Go.Operand.tmp 45, Go.Operand.tmp 46], argTypes := #[24, 38] }, type := 72, pos := "outright.go:299", after := #[{ on := 8, ground := Go.Ground.data }, { on := 9, ground := Go.Ground.data }], guard := none }) rfl (fun K hK => ?_) AllReadyH.nil
  go_simp
  refine (bg _ (Below.drew BW)).mono ?_
  rintro e w3 ⟨v3, rfl, own3, hb3'⟩
  obtain ⟨g3, cap3, rfl, hg3, hg3l⟩ := own3.form (by omega)
  have hb3 : Below w1.heap.size w1 w3 := below_then (Below.drew (Below.refl _ _)) hb3'
  clear hb3'
  go_wp2_with fail
  refine hK.out _ _ ⟨(hb3.block _ (by omega)).trans HMr.out, (hb3.block _ (by omega)).trans HTr.out⟩ (fun hH1 => ?_)
  clear hK K
  try simp only [Act.put, List.setIfInBounds_toArray, List.set_cons_zero, List.set_cons_succ]
  refine wpAnyH_take (i := 11) (oi := { dst := some 36, op := Go.Op.move (Go.Operand.tmp 47), type := 72, pos := "outright.go:299", after := #[{ on := 10, ground := Go.Ground.data }], guard := none }) (v := .tuple #[.slice (some ⟨g3, 0, none⟩) (C + 1) cap3, .int .i64 0, .int .i64 0]) rfl (by kernel_rfl) (by kernel_rfl) (by kernel_rfl) (fun _ _ _ h => h) (Or.inl ⟨by rfl, ?_⟩) (by assumption) ?_
  · intro w9 hSw
    go_simp
  try simp only [Act.put, List.setIfInBounds_toArray, List.set_cons_zero, List.set_cons_succ]
  refine wpAnyH_take (i := 12) (oi := { dst := some 48, op := Go.Op.extract (Go.Operand.tmp 36) 0, type := 71, pos := "outright.go:299", after := #[{ on := 11, ground := Go.Ground.data }], guard := none }) (v := .slice (some ⟨g3, 0, none⟩) (C + 1) cap3) rfl (by kernel_rfl) (by kernel_rfl) (by kernel_rfl) (fun _ _ _ h => h) (Or.inl ⟨by rfl, ?_⟩) (by assumption) ?_
  · intro w9 hSw
    go_simp
  try simp only [Act.put, List.setIfInBounds_toArray, List.set_cons_zero, List.set_cons_succ]
  refine wpAnyH_take (i := 13) (oi := { dst := some 49, op := Go.Op.extract (Go.Operand.tmp 36) 1, type := 40, pos := "outright.go:299", after := #[{ on := 11, ground := Go.Ground.data }, { on := 15, ground := Go.Ground.gcOnly Go.Departure.lateStores }], guard := none }) (v := .int .i64 0) rfl (by kernel_rfl) (by kernel_rfl) (by kernel_rfl) (fun _ _ _ h => h) (Or.inl ⟨by rfl, ?_⟩) (by assumption) ?_
  · intro w9 hSw
    go_simp
  try simp only [Act.put, List.setIfInBounds_toArray, List.set_cons_zero, List.set_cons_succ]
  refine wpAnyH_take (i := 14) (oi := { dst := some 50, op := Go.Op.extract (Go.Operand.tmp 36) 2, type := 3, pos := "outright.go:299", after := #[{ on := 11, ground := Go.Ground.data }, { on := 16, ground := Go.Ground.gcOnly Go.Departure.lateStores }], guard := none }) (v := .int .i64 0) rfl (by kernel_rfl) (by kernel_rfl) (by kernel_rfl) (fun _ _ _ h => h) (Or.inl ⟨by rfl, ?_⟩) (by assumption) ?_
  · intro w9 hSw
    go_simp
  try simp only [Act.put, List.setIfInBounds_toArray, List.set_cons_zero, List.set_cons_succ]
  refine wpAnyH_take (i := 15) (oi := { dst := some 10, op := Go.Op.assign (Go.Operand.tmp 48), type := 71, pos := "outright.go:299", after := #[{ on := 12, ground := Go.Ground.data }, { on := 10, ground := Go.Ground.chain }, { on := 0, ground := Go.Ground.phase }, { on := 1, ground := Go.Ground.phase }, { on := 2, ground := Go.Ground.phase }, { on := 3, ground := Go.Ground.phase }, { on := 4, ground := Go.Ground.phase }, { on := 5, ground := Go.Ground.phase }, { on := 6, ground := Go.Ground.phase }, { on := 7, ground := Go.Ground.phase }, { on := 8, ground := Go.Ground.phase }, { on := 9, ground := Go.Ground.phase }, { on := 10, ground := Go.Ground.phase }, { on := 11, ground := Go.Ground.phase }, { on := 12, ground := Go.Ground.phase }, { on := 13, ground := Go.Ground.textOnly Go.Departure.lateStores }, { on := 14, ground := Go.Ground.textOnly Go.Departure.lateStores }], guard := none }) (v := .slice (some ⟨g3, 0, none⟩) (C + 1) cap3) rfl (by kernel_rfl) (by kernel_rfl) (by kernel_rfl) (fun _ _ _ h => h) (Or.inl ⟨by rfl, ?_⟩) (by assumption) ?_
  · intro w9 hSw
    go_simp
  try simp only [Act.put, List.setIfInBounds_toArray, List.set_cons_zero, List.set_cons_succ]
  refine wpAnyH_take (i := 16) (oi := { dst := some 11, op := Go.Op.assign (Go.Operand.tmp 49), type := 40, pos := "outright.go:299", after := #[{ on := 13, ground := Go.Ground.data }, { on := 15, ground := Go.Ground.chain }, { on := 0, ground := Go.Ground.phase }, { on := 1, ground := Go.Ground.phase }, { on := 2, ground := Go.Ground.phase }, { on := 3, ground := Go.Ground.phase }, { on := 4, ground := Go.Ground.phase }, { on := 5, ground := Go.Ground.phase }, { on := 6, ground := Go.Ground.phase }, { on := 7, ground := Go.Ground.phase }, { on := 8, ground := Go.Ground.phase }, { on := 9, ground := Go.Ground.phase }, { on := 10, ground := Go.Ground.phase }, { on := 11, ground := Go.Ground.phase }, { on := 12, ground := Go.Ground.phase }, { on := 13, ground := Go.Ground.phase }, { on := 14, ground := Go.Ground.textOnly Go.Departure.lateStores }, { on := 15, ground := Go.Ground.phase }], guard := none }) (v := .int .i64 0) rfl (by kernel_rfl) (by kernel_rfl) (by kernel_rfl) (fun _ _ _ h => h) (Or.inl ⟨by rfl, ?_⟩) (by assumption) ?_
  · intro w9 hSw
    go_simp
  try simp only [Act.put, List.setIfInBounds_toArray, List.set_cons_zero, List.set_cons_succ]
  refine wpAnyH_take (i := 17) (oi := { dst := some 12, op := Go.Op.assign (Go.Operand.tmp 50), type := 3, pos := "outright.go:299", after := #[{ on := 14, ground := Go.Ground.data }, { on := 16, ground := Go.Ground.chain }, { on := 0, ground := Go.Ground.phase }, { on := 1, ground := Go.Ground.phase }, { on := 2, ground := Go.Ground.phase }, { on := 3, ground := Go.Ground.phase }, { on := 4, ground := Go.Ground.phase }, { on := 5, ground := Go.Ground.phase }, { on := 6, ground := Go.Ground.phase }, { on := 7, ground := Go.Ground.phase }, { on := 8, ground := Go.Ground.phase }, { on := 9, ground := Go.Ground.phase }, { on := 10, ground := Go.Ground.phase }, { on := 11, ground := Go.Ground.phase }, { on := 12, ground := Go.Ground.phase }, { on := 13, ground := Go.Ground.phase }, { on := 14, ground := Go.Ground.phase }, { on := 15, ground := Go.Ground.phase }, { on := 16, ground := Go.Ground.phase }], guard := none }) (v := .int .i64 0) rfl (by kernel_rfl) (by kernel_rfl) (by kernel_rfl) (fun _ _ _ h => h) (Or.inl ⟨by rfl, ?_⟩) (by assumption) ?_
  · intro w9 hSw
    go_simp
  try simp only [Act.put, List.setIfInBounds_toArray, List.set_cons_zero, List.set_cons_succ]
  refine wpAnyH_done (by kernel_rfl) ?_ _
  have c1 : ((C : Int) + 1 == 0) = false := by rw [beq_eq_false_iff_ne]; omega
  have c2 : ¬ (ps.length : Int) < (C : Int) + 1 := by omega
  have BR := below_then BW hb3
  have r1 : LRow w3 (.slice (some ⟨g1, 0, none⟩) C cap1) (lnR t ps C) := by
    have := LRow_take (LRow.below (LRow.of_own own1 HL1.out) hb3) (k := C) (by rw [HL1.out]; omega)
    rwa [HT1.out] at this
  have r3 : LRow w3 (.slice (some ⟨g3, 0, none⟩) C cap3) (lnR t ps C) := by
    have := LRow_take (LRow.of_own own3 HL2.out) (k := C) (by rw [HL2.out]; omega)
    rwa [HT2.out] at this
  have hcp1 : ps.length ≤ cap1 := by
    rcases own1.2 with ⟨q1, _⟩ | ⟨g', cap', cur, hv, _, _, hc, _⟩
    · cases q1
    · cases hv; exact hc
  have hcp3 : C + 1 ≤ cap3 := by
    rcases own3.2 with ⟨q1, _⟩ | ⟨g', cap', cur, hv, _, _, hc, _⟩
    · cases q1
    · cases hv; exact hc
  have hcq1 : (C : Int) ≤ (cap1 : Int) := by omega
  have hcq3 : (C : Int) ≤ (cap3 : Int) := by omega
  have hc0 : (0 : Int) ≤ (C : Int) := by omega
  have HR1 := hideF r1
  have HR3 := hideF r3
  have ln1 := fun w4 (hb : Below w3.heap.size w3 w4) => lines_any _ _ w4 (HR1.out.below hb) (by rw [HLC.out]; omega)
  have ln3 := fun w4 (hb : Below w3.heap.size w3 w4) => lines_any _ _ w4 (HR3.out.below hb) (by rw [HLC.out]; omega)
  have sm := fun w4 u u' (h1 : LRow w4 u (lnR t ps C)) (h2 : LRow w4 u' (lnR t ps C)) => sameLines_any u u' _ w4 h1 h2 (by rw [HLC.out]; omega)
  clear r1 r3 own1 own3 bg hH0 hH1 HMr HTr hb1 hb3 hcap hcap1 hcap2
  go_wp2_with (first
    | (go_at_call 16; refine (num_any _ _).mono ?_; rintro e w7 ⟨rfl, h7⟩; have h8 := h7.symm; subst h8))
  refine wp_region_held_drew (S := (fun w' => Below w3.heap.size w3 w')) (by kernel_rfl) (Below.drew (Below.refl _ _)) (fun hS0 => ?_)
  refine wpAnyH_take (i := 0) (oi := { dst := some 79, op := Go.Op.move (Go.Operand.tmp 10), type := 71, pos := "outright.go:307", after := #[], guard := none }) (v := .slice (some ⟨g3, 0, none⟩) (C + 1) cap3) rfl (by kernel_rfl) (by kernel_rfl) (by kernel_rfl) (fun _ _ _ h => h) (Or.inl ⟨by rfl, ?_⟩) (by assumption) ?_
  · intro w9 hSw
    go_simp
  try simp only [Act.put, List.setIfInBounds_toArray, List.set_cons_zero, List.set_cons_succ]
  refine wpAnyH_take (i := 1) (oi := { dst := some 80, op := Go.Op.move (Go.Operand.tmp 13), type := 3, pos := "outright.go:307", after := #[], guard := none }) (v := .int .i64 (C : Int)) rfl (by kernel_rfl) (by kernel_rfl) (by kernel_rfl) (fun _ _ _ h => h) (Or.inl ⟨by rfl, ?_⟩) (by assumption) ?_
  · intro w9 hSw
    go_simp
  try simp only [Act.put, List.setIfInBounds_toArray, List.set_cons_zero, List.set_cons_succ]
  refine wpAnyH_take (i := 2) (oi := { dst := some 81, op := Go.Op.slice 71 (Go.Operand.tmp 79) none (some (Go.Operand.tmp 80)) none, type := 71, pos := "outright.go:307", after := #[{ on := 0, ground := Go.Ground.data }, { on := 1, ground := Go.Ground.data }], guard := none }) (v := .slice (some ⟨g3, 0, none⟩) C cap3) rfl (by kernel_rfl) (by kernel_rfl) (by kernel_rfl) (fun _ _ _ h => h) (Or.inl ⟨by rfl, ?_⟩) (by assumption) ?_
  · intro w9 hSw
    go_simp
  try simp only [Act.put, List.setIfInBounds_toArray, List.set_cons_zero, List.set_cons_succ]
  refine wpAnyH_take (i := 4) (oi := { dst := some 83, op := Go.Op.move (Go.Operand.tmp 7), type := 71, pos := "outright.go:307", after := #[], guard := none }) (v := .slice (some ⟨g1, 0, none⟩) ps.length cap1) rfl (by kernel_rfl) (by kernel_rfl) (by kernel_rfl) (fun _ _ _ h => h) (Or.inl ⟨by rfl, ?_⟩) (by assumption) ?_
  · intro w9 hSw
    go_simp
  try simp only [Act.put, List.setIfInBounds_toArray, List.set_cons_zero, List.set_cons_succ]
  refine wpAnyH_take (i := 5) (oi := { dst := some 84, op := Go.Op.move (Go.Operand.tmp 13), type := 3, pos := "outright.go:307", after := #[], guard := none }) (v := .int .i64 (C : Int)) rfl (by kernel_rfl) (by kernel_rfl) (by kernel_rfl) (fun _ _ _ h => h) (Or.inl ⟨by rfl, ?_⟩) (by assumption) ?_
  · intro w9 hSw
    go_simp
  try simp only [Act.put, List.setIfInBounds_toArray, List.set_cons_zero, List.set_cons_succ]
  refine wpAnyH_take (i := 6) (oi := { dst := some 85, op := Go.Op.slice 71 (Go.Operand.tmp 83) none (some (Go.Operand.tmp 84)) none, type := 71, pos := "outright.go:307", after := #[{ on := 4, ground := Go.Ground.data }, { on := 5, ground := Go.Ground.data }], guard := none }) (v := .slice (some ⟨g1, 0, none⟩) C cap1) rfl (by kernel_rfl) (by kernel_rfl) (by kernel_rfl) (fun _ _ _ h => h) (Or.inl ⟨by rfl, ?_⟩) (by assumption) ?_
  · intro w9 hSw
    go_simp
  try simp only [Act.put, List.setIfInBounds_toArray, List.set_cons_zero, List.set_cons_succ]
  refine wpAnyH_ready (rs := [3]) (by kernel_rfl) (by simp) ?_
  refine AllReadyH.cons (o := { dst := some 82, op := Go.Op.call { callee := Go.Callee.value (Go.Operand.func 22), args := #[Go.Operand.tmp 81], argTypes := #[71] }, type := 76, pos := "outright.go:307", after := #[{ on := 2, ground := Go.Ground.data }], guard := none }) rfl (fun K hK => ?_) AllReadyH.nil
  go_simp
  refine (ln3 _ hS0).mono ?_
  rintro e w4 ⟨v4, rfl, own4, hb4⟩
  have B4 := below_then hS0 hb4
  obtain ⟨a4, cap4, rfl⟩ := own_slice own4
  go_wp2_with fail
  refine hK.out _ _ B4 (fun hS1 => ?_)
  clear hK K
  try simp only [Act.put, List.setIfInBounds_toArray, List.set_cons_zero, List.set_cons_succ]
  refine wpAnyH_ready (rs := [7]) (by kernel_rfl) (by simp) ?_
  refine AllReadyH.cons (o := { dst := some 86, op := Go.Op.call { callee := Go.Callee.value (Go.Operand.func 22), args := #[Go.Operand.tmp 85], argTypes := #[71] }, type := 76, pos := "outright.go:307", after := #[{ on := 6, ground := Go.Ground.data }, { on := 3, ground := Go.Ground.chain }], guard := none }) rfl (fun K hK => ?_) AllReadyH.nil
  go_simp
  refine (ln1 _ hS1).mono ?_
  rintro e w5 ⟨v5, rfl, own5, hb5⟩
  have B5 := below_then hS1 hb5
  obtain ⟨a5, cap5, rfl⟩ := own_slice own5
  go_wp2_with fail
  refine hK.out _ _ B5 (fun hS2 => ?_)
  clear hK K
  try simp only [Act.put, List.setIfInBounds_toArray, List.set_cons_zero, List.set_cons_succ]
  refine wpAnyH_ready (rs := [8]) (by kernel_rfl) (by simp) ?_
  refine AllReadyH.cons (o := { dst := some 87, op := Go.Op.call { callee := Go.Callee.value (Go.Operand.func 21), args := #[Go.Operand.tmp 82, Go.Operand.tmp 86], argTypes := #[76, 76] }, type := 4, pos := "outright.go:307", after := #[{ on := 3, ground := Go.Ground.data }, { on := 7, ground := Go.Ground.data }, { on := 7, ground := Go.Ground.chain }], guard := none }) rfl (fun K hK => ?_) AllReadyH.nil
  go_simp
  refine (sm _ _ _ (LRow.below (LRow.of_own own4 rfl) hb5) (LRow.of_own own5 rfl)).mono ?_
  rintro e w6 ⟨rfl, hb6⟩
  have B6 := below_then hS2 hb6
  go_wp2_with fail
  refine hK.out _ _ B6 (fun hS3 => ?_)
  clear hK K
  try simp only [Act.put, List.setIfInBounds_toArray, List.set_cons_zero, List.set_cons_succ]
  refine wpAnyH_take (i := 9) (oi := { dst := some 6, op := Go.Op.assign (Go.Operand.tmp 87), type := 4, pos := "outright.go:307", after := #[{ on := 8, ground := Go.Ground.data }, { on := 8, ground := Go.Ground.chain }, { on := 0, ground := Go.Ground.phase }, { on := 1, ground := Go.Ground.phase }, { on := 2, ground := Go.Ground.phase }, { on := 3, ground := Go.Ground.phase }, { on := 4, ground := Go.Ground.phase }, { on := 5, ground := Go.Ground.phase }, { on := 6, ground := Go.Ground.phase }, { on := 7, ground := Go.Ground.phase }, { on := 8, ground := Go.Ground.phase }], guard := none }) (v := .bool true) rfl (by kernel_rfl) (by kernel_rfl) (by kernel_rfl) (fun _ _ _ h => h) (Or.inl ⟨by rfl, ?_⟩) (by assumption) ?_
  · intro w9 hSw
    go_simp
  try simp only [Act.put, List.setIfInBounds_toArray, List.set_cons_zero, List.set_cons_succ]
  refine wpAnyH_done (by kernel_rfl) ?_ _
  go_wp2_with fail
  go_ret
  exact ⟨rfl, below_then BR B6⟩

theorem walk (t : Trf) (step start : Int) (v : Value) (l : List Txt.Val) (n : Int) (w : World) (h : VRow w v l) (s0 : t.h0.size ≤ maxLen) (s1 : t.h1.size ≤ maxLen) (s2 : t.h2.size ≤ maxLen) (s3 : t.h3.size ≤ maxLen) :
    Calls Try.prog 10 #[.agg #[.int .i64 step, .int .i64 start, v], .agg #[.int .i64 t.z.off, .int .i64 t.z.f.m, .int .i64 t.z.f.w, .int .i64 t.z.f.d, .int .i64 t.z.f.h, .int .i64 t.z.t.m, .int .i64 t.z.t.w, .int .i64 t.z.t.d, .int .i64 t.z.t.h, .int .i64 t.days, .int .i64 t.gap, .int .i64 t.first, .int .i64 t.last, .string t.h0, .string t.h1, .string t.h2, .string t.h3, .int .i64 t.b0.x, .int .i64 t.b0.y, .int .i64 t.b0.z, .int .i64 t.b1.x, .int .i64 t.b1.y, .int .i64 t.b1.z, .int .i64 t.b2.x, .int .i64 t.b2.y, .int .i64 t.b2.z, .int .i64 t.d.x, .int .i64 t.d.y, .int .i64 t.d.z, .int .i64 t.np, .int .i64 t.nn, .int .i64 t.fix, .int .i64 t.min, .int .i64 t.tax], .int .i64 n] w fun e w' => e = .returned (.bool true) ∧ Below w.heap.size w w' := by
  by_cases hn : n < 1 ∨ (l.length : Int) < n
  · exact walk_out t step start v l n w h hn
  · obtain ⟨K, rfl⟩ : ∃ K : Nat, n = (K : Int) + 1 := ⟨(n - 1).toNat, by omega⟩
    have hK : K + 1 ≤ l.length := by omega
    obtain ⟨a, cap, rfl⟩ := h.form
    obtain ⟨b, off, rfl, _⟩ := h.at (Fil.get_ex (show K < l.length by omega))
    by_cases hz : spE t step start l = 0
    · rcases ear (t := t) (step := step) (start := start) (n := K + 1) (by omega) hK hz with ⟨h6, hm⟩ | ⟨hz2, hle, heq⟩
      · exact walk_gap t step start b off cap l K w h hK s0 s1 s2 s3 hz h6 hm
      · exact walk_yes t step start b off cap l K w h hK s0 s1 s2 s3 hz hz2 hle heq
    · exact walk_no t step start b off cap l K w h hK s0 s1 s2 s3 hz
end Go.Proofs.Ytjaffmmocbplaab.earlier

namespace Go.Proofs.Ytjaffmmocbplaab.earlier
open Go.ChangeShapes Go.WideShapes Go.ChangeAt Go.RowKit
set_option linter.unusedVariables false

theorem own : ownKnob Try.prog.godebug = none := by kernel_rfl
theorem laidOut : laidOutB Try.prog = true := by kernel_rfl

/-! ### THE ROW's STEP -/
set_option maxRecDepth 100000 in
theorem lifted (os : Os) (started : os.Started) (H : Type) (enc : TypeId × Value → H) :
    ReturnsInHanded {} Try.checked os 10 .any (Rows.earlierSpec.pre6 enc Try.prog Try.f10 Rows.earlierRow.domain false) (Rows.earlierSpec.post enc Try.prog Try.f10 false true false false) := by
  refine returnsInHanded_of_change_sized (C := Try.checked) own started (by kernel_rfl) Try.func10
    (ChangeSpec.witness6 (enc := enc) (C := Try.checked) false ⟨#[], #[.agg #[.int .i64 0, .int .i64 0, .slice none 0 0], .agg #[.int .i64 0, .int .i64 0, .int .i64 0, .int .i64 0, .int .i64 0, .int .i64 0, .int .i64 0, .int .i64 0, .int .i64 0, .int .i64 0, .int .i64 0, .int .i64 0, .int .i64 0, .string ByteArray.empty, .string ByteArray.empty, .string ByteArray.empty, .string ByteArray.empty, .int .i64 0, .int .i64 0, .int .i64 0, .int .i64 0, .int .i64 0, .int .i64 0, .int .i64 0, .int .i64 0, .int .i64 0, .int .i64 0, .int .i64 0, .int .i64 0, .int .i64 0, .int .i64 0, .int .i64 0, .int .i64 0, .int .i64 0], .int .i64 0], []⟩ 8 (by kernel_rfl) (by kernel_rfl) (by kernel_rfl) (by kernel_rfl)) ?_
  intro W base args ds gs before hval0 hW hcnd hsz0 _
  have hsz : (DataW.weightsEach Try.prog (Try.f10.params.toList ++ Rows.earlierSpec.plain.varTypes Try.prog) (ds ++ gs)).all (· ≤ reachBytes) = true := hsz0
  have hval : ∀ (j : Nat) t v, Try.f10.params[j]? = some t → args[j]? = some v → Value.okWide Try.prog W .any base t v := hval0
  have hW' := hW
  obtain ⟨p, q, hA0, hV, rfl, hfz, hnd⟩ := hW
  have hA : DataW.TrodAll enc Try.prog W 0 (fun _ => true) true Try.f10.params.toList args.toList ds p := hA0
  rw [Try.params10] at hA hval hsz
  obtain ⟨v0, vs0, d0, ds0, p0, q0, hargs, rfl, rfl, h0, r0⟩ := trodAll_cons hA
  obtain ⟨v1, vs1, d1, ds1, p1, q1, rfl, rfl, rfl, h1, r1⟩ := trodAll_cons r0
  obtain ⟨v2, vs2, d2, ds2, p2, q2, rfl, rfl, rfl, h2, r2⟩ := trodAll_cons r1
  obtain ⟨rfl, rfl, rfl⟩ := trodAll_nil r2
  obtain rfl : args = #[v0, v1, v2] := by cases args; simp_all
  obtain ⟨rfl, rfl⟩ := trodVars_none hV
  have k0 := h0
  have lt0 : ∀ x ∈ p0, x.block < W.heap.size := by obtain ⟨m, hm⟩ := k0; exact DataW.trod_lt m _ _ _ hm
  obtain ⟨step, start, u, l, e0, e1, e2, rfl, hu, rfl, hle⟩ := open_meter (hval 0 24 v0 rfl rfl) h0
  have k1 := h1
  have lt1 : ∀ x ∈ p1, x.block < W.heap.size := by obtain ⟨m, hm⟩ := k1; exact DataW.trod_lt m _ _ _ hm
  obtain ⟨t, rfl, s0, s1, s2, s3⟩ := open_tariff (hval 1 38 v1 rfl rfl) h1
  obtain ⟨a2, rfl, rfl, rfl, w2⟩ := open_int Try.underlying3 (hval 2 3 v2 rfl rfl) h2
  have hreach := reach_meter hsz
  clear hA0 hval0
  refine (walk t step start u l a2 W hu s0 s1 s2 s3).mono fun e W' ⟨he, bel⟩ => ?_
  subst he
  exact ⟨_, rfl, _, _, _, [], _, [], hW', trodAll_mk1 (shut_bool Try.underlying4 _), (trodAll_cons_mk (Below.trod laidOut (by kernel_rfl) (of_decide_eq_true (by kernel_rfl)) k0 bel lt0) (trodAll_cons_mk (Below.trod laidOut (by kernel_rfl) (of_decide_eq_true (by kernel_rfl)) k1 bel lt1) (trodAll_cons_mk (shut_int Try.underlying3 w2) trodAll_mk0))), rfl, bel.frame _, fun h => by cases h⟩

theorem over : Rows.earlierRow.holds Try.pinned (OpenSpec.ofChange Rows.earlierSpec) :=
  OpenClaim.holds_of_wide 10 Try.f10 rfl rfl rfl rfl rfl rfl rfl ⟨rfl, rfl, rfl, rfl, rfl⟩ rfl rfl rfl rfl rfl (by kernel_rfl) Try.func10 (by kernel_rfl)
    (of_decide_eq_true (by kernel_rfl)) (by unfold Func.isWrapper; first | (rw [if_pos (by decide +kernel)]; kernel_rfl) | (rw [if_neg (by decide +kernel)]; exact ⟨rfl, rfl⟩))
    (fun os started H enc _ => lifted os started H enc)

theorem proved : Rows.EarlierSaid := over
#print axioms proved
end Go.Proofs.Ytjaffmmocbplaab.earlier
namespace Go.Proofs.Ytjaffmmocbplaab
theorem earlier_holds : Rows.EarlierSaid := earlier.proved
end Go.Proofs.Ytjaffmmocbplaab
