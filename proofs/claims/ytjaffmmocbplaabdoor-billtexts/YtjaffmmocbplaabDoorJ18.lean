/-
  SamL, LnpR in one text.
-/
import Derived.Test.YtjaffmmocbplaabDoorJ17
import Derived.BigQuiet
import Derived.Test.YtjaffmmocbplaabDoorJ16
namespace Go.Proofs.YtjaffmmocbplaabDoor
open Go.RowKit Bil
set_option linter.unusedVariables false
attribute [local go_sem ↓] Go.wp_at_zero Go.wp_at_succ

set_option maxRecDepth 100000 in
set_option maxHeartbeats 1000000 in
theorem Numbers_any (x : Ln) (w : World) :
    Calls Tryd.prog 18 #[.agg #[.int .i64 x.i0, .int .i64 x.i1, .int .i64 x.i2, .int .i64 x.o, .int .i64 x.pk, .int .i64 x.bl, .int .i64 x.en, .int .i64 x.pw, .int .i64 x.ap, .int .i64 x.ex, .int .i64 x.pd, .int .i64 x.bk, .int .i64 x.su, .int .i64 x.tx, .int .i64 x.to]] w fun e w' => ∃ g, e = .returned (.slice (some ⟨g, 0, none⟩) 15 15) ∧ w.heap.size ≤ g ∧ w'.heap[g]? = some (.cells #[.int .i64 x.i0, .int .i64 x.i1, .int .i64 x.i2, .int .i64 x.o, .int .i64 x.pk, .int .i64 x.bl, .int .i64 x.en, .int .i64 x.pw, .int .i64 x.ap, .int .i64 x.ex, .int .i64 x.pd, .int .i64 x.bk, .int .i64 x.su, .int .i64 x.tx, .int .i64 x.to] 3 (0, 0)) ∧ Below w.heap.size w w' := by
  go_enter Tryd.func18, Tryd.ntmps18
  go_wp2_with fail
  refine bodyPost_ret (v := .slice (some ⟨w.heap.size + 1, 0, none⟩) 15 15) (by simp [results, Tryd.results18, go_sem]) rfl ⟨_, rfl, by omega, heap_alloc2_new _ _ _, below_more (below_more (Below.refl _ _) _) _⟩

def lnN (x : Ln) (j : Nat) : Int := [x.i0, x.i1, x.i2, x.o, x.pk, x.bl, x.en, x.pw, x.ap, x.ex, x.pd, x.bk, x.su, x.tx, x.to].getD j 0
theorem lnN_at (x : Ln) (j : Nat) (hj : j < 15) : (#[.int .i64 x.i0, .int .i64 x.i1, .int .i64 x.i2, .int .i64 x.o, .int .i64 x.pk, .int .i64 x.bl, .int .i64 x.en, .int .i64 x.pw, .int .i64 x.ap, .int .i64 x.ex, .int .i64 x.pd, .int .i64 x.bk, .int .i64 x.su, .int .i64 x.tx, .int .i64 x.to] : Array Value)[j]? = some (.int .i64 (lnN x j)) := by
  match j, hj with
  | 0, _ => rfl
  | 1, _ => rfl
  | 2, _ => rfl
  | 3, _ => rfl
  | 4, _ => rfl
  | 5, _ => rfl
  | 6, _ => rfl
  | 7, _ => rfl
  | 8, _ => rfl
  | 9, _ => rfl
  | 10, _ => rfl
  | 11, _ => rfl
  | 12, _ => rfl
  | 13, _ => rfl
  | 14, _ => rfl

set_option maxRecDepth 100000 in
set_option maxHeartbeats 2000000 in
theorem sameLines_any (v v' : Value) (l : List Ln) (w : World) (h : LRow w v l) (h' : LRow w v' l) (hl : l.length ≤ 100000) :
    Calls Tryd.prog 10 #[v, v'] w fun e w' => e = .returned (.bool true) ∧ Below w.heap.size w w' := by
  obtain ⟨a, cap, rfl⟩ := h.form
  obtain ⟨a', cap', rfl⟩ := h'.form
  have HA := hideF h
  have HB := hideF h'
  clear h h'
  go_enter Tryd.func10, Tryd.ntmps10
  go_wp2_with fail
  go_loopw [5] (fun p wr => ∃ k : Nat, p = .int .i64 k ∧ k ≤ l.length ∧ Below w.heap.size w wr) (fun p _ => l.length - (intOf p).toNat)
  case atStart => exact ⟨0, rfl, by omega, Below.refl _ _⟩
  case round =>
    obtain ⟨k, rfl, hk, hb⟩ := hrel
    have hsz := hb.size
    by_cases hlt : k < l.length
    · have hlt' : (k : Int) < (l.length : Int) := by omega
      have hk0 : (0 : Int) ≤ (k : Int) := by omega
      obtain ⟨x, hx⟩ : ∃ x, l[k]? = some x := ⟨l[k], List.getElem?_eq_getElem hlt⟩
      obtain ⟨b, rfl, hcap, hblt, cc⟩ := (HA.out.below hb).at hx
      obtain ⟨b', rfl, hcap2, hblt', dc⟩ := (HB.out.below hb).at hx
      have hcap' : (l.length : Int) ≤ (cap : Int) := by omega
      have hcap2' : (l.length : Int) ≤ (cap' : Int) := by omega
      have c0 : wr.cell? ⟨b, k * 15, none⟩ = some (.int .i64 x.i0) := cc 0 _ rfl
      have c1 : wr.cell? ⟨b, k * 15 + 1, none⟩ = some (.int .i64 x.i1) := cc 1 _ rfl
      have c2 : wr.cell? ⟨b, k * 15 + 2, none⟩ = some (.int .i64 x.i2) := cc 2 _ rfl
      have c3 : wr.cell? ⟨b, k * 15 + 3, none⟩ = some (.int .i64 x.o) := cc 3 _ rfl
      have c4 : wr.cell? ⟨b, k * 15 + 4, none⟩ = some (.int .i64 x.pk) := cc 4 _ rfl
      have c5 : wr.cell? ⟨b, k * 15 + 5, none⟩ = some (.int .i64 x.bl) := cc 5 _ rfl
      have c6 : wr.cell? ⟨b, k * 15 + 6, none⟩ = some (.int .i64 x.en) := cc 6 _ rfl
      have c7 : wr.cell? ⟨b, k * 15 + 7, none⟩ = some (.int .i64 x.pw) := cc 7 _ rfl
      have c8 : wr.cell? ⟨b, k * 15 + 8, none⟩ = some (.int .i64 x.ap) := cc 8 _ rfl
      have c9 : wr.cell? ⟨b, k * 15 + 9, none⟩ = some (.int .i64 x.ex) := cc 9 _ rfl
      have c10 : wr.cell? ⟨b, k * 15 + 10, none⟩ = some (.int .i64 x.pd) := cc 10 _ rfl
      have c11 : wr.cell? ⟨b, k * 15 + 11, none⟩ = some (.int .i64 x.bk) := cc 11 _ rfl
      have c12 : wr.cell? ⟨b, k * 15 + 12, none⟩ = some (.int .i64 x.su) := cc 12 _ rfl
      have c13 : wr.cell? ⟨b, k * 15 + 13, none⟩ = some (.int .i64 x.tx) := cc 13 _ rfl
      have c14 : wr.cell? ⟨b, k * 15 + 14, none⟩ = some (.int .i64 x.to) := cc 14 _ rfl
      have hdc := hideF dc
      clear cc dc hx
      go_wp2_with (first
        | (go_at_call 18; have _ := hb2; refine (Numbers_any x _).mono ?_; rintro e w3 ⟨g2, rfl, hg2, R2, hb3⟩)
        | (go_at_call 18; refine (Numbers_any x _).mono ?_; rintro e w2 ⟨g1, rfl, hg1, R1, hb2⟩; have e0 : w2.cell? ⟨b', k * 15, none⟩ = some (.int .i64 x.i0) := vcell_below hb2 hblt' (hdc.out 0 _ rfl); have e1 : w2.cell? ⟨b', k * 15 + 1, none⟩ = some (.int .i64 x.i1) := vcell_below hb2 hblt' (hdc.out 1 _ rfl); have e2 : w2.cell? ⟨b', k * 15 + 2, none⟩ = some (.int .i64 x.i2) := vcell_below hb2 hblt' (hdc.out 2 _ rfl); have e3 : w2.cell? ⟨b', k * 15 + 3, none⟩ = some (.int .i64 x.o) := vcell_below hb2 hblt' (hdc.out 3 _ rfl); have e4 : w2.cell? ⟨b', k * 15 + 4, none⟩ = some (.int .i64 x.pk) := vcell_below hb2 hblt' (hdc.out 4 _ rfl); have e5 : w2.cell? ⟨b', k * 15 + 5, none⟩ = some (.int .i64 x.bl) := vcell_below hb2 hblt' (hdc.out 5 _ rfl); have e6 : w2.cell? ⟨b', k * 15 + 6, none⟩ = some (.int .i64 x.en) := vcell_below hb2 hblt' (hdc.out 6 _ rfl); have e7 : w2.cell? ⟨b', k * 15 + 7, none⟩ = some (.int .i64 x.pw) := vcell_below hb2 hblt' (hdc.out 7 _ rfl); have e8 : w2.cell? ⟨b', k * 15 + 8, none⟩ = some (.int .i64 x.ap) := vcell_below hb2 hblt' (hdc.out 8 _ rfl); have e9 : w2.cell? ⟨b', k * 15 + 9, none⟩ = some (.int .i64 x.ex) := vcell_below hb2 hblt' (hdc.out 9 _ rfl); have e10 : w2.cell? ⟨b', k * 15 + 10, none⟩ = some (.int .i64 x.pd) := vcell_below hb2 hblt' (hdc.out 10 _ rfl); have e11 : w2.cell? ⟨b', k * 15 + 11, none⟩ = some (.int .i64 x.bk) := vcell_below hb2 hblt' (hdc.out 11 _ rfl); have e12 : w2.cell? ⟨b', k * 15 + 12, none⟩ = some (.int .i64 x.su) := vcell_below hb2 hblt' (hdc.out 12 _ rfl); have e13 : w2.cell? ⟨b', k * 15 + 13, none⟩ = some (.int .i64 x.tx) := vcell_below hb2 hblt' (hdc.out 13 _ rfl); have e14 : w2.cell? ⟨b', k * 15 + 14, none⟩ = some (.int .i64 x.to) := vcell_below hb2 hblt' (hdc.out 14 _ rfl)))
      have hg1l : g1 < w2.heap.size := (Array.getElem?_eq_some_iff.1 R1).1
      have hg2l : g2 < w3.heap.size := (Array.getElem?_eq_some_iff.1 R2).1
      have R1' : w3.heap[g1]? = some (.cells #[.int .i64 x.i0, .int .i64 x.i1, .int .i64 x.i2, .int .i64 x.o, .int .i64 x.pk, .int .i64 x.bl, .int .i64 x.en, .int .i64 x.pw, .int .i64 x.ap, .int .i64 x.ex, .int .i64 x.pd, .int .i64 x.bk, .int .i64 x.su, .int .i64 x.tx, .int .i64 x.to] 3 (0, 0)) := (hb3.block g1 hg1l).trans R1
      have H1 := hideF R1'
      have H2 := hideF R2
      have B3 := below_then hb (below_then hb2 hb3)
      have hs3 := hb3.size
      clear R1 R2 R1' hb2 hb3 c0 e0 c1 e1 c2 e2 c3 e3 c4 e4 c5 e5 c6 e6 c7 e7 c8 e8 c9 e9 c10 e10 c11 e11 c12 e12 c13 e13 c14 e14
      go_loopw [8] (fun p wi => ∃ j : Nat, p = .int .i64 j ∧ j ≤ 15 ∧ Below w3.heap.size w3 wi) (fun p _ => 15 - (intOf p).toNat)
      case atStart => exact ⟨0, rfl, by omega, Below.refl _ _⟩
      case round =>
        obtain ⟨j, rfl, hj, hbi⟩ := hrel
        by_cases hjl : j < 15
        · have hjl' : (j : Int) < 15 := by omega
          have hj0 : (0 : Int) ≤ (j : Int) := by omega
          have p1 : wr.cell? ⟨g1, j, none⟩ = some (.int .i64 (lnN x j)) := vcell_below hbi (by omega) ((cell_of_row _ _ _ _ _ _ H1.out).trans (lnN_at x j hjl))
          have p2 : wr.cell? ⟨g2, j, none⟩ = some (.int .i64 (lnN x j)) := vcell_below hbi hg2l ((cell_of_row _ _ _ _ _ _ H2.out).trans (lnN_at x j hjl))
          go_wp2_with fail
          go_quiet (fail)
          go_wp2_with fail
          go_roundw
          case rel => exact ⟨j + 1, by go_num, by omega, by first | exact below_drewN hbi _ | exact Below.drew hbi⟩
          case measure => simp [intOf]; omega
        · have hjl' : ¬ (j : Int) < 15 := by omega
          go_wp2_with fail
          go_roundw
          case rel => exact ⟨k + 1, by go_num, by omega, below_then B3 hbi⟩
          case measure => simp [intOf]; omega
    · have hlt' : ¬ (k : Int) < (l.length : Int) := by omega
      go_wp2_with fail
      go_ret
      exact ⟨rfl, hb⟩

end Go.Proofs.YtjaffmmocbplaabDoor

namespace Go.Proofs.YtjaffmmocbplaabDoor
open Go.RowKit Go.Shelf Bil
set_option linter.unusedVariables false
attribute [local go_sem ↓] Go.wp_at_zero Go.wp_at_succ

def lnl (x : Ln) : List Int := [x.i0, x.i1, x.i2, x.o, x.pk, x.bl, x.en, x.pw, x.ap, x.ex, x.pd, x.bk, x.su, x.tx, x.to]
theorem lnl_q (x : Ln) (j : Nat) : (lnl x).getD j 0 = lq x j := rfl
theorem lT_rowK (i : Int) (x : Ln) : ∀ k, rowK (⟨#[80, 32]⟩ ++ dS i) (lnl x) k = lK i x k
  | 0 => by
    show ⟨#[80, 32]⟩ ++ dS i = ⟨#[80]⟩ ++ fS i
    unfold fS
    rw [← ByteArray.append_assoc]
    congr 1
  | k + 1 => by
    show rowK (⟨#[80, 32]⟩ ++ dS i) (lnl x) k ++ ⟨#[32]⟩ ++ dS ((lnl x).getD k 0) = lK i x k ++ fS (lq x k)
    rw [lT_rowK i x k, lnl_q]
    unfold fS; simp only [ByteArray.append_assoc]
theorem inB_no {z : Int} (h : ¬ (0 ≤ z ∧ z ≤ 999999999999999)) : inB z 0 999999999999999 = false := by
  cases q : inB z 0 999999999999999
  · rfl
  · rw [inB_iff] at q; exact absurd q h
theorem lT_row (i : Int) (x : Ln) : rowS (⟨#[80, 32]⟩ ++ dS i) (lnl x) = lT i x := by
  unfold rowS lT
  show rowK _ _ 15 ++ _ = _
  rw [lT_rowK]
theorem row15_any (c : ByteArray) (x : Ln) (g : Nat) (w : World) (R : w.heap[g]? = some (.cells #[.int .i64 x.i0, .int .i64 x.i1, .int .i64 x.i2, .int .i64 x.o, .int .i64 x.pk, .int .i64 x.bl, .int .i64 x.en, .int .i64 x.pw, .int .i64 x.ap, .int .i64 x.ex, .int .i64 x.pd, .int .i64 x.bk, .int .i64 x.su, .int .i64 x.tx, .int .i64 x.to] 3 (0, 0))) (hv : lvB x = true) (hs : c.size ≤ 1000) :
    Calls Tryd.prog 19 #[.string c, .slice (some ⟨g, 0, none⟩) 15 15] w fun e w' => e = .returned (.string (rowS c (lnl x))) ∧ Below w.heap.size w w' :=
  row_any c (lnl x) g w (row_lt R) (fun i hi => cell_in_row R (lq_at x i hi)) (fun k hk => by have := lvB_bd hv k hk; rw [lnl_q]; unfold nB; omega) (by show 15 ≤ 20; omega) hs

set_option maxRecDepth 1000000 in
set_option maxHeartbeats 2000000 in
theorem refPrintBill_any (v : Value) (l : List Ln) (w : World) (h : LRow w v l) (hl : l.length ≤ maxLen) :
    Calls Tryd.prog 6 #[v] w fun e w' => e = .returned (.string (pB l)) ∧ Below w.heap.size w w' := by
  obtain ⟨a, cap, rfl⟩ := h.form
  unfold maxLen at hl
  by_cases h200 : 200 < l.length
  · have h2 : (200 : Int) < (l.length : Int) := by omega
    have HB : Hid (pB l = ⟨#[]⟩) := by
      show _ = _
      unfold pB pbB
      rw [decide_eq_false (by omega)]; rfl
    clear h
    go_enter Tryd.func6, Tryd.ntmps6
    go_wp2_with fail
    go_ret
    exact ⟨by rw [HB.out]; rfl, Below.refl _ _⟩
  have h2 : ¬ (200 : Int) < (l.length : Int) := by omega
  have HV := hideP h
  clear h
  go_enter Tryd.func6, Tryd.ntmps6
  go_wp2_with fail
  go_loopw [3, 4] (fun o p wr => ∃ k : Nat, p = .int .i64 k ∧ k ≤ l.length ∧ o = .string (pbK l k) ∧ (∀ j, j < k → lvB (lAt l j) = true) ∧ Below w.heap.size w wr) (fun _ p _ => l.length - (intOf p).toNat)
  case atStart => exact ⟨0, rfl, by omega, rfl, fun j hj => by omega, Below.refl _ _⟩
  case round =>
    obtain ⟨k, rfl, hk, rfl, hall, hb⟩ := hrel
    have HA := hideP hall
    clear hall
    have hsz := hb.size
    by_cases hlt : k < l.length
    · have hlt' : (k : Int) < (l.length : Int) := by omega
      have hk0 : (0 : Int) ≤ (k : Int) := by omega
      have hx := lAt_get hlt
      have HN := hideP (fun h => pbB_no (l := l) hlt h)
      have HS : Hid (∀ (h : lvB (lAt l k) = true), (pbK l k).size + (lT k (lAt l k)).size ≤ 9223372036854775807) := fun h => by
        have a1 := pbK_size (l := l) k (by omega) HA.out
        have a2 := lT_size (i := (k : Int)) (x := lAt l k) (by omega) h
        omega
      have HQ : Hid (lvB (lAt l k) = true → ∀ j, j < k + 1 → lvB (lAt l j) = true) := fun h j hj => by
        rcases Nat.lt_or_ge j k with q | q
        · exact HA.out j q
        · obtain rfl : j = k := by omega
          exact h
      have HE : Hid (pbK l (k + 1) = pbK l k ++ lT k (lAt l k)) := rfl
      obtain ⟨x, hxe⟩ : ∃ x, x = lAt l k := ⟨_, rfl⟩
      rw [← hxe] at hx HN HS HQ HE
      obtain ⟨b, rfl, hcap, hblt, cc⟩ := (HV.out.below hb).at hx
      have hcap' : (l.length : Int) ≤ (cap : Int) := by omega
      have c0 : wr.cell? ⟨b, k * 15, none⟩ = some (.int .i64 x.i0) := cc 0 _ rfl
      have c1 : wr.cell? ⟨b, k * 15 + 1, none⟩ = some (.int .i64 x.i1) := cc 1 _ rfl
      have c2 : wr.cell? ⟨b, k * 15 + 2, none⟩ = some (.int .i64 x.i2) := cc 2 _ rfl
      have c3 : wr.cell? ⟨b, k * 15 + 3, none⟩ = some (.int .i64 x.o) := cc 3 _ rfl
      have c4 : wr.cell? ⟨b, k * 15 + 4, none⟩ = some (.int .i64 x.pk) := cc 4 _ rfl
      have c5 : wr.cell? ⟨b, k * 15 + 5, none⟩ = some (.int .i64 x.bl) := cc 5 _ rfl
      have c6 : wr.cell? ⟨b, k * 15 + 6, none⟩ = some (.int .i64 x.en) := cc 6 _ rfl
      have c7 : wr.cell? ⟨b, k * 15 + 7, none⟩ = some (.int .i64 x.pw) := cc 7 _ rfl
      have c8 : wr.cell? ⟨b, k * 15 + 8, none⟩ = some (.int .i64 x.ap) := cc 8 _ rfl
      have c9 : wr.cell? ⟨b, k * 15 + 9, none⟩ = some (.int .i64 x.ex) := cc 9 _ rfl
      have c10 : wr.cell? ⟨b, k * 15 + 10, none⟩ = some (.int .i64 x.pd) := cc 10 _ rfl
      have c11 : wr.cell? ⟨b, k * 15 + 11, none⟩ = some (.int .i64 x.bk) := cc 11 _ rfl
      have c12 : wr.cell? ⟨b, k * 15 + 12, none⟩ = some (.int .i64 x.su) := cc 12 _ rfl
      have c13 : wr.cell? ⟨b, k * 15 + 13, none⟩ = some (.int .i64 x.tx) := cc 13 _ rfl
      have c14 : wr.cell? ⟨b, k * 15 + 14, none⟩ = some (.int .i64 x.to) := cc 14 _ rfl
      have nm := fun w1 => Numbers_any x w1
      clear cc hx hxe
      go_wp2_with (go_at_call 18; refine (nm _).mono ?_; rintro e w1 ⟨g, rfl, hg, R1, hb1⟩)
      have hg1 : g < w1.heap.size := row_lt R1
      have B1 := below_then hb hb1
      have H1 := hideP R1
      clear c0 c1 c2 c3 c4 c5 c6 c7 c8 c9 c10 c11 c12 c13 c14 R1 nm
      go_loopw [6] (fun p wi => ∃ j : Nat, p = .int .i64 j ∧ j ≤ 15 ∧ (∀ i, i < j → inB (lq x i) 0 999999999999999 = true) ∧ Below w1.heap.size w1 wi) (fun p _ => 15 - (intOf p).toNat)
      case atStart => exact ⟨0, rfl, by omega, fun i hi => by omega, Below.refl _ _⟩
      case round =>
        obtain ⟨j, rfl, hj, hall, hbi⟩ := hrel
        have HL := hideP hall
        clear hall
        by_cases hjl : j < 15
        · have hjl' : (j : Int) < 15 := by omega
          have hj0 : (0 : Int) ≤ (j : Int) := by omega
          have p1 : wr.cell? ⟨g, j, none⟩ = some (.int .i64 (lq x j)) := vcell_below hbi hg1 (cell_in_row H1.out (lq_at x j hjl))
          have HLN := hideP (fun h => HN.out (lvB_no (x := x) hjl h))
          have HLQ : Hid (inB (lq x j) 0 999999999999999 = true → ∀ i, i < j + 1 → inB (lq x i) 0 999999999999999 = true) := fun h i hi => by
            rcases Nat.lt_or_ge i j with q | q
            · exact HL.out i q
            · obtain rfl : i = j := by omega
              exact h
          obtain ⟨z, hz⟩ : ∃ z, z = lq x j := ⟨_, rfl⟩
          rw [← hz] at p1 HLN HLQ
          clear hz
          by_cases z0 : z < 0
          · have HF : Hid (pB l = ⟨#[]⟩) := by
              show _ = _
              unfold pB; rw [HLN.out (inB_no (by omega))]; rfl
            go_wp2_with fail
            go_ret
            exact ⟨by rw [HF.out]; rfl, below_then B1 hbi⟩
          · by_cases z1 : 999999999999999 < z
            · have HF : Hid (pB l = ⟨#[]⟩) := by
                show _ = _
                unfold pB; rw [HLN.out (inB_no (by omega))]; rfl
              go_wp2_with fail
              go_ret
              exact ⟨by rw [HF.out]; rfl, below_then B1 hbi⟩
            · have HF := hideP (HLQ.out (by rw [inB_iff]; omega))
              go_wp2_with fail
              go_roundw
              case rel => exact ⟨j + 1, by go_num, by omega, HF.out, hbi⟩
              case measure => simp [intOf]; omega
        · have hjl' : ¬ (j : Int) < 15 := by omega
          have hv : lvB x = true := lvB_yes fun i hi => HL.out i (by omega)
          have R2 : wr.heap[g]? = some (.cells #[.int .i64 x.i0, .int .i64 x.i1, .int .i64 x.i2, .int .i64 x.o, .int .i64 x.pk, .int .i64 x.bl, .int .i64 x.en, .int .i64 x.pw, .int .i64 x.ap, .int .i64 x.ex, .int .i64 x.pd, .int .i64 x.bk, .int .i64 x.su, .int .i64 x.tx, .int .i64 x.to] 3 (0, 0)) := (hbi.block _ hg1).trans H1.out
          have hg2 : g < wr.heap.size := row_lt R2
          have nk : nB (k : Int) := by unfold nB; omega
          have dc := nk.dec
          have sd := nk.d
          obtain ⟨C, hC⟩ : ∃ C, C = (⟨#[80, 32]⟩ : ByteArray) ++ dS (k : Int) := ⟨_, rfl⟩
          have sC : C.size ≤ 23 := by rw [hC, app_size]; show 2 + _ ≤ _; omega
          have aC : ∀ w, (Op.stringOp .add ⟨#[80, 32]⟩ (dS (k : Int))).run Tryd.prog w = .ok (.string C) w := by rw [hC]; exact sadd _ _ (by show 2 + _ ≤ _; omega)
          have rw15 := fun w2 (h : w2.heap[g]? = some (.cells #[.int .i64 x.i0, .int .i64 x.i1, .int .i64 x.i2, .int .i64 x.o, .int .i64 x.pk, .int .i64 x.bl, .int .i64 x.en, .int .i64 x.pw, .int .i64 x.ap, .int .i64 x.ex, .int .i64 x.pd, .int .i64 x.bk, .int .i64 x.su, .int .i64 x.tx, .int .i64 x.to] 3 (0, 0))) => row15_any C x g w2 h hv (by omega)
          have e15 : rowS C (lnl x) = lT k x := by rw [hC]; exact lT_row _ _
          rw [e15] at rw15
          have HF := hideP (HQ.out hv)
          have ad : ∀ w, (Op.stringOp .add (pbK l k) (lT k x)).run Tryd.prog w = .ok (.string (pbK l (k + 1))) w := by rw [HE.out]; exact sadd _ _ (HS.out hv)
          obtain ⟨A, hA⟩ : ∃ A, A = pbK l k := ⟨_, rfl⟩
          rw [← hA] at ad ⊢
          obtain ⟨A', hA'⟩ : ∃ A', A' = pbK l (k + 1) := ⟨_, rfl⟩
          rw [← hA'] at ad
          have HA' := hideP hA'
          obtain ⟨L, hL⟩ : ∃ L, L = lT k x := ⟨_, rfl⟩
          rw [← hL] at ad rw15
          clear hA hA' hL hv hC e15
          go_wp2_with (first
            | (go_at_call 20; refine (dc _).mono ?_; rintro e w2 ⟨rfl, hb2⟩; have R3 := (hb2.block _ hg2).trans R2)
            | (go_at_call 19; refine (rw15 _ R3).mono ?_; rintro e w3 ⟨rfl, hb3⟩))
          go_roundw
          case rel => exact ⟨k + 1, by go_num, by omega, by rw [HA'.out], HF.out, below_then (below_then (below_then B1 hbi) hb2) hb3⟩
          case measure => simp [intOf]; omega
    · have hlt' : ¬ (k : Int) < (l.length : Int) := by omega
      have hkn : k = l.length := by omega
      subst hkn
      have HF : Hid (pB l = pbK l l.length) := by
        show _ = _
        unfold pB; rw [pbB_yes (by omega) HA.out]; rfl
      obtain ⟨A, hA⟩ : ∃ A, A = pbK l l.length := ⟨_, rfl⟩
      rw [← hA] at HF ⊢
      clear hA
      go_wp2_with fail
      go_ret
      exact ⟨by rw [HF.out]; rfl, hb⟩
end Go.Proofs.YtjaffmmocbplaabDoor
