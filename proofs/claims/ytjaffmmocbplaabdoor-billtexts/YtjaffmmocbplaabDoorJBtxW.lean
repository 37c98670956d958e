/-
  BillTexts: the law's walk (made by tools/genbtx.py).
-/
import Derived.Test.YtjaffmmocbplaabDoorJRbpX
import Derived.Test.YtjaffmmocbplaabDoorJRbrW
import Derived.Test.YtjaffmmocbplaabDoorJLnpO
import Derived.Test.YtjaffmmocbplaabDoorJLnpR
import Derived.Test.YtjaffmmocbplaabDoorJSamL
namespace Go.Proofs.YtjaffmmocbplaabDoor
open Go.RowKit Go.Shelf Bil
set_option linter.unusedVariables false
attribute [local go_sem ↓] Go.wp_at_zero Go.wp_at_succ
namespace billTexts
theorem lcs_set (q : Ln) : ∀ (l : List Ln) (k : Nat), k < l.length → lcs (l.set k q) = ((((((((((((((((lcs l).set (k * 15) (.int .i64 q.i0)).set (k * 15 + 1) (.int .i64 q.i1)).set (k * 15 + 2) (.int .i64 q.i2)).set (k * 15 + 3) (.int .i64 q.o)).set (k * 15 + 4) (.int .i64 q.pk)).set (k * 15 + 5) (.int .i64 q.bl)).set (k * 15 + 6) (.int .i64 q.en)).set (k * 15 + 7) (.int .i64 q.pw)).set (k * 15 + 8) (.int .i64 q.ap)).set (k * 15 + 9) (.int .i64 q.ex)).set (k * 15 + 10) (.int .i64 q.pd)).set (k * 15 + 11) (.int .i64 q.bk)).set (k * 15 + 12) (.int .i64 q.su)).set (k * 15 + 13) (.int .i64 q.tx)).set (k * 15 + 14) (.int .i64 q.to))
  | [], k, h => by simp at h
  | p :: l, 0, _ => by simp [lcs, lcell]
  | p :: l, k + 1, h => by
    have ih := lcs_set q l k (by simpa using h)
    show lcell p ++ lcs (l.set k q) = _
    rw [ih]
    have e : (lcell p).length = 15 := rfl
    show _ = ((((((((((((((((lcell p ++ lcs l).set ((k + 1) * 15) _).set ((k + 1) * 15 + 1) _).set ((k + 1) * 15 + 2) _).set ((k + 1) * 15 + 3) _).set ((k + 1) * 15 + 4) _).set ((k + 1) * 15 + 5) _).set ((k + 1) * 15 + 6) _).set ((k + 1) * 15 + 7) _).set ((k + 1) * 15 + 8) _).set ((k + 1) * 15 + 9) _).set ((k + 1) * 15 + 10) _).set ((k + 1) * 15 + 11) _).set ((k + 1) * 15 + 12) _).set ((k + 1) * 15 + 13) _).set ((k + 1) * 15 + 14) _)
    rw [List.set_append_right _ _ (by rw [e]; omega), List.set_append_right _ _ (by rw [e]; omega), List.set_append_right _ _ (by rw [e]; omega), List.set_append_right _ _ (by rw [e]; omega), List.set_append_right _ _ (by rw [e]; omega), List.set_append_right _ _ (by rw [e]; omega), List.set_append_right _ _ (by rw [e]; omega), List.set_append_right _ _ (by rw [e]; omega), List.set_append_right _ _ (by rw [e]; omega), List.set_append_right _ _ (by rw [e]; omega), List.set_append_right _ _ (by rw [e]; omega), List.set_append_right _ _ (by rw [e]; omega), List.set_append_right _ _ (by rw [e]; omega), List.set_append_right _ _ (by rw [e]; omega), List.set_append_right _ _ (by rw [e]; omega), e]
    rw [show (k + 1) * 15 - 15 = k * 15 by omega, show (k + 1) * 15 + 1 - 15 = k * 15 + 1 by omega, show (k + 1) * 15 + 2 - 15 = k * 15 + 2 by omega, show (k + 1) * 15 + 3 - 15 = k * 15 + 3 by omega, show (k + 1) * 15 + 4 - 15 = k * 15 + 4 by omega, show (k + 1) * 15 + 5 - 15 = k * 15 + 5 by omega, show (k + 1) * 15 + 6 - 15 = k * 15 + 6 by omega, show (k + 1) * 15 + 7 - 15 = k * 15 + 7 by omega, show (k + 1) * 15 + 8 - 15 = k * 15 + 8 by omega, show (k + 1) * 15 + 9 - 15 = k * 15 + 9 by omega, show (k + 1) * 15 + 10 - 15 = k * 15 + 10 by omega, show (k + 1) * 15 + 11 - 15 = k * 15 + 11 by omega, show (k + 1) * 15 + 12 - 15 = k * 15 + 12 by omega, show (k + 1) * 15 + 13 - 15 = k * 15 + 13 by omega, show (k + 1) * 15 + 14 - 15 = k * 15 + 14 by omega]
/-- a line put into a list in memory -/
theorem own_putL {w : World} {base g n cap : Nat} {e : TypeId} {l : List Ln} (h : w.ownsRow base e 15 (.slice (some ⟨g, 0, none⟩) n cap) n (lcs l)) {k : Nat} (hk : k < l.length) (q : Ln) :
    (((((((((((((((w.setCell ⟨g, k * 15, none⟩ (.int .i64 q.i0)).setCell ⟨g, k * 15 + 1, none⟩ (.int .i64 q.i1)).setCell ⟨g, k * 15 + 2, none⟩ (.int .i64 q.i2)).setCell ⟨g, k * 15 + 3, none⟩ (.int .i64 q.o)).setCell ⟨g, k * 15 + 4, none⟩ (.int .i64 q.pk)).setCell ⟨g, k * 15 + 5, none⟩ (.int .i64 q.bl)).setCell ⟨g, k * 15 + 6, none⟩ (.int .i64 q.en)).setCell ⟨g, k * 15 + 7, none⟩ (.int .i64 q.pw)).setCell ⟨g, k * 15 + 8, none⟩ (.int .i64 q.ap)).setCell ⟨g, k * 15 + 9, none⟩ (.int .i64 q.ex)).setCell ⟨g, k * 15 + 10, none⟩ (.int .i64 q.pd)).setCell ⟨g, k * 15 + 11, none⟩ (.int .i64 q.bk)).setCell ⟨g, k * 15 + 12, none⟩ (.int .i64 q.su)).setCell ⟨g, k * 15 + 13, none⟩ (.int .i64 q.tx)).setCell ⟨g, k * 15 + 14, none⟩ (.int .i64 q.to)).ownsRow base e 15 (.slice (some ⟨g, 0, none⟩) n cap) n (lcs (l.set k q)) := by
  rw [lcs_set q l k hk]
  exact (((((((((((((((h.stored _ _).1.stored _ _).1.stored _ _).1.stored _ _).1.stored _ _).1.stored _ _).1.stored _ _).1.stored _ _).1.stored _ _).1.stored _ _).1.stored _ _).1.stored _ _).1.stored _ _).1.stored _ _).1.stored _ _).1

set_option maxRecDepth 1000000 in
set_option maxHeartbeats 2000000 in
theorem bt_walk (v : Value) (l : List Ln) (x : ByteArray) (w : World) (h : LRowO w v l) (ht : TB w) (hreach : l.length * 120 ≤ 140737488351232) (hx : x.size ≤ maxLen) :
    Calls Tryd.prog 3 #[v, .string x] w fun e w' => e = .returned (.bool true) ∧ Below w.heap.size w w' := by
  obtain ⟨n, hn⟩ := endsB_ex x
  have hl : l.length ≤ maxLen := by unfold maxLen; omega
  have pb := fun w1 (hb : Below w.heap.size w w1) => PrintBillO_any v l w1 (h.below hb) (ht.below hb) hl
  have ln := fun w1 (hb : Below w.heap.size w w1) => linesO_any v l w1 (h.below hb) hreach
  have rp := fun w1 v' (V : LRow w1 v' l) => refPrintBill_any v' l w1 V hl
  have rb := fun w1 (hb : Below w.heap.size w w1) => ReadBill_any x n hn w1 (ht.below hb) hx
  have rr := fun w1 => rbr.refReadBill_any x n hn w1 hx
  have hpl : (rbR x n).length ≤ 200 := rbR_len x hn.le
  obtain ⟨a, cap, rfl⟩ := h.form
  obtain ⟨X, hX⟩ : ∃ X, X = pB l := ⟨_, rfl⟩
  rw [← hX] at pb rp
  obtain ⟨ls, hls⟩ : ∃ ls, ls = rbR x n := ⟨_, rfl⟩
  obtain ⟨E, hE⟩ : ∃ E, E = rbErr x n := ⟨_, rfl⟩
  obtain ⟨A, hA⟩ : ∃ A, A = rbAt x n := ⟨_, rfl⟩
  rw [← hls, ← hE, ← hA] at rb rr
  rw [← hls] at hpl
  have lns := fun w1 v1 (V : LRow w1 v1 ls) => lines_any v1 ls w1 V (by omega)
  have sml := fun w1 v1 v2 (V1 : LRow w1 v1 ls) (V2 : LRow w1 v2 ls) => sameLines_any v1 v2 ls w1 V1 V2 (by omega)
  clear hX hls hE hA h ht hn hl
  go_enter Tryd.func3, Tryd.ntmps3
  go_wp2_with (first
    | (go_at_call 8; have _ := hb4; refine (rb _ B4).mono ?_; rintro e w5 ⟨v5, rfl, own5, hb5⟩; obtain ⟨a5, cap5, rfl⟩ := own_slice own5)
    | (go_at_call 8; have _ := hb3; refine (rb _ B3).mono ?_; rintro e w4 ⟨v4, rfl, own4, hb4⟩; obtain ⟨a4, cap4, rfl⟩ := own_slice own4; have B4 := below_then B3 hb4)
    | (go_at_call 6; refine (rp _ _ (LRow.of_own own2 rfl)).mono ?_; rintro e w3 ⟨rfl, hb3⟩; have B3 := below_then B2 hb3)
    | (go_at_call 7; refine (ln _ B1).mono ?_; rintro e w2 ⟨v2, rfl, own2, hb2⟩; obtain ⟨a2, cap2, rfl⟩ := own_slice own2; have B2 := below_then B1 hb2)
    | (go_at_call 5; refine (pb _ (Below.refl _ _)).mono ?_; rintro e w1 ⟨rfl, hb1⟩; have B1 : Below w.heap.size w w1 := hb1))
  have U4 := hideP (LRow.of_own own4 rfl)
  clear own4 own2 B1 B2 B3 hb1 hb2 hb3 hb4 pb ln rp rb
  go_loopw [13] (fun p wr => ∃ (k : Nat) (Z : List Ln), p = .int .i64 k ∧ k ≤ ls.length ∧ Below w4.heap.size w4 wr ∧ Z.length = ls.length ∧ wr.ownsRow w4.heap.size 32 15 (.slice a5 ls.length cap5) ls.length (lcs Z)) (fun p _ => ls.length - (intOf p).toNat)
  case atStart => exact ⟨0, ls, rfl, by omega, hb5, rfl, own5⟩
  case round =>
    clear own5 hb5
    obtain ⟨k, Z, rfl, hk, hbw, hZ, hown⟩ := hrel
    have HZ := hideP hZ
    clear hZ
    by_cases hlt : k < ls.length
    · have hlt' : (k : Int) < (ls.length : Int) := by omega
      have hk0 : (0 : Int) ≤ (k : Int) := by omega
      obtain ⟨g, cap', eg, hgb, hglt⟩ := hown.form (by omega)
      cases eg
      have hcapP : (ls.length : Int) ≤ (cap5 : Int) := by
        rcases hown.2 with ⟨h1, _⟩ | ⟨g', cap', cur, hv, _, _, hc, _⟩
        · cases h1
        · cases hv; omega
      have hkz : k < Z.length := by rw [HZ.out]; exact hlt
      obtain ⟨y, hy⟩ : ∃ y, Z[k]? = some y := ⟨Z[k], List.getElem?_eq_getElem hkz⟩
      have c0 : wr.cell? ⟨g, k * 15, none⟩ = some (.int .i64 y.i0) := ((hown.cellAt _ (by omega)).trans (lcs_get Z k y hy 0 (by omega))).trans rfl
      have g0 := hown.frozenAt (k * 15)
      have c1 : wr.cell? ⟨g, k * 15 + 1, none⟩ = some (.int .i64 y.i1) := ((hown.cellAt _ (by omega)).trans (lcs_get Z k y hy 1 (by omega))).trans rfl
      have g1 := hown.frozenAt (k * 15 + 1)
      have c2 : wr.cell? ⟨g, k * 15 + 2, none⟩ = some (.int .i64 y.i2) := ((hown.cellAt _ (by omega)).trans (lcs_get Z k y hy 2 (by omega))).trans rfl
      have g2 := hown.frozenAt (k * 15 + 2)
      have c3 : wr.cell? ⟨g, k * 15 + 3, none⟩ = some (.int .i64 y.o) := ((hown.cellAt _ (by omega)).trans (lcs_get Z k y hy 3 (by omega))).trans rfl
      have g3 := hown.frozenAt (k * 15 + 3)
      have c4 : wr.cell? ⟨g, k * 15 + 4, none⟩ = some (.int .i64 y.pk) := ((hown.cellAt _ (by omega)).trans (lcs_get Z k y hy 4 (by omega))).trans rfl
      have g4 := hown.frozenAt (k * 15 + 4)
      have c5 : wr.cell? ⟨g, k * 15 + 5, none⟩ = some (.int .i64 y.bl) := ((hown.cellAt _ (by omega)).trans (lcs_get Z k y hy 5 (by omega))).trans rfl
      have g5 := hown.frozenAt (k * 15 + 5)
      have c6 : wr.cell? ⟨g, k * 15 + 6, none⟩ = some (.int .i64 y.en) := ((hown.cellAt _ (by omega)).trans (lcs_get Z k y hy 6 (by omega))).trans rfl
      have g6 := hown.frozenAt (k * 15 + 6)
      have c7 : wr.cell? ⟨g, k * 15 + 7, none⟩ = some (.int .i64 y.pw) := ((hown.cellAt _ (by omega)).trans (lcs_get Z k y hy 7 (by omega))).trans rfl
      have g7 := hown.frozenAt (k * 15 + 7)
      have c8 : wr.cell? ⟨g, k * 15 + 8, none⟩ = some (.int .i64 y.ap) := ((hown.cellAt _ (by omega)).trans (lcs_get Z k y hy 8 (by omega))).trans rfl
      have g8 := hown.frozenAt (k * 15 + 8)
      have c9 : wr.cell? ⟨g, k * 15 + 9, none⟩ = some (.int .i64 y.ex) := ((hown.cellAt _ (by omega)).trans (lcs_get Z k y hy 9 (by omega))).trans rfl
      have g9 := hown.frozenAt (k * 15 + 9)
      have c10 : wr.cell? ⟨g, k * 15 + 10, none⟩ = some (.int .i64 y.pd) := ((hown.cellAt _ (by omega)).trans (lcs_get Z k y hy 10 (by omega))).trans rfl
      have g10 := hown.frozenAt (k * 15 + 10)
      have c11 : wr.cell? ⟨g, k * 15 + 11, none⟩ = some (.int .i64 y.bk) := ((hown.cellAt _ (by omega)).trans (lcs_get Z k y hy 11 (by omega))).trans rfl
      have g11 := hown.frozenAt (k * 15 + 11)
      have c12 : wr.cell? ⟨g, k * 15 + 12, none⟩ = some (.int .i64 y.su) := ((hown.cellAt _ (by omega)).trans (lcs_get Z k y hy 12 (by omega))).trans rfl
      have g12 := hown.frozenAt (k * 15 + 12)
      have c13 : wr.cell? ⟨g, k * 15 + 13, none⟩ = some (.int .i64 y.tx) := ((hown.cellAt _ (by omega)).trans (lcs_get Z k y hy 13 (by omega))).trans rfl
      have g13 := hown.frozenAt (k * 15 + 13)
      have c14 : wr.cell? ⟨g, k * 15 + 14, none⟩ = some (.int .i64 y.to) := ((hown.cellAt _ (by omega)).trans (lcs_get Z k y hy 14 (by omega))).trans rfl
      have g14 := hown.frozenAt (k * 15 + 14)
      clear hy
      go_wp2_with fail
      go_roundw
      case rel => exact ⟨k + 1, Z.set k ln0, by go_num, by omega, (Below.setCell (Below.setCell (Below.setCell (Below.setCell (Below.setCell (Below.setCell (Below.setCell (Below.setCell (Below.setCell (Below.setCell (Below.setCell (Below.setCell (Below.setCell (Below.setCell (Below.setCell hbw hgb _) hgb _) hgb _) hgb _) hgb _) hgb _) hgb _) hgb _) hgb _) hgb _) hgb _) hgb _) hgb _) hgb _) hgb _), by rw [List.length_set]; exact HZ.out, own_putL hown hkz ln0⟩
      case measure => simp [intOf]; omega
    · have hlt' : ¬ (k : Int) < (ls.length : Int) := by omega
      have BR := below_then B4 hbw
      have VR := hideP (U4.out.below hbw)
      clear hown U4 hbw
      go_wp2_with (first
        | (go_at_call 10; refine (sml _ _ _ (LRow.of_own own8 rfl) (V7.out.below hb8)).mono ?_; rintro e w9 ⟨rfl, hb9⟩)
        | (go_at_call 7; refine (lns _ _ (VR.out.below hb7)).mono ?_; rintro e w8 ⟨v8, rfl, own8, hb8⟩; obtain ⟨a8, cap8, rfl⟩ := own_slice own8)
        | (go_at_call 9; refine (rr _).mono ?_; rintro e w7 ⟨v7, rfl, own7, hb7⟩; obtain ⟨a7, cap7, rfl⟩ := own_slice own7; have V7 := hideP (LRow.of_own own7 rfl); have B7 := below_then BR hb7)
        | (go_at_call 11; refine (num_any _ _).mono ?_; rintro e wn ⟨rfl, h9⟩; have h10 := h9.symm; subst h10))
      go_ret
      exact ⟨ret_bool (by simp), below_then (below_then B7 hb8) hb9⟩
end billTexts
end Go.Proofs.YtjaffmmocbplaabDoor
