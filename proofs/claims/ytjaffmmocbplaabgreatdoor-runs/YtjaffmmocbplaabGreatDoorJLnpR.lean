/-
  The document's PrintBill.
-/
import Derived.Test.YtjaffmmocbplaabGreatDoorJLnpX
import Derived.Test.YtjaffmmocbplaabGreatDoorJPrtD
import Derived.Test.YtjaffmmocbplaabGreatDoorJ20
namespace Go.Proofs.YtjaffmmocbplaabGreatDoor
open Go.RowKit Go.Shelf Bil
set_option linter.unusedVariables false
attribute [local go_sem ↓] Go.wp_at_zero Go.wp_at_succ

def lnl (x : Ln) : List Int := [x.i0, x.i1, x.i2, x.o, x.pk, x.bl, x.en, x.pw, x.ap, x.ex, x.pd, x.bk, x.su, x.tx, x.to]
theorem lnl_q (x : Ln) (j : Nat) : (lnl x).getD j 0 = lq x j := rfl
theorem lT_rowK (i : Int) (x : Ln) : ∀ k, rowK (⟨#[80, 32]⟩ ++ dS i) (lnl x) k = lK i x k
  | 0 => by
    show ⟨#[80, 32]⟩ ++ dS i = ⟨#[80]⟩ ++ fS i
    unfold fS
    rw [← ByteArray.append_assoc]
    congr 1
  | k + 1 => by
    show rowK (⟨#[80, 32]⟩ ++ dS i) (lnl x) k ++ ⟨#[32]⟩ ++ dS ((lnl x).getD k 0) = lK i x k ++ fS (lq x k)
    rw [lT_rowK i x k, lnl_q]
    unfold fS; simp only [ByteArray.append_assoc]
theorem inB_no {z : Int} (h : ¬ (0 ≤ z ∧ z ≤ 999999999999999)) : inB z 0 999999999999999 = false := by
  cases q : inB z 0 999999999999999
  · rfl
  · rw [inB_iff] at q; exact absurd q h
theorem lT_row (i : Int) (x : Ln) : rowS (⟨#[80, 32]⟩ ++ dS i) (lnl x) = lT i x := by
  unfold rowS lT
  show rowK _ _ 15 ++ _ = _
  rw [lT_rowK]
theorem row15_any (c : ByteArray) (x : Ln) (g : Nat) (w : World) (R : w.heap[g]? = some (.cells #[.int .i64 x.i0, .int .i64 x.i1, .int .i64 x.i2, .int .i64 x.o, .int .i64 x.pk, .int .i64 x.bl, .int .i64 x.en, .int .i64 x.pw, .int .i64 x.ap, .int .i64 x.ex, .int .i64 x.pd, .int .i64 x.bk, .int .i64 x.su, .int .i64 x.tx, .int .i64 x.to] 3 (0, 0))) (hv : lvB x = true) (hs : c.size ≤ 1000) :
    Calls Tryz.prog 49 #[.string c, .slice (some ⟨g, 0, none⟩) 15 15] w fun e w' => e = .returned (.string (rowS c (lnl x))) ∧ Below w.heap.size w w' :=
  row_any c (lnl x) g w (row_lt R) (fun i hi => cell_in_row R (lq_at x i hi)) (fun k hk => by have := lvB_bd hv k hk; rw [lnl_q]; unfold nB; omega) (by show 15 ≤ 20; omega) hs

set_option maxRecDepth 1000000 in
set_option maxHeartbeats 2000000 in
theorem refPrintBill_any (v : Value) (l : List Ln) (w : World) (h : LRow w v l) (hl : l.length ≤ maxLen) :
    Calls Tryz.prog 14 #[v] w fun e w' => e = .returned (.string (pB l)) ∧ Below w.heap.size w w' := by
  obtain ⟨a, cap, rfl⟩ := h.form
  unfold maxLen at hl
  by_cases h200 : 200 < l.length
  · have h2 : (200 : Int) < (l.length : Int) := by omega
    have HB : Hid (pB l = ⟨#[]⟩) := by
      show _ = _
      unfold pB pbB
      rw [decide_eq_false (by omega)]; rfl
    clear h
    go_enter Tryz.func14, Tryz.ntmps14
    go_wp2_with fail
    go_ret
    exact ⟨by rw [HB.out]; rfl, Below.refl _ _⟩
  have h2 : ¬ (200 : Int) < (l.length : Int) := by omega
  have HV := hideP h
  clear h
  go_enter Tryz.func14, Tryz.ntmps14
  go_wp2_with fail
  go_loopw [3, 4] (fun o p wr => ∃ k : Nat, p = .int .i64 k ∧ k ≤ l.length ∧ o = .string (pbK l k) ∧ (∀ j, j < k → lvB (lAt l j) = true) ∧ Below w.heap.size w wr) (fun _ p _ => l.length - (intOf p).toNat)
  case atStart => exact ⟨0, rfl, by omega, rfl, fun j hj => by omega, Below.refl _ _⟩
  case round =>
    obtain ⟨k, rfl, hk, rfl, hall, hb⟩ := hrel
    have HA := hideP hall
    clear hall
    have hsz := hb.size
    by_cases hlt : k < l.length
    · have hlt' : (k : Int) < (l.length : Int) := by omega
      have hk0 : (0 : Int) ≤ (k : Int) := by omega
      have hx := lAt_get hlt
      have HN := hideP (fun h => pbB_no (l := l) hlt h)
      have HS : Hid (∀ (h : lvB (lAt l k) = true), (pbK l k).size + (lT k (lAt l k)).size ≤ 9223372036854775807) := fun h => by
        have a1 := pbK_size (l := l) k (by omega) HA.out
        have a2 := lT_size (i := (k : Int)) (x := lAt l k) (by omega) h
        omega
      have HQ : Hid (lvB (lAt l k) = true → ∀ j, j < k + 1 → lvB (lAt l j) = true) := fun h j hj => by
        rcases Nat.lt_or_ge j k with q | q
        · exact HA.out j q
        · obtain rfl : j = k := by omega
          exact h
      have HE : Hid (pbK l (k + 1) = pbK l k ++ lT k (lAt l k)) := rfl
      obtain ⟨x, hxe⟩ : ∃ x, x = lAt l k := ⟨_, rfl⟩
      rw [← hxe] at hx HN HS HQ HE
      obtain ⟨b, rfl, hcap, hblt, cc⟩ := (HV.out.below hb).at hx
      have hcap' : (l.length : Int) ≤ (cap : Int) := by omega
      have c0 : wr.cell? ⟨b, k * 15, none⟩ = some (.int .i64 x.i0) := cc 0 _ rfl
      have c1 : wr.cell? ⟨b, k * 15 + 1, none⟩ = some (.int .i64 x.i1) := cc 1 _ rfl
      have c2 : wr.cell? ⟨b, k * 15 + 2, none⟩ = some (.int .i64 x.i2) := cc 2 _ rfl
      have c3 : wr.cell? ⟨b, k * 15 + 3, none⟩ = some (.int .i64 x.o) := cc 3 _ rfl
      have c4 : wr.cell? ⟨b, k * 15 + 4, none⟩ = some (.int .i64 x.pk) := cc 4 _ rfl
      have c5 : wr.cell? ⟨b, k * 15 + 5, none⟩ = some (.int .i64 x.bl) := cc 5 _ rfl
      have c6 : wr.cell? ⟨b, k * 15 + 6, none⟩ = some (.int .i64 x.en) := cc 6 _ rfl
      have c7 : wr.cell? ⟨b, k * 15 + 7, none⟩ = some (.int .i64 x.pw) := cc 7 _ rfl
      have c8 : wr.cell? ⟨b, k * 15 + 8, none⟩ = some (.int .i64 x.ap) := cc 8 _ rfl
      have c9 : wr.cell? ⟨b, k * 15 + 9, none⟩ = some (.int .i64 x.ex) := cc 9 _ rfl
      have c10 : wr.cell? ⟨b, k * 15 + 10, none⟩ = some (.int .i64 x.pd) := cc 10 _ rfl
      have c11 : wr.cell? ⟨b, k * 15 + 11, none⟩ = some (.int .i64 x.bk) := cc 11 _ rfl
      have c12 : wr.cell? ⟨b, k * 15 + 12, none⟩ = some (.int .i64 x.su) := cc 12 _ rfl
      have c13 : wr.cell? ⟨b, k * 15 + 13, none⟩ = some (.int .i64 x.tx) := cc 13 _ rfl
      have c14 : wr.cell? ⟨b, k * 15 + 14, none⟩ = some (.int .i64 x.to) := cc 14 _ rfl
      have nm := fun w1 => Numbers_any x w1
      clear cc hx hxe
      go_wp2_with (go_at_call 48; refine (nm _).mono ?_; rintro e w1 ⟨g, rfl, hg, R1, hb1⟩)
      have hg1 : g < w1.heap.size := row_lt R1
      have B1 := below_then hb hb1
      have H1 := hideP R1
      clear c0 c1 c2 c3 c4 c5 c6 c7 c8 c9 c10 c11 c12 c13 c14 R1 nm
      go_loopw [6] (fun p wi => ∃ j : Nat, p = .int .i64 j ∧ j ≤ 15 ∧ (∀ i, i < j → inB (lq x i) 0 999999999999999 = true) ∧ Below w1.heap.size w1 wi) (fun p _ => 15 - (intOf p).toNat)
      case atStart => exact ⟨0, rfl, by omega, fun i hi => by omega, Below.refl _ _⟩
      case round =>
        obtain ⟨j, rfl, hj, hall, hbi⟩ := hrel
        have HL := hideP hall
        clear hall
        by_cases hjl : j < 15
        · have hjl' : (j : Int) < 15 := by omega
          have hj0 : (0 : Int) ≤ (j : Int) := by omega
          have p1 : wr.cell? ⟨g, j, none⟩ = some (.int .i64 (lq x j)) := vcell_below hbi hg1 (cell_in_row H1.out (lq_at x j hjl))
          have HLN := hideP (fun h => HN.out (lvB_no (x := x) hjl h))
          have HLQ : Hid (inB (lq x j) 0 999999999999999 = true → ∀ i, i < j + 1 → inB (lq x i) 0 999999999999999 = true) := fun h i hi => by
            rcases Nat.lt_or_ge i j with q | q
            · exact HL.out i q
            · obtain rfl : i = j := by omega
              exact h
          obtain ⟨z, hz⟩ : ∃ z, z = lq x j := ⟨_, rfl⟩
          rw [← hz] at p1 HLN HLQ
          clear hz
          by_cases z0 : z < 0
          · have HF : Hid (pB l = ⟨#[]⟩) := by
              show _ = _
              unfold pB; rw [HLN.out (inB_no (by omega))]; rfl
            go_wp2_with fail
            go_ret
            exact ⟨by rw [HF.out]; rfl, below_then B1 hbi⟩
          · by_cases z1 : 999999999999999 < z
            · have HF : Hid (pB l = ⟨#[]⟩) := by
                show _ = _
                unfold pB; rw [HLN.out (inB_no (by omega))]; rfl
              go_wp2_with fail
              go_ret
              exact ⟨by rw [HF.out]; rfl, below_then B1 hbi⟩
            · have HF := hideP (HLQ.out (by rw [inB_iff]; omega))
              go_wp2_with fail
              go_roundw
              case rel => exact ⟨j + 1, by go_num, by omega, HF.out, hbi⟩
              case measure => simp [intOf]; omega
        · have hjl' : ¬ (j : Int) < 15 := by omega
          have hv : lvB x = true := lvB_yes fun i hi => HL.out i (by omega)
          have R2 : wr.heap[g]? = some (.cells #[.int .i64 x.i0, .int .i64 x.i1, .int .i64 x.i2, .int .i64 x.o, .int .i64 x.pk, .int .i64 x.bl, .int .i64 x.en, .int .i64 x.pw, .int .i64 x.ap, .int .i64 x.ex, .int .i64 x.pd, .int .i64 x.bk, .int .i64 x.su, .int .i64 x.tx, .int .i64 x.to] 3 (0, 0)) := (hbi.block _ hg1).trans H1.out
          have hg2 : g < wr.heap.size := row_lt R2
          have nk : nB (k : Int) := by unfold nB; omega
          have dc := nk.dec
          have sd := nk.d
          obtain ⟨C, hC⟩ : ∃ C, C = (⟨#[80, 32]⟩ : ByteArray) ++ dS (k : Int) := ⟨_, rfl⟩
          have sC : C.size ≤ 23 := by rw [hC, app_size]; show 2 + _ ≤ _; omega
          have aC : ∀ w, (Op.stringOp .add ⟨#[80, 32]⟩ (dS (k : Int))).run Tryz.prog w = .ok (.string C) w := by rw [hC]; exact sadd _ _ (by show 2 + _ ≤ _; omega)
          have rw15 := fun w2 (h : w2.heap[g]? = some (.cells #[.int .i64 x.i0, .int .i64 x.i1, .int .i64 x.i2, .int .i64 x.o, .int .i64 x.pk, .int .i64 x.bl, .int .i64 x.en, .int .i64 x.pw, .int .i64 x.ap, .int .i64 x.ex, .int .i64 x.pd, .int .i64 x.bk, .int .i64 x.su, .int .i64 x.tx, .int .i64 x.to] 3 (0, 0))) => row15_any C x g w2 h hv (by omega)
          have e15 : rowS C (lnl x) = lT k x := by rw [hC]; exact lT_row _ _
          rw [e15] at rw15
          have HF := hideP (HQ.out hv)
          have ad : ∀ w, (Op.stringOp .add (pbK l k) (lT k x)).run Tryz.prog w = .ok (.string (pbK l (k + 1))) w := by rw [HE.out]; exact sadd _ _ (HS.out hv)
          obtain ⟨A, hA⟩ : ∃ A, A = pbK l k := ⟨_, rfl⟩
          rw [← hA] at ad ⊢
          obtain ⟨A', hA'⟩ : ∃ A', A' = pbK l (k + 1) := ⟨_, rfl⟩
          rw [← hA'] at ad
          have HA' := hideP hA'
          obtain ⟨L, hL⟩ : ∃ L, L = lT k x := ⟨_, rfl⟩
          rw [← hL] at ad rw15
          clear hA hA' hL hv hC e15
          go_wp2_with (first
            | (go_at_call 50; refine (dc _).mono ?_; rintro e w2 ⟨rfl, hb2⟩; have R3 := (hb2.block _ hg2).trans R2)
            | (go_at_call 49; refine (rw15 _ R3).mono ?_; rintro e w3 ⟨rfl, hb3⟩))
          go_roundw
          case rel => exact ⟨k + 1, by go_num, by omega, by rw [HA'.out], HF.out, below_then (below_then (below_then B1 hbi) hb2) hb3⟩
          case measure => simp [intOf]; omega
    · have hlt' : ¬ (k : Int) < (l.length : Int) := by omega
      have hkn : k = l.length := by omega
      subst hkn
      have HF : Hid (pB l = pbK l l.length) := by
        show _ = _
        unfold pB; rw [pbB_yes (by omega) HA.out]; rfl
      obtain ⟨A, hA⟩ : ∃ A, A = pbK l l.length := ⟨_, rfl⟩
      rw [← hA] at HF ⊢
      clear hA
      go_wp2_with fail
      go_ret
      exact ⟨by rw [HF.out]; rfl, hb⟩
end Go.Proofs.YtjaffmmocbplaabGreatDoor
