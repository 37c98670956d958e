/-
  RbpW, RbpX in one text.
-/
import Derived.Test.YtjaffmmocbplaabDoorKRbtM
import Derived.Test.YtjaffmmocbplaabDoorKTdW
import Derived.BigQuiet
namespace Go.Proofs.YtjaffmmocbplaabDoor
open Go.RowKit Go.Shelf Bil
set_option linter.unusedVariables false
attribute [local go_sem ↓] Go.wp_at_zero Go.wp_at_succ

set_option maxHeartbeats 1000000 in
theorem word_any (t : ByteArray) (s : Txt.Sc) (u : ByteArray) (b : Nat) (w : World) (h : ScanAt w b t s) (hs : s.pos ≤ t.size) (ht : t.size ≤ 100000) (hu : u.size ≤ 1000) :
    Calls Tryd.prog 47 #[.pointer (some ⟨b, 0, none⟩), .string u] w fun e w' => e = .returned (.tuple #[]) ∧ w.grownBy w' (some b) ∧ ScanAt w' b t (lits t s (bytes u)) := by
  obtain ⟨S, hS⟩ : ∃ S, S = lits t s (bytes u) := ⟨_, rfl⟩
  rw [← hS]
  have HS : Hid (lits t s ((bytes u).drop 0) = S) := hS.symm
  clear hS
  go_enter Tryd.func47, Tryd.ntmps47
  go_wp2_with fail
  go_loopw [4] (fun i wr => ∃ (k : Nat) (s1 : Txt.Sc), i = .int .i64 k ∧ k ≤ u.size ∧ s1.pos ≤ t.size ∧ lits t s1 ((bytes u).drop k) = S ∧ w.grownBy wr (some b) ∧ ScanAt wr b t s1) (fun i _ => u.size - (intOf i).toNat)
  case atStart => exact ⟨0, s, rfl, by omega, hs, HS.out, grown_refl _ _, h⟩
  case round =>
    obtain ⟨k, s1, rfl, hk, hp1, hl, hg, hsc⟩ := hrel
    have hl' := bytes_length u
    by_cases hku : k < u.size
    · have hku' : (k : Int) < (u.size : Int) := by omega
      have hk0 : (0 : Int) ≤ (k : Int) := by omega
      have hdrop := bytes_drop u k hku
      have HE : Hid (lits t (Txt.take t s1 (u[k].toNat : Int)) ((bytes u).drop (k + 1)) = S) := by rw [hdrop] at hl; exact hl
      have tk := fun w1 (h1 : ScanAt w1 b t s1) => take_any t s1 (u[k].toNat : Int) b w1 h1 (by omega) hp1 ht
      have HP : Hid ((Txt.take t s1 (u[k].toNat : Int)).pos ≤ t.size) := Txt.take_le (by omega) hp1
      obtain ⟨S2, hS2⟩ : ∃ S2, S2 = Txt.take t s1 (u[k].toNat : Int) := ⟨_, rfl⟩
      rw [← hS2] at tk HE HP
      clear hl hdrop hl' hS2
      go_wp2_with (go_at_call 46; refine (tk _ hsc).mono ?_; rintro e w1 ⟨rfl, g1, s1'⟩)
      go_roundw
      case rel => exact ⟨k + 1, S2, by go_num, by omega, HP.out, HE.out, grown_trans hg g1, s1'⟩
      case measure => simp [intOf]; omega
    · have hku' : ¬ (k : Int) < (u.size : Int) := by omega
      have HE : Hid (s1 = S) := by rw [List.drop_of_length_le (by omega)] at hl; exact hl
      clear hl
      go_wp2_with fail
      go_end0
      exact ⟨rfl, hg, by rw [← HE.out]; exact hsc⟩

set_option maxHeartbeats 400000 in
theorem amount_any (t : ByteArray) (s : Txt.Sc) (b : Nat) (w : World) (h : ScanAt w b t s) (hs : s.pos ≤ t.size) (ht : t.size ≤ 100000) :
    Calls Tryd.prog 48 #[.pointer (some ⟨b, 0, none⟩)] w fun e w' => e = .returned (.int .i64 (Txt.field t 15 s).1) ∧ w.grownBy w' (some b) ∧ ScanAt w' b t (Txt.field t 15 s).2 := by
  go_enter Tryd.func48, Tryd.ntmps48
  go_wp2_with (first | (go_at_call 46; refine (take_any t s 32 b _ h (by omega) hs ht).mono ?_; rintro e w1 ⟨rfl, g1, s1⟩) | (go_at_call 66; refine (upTo_any 15 (by omega) t _ b _ s1 (Txt.take_le (by omega) hs) ht).mono ?_; rintro e w2 ⟨rfl, g2, s2⟩))
  go_ret
  exact ⟨rfl, grown_trans g1 g2, s2⟩

/-- the scanner in block b, the line under way behind the old memory -/
structure LSt (w : World) (b : Nat) (t : ByteArray) (wi : World) (x : Ln) (s : Txt.Sc) : Prop where
  g : w.grownBy wi (some b)
  z : wi.heap[w.heap.size]? = some (.cells #[.int .i64 0, .int .i64 0, .int .i64 0, .int .i64 0, .int .i64 0, .int .i64 0, .int .i64 0, .int .i64 0, .int .i64 0, .int .i64 0, .int .i64 0, .int .i64 0, .int .i64 0, .int .i64 0, .int .i64 0] 32)
  r : LR wi (w.heap.size + 1) x
  sc : ScanAt wi b t s
  hb : b < w.heap.size
theorem LSt.lt {w wi : World} {b : Nat} {t : ByteArray} {x : Ln} {s : Txt.Sc} (h : LSt w b t wi x s) : w.heap.size + 1 < wi.heap.size := h.r.lt
theorem LSt.step {w wi w' : World} {b : Nat} {t : ByteArray} {x : Ln} {s s' : Txt.Sc} (h : LSt w b t wi x s) (g : wi.grownBy w' (some b)) (sc : ScanAt w' b t s') : LSt w b t w' x s' := by
  have hl := h.lt
  have hb := h.hb
  exact ⟨grown_trans h.g g, (g.block _ (by omega) (fun e => by injection e with e; omega)).trans h.z, (g.block _ (by omega) (fun e => by injection e with e; omega)).trans h.r, sc, hb⟩
theorem LSt.below {w wi w' : World} {b : Nat} {t : ByteArray} {x : Ln} {s : Txt.Sc} (h : LSt w b t wi x s) (hb : Below wi.heap.size wi w') : LSt w b t w' x s :=
  h.step ⟨hb.os, hb.tape, hb.output, hb.size, fun k hk _ => hb.block k hk⟩ (h.sc.grown (r := none) ⟨hb.os, hb.tape, hb.output, hb.size, fun k hk _ => hb.block k hk⟩ (by simp))
theorem LSt.put {w wi : World} {b : Nat} {t : ByteArray} {x x' : Ln} {s : Txt.Sc} (h : LSt w b t wi x s) (j : Nat) (u : Value) (hr : LR (wi.setCell ⟨w.heap.size + 1, j, none⟩ u) (w.heap.size + 1) x') : LSt w b t (wi.setCell ⟨w.heap.size + 1, j, none⟩ u) x' s := by
  have hb := h.hb
  exact ⟨grown_own h.g (k := w.heap.size + 1) (by omega) _, (Below.heap_setCell _ _ _ _ (show w.heap.size ≠ w.heap.size + 1 by omega)).trans h.z, hr, h.sc.other (by omega) _ _, hb⟩
theorem lW_bytes (i : Nat) : bytes (lW i) = 80 :: bytes (fS (i : Int)) := by
  unfold lW bytes
  simp
theorem rbQ_eq (t : ByteArray) (s : Txt.Sc) (i : Nat) : lits t (Txt.take t s 80) (bytes (fS (i : Int))) = rbQ t s i := by
  unfold rbQ; rw [lW_bytes]; rfl
theorem ln_one (x : Ln) : (#[.int .i64 x.i0, .int .i64 x.i1, .int .i64 x.i2, .int .i64 x.o, .int .i64 x.pk, .int .i64 x.bl, .int .i64 x.en, .int .i64 x.pw, .int .i64 x.ap, .int .i64 x.ex, .int .i64 x.pd, .int .i64 x.bk, .int .i64 x.su, .int .i64 x.tx, .int .i64 x.to] : Array Value).all (fun v => v.oneCell') = true := by kernel_rfl
theorem ln_size (x : Ln) : (#[.int .i64 0, .int .i64 0, .int .i64 0, .int .i64 0, .int .i64 0, .int .i64 0, .int .i64 0, .int .i64 0, .int .i64 0, .int .i64 0, .int .i64 0, .int .i64 0, .int .i64 0, .int .i64 0, .int .i64 0] : Array Value).size = (#[.int .i64 x.i0, .int .i64 x.i1, .int .i64 x.i2, .int .i64 x.o, .int .i64 x.pk, .int .i64 x.bl, .int .i64 x.en, .int .i64 x.pw, .int .i64 x.ap, .int .i64 x.ex, .int .i64 x.pd, .int .i64 x.bk, .int .i64 x.su, .int .i64 x.tx, .int .i64 x.to] : Array Value).size := rfl
theorem ln_info (x : Ln) : (Tryd.prog.info? 32).map (fun i => i.size) = some (#[.int .i64 x.i0, .int .i64 x.i1, .int .i64 x.i2, .int .i64 x.o, .int .i64 x.pk, .int .i64 x.bl, .int .i64 x.en, .int .i64 x.pw, .int .i64 x.ap, .int .i64 x.ex, .int .i64 x.pd, .int .i64 x.bk, .int .i64 x.su, .int .i64 x.tx, .int .i64 x.to] : Array Value).size := by
  show _ = some 15
  kernel_rfl

set_option maxRecDepth 1000000 in
set_option maxHeartbeats 2000000 in
theorem scan_line_any (t : ByteArray) (s : Txt.Sc) (i : Nat) (hi : i ≤ 1000) (x : Ln) (hx : x = rbN t s i) (b : Nat) (w0 w : World) (hT : TB w0) (B0 : Below w0.heap.size w0 w) (hb0 : w0.heap.size ≤ b) (h : ScanAt w b t s) (hs : s.pos ≤ t.size) (ht : t.size ≤ 100000) :
    Calls Tryd.prog 22 #[.pointer (some ⟨b, 0, none⟩), .int .i64 i] w fun e w' => e = .returned (.agg #[.int .i64 x.i0, .int .i64 x.i1, .int .i64 x.i2, .int .i64 x.o, .int .i64 x.pk, .int .i64 x.bl, .int .i64 x.en, .int .i64 x.pw, .int .i64 x.ap, .int .i64 x.ex, .int .i64 x.pd, .int .i64 x.bk, .int .i64 x.su, .int .i64 x.tx, .int .i64 x.to]) ∧ w.grownBy w' (some b) ∧ ScanAt w' b t (rbE t s i) := by
  have HX := hideD hx
  clear hx
  have l0 : (Txt.take t s 80).pos ≤ t.size := Txt.take_le (by omega) hs
  have lQ : (rbQ t s i).pos ≤ t.size := rbQ_le hs
  have lF := fldS_le t 15 (rbQ t s i) lQ
  have tP := fun W (h : ScanAt W b t s) => take_any t s 80 b W h (by omega) hs ht
  have fT := fun W (g : w.grownBy W (some b)) => fieldText_any (i : Int) (by omega) (by omega) W (hT.below (Below.grown B0 g B0.size (fun k hk => by cases hk; exact hb0)))
  have sF : (fS (i : Int)).size ≤ 22 := fS_size (by omega) (by omega)
  have wd : ∀ W, ScanAt W b t (Txt.take t s 80) → Calls Tryd.prog 47 #[.pointer (some ⟨b, 0, none⟩), .string (fS (i : Int))] W fun e w' => e = .returned (.tuple #[]) ∧ W.grownBy w' (some b) ∧ ScanAt w' b t (fldS t 15 (rbQ t s i) 0) := fun W h => by
    have := word_any t _ (fS (i : Int)) b W h l0 ht (by omega)
    rw [rbQ_eq] at this; exact this
  have am : ∀ k W, ScanAt W b t (fldS t 15 (rbQ t s i) k) → Calls Tryd.prog 48 #[.pointer (some ⟨b, 0, none⟩)] W fun e w' => e = .returned (.int .i64 (rbV t s i k)) ∧ W.grownBy w' (some b) ∧ ScanAt w' b t (fldS t 15 (rbQ t s i) (k + 1)) := fun k W h => amount_any t _ b W h (lF k) ht
  have tN : ∀ W, ScanAt W b t (fldS t 15 (rbQ t s i) 15) → Calls Tryd.prog 46 #[.pointer (some ⟨b, 0, none⟩), .int .u8 10] W fun e w' => e = .returned (.tuple #[]) ∧ W.grownBy w' (some b) ∧ ScanAt w' b t (rbE t s i) := fun W h => take_any t _ 10 b W h (by omega) (lF 15) ht
  obtain ⟨S1, hS1⟩ : ∃ S1, S1 = Txt.take t s 80 := ⟨_, rfl⟩
  rw [← hS1] at tP wd
  obtain ⟨FT, hFT⟩ : ∃ FT, FT = fS (i : Int) := ⟨_, rfl⟩
  rw [← hFT] at fT wd
  have hb := h.lt
  have hb0' : ¬ w.heap.size = b := by omega
  have SA : LSt w b t ((w.alloc (.cells #[.int .i64 0, .int .i64 0, .int .i64 0, .int .i64 0, .int .i64 0, .int .i64 0, .int .i64 0, .int .i64 0, .int .i64 0, .int .i64 0, .int .i64 0, .int .i64 0, .int .i64 0, .int .i64 0, .int .i64 0] 32)).alloc (.cells #[.int .i64 0, .int .i64 0, .int .i64 0, .int .i64 0, .int .i64 0, .int .i64 0, .int .i64 0, .int .i64 0, .int .i64 0, .int .i64 0, .int .i64 0, .int .i64 0, .int .i64 0, .int .i64 0, .int .i64 0] 32)) ln0 s := ⟨grown_alloc (grown_alloc (grown_refl _ _) _) _, (heap_alloc_old _ _ (by simp)).trans (heap_alloc_new _ _), heap_alloc2_new _ _ _, (h.alloc _).alloc _, hb⟩
  clear h hS1 hFT sF l0 lQ lF hs
  go_enter Tryd.func22, Tryd.ntmps22
  go_upto_region 2 with fail
  refine wp_world (fun wA hwA => ?_)
  replace SA : LSt w b t wA ln0 s := by rw [hwA]; exact SA
  clear hwA
  go_upto_region 4 with (first
    | (go_at_call 46; refine (tP _ SA.sc).mono ?_; rintro e w1 ⟨rfl, g1, s1⟩; have T1 := SA.step g1 s1)
    | (go_at_call 27; refine (fT _ T1.g).mono ?_; rintro e w2 ⟨rfl, hb2⟩; have T2 := T1.below hb2)
    | (go_at_call 47; refine (wd _ T2.sc).mono ?_; rintro e w3 ⟨rfl, g3, s3⟩; have T3 := T2.step g3 s3))
  have S0 := hideD T3
  clear T1 T2 T3 g1 s1 hb2 g3 s3 SA tP fT wd
  go_wp2_with fail
  go_loopw [6] (fun p wi => ∃ k : Nat, p = .int .i64 k ∧ k ≤ 3 ∧ ((k = 0 ∧ LSt w b t wi ⟨0, 0, 0, 0, 0, 0, 0, 0, 0, 0, 0, 0, 0, 0, 0⟩ (fldS t 15 (rbQ t s i) 0)) ∨ (k = 1 ∧ LSt w b t wi ⟨(rbV t s i 0), 0, 0, 0, 0, 0, 0, 0, 0, 0, 0, 0, 0, 0, 0⟩ (fldS t 15 (rbQ t s i) 1)) ∨ (k = 2 ∧ LSt w b t wi ⟨(rbV t s i 0), (rbV t s i 1), 0, 0, 0, 0, 0, 0, 0, 0, 0, 0, 0, 0, 0⟩ (fldS t 15 (rbQ t s i) 2)) ∨ (k = 3 ∧ LSt w b t wi ⟨(rbV t s i 0), (rbV t s i 1), (rbV t s i 2), 0, 0, 0, 0, 0, 0, 0, 0, 0, 0, 0, 0⟩ (fldS t 15 (rbQ t s i) 3)))) (fun p _ => 3 - (intOf p).toNat)
  case atStart => exact ⟨0, rfl, by omega, .inl ⟨rfl, S0.out⟩⟩
  case round =>
    clear S0
    obtain ⟨k, rfl, hk, hq⟩ := hrel
    rcases hq with ⟨rfl, Sk⟩ | ⟨rfl, Sk⟩ | ⟨rfl, Sk⟩ | ⟨rfl, Sk⟩
    · have Sm := hideD Sk
      clear Sk
      go_wp2_with (go_at_call 48; refine (am 0 _ Sm.out.sc).mono ?_; rintro e w9 ⟨rfl, g9, s9⟩; have S9 := Sm.out.step g9 s9; have hl9 := S9.lt; have p9 : w9.cell? ⟨w.heap.size + 1, 0, none⟩ = some (.int .i64 0) := S9.r.c0; have f9 : w9.frozen? ⟨w.heap.size + 1, 0, none⟩ = false := S9.r.frz 0)
      go_roundw
      case rel => exact ⟨1, by first | rfl | go_num, by omega, .inr (.inl ⟨rfl, S9.put 0 _ (S9.r.i0 (rbV t s i 0))⟩)⟩
      case measure => simp [intOf]
    · have Sm := hideD Sk
      clear Sk
      go_wp2_with (go_at_call 48; refine (am 1 _ Sm.out.sc).mono ?_; rintro e w9 ⟨rfl, g9, s9⟩; have S9 := Sm.out.step g9 s9; have hl9 := S9.lt; have p9 : w9.cell? ⟨w.heap.size + 1, 1, none⟩ = some (.int .i64 0) := S9.r.c1; have f9 : w9.frozen? ⟨w.heap.size + 1, 1, none⟩ = false := S9.r.frz 1)
      go_roundw
      case rel => exact ⟨2, by first | rfl | go_num, by omega, .inr (.inr (.inl ⟨rfl, S9.put 1 _ (S9.r.i1 (rbV t s i 1))⟩))⟩
      case measure => simp [intOf]
    · have Sm := hideD Sk
      clear Sk
      go_wp2_with (go_at_call 48; refine (am 2 _ Sm.out.sc).mono ?_; rintro e w9 ⟨rfl, g9, s9⟩; have S9 := Sm.out.step g9 s9; have hl9 := S9.lt; have p9 : w9.cell? ⟨w.heap.size + 1, 2, none⟩ = some (.int .i64 0) := S9.r.c2; have f9 : w9.frozen? ⟨w.heap.size + 1, 2, none⟩ = false := S9.r.frz 2)
      go_roundw
      case rel => exact ⟨3, by first | rfl | go_num, by omega, .inr (.inr (.inr ⟨rfl, S9.put 2 _ (S9.r.i2 (rbV t s i 2))⟩))⟩
      case measure => simp [intOf]
    · have S3 := Sk
      clear Sk hk
      go_upto_region 8 with fail
      go_upto_region 9 with (go_at_call 48; refine (am 3 _ S3.sc).mono ?_; rintro e w3 ⟨rfl, g3, s3⟩; have R3 := S3.step g3 s3; have hl3 := R3.lt; have p3 : w3.cell? ⟨w.heap.size + 1, 3, none⟩ = some (.int .i64 0) := R3.r.c3; have f3 : w3.frozen? ⟨w.heap.size + 1, 3, none⟩ = false := R3.r.frz 3)
      have U3 := R3.put (x' := ⟨(rbV t s i 0), (rbV t s i 1), (rbV t s i 2), (rbV t s i 3), 0, 0, 0, 0, 0, 0, 0, 0, 0, 0, 0⟩) 3 _ (R3.r.o (rbV t s i 3))
      obtain ⟨v3, hv3⟩ : ∃ v, v = (w3.setCell ⟨w.heap.size + 1, 3, none⟩ (.int .i64 (rbV t s i 3))) := ⟨_, rfl⟩
      rw [← hv3] at U3 ⊢
      have S4 := U3
      clear hv3 U3 R3 S3 g3 s3 hl3 p3 f3
      go_upto_region 10 with (go_at_call 48; refine (am 4 _ S4.sc).mono ?_; rintro e w4 ⟨rfl, g4, s4⟩; have R4 := S4.step g4 s4; have hl4 := R4.lt; have p4 : w4.cell? ⟨w.heap.size + 1, 4, none⟩ = some (.int .i64 0) := R4.r.c4; have f4 : w4.frozen? ⟨w.heap.size + 1, 4, none⟩ = false := R4.r.frz 4)
      have U4 := R4.put (x' := ⟨(rbV t s i 0), (rbV t s i 1), (rbV t s i 2), (rbV t s i 3), (rbV t s i 4), 0, 0, 0, 0, 0, 0, 0, 0, 0, 0⟩) 4 _ (R4.r.pk (rbV t s i 4))
      obtain ⟨v4, hv4⟩ : ∃ v, v = (w4.setCell ⟨w.heap.size + 1, 4, none⟩ (.int .i64 (rbV t s i 4))) := ⟨_, rfl⟩
      rw [← hv4] at U4 ⊢
      have S5 := U4
      clear hv4 U4 R4 S4 g4 s4 hl4 p4 f4
      go_upto_region 11 with (go_at_call 48; refine (am 5 _ S5.sc).mono ?_; rintro e w5 ⟨rfl, g5, s5⟩; have R5 := S5.step g5 s5; have hl5 := R5.lt; have p5 : w5.cell? ⟨w.heap.size + 1, 5, none⟩ = some (.int .i64 0) := R5.r.c5; have f5 : w5.frozen? ⟨w.heap.size + 1, 5, none⟩ = false := R5.r.frz 5)
      have U5 := R5.put (x' := ⟨(rbV t s i 0), (rbV t s i 1), (rbV t s i 2), (rbV t s i 3), (rbV t s i 4), (rbV t s i 5), 0, 0, 0, 0, 0, 0, 0, 0, 0⟩) 5 _ (R5.r.bl (rbV t s i 5))
      obtain ⟨v5, hv5⟩ : ∃ v, v = (w5.setCell ⟨w.heap.size + 1, 5, none⟩ (.int .i64 (rbV t s i 5))) := ⟨_, rfl⟩
      rw [← hv5] at U5 ⊢
      have S6 := U5
      clear hv5 U5 R5 S5 g5 s5 hl5 p5 f5
      go_upto_region 12 with (go_at_call 48; refine (am 6 _ S6.sc).mono ?_; rintro e w6 ⟨rfl, g6, s6⟩; have R6 := S6.step g6 s6; have hl6 := R6.lt; have p6 : w6.cell? ⟨w.heap.size + 1, 6, none⟩ = some (.int .i64 0) := R6.r.c6; have f6 : w6.frozen? ⟨w.heap.size + 1, 6, none⟩ = false := R6.r.frz 6)
      have U6 := R6.put (x' := ⟨(rbV t s i 0), (rbV t s i 1), (rbV t s i 2), (rbV t s i 3), (rbV t s i 4), (rbV t s i 5), (rbV t s i 6), 0, 0, 0, 0, 0, 0, 0, 0⟩) 6 _ (R6.r.en (rbV t s i 6))
      obtain ⟨v6, hv6⟩ : ∃ v, v = (w6.setCell ⟨w.heap.size + 1, 6, none⟩ (.int .i64 (rbV t s i 6))) := ⟨_, rfl⟩
      rw [← hv6] at U6 ⊢
      have S7 := U6
      clear hv6 U6 R6 S6 g6 s6 hl6 p6 f6
      go_upto_region 13 with (go_at_call 48; refine (am 7 _ S7.sc).mono ?_; rintro e w7 ⟨rfl, g7, s7⟩; have R7 := S7.step g7 s7; have hl7 := R7.lt; have p7 : w7.cell? ⟨w.heap.size + 1, 7, none⟩ = some (.int .i64 0) := R7.r.c7; have f7 : w7.frozen? ⟨w.heap.size + 1, 7, none⟩ = false := R7.r.frz 7)
      have U7 := R7.put (x' := ⟨(rbV t s i 0), (rbV t s i 1), (rbV t s i 2), (rbV t s i 3), (rbV t s i 4), (rbV t s i 5), (rbV t s i 6), (rbV t s i 7), 0, 0, 0, 0, 0, 0, 0⟩) 7 _ (R7.r.pw (rbV t s i 7))
      obtain ⟨v7, hv7⟩ : ∃ v, v = (w7.setCell ⟨w.heap.size + 1, 7, none⟩ (.int .i64 (rbV t s i 7))) := ⟨_, rfl⟩
      rw [← hv7] at U7 ⊢
      have S8 := U7
      clear hv7 U7 R7 S7 g7 s7 hl7 p7 f7
      go_upto_region 14 with (go_at_call 48; refine (am 8 _ S8.sc).mono ?_; rintro e w8 ⟨rfl, g8, s8⟩; have R8 := S8.step g8 s8; have hl8 := R8.lt; have p8 : w8.cell? ⟨w.heap.size + 1, 8, none⟩ = some (.int .i64 0) := R8.r.c8; have f8 : w8.frozen? ⟨w.heap.size + 1, 8, none⟩ = false := R8.r.frz 8)
      have U8 := R8.put (x' := ⟨(rbV t s i 0), (rbV t s i 1), (rbV t s i 2), (rbV t s i 3), (rbV t s i 4), (rbV t s i 5), (rbV t s i 6), (rbV t s i 7), (rbV t s i 8), 0, 0, 0, 0, 0, 0⟩) 8 _ (R8.r.ap (rbV t s i 8))
      obtain ⟨v8, hv8⟩ : ∃ v, v = (w8.setCell ⟨w.heap.size + 1, 8, none⟩ (.int .i64 (rbV t s i 8))) := ⟨_, rfl⟩
      rw [← hv8] at U8 ⊢
      have S9 := U8
      clear hv8 U8 R8 S8 g8 s8 hl8 p8 f8
      go_upto_region 15 with (go_at_call 48; refine (am 9 _ S9.sc).mono ?_; rintro e w9 ⟨rfl, g9, s9⟩; have R9 := S9.step g9 s9; have hl9 := R9.lt; have p9 : w9.cell? ⟨w.heap.size + 1, 9, none⟩ = some (.int .i64 0) := R9.r.c9; have f9 : w9.frozen? ⟨w.heap.size + 1, 9, none⟩ = false := R9.r.frz 9)
      have U9 := R9.put (x' := ⟨(rbV t s i 0), (rbV t s i 1), (rbV t s i 2), (rbV t s i 3), (rbV t s i 4), (rbV t s i 5), (rbV t s i 6), (rbV t s i 7), (rbV t s i 8), (rbV t s i 9), 0, 0, 0, 0, 0⟩) 9 _ (R9.r.ex (rbV t s i 9))
      obtain ⟨v9, hv9⟩ : ∃ v, v = (w9.setCell ⟨w.heap.size + 1, 9, none⟩ (.int .i64 (rbV t s i 9))) := ⟨_, rfl⟩
      rw [← hv9] at U9 ⊢
      have S10 := U9
      clear hv9 U9 R9 S9 g9 s9 hl9 p9 f9
      go_upto_region 16 with (go_at_call 48; refine (am 10 _ S10.sc).mono ?_; rintro e w10 ⟨rfl, g10, s10⟩; have R10 := S10.step g10 s10; have hl10 := R10.lt; have p10 : w10.cell? ⟨w.heap.size + 1, 10, none⟩ = some (.int .i64 0) := R10.r.c10; have f10 : w10.frozen? ⟨w.heap.size + 1, 10, none⟩ = false := R10.r.frz 10)
      have U10 := R10.put (x' := ⟨(rbV t s i 0), (rbV t s i 1), (rbV t s i 2), (rbV t s i 3), (rbV t s i 4), (rbV t s i 5), (rbV t s i 6), (rbV t s i 7), (rbV t s i 8), (rbV t s i 9), (rbV t s i 10), 0, 0, 0, 0⟩) 10 _ (R10.r.pd (rbV t s i 10))
      obtain ⟨v10, hv10⟩ : ∃ v, v = (w10.setCell ⟨w.heap.size + 1, 10, none⟩ (.int .i64 (rbV t s i 10))) := ⟨_, rfl⟩
      rw [← hv10] at U10 ⊢
      have S11 := U10
      clear hv10 U10 R10 S10 g10 s10 hl10 p10 f10
      go_upto_region 17 with (go_at_call 48; refine (am 11 _ S11.sc).mono ?_; rintro e w11 ⟨rfl, g11, s11⟩; have R11 := S11.step g11 s11; have hl11 := R11.lt; have p11 : w11.cell? ⟨w.heap.size + 1, 11, none⟩ = some (.int .i64 0) := R11.r.c11; have f11 : w11.frozen? ⟨w.heap.size + 1, 11, none⟩ = false := R11.r.frz 11)
      have U11 := R11.put (x' := ⟨(rbV t s i 0), (rbV t s i 1), (rbV t s i 2), (rbV t s i 3), (rbV t s i 4), (rbV t s i 5), (rbV t s i 6), (rbV t s i 7), (rbV t s i 8), (rbV t s i 9), (rbV t s i 10), (rbV t s i 11), 0, 0, 0⟩) 11 _ (R11.r.bk (rbV t s i 11))
      obtain ⟨v11, hv11⟩ : ∃ v, v = (w11.setCell ⟨w.heap.size + 1, 11, none⟩ (.int .i64 (rbV t s i 11))) := ⟨_, rfl⟩
      rw [← hv11] at U11 ⊢
      have S12 := U11
      clear hv11 U11 R11 S11 g11 s11 hl11 p11 f11
      go_upto_region 18 with (go_at_call 48; refine (am 12 _ S12.sc).mono ?_; rintro e w12 ⟨rfl, g12, s12⟩; have R12 := S12.step g12 s12; have hl12 := R12.lt; have p12 : w12.cell? ⟨w.heap.size + 1, 12, none⟩ = some (.int .i64 0) := R12.r.c12; have f12 : w12.frozen? ⟨w.heap.size + 1, 12, none⟩ = false := R12.r.frz 12)
      have U12 := R12.put (x' := ⟨(rbV t s i 0), (rbV t s i 1), (rbV t s i 2), (rbV t s i 3), (rbV t s i 4), (rbV t s i 5), (rbV t s i 6), (rbV t s i 7), (rbV t s i 8), (rbV t s i 9), (rbV t s i 10), (rbV t s i 11), (rbV t s i 12), 0, 0⟩) 12 _ (R12.r.su (rbV t s i 12))
      obtain ⟨v12, hv12⟩ : ∃ v, v = (w12.setCell ⟨w.heap.size + 1, 12, none⟩ (.int .i64 (rbV t s i 12))) := ⟨_, rfl⟩
      rw [← hv12] at U12 ⊢
      have S13 := U12
      clear hv12 U12 R12 S12 g12 s12 hl12 p12 f12
      go_upto_region 19 with (go_at_call 48; refine (am 13 _ S13.sc).mono ?_; rintro e w13 ⟨rfl, g13, s13⟩; have R13 := S13.step g13 s13; have hl13 := R13.lt; have p13 : w13.cell? ⟨w.heap.size + 1, 13, none⟩ = some (.int .i64 0) := R13.r.c13; have f13 : w13.frozen? ⟨w.heap.size + 1, 13, none⟩ = false := R13.r.frz 13)
      have U13 := R13.put (x' := ⟨(rbV t s i 0), (rbV t s i 1), (rbV t s i 2), (rbV t s i 3), (rbV t s i 4), (rbV t s i 5), (rbV t s i 6), (rbV t s i 7), (rbV t s i 8), (rbV t s i 9), (rbV t s i 10), (rbV t s i 11), (rbV t s i 12), (rbV t s i 13), 0⟩) 13 _ (R13.r.tx (rbV t s i 13))
      obtain ⟨v13, hv13⟩ : ∃ v, v = (w13.setCell ⟨w.heap.size + 1, 13, none⟩ (.int .i64 (rbV t s i 13))) := ⟨_, rfl⟩
      rw [← hv13] at U13 ⊢
      have S14 := U13
      clear hv13 U13 R13 S13 g13 s13 hl13 p13 f13
      go_upto_region 20 with (go_at_call 48; refine (am 14 _ S14.sc).mono ?_; rintro e w14 ⟨rfl, g14, s14⟩; have R14 := S14.step g14 s14; have hl14 := R14.lt; have p14 : w14.cell? ⟨w.heap.size + 1, 14, none⟩ = some (.int .i64 0) := R14.r.c14; have f14 : w14.frozen? ⟨w.heap.size + 1, 14, none⟩ = false := R14.r.frz 14)
      have U14 := R14.put (x' := ⟨(rbV t s i 0), (rbV t s i 1), (rbV t s i 2), (rbV t s i 3), (rbV t s i 4), (rbV t s i 5), (rbV t s i 6), (rbV t s i 7), (rbV t s i 8), (rbV t s i 9), (rbV t s i 10), (rbV t s i 11), (rbV t s i 12), (rbV t s i 13), (rbV t s i 14)⟩) 14 _ (R14.r.to (rbV t s i 14))
      obtain ⟨v14, hv14⟩ : ∃ v, v = (w14.setCell ⟨w.heap.size + 1, 14, none⟩ (.int .i64 (rbV t s i 14))) := ⟨_, rfl⟩
      rw [← hv14] at U14 ⊢
      have S15 := U14
      clear hv14 U14 R14 S14 g14 s14 hl14 p14 f14
      go_upto_region 21 with (go_at_call 46; refine (tN _ S15.sc).mono ?_; rintro e w20 ⟨rfl, g20, s20⟩; have S20 := S15.step g20 s20)
      clear S15 g20 s20
      have SZ : LSt w b t w20 x (rbE t s i) := by rw [HX.out]; exact S20
      have hR := SZ.r
      unfold LR at hR
      have hZ := SZ.z
      have HZ := hideD SZ
      clear S20 SZ
      go_wp2_with (first
        | (with_reducible show wpList _ _ _ _ _ w20; refine wpList_load_row rfl 32 _ rfl (w.heap.size + 1) rfl 32 _ (0, 0) _ hR Tryd.underlying32 rfl (by kernel_rfl) ?_)
        | (with_reducible show wpList _ _ _ _ _ w20; refine wpList_store_row rfl 32 _ _ rfl w.heap.size #[.int .i64 x.i0, .int .i64 x.i1, .int .i64 x.i2, .int .i64 x.o, .int .i64 x.pk, .int .i64 x.bl, .int .i64 x.en, .int .i64 x.pw, .int .i64 x.ap, .int .i64 x.ex, .int .i64 x.pd, .int .i64 x.bk, .int .i64 x.su, .int .i64 x.tx, .int .i64 x.to] rfl rfl 32 _ hZ (ln_info x) (ln_size x) (ln_one x) ?_))
      refine bodyPost_ret (v := .agg #[.int .i64 x.i0, .int .i64 x.i1, .int .i64 x.i2, .int .i64 x.o, .int .i64 x.pk, .int .i64 x.bl, .int .i64 x.en, .int .i64 x.pw, .int .i64 x.ap, .int .i64 x.ex, .int .i64 x.pd, .int .i64 x.bk, .int .i64 x.su, .int .i64 x.tx, .int .i64 x.to]) (results_cell_row rfl _ _ w.heap.size 32 _ (0, 0) _ rfl (setRow_heap _ _ _ _ _ _ hZ) Tryd.underlying32 rfl (ln_info x)) rfl ⟨rfl, ?_, ?_⟩
      · exact grown_row HZ.out.g (Nat.le_refl _) _
      · exact scan_row HZ.out.sc hb0' _

end Go.Proofs.YtjaffmmocbplaabDoor

namespace Go.Proofs.YtjaffmmocbplaabDoor
open Go.RowKit Go.Shelf Bil
set_option linter.unusedVariables false
attribute [local go_sem ↓] Go.wp_at_zero Go.wp_at_succ

def slen : Value → Nat
  | .slice _ n _ => n
  | _ => 0
theorem rb_bad {t : ByteArray} {n : Nat} (ht : t.size ≤ 80000) (h : (Txt.fin t (rbS t n)).bad = true) : rbErr t n = 2 ∧ rbAt t n = (Txt.fin t (rbS t n)).pos ∧ rbR t n = [] := by
  have e : rbErr t n = 2 := by unfold rbErr; rw [if_neg (by omega), if_pos h]
  refine ⟨e, by unfold rbAt; rw [if_neg (by omega), if_pos h], by unfold rbR; rw [e, if_neg (by omega)]⟩
theorem rb_ok {t : ByteArray} {n : Nat} (ht : t.size ≤ 80000) (h : (Txt.fin t (rbS t n)).bad = false) : rbErr t n = 0 ∧ rbAt t n = 0 ∧ rbR t n = rbL t n := by
  have e : rbErr t n = 0 := by unfold rbErr; rw [if_neg (by omega), if_neg (by simp [h])]
  refine ⟨e, by unfold rbAt; rw [if_neg (by omega), if_neg (by simp [h])], by unfold rbR; rw [e, if_pos rfl]⟩
theorem rb_long {t : ByteArray} {n : Nat} (ht : 80000 < t.size) : rbErr t n = 1 ∧ rbAt t n = 0 ∧ rbR t n = [] := by
  have e : rbErr t n = 1 := by unfold rbErr; rw [if_pos ht]
  refine ⟨e, by unfold rbAt; rw [if_pos ht], by unfold rbR; rw [e, if_neg (by omega)]⟩
theorem rbB_iff {t : ByteArray} {k : Nat} : rbB t k = true ↔ (rbS t k).bad = false ∧ (rbS t k).pos < t.size ∧ k < 200 := by
  unfold rbB; simp [and_assoc]

set_option maxRecDepth 1000000 in
set_option maxHeartbeats 2000000 in
theorem ReadBill_long (t : ByteArray) (w : World) (ht : 80000 < t.size) (hm : t.size ≤ maxLen) :
    Calls Tryd.prog 8 #[.string t] w fun e w' => e = .returned (.tuple #[.slice none 0 0, .int .i64 1, .int .i64 0]) ∧ Below w.heap.size w w' := by
  unfold maxLen at hm
  have h1 : (80000 : Int) < (t.size : Int) := by omega
  go_enter Tryd.func8, Tryd.ntmps8
  go_wp2_with fail
  exact bodyPost_ret (v := .tuple #[.slice none 0 0, .int .i64 1, .int .i64 0]) (by simp [results, Tryd.results8, go_sem]) rfl ⟨rfl, Below.refl _ _⟩

set_option maxRecDepth 1000000 in
set_option maxHeartbeats 4000000 in
theorem ReadBill_short (t : ByteArray) (n : Nat) (hn : EndsB t n) (w : World) (hT : TB w) (ht : t.size ≤ 80000) :
    Calls Tryd.prog 8 #[.string t] w fun e w' => ∃ v, e = .returned (.tuple #[v, .int .i64 (rbErr t n), .int .i64 (rbAt t n)]) ∧ w'.ownsRow (w.heap.size + 1) 32 15 v (rbR t n).length (lcs (rbR t n)) ∧ Below w.heap.size w w' := by
  obtain ⟨i0, hi, hz0, hz1, hz2⟩ := info_parts infoLn
  have h1 : ¬ (80000 : Int) < (t.size : Int) := by omega
  have hA : ScanAt (w.alloc (.cells #[.string t, .int .i64 0, .bool false] 70)) w.heap.size t (rbS t 0) := ⟨by simp, by simp [go_sem], by simp [go_sem]; rfl, by simp [go_sem]; rfl, by simp [go_sem], by simp [go_sem]⟩
  have BA : Below w.heap.size w (w.alloc (.cells #[.string t, .int .i64 0, .bool false] 70)) := below_more (Below.refl _ _) _
  have hn200 := hn.le
  have ln := fun k (hk : k ≤ 1000) x hx W (hB : Below w.heap.size w W) (h : ScanAt W w.heap.size t (rbS t k)) => scan_line_any t (rbS t k) k hk x hx w.heap.size w W hT hB (Nat.le_refl _) h (rbS_le t k) (by omega)
  have en := fun W (h : ScanAt W w.heap.size t (rbS t n)) => end_any t (rbS t n) w.heap.size W h (rbS_le t n) (by omega)
  have HN := hideD hn
  have HBAD := hideD (fun h => rb_bad (t := t) (n := n) ht h)
  have HOK := hideD (fun h => rb_ok (t := t) (n := n) ht h)
  have HLEN := hideD (rbL_len t)
  have HE := hideD (Txt.fin_le (t := t) (rbS_le t n))
  clear hn hT
  go_enter Tryd.func8, Tryd.ntmps8
  go_wp2_with fail
  go_loopw [6] (fun v wr => ∃ k : Nat, k ≤ n ∧ wr.ownsRow (w.heap.size + 1) 32 15 v k (lcs (rbL t k)) ∧ ScanAt wr w.heap.size t (rbS t k) ∧ Below w.heap.size w wr) (fun v _ => n - slen v)
  case atStart => exact ⟨0, by omega, World.ownsRow_nil _ _ _ _, hA, BA⟩
  case round =>
    clear hA BA
    obtain ⟨k, hk, hown, hsc, hb⟩ := hrel
    obtain ⟨a0, cap0, rfl⟩ := own_slice hown
    have hsz := hb.size
    have hbs := hsc.lt
    by_cases hlt : k < n
    · obtain ⟨q1, q2, q3⟩ := rbB_iff.mp (HN.out.go k hlt)
      have k1 := hsc.c1
      have k2 := hsc.c2
      have lnk := ln k (by omega)
      have HS : Hid (rbS t (k + 1) = rbE t (rbS t k) k) := rfl
      have HL : Hid (rbL t (k + 1) = rbL t k ++ [rbN t (rbS t k) k]) := rfl
      obtain ⟨x, hx⟩ : ∃ x, x = rbN t (rbS t k) k := ⟨_, rfl⟩
      have lnx := lnk x hx
      rw [← hx] at HL
      clear hx lnk
      obtain ⟨s, hs⟩ : ∃ s, s = rbS t k := ⟨_, rfl⟩
      rw [← hs] at q1 q2 k1 k2 lnx hsc HS
      rw [q1] at k2
      have q2' : (s.pos : Int) < (t.size : Int) := by omega
      have q3' : (k : Int) < 200 := by omega
      have hoN : ∀ j, (Value.ownBlock (.slice a0 k cap0)) = some j → w.heap.size + 1 ≤ j := fun j hj => (hown.lt j hj).1
      clear hs q1 q2 q3
      go_wp2_with (first
        | (go_at_call 22; refine (lnx _ hb hsc).mono ?_; rintro e w2 ⟨rfl, g2, s2⟩; have own2 := own_grown hown g2 (by omega); have B2 := Below.grown hb g2 hsz (fun j hj => by cases hj; exact Nat.le_refl _); have hs2 := g2.size)
        | (at_builtin; have _ := s2; refine wpList_append_own _ rfl _ _ 22 rfl (w.heap.size + 1) 32 i0 (.agg #[.int .i64 0, .int .i64 0, .int .i64 0, .int .i64 0, .int .i64 0, .int .i64 0, .int .i64 0, .int .i64 0, .int .i64 0, .int .i64 0, .int .i64 0, .int .i64 0, .int .i64 0, .int .i64 0, .int .i64 0]) 15 120 Tryd.underlying22 hi hz0 hz1 hz2 rfl (by decide) _ _ _ rfl ((own2.alloc _).alloc _) ⟨w2.heap.size + 1, 0, none⟩ 1 1 (lcell x) rfl rfl (by have := LR_cell (w2.alloc (.cells #[.int .i64 x.i0, .int .i64 x.i1, .int .i64 x.i2, .int .i64 x.o, .int .i64 x.pk, .int .i64 x.bl, .int .i64 x.en, .int .i64 x.pw, .int .i64 x.ap, .int .i64 x.ex, .int .i64 x.pd, .int .i64 x.bk, .int .i64 x.su, .int .i64 x.tx, .int .i64 x.to] 32)) x; rw [show (w2.alloc (.cells #[.int .i64 x.i0, .int .i64 x.i1, .int .i64 x.i2, .int .i64 x.o, .int .i64 x.pk, .int .i64 x.bl, .int .i64 x.en, .int .i64 x.pw, .int .i64 x.ap, .int .i64 x.ex, .int .i64 x.pd, .int .i64 x.bk, .int .i64 x.su, .int .i64 x.tx, .int .i64 x.to] 32)).heap.size = w2.heap.size + 1 by simp] at this; exact this) (fun y hy => by simp [lcell] at hy; rcases hy with rfl | rfl | rfl | rfl | rfl | rfl | rfl | rfl | rfl | rfl | rfl | rfl | rfl | rfl | rfl <;> rfl) (by unfold maxLen; omega) (by omega) (by simp; omega) ?_; intro v' w6 own6 g6 nil6; obtain ⟨a6, cap6, rfl⟩ := own_slice own6))
      go_roundw
      case rel => exact ⟨k + 1, by omega, by rw [HL.out, lcs_snoc]; exact own6, by rw [HS.out]; exact ((s2.alloc _).alloc _).grown g6 (fun e => by have := hoN _ e; omega), Below.grown (below_more (below_more B2 _) _) g6 (by simp; omega) (fun j hj => by have := hoN j hj; omega)⟩
      case measure => simp [slen]; omega
    · have hkn : k = n := by omega
      subst hkn
      have k1 := hsc.c1
      have k2 := hsc.c2
      have hno : ¬ ((rbS t k).bad = false ∧ (rbS t k).pos < t.size ∧ k < 200) := fun q => by have := rbB_iff.mpr q; rw [HN.out.no] at this; cases this
      have HK := hideD hno
      clear hno ln hlt hk
      obtain ⟨s, hs⟩ : ∃ s, s = rbS t k := ⟨_, rfl⟩
      rw [← hs] at k1 k2 en HK hsc HBAD HOK HE
      clear hs HN
      obtain ⟨f, hf⟩ : ∃ f, f = Txt.fin t s := ⟨_, rfl⟩
      rw [← hf] at en HBAD HOK HE
      clear hf
      cases hbd : s.bad
      · rw [hbd] at k2
        by_cases hp : s.pos < t.size
        · have hp' : (s.pos : Int) < (t.size : Int) := by omega
          have hk' : ¬ (k : Int) < 200 := fun q => HK.out ⟨hbd, hp, by omega⟩
          clear HK hbd hp
          cases hfb : f.bad
          · have HQ := hideD (HOK.out hfb)
            clear HBAD HOK
            go_wp2_with (go_at_call 23; refine (en _ hsc).mono ?_; rintro e w3 ⟨rfl, g3, s3⟩; have d1 := s3.c1; have d2 := s3.c2; rw [hfb] at d2; have B3 := Below.grown hb g3 hsz (fun j hj => by cases hj; exact Nat.le_refl _); have own3 := own_grown hown g3 (by omega))
            exact bodyPost_ret (v := .tuple #[.slice a0 k cap0, .int .i64 0, .int .i64 0]) (by simp [results, Tryd.results8, go_sem]) rfl ⟨_, by rw [HQ.out.1, HQ.out.2.1], by rw [HQ.out.2.2, HLEN.out]; exact own3, B3⟩
          · have HQ := hideD (HBAD.out hfb)
            clear HBAD HOK
            go_wp2_with (go_at_call 23; refine (en _ hsc).mono ?_; rintro e w3 ⟨rfl, g3, s3⟩; have d1 := s3.c1; have d2 := s3.c2; rw [hfb] at d2; have B3 := Below.grown hb g3 hsz (fun j hj => by cases hj; exact Nat.le_refl _); have own3 := own_grown hown g3 (by omega))
            go_quiet (fail)
            go_wp2_with fail
            exact bodyPost_ret (v := .tuple #[.slice none 0 0, .int .i64 2, .int .i64 f.pos]) (by simp [results, Tryd.results8, go_sem]) rfl ⟨_, by rw [HQ.out.1, HQ.out.2.1], by rw [HQ.out.2.2]; exact World.ownsRow_nil _ _ _ _, below_drewN B3 _⟩
        · have hp' : ¬ (s.pos : Int) < (t.size : Int) := by omega
          clear HK hbd hp
          cases hfb : f.bad
          · have HQ := hideD (HOK.out hfb)
            clear HBAD HOK
            go_wp2_with (go_at_call 23; refine (en _ hsc).mono ?_; rintro e w3 ⟨rfl, g3, s3⟩; have d1 := s3.c1; have d2 := s3.c2; rw [hfb] at d2; have B3 := Below.grown hb g3 hsz (fun j hj => by cases hj; exact Nat.le_refl _); have own3 := own_grown hown g3 (by omega))
            exact bodyPost_ret (v := .tuple #[.slice a0 k cap0, .int .i64 0, .int .i64 0]) (by simp [results, Tryd.results8, go_sem]) rfl ⟨_, by rw [HQ.out.1, HQ.out.2.1], by rw [HQ.out.2.2, HLEN.out]; exact own3, B3⟩
          · have HQ := hideD (HBAD.out hfb)
            clear HBAD HOK
            go_wp2_with (go_at_call 23; refine (en _ hsc).mono ?_; rintro e w3 ⟨rfl, g3, s3⟩; have d1 := s3.c1; have d2 := s3.c2; rw [hfb] at d2; have B3 := Below.grown hb g3 hsz (fun j hj => by cases hj; exact Nat.le_refl _); have own3 := own_grown hown g3 (by omega))
            go_quiet (fail)
            go_wp2_with fail
            exact bodyPost_ret (v := .tuple #[.slice none 0 0, .int .i64 2, .int .i64 f.pos]) (by simp [results, Tryd.results8, go_sem]) rfl ⟨_, by rw [HQ.out.1, HQ.out.2.1], by rw [HQ.out.2.2]; exact World.ownsRow_nil _ _ _ _, below_drewN B3 _⟩
      · rw [hbd] at k2
        clear HK hbd
        cases hfb : f.bad
        · have HQ := hideD (HOK.out hfb)
          clear HBAD HOK
          go_wp2_with (go_at_call 23; refine (en _ hsc).mono ?_; rintro e w3 ⟨rfl, g3, s3⟩; have d1 := s3.c1; have d2 := s3.c2; rw [hfb] at d2; have B3 := Below.grown hb g3 hsz (fun j hj => by cases hj; exact Nat.le_refl _); have own3 := own_grown hown g3 (by omega))
          exact bodyPost_ret (v := .tuple #[.slice a0 k cap0, .int .i64 0, .int .i64 0]) (by simp [results, Tryd.results8, go_sem]) rfl ⟨_, by rw [HQ.out.1, HQ.out.2.1], by rw [HQ.out.2.2, HLEN.out]; exact own3, B3⟩
        · have HQ := hideD (HBAD.out hfb)
          clear HBAD HOK
          go_wp2_with (go_at_call 23; refine (en _ hsc).mono ?_; rintro e w3 ⟨rfl, g3, s3⟩; have d1 := s3.c1; have d2 := s3.c2; rw [hfb] at d2; have B3 := Below.grown hb g3 hsz (fun j hj => by cases hj; exact Nat.le_refl _); have own3 := own_grown hown g3 (by omega))
          go_quiet (fail)
          go_wp2_with fail
          exact bodyPost_ret (v := .tuple #[.slice none 0 0, .int .i64 2, .int .i64 f.pos]) (by simp [results, Tryd.results8, go_sem]) rfl ⟨_, by rw [HQ.out.1, HQ.out.2.1], by rw [HQ.out.2.2]; exact World.ownsRow_nil _ _ _ _, below_drewN B3 _⟩

theorem ReadBill_any (t : ByteArray) (n : Nat) (hn : EndsB t n) (w : World) (hT : TB w) (ht : t.size ≤ maxLen) :
    Calls Tryd.prog 8 #[.string t] w fun e w' => ∃ v, e = .returned (.tuple #[v, .int .i64 (rbErr t n), .int .i64 (rbAt t n)]) ∧ w'.ownsRow w.heap.size 32 15 v (rbR t n).length (lcs (rbR t n)) ∧ Below w.heap.size w w' := by
  by_cases h1 : 80000 < t.size
  · obtain ⟨a, b, c⟩ := rb_long (n := n) h1
    refine (ReadBill_long t w h1 ht).mono ?_
    rintro e w' ⟨rfl, hb⟩
    exact ⟨_, by rw [a, b], by rw [c]; exact World.ownsRow_nil _ _ _ _, hb⟩
  · refine (ReadBill_short t n hn w hT (by omega)).mono ?_
    rintro e w' ⟨v, he, own, hb⟩
    exact ⟨v, he, own_base own (by omega), hb⟩
end Go.Proofs.YtjaffmmocbplaabDoor
