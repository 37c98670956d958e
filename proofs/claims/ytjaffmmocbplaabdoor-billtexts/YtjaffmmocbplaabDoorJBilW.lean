/-
  The program's Bill: a line in memory.
-/
import Derived.Test.YtjaffmmocbplaabDoorJBnkX
import Derived.Deep.RegionHeld3
namespace Go.Proofs.YtjaffmmocbplaabDoor
open Go.RowKit Bil
set_option linter.unusedVariables false

theorem infoLn : (Tryd.prog.info? 32).map (fun i => (i.zero, i.size, i.bytes)) = some (some (.agg #[.int .i64 0, .int .i64 0, .int .i64 0, .int .i64 0, .int .i64 0, .int .i64 0, .int .i64 0, .int .i64 0, .int .i64 0, .int .i64 0, .int .i64 0, .int .i64 0, .int .i64 0, .int .i64 0, .int .i64 0]), 15, 120) := by kernel_rfl
def lcell (x : Ln) : List Value := [.int .i64 x.i0, .int .i64 x.i1, .int .i64 x.i2, .int .i64 x.o, .int .i64 x.pk, .int .i64 x.bl, .int .i64 x.en, .int .i64 x.pw, .int .i64 x.ap, .int .i64 x.ex, .int .i64 x.pd, .int .i64 x.bk, .int .i64 x.su, .int .i64 x.tx, .int .i64 x.to]
def lcs (l : List Ln) : List Value := l.flatMap lcell
theorem lcs_snoc (l : List Ln) (x : Ln) : lcs (l ++ [x]) = lcs l ++ lcell x := by simp [lcs]
theorem lcs_length (l : List Ln) : (lcs l).length = l.length * 15 := by
  induction l with
  | nil => rfl
  | cons x l ih => show (lcell x ++ lcs l).length = _; rw [List.length_append, ih]; simp [lcell]; omega
/-- the line under way, in block b -/
def LR (w : World) (b : Nat) (x : Ln) : Prop := w.heap[b]? = some (.cells #[.int .i64 x.i0, .int .i64 x.i1, .int .i64 x.i2, .int .i64 x.o, .int .i64 x.pk, .int .i64 x.bl, .int .i64 x.en, .int .i64 x.pw, .int .i64 x.ap, .int .i64 x.ex, .int .i64 x.pd, .int .i64 x.bk, .int .i64 x.su, .int .i64 x.tx, .int .i64 x.to] 32 (0, 0))
theorem LR.put {w : World} {b : Nat} {x : Ln} (h : LR w b x) (j : Nat) (u : Value) : (w.setCell ⟨b, j, none⟩ u).heap[b]? = some (.cells ((#[.int .i64 x.i0, .int .i64 x.i1, .int .i64 x.i2, .int .i64 x.o, .int .i64 x.pk, .int .i64 x.bl, .int .i64 x.en, .int .i64 x.pw, .int .i64 x.ap, .int .i64 x.ex, .int .i64 x.pd, .int .i64 x.bk, .int .i64 x.su, .int .i64 x.tx, .int .i64 x.to] : Array Value).setIfInBounds j u) 32 (0, 0)) := heap_setCell_same w b j _ _ u h
theorem LR.i0 {w : World} {b : Nat} {x : Ln} (h : LR w b x) (v : Int) : LR (w.setCell ⟨b, 0, none⟩ (.int .i64 v)) b { x with i0 := v } := h.put 0 _
theorem LR.i1 {w : World} {b : Nat} {x : Ln} (h : LR w b x) (v : Int) : LR (w.setCell ⟨b, 1, none⟩ (.int .i64 v)) b { x with i1 := v } := h.put 1 _
theorem LR.i2 {w : World} {b : Nat} {x : Ln} (h : LR w b x) (v : Int) : LR (w.setCell ⟨b, 2, none⟩ (.int .i64 v)) b { x with i2 := v } := h.put 2 _
theorem LR.o {w : World} {b : Nat} {x : Ln} (h : LR w b x) (v : Int) : LR (w.setCell ⟨b, 3, none⟩ (.int .i64 v)) b { x with o := v } := h.put 3 _
theorem LR.pk {w : World} {b : Nat} {x : Ln} (h : LR w b x) (v : Int) : LR (w.setCell ⟨b, 4, none⟩ (.int .i64 v)) b { x with pk := v } := h.put 4 _
theorem LR.bl {w : World} {b : Nat} {x : Ln} (h : LR w b x) (v : Int) : LR (w.setCell ⟨b, 5, none⟩ (.int .i64 v)) b { x with bl := v } := h.put 5 _
theorem LR.en {w : World} {b : Nat} {x : Ln} (h : LR w b x) (v : Int) : LR (w.setCell ⟨b, 6, none⟩ (.int .i64 v)) b { x with en := v } := h.put 6 _
theorem LR.pw {w : World} {b : Nat} {x : Ln} (h : LR w b x) (v : Int) : LR (w.setCell ⟨b, 7, none⟩ (.int .i64 v)) b { x with pw := v } := h.put 7 _
theorem LR.ap {w : World} {b : Nat} {x : Ln} (h : LR w b x) (v : Int) : LR (w.setCell ⟨b, 8, none⟩ (.int .i64 v)) b { x with ap := v } := h.put 8 _
theorem LR.ex {w : World} {b : Nat} {x : Ln} (h : LR w b x) (v : Int) : LR (w.setCell ⟨b, 9, none⟩ (.int .i64 v)) b { x with ex := v } := h.put 9 _
theorem LR.pd {w : World} {b : Nat} {x : Ln} (h : LR w b x) (v : Int) : LR (w.setCell ⟨b, 10, none⟩ (.int .i64 v)) b { x with pd := v } := h.put 10 _
theorem LR.bk {w : World} {b : Nat} {x : Ln} (h : LR w b x) (v : Int) : LR (w.setCell ⟨b, 11, none⟩ (.int .i64 v)) b { x with bk := v } := h.put 11 _
theorem LR.su {w : World} {b : Nat} {x : Ln} (h : LR w b x) (v : Int) : LR (w.setCell ⟨b, 12, none⟩ (.int .i64 v)) b { x with su := v } := h.put 12 _
theorem LR.tx {w : World} {b : Nat} {x : Ln} (h : LR w b x) (v : Int) : LR (w.setCell ⟨b, 13, none⟩ (.int .i64 v)) b { x with tx := v } := h.put 13 _
theorem LR.to {w : World} {b : Nat} {x : Ln} (h : LR w b x) (v : Int) : LR (w.setCell ⟨b, 14, none⟩ (.int .i64 v)) b { x with to := v } := h.put 14 _
theorem LR.drewN {w : World} {b : Nat} {x : Ln} (h : LR w b x) (n : Nat) : LR (w.drewN n) b x := h
theorem LR.lt {w : World} {b : Nat} {x : Ln} (h : LR w b x) : b < w.heap.size := (Array.getElem?_eq_some_iff.1 h).1
theorem LR.of_block {w w' : World} {b : Nat} {x : Ln} (h : LR w b x) (e : w'.heap[b]? = w.heap[b]?) : LR w' b x := e.trans h
theorem LR.c0 {w : World} {b : Nat} {x : Ln} (h : LR w b x) : w.cell? ⟨b, 0, none⟩ = some (.int .i64 x.i0) := cell_of_row _ _ _ _ _ _ h
theorem LR.c1 {w : World} {b : Nat} {x : Ln} (h : LR w b x) : w.cell? ⟨b, 1, none⟩ = some (.int .i64 x.i1) := cell_of_row _ _ _ _ _ _ h
theorem LR.c2 {w : World} {b : Nat} {x : Ln} (h : LR w b x) : w.cell? ⟨b, 2, none⟩ = some (.int .i64 x.i2) := cell_of_row _ _ _ _ _ _ h
theorem LR.c3 {w : World} {b : Nat} {x : Ln} (h : LR w b x) : w.cell? ⟨b, 3, none⟩ = some (.int .i64 x.o) := cell_of_row _ _ _ _ _ _ h
theorem LR.c4 {w : World} {b : Nat} {x : Ln} (h : LR w b x) : w.cell? ⟨b, 4, none⟩ = some (.int .i64 x.pk) := cell_of_row _ _ _ _ _ _ h
theorem LR.c5 {w : World} {b : Nat} {x : Ln} (h : LR w b x) : w.cell? ⟨b, 5, none⟩ = some (.int .i64 x.bl) := cell_of_row _ _ _ _ _ _ h
theorem LR.c6 {w : World} {b : Nat} {x : Ln} (h : LR w b x) : w.cell? ⟨b, 6, none⟩ = some (.int .i64 x.en) := cell_of_row _ _ _ _ _ _ h
theorem LR.c7 {w : World} {b : Nat} {x : Ln} (h : LR w b x) : w.cell? ⟨b, 7, none⟩ = some (.int .i64 x.pw) := cell_of_row _ _ _ _ _ _ h
theorem LR.c8 {w : World} {b : Nat} {x : Ln} (h : LR w b x) : w.cell? ⟨b, 8, none⟩ = some (.int .i64 x.ap) := cell_of_row _ _ _ _ _ _ h
theorem LR.c9 {w : World} {b : Nat} {x : Ln} (h : LR w b x) : w.cell? ⟨b, 9, none⟩ = some (.int .i64 x.ex) := cell_of_row _ _ _ _ _ _ h
theorem LR.c10 {w : World} {b : Nat} {x : Ln} (h : LR w b x) : w.cell? ⟨b, 10, none⟩ = some (.int .i64 x.pd) := cell_of_row _ _ _ _ _ _ h
theorem LR.c11 {w : World} {b : Nat} {x : Ln} (h : LR w b x) : w.cell? ⟨b, 11, none⟩ = some (.int .i64 x.bk) := cell_of_row _ _ _ _ _ _ h
theorem LR.c12 {w : World} {b : Nat} {x : Ln} (h : LR w b x) : w.cell? ⟨b, 12, none⟩ = some (.int .i64 x.su) := cell_of_row _ _ _ _ _ _ h
theorem LR.c13 {w : World} {b : Nat} {x : Ln} (h : LR w b x) : w.cell? ⟨b, 13, none⟩ = some (.int .i64 x.tx) := cell_of_row _ _ _ _ _ _ h
theorem LR.c14 {w : World} {b : Nat} {x : Ln} (h : LR w b x) : w.cell? ⟨b, 14, none⟩ = some (.int .i64 x.to) := cell_of_row _ _ _ _ _ _ h
theorem LR.frz {w : World} {b : Nat} {x : Ln} (h : LR w b x) (j : Nat) : w.frozen? ⟨b, j, none⟩ = false := frozen_of_row _ _ _ _ _ h
theorem LR_new (w : World) (x : Ln) : LR (w.alloc (.cells #[.int .i64 x.i0, .int .i64 x.i1, .int .i64 x.i2, .int .i64 x.o, .int .i64 x.pk, .int .i64 x.bl, .int .i64 x.en, .int .i64 x.pw, .int .i64 x.ap, .int .i64 x.ex, .int .i64 x.pd, .int .i64 x.bk, .int .i64 x.su, .int .i64 x.tx, .int .i64 x.to] 32)) w.heap.size x := heap_alloc_new w _
theorem LR_cell (w : World) (x : Ln) : ∀ j u, (lcell x)[j]? = some u → (w.alloc (.cells #[.int .i64 x.i0, .int .i64 x.i1, .int .i64 x.i2, .int .i64 x.o, .int .i64 x.pk, .int .i64 x.bl, .int .i64 x.en, .int .i64 x.pw, .int .i64 x.ap, .int .i64 x.ex, .int .i64 x.pd, .int .i64 x.bk, .int .i64 x.su, .int .i64 x.tx, .int .i64 x.to] 32)).cell? ((⟨w.heap.size, 0, none⟩ : Addr).add j) = some u := by
  intro j u hj
  have hadd : (⟨w.heap.size, 0, none⟩ : Addr).add j = ⟨w.heap.size, j, none⟩ := by unfold Addr.add; split <;> simp_all
  rw [hadd, cell_of_row _ _ _ _ _ _ (heap_alloc_new _ _), ← hj]
  simp [lcell]
/-- a tariff, in block b: what a bill reads of it -/
def TR (w : World) (b : Nat) (t : Trf) : Prop := w.heap[b]? = some (.cells #[.int .i64 t.z.off, .int .i64 t.z.f.m, .int .i64 t.z.f.w, .int .i64 t.z.f.d, .int .i64 t.z.f.h, .int .i64 t.z.t.m, .int .i64 t.z.t.w, .int .i64 t.z.t.d, .int .i64 t.z.t.h, .int .i64 t.days, .int .i64 t.gap, .int .i64 t.first, .int .i64 t.last, .string t.h0, .string t.h1, .string t.h2, .string t.h3, .int .i64 t.b0.x, .int .i64 t.b0.y, .int .i64 t.b0.z, .int .i64 t.b1.x, .int .i64 t.b1.y, .int .i64 t.b1.z, .int .i64 t.b2.x, .int .i64 t.b2.y, .int .i64 t.b2.z, .int .i64 t.d.x, .int .i64 t.d.y, .int .i64 t.d.z, .int .i64 t.np, .int .i64 t.nn, .int .i64 t.fix, .int .i64 t.min, .int .i64 t.tax] 54)
theorem TR.c17 {w : World} {b : Nat} {t : Trf} (h : TR w b t) : w.cell? ⟨b, 17, none⟩ = some (.int .i64 t.b0.x) := cell_of_row _ _ _ _ _ _ h
theorem TR.c18 {w : World} {b : Nat} {t : Trf} (h : TR w b t) : w.cell? ⟨b, 18, none⟩ = some (.int .i64 t.b0.y) := cell_of_row _ _ _ _ _ _ h
theorem TR.c19 {w : World} {b : Nat} {t : Trf} (h : TR w b t) : w.cell? ⟨b, 19, none⟩ = some (.int .i64 t.b0.z) := cell_of_row _ _ _ _ _ _ h
theorem TR.c20 {w : World} {b : Nat} {t : Trf} (h : TR w b t) : w.cell? ⟨b, 20, none⟩ = some (.int .i64 t.b1.x) := cell_of_row _ _ _ _ _ _ h
theorem TR.c21 {w : World} {b : Nat} {t : Trf} (h : TR w b t) : w.cell? ⟨b, 21, none⟩ = some (.int .i64 t.b1.y) := cell_of_row _ _ _ _ _ _ h
theorem TR.c22 {w : World} {b : Nat} {t : Trf} (h : TR w b t) : w.cell? ⟨b, 22, none⟩ = some (.int .i64 t.b1.z) := cell_of_row _ _ _ _ _ _ h
theorem TR.c23 {w : World} {b : Nat} {t : Trf} (h : TR w b t) : w.cell? ⟨b, 23, none⟩ = some (.int .i64 t.b2.x) := cell_of_row _ _ _ _ _ _ h
theorem TR.c24 {w : World} {b : Nat} {t : Trf} (h : TR w b t) : w.cell? ⟨b, 24, none⟩ = some (.int .i64 t.b2.y) := cell_of_row _ _ _ _ _ _ h
theorem TR.c25 {w : World} {b : Nat} {t : Trf} (h : TR w b t) : w.cell? ⟨b, 25, none⟩ = some (.int .i64 t.b2.z) := cell_of_row _ _ _ _ _ _ h
theorem TR.c26 {w : World} {b : Nat} {t : Trf} (h : TR w b t) : w.cell? ⟨b, 26, none⟩ = some (.int .i64 t.d.x) := cell_of_row _ _ _ _ _ _ h
theorem TR.c27 {w : World} {b : Nat} {t : Trf} (h : TR w b t) : w.cell? ⟨b, 27, none⟩ = some (.int .i64 t.d.y) := cell_of_row _ _ _ _ _ _ h
theorem TR.c28 {w : World} {b : Nat} {t : Trf} (h : TR w b t) : w.cell? ⟨b, 28, none⟩ = some (.int .i64 t.d.z) := cell_of_row _ _ _ _ _ _ h
theorem TR.c29 {w : World} {b : Nat} {t : Trf} (h : TR w b t) : w.cell? ⟨b, 29, none⟩ = some (.int .i64 t.np) := cell_of_row _ _ _ _ _ _ h
theorem TR.c30 {w : World} {b : Nat} {t : Trf} (h : TR w b t) : w.cell? ⟨b, 30, none⟩ = some (.int .i64 t.nn) := cell_of_row _ _ _ _ _ _ h
theorem TR.c31 {w : World} {b : Nat} {t : Trf} (h : TR w b t) : w.cell? ⟨b, 31, none⟩ = some (.int .i64 t.fix) := cell_of_row _ _ _ _ _ _ h
theorem TR.c32 {w : World} {b : Nat} {t : Trf} (h : TR w b t) : w.cell? ⟨b, 32, none⟩ = some (.int .i64 t.min) := cell_of_row _ _ _ _ _ _ h
theorem TR.c33 {w : World} {b : Nat} {t : Trf} (h : TR w b t) : w.cell? ⟨b, 33, none⟩ = some (.int .i64 t.tax) := cell_of_row _ _ _ _ _ _ h
/-- what is owned stays where its block does -/
theorem own_blk {w w' : World} {base : Nat} {e : TypeId} {size : Nat} {v : Value} {n : Nat} {xs : List Value} (h : w.ownsRow base e size v n xs) (hb : ∀ k, v.ownBlock = some k → w'.heap[k]? = w.heap[k]?) : w'.ownsRow base e size v n xs := by
  refine ⟨h.1, ?_⟩
  rcases h.2 with hn | ⟨g, cap, cur, rfl, h1, h2, rest⟩
  · exact .inl hn
  · exact .inr ⟨g, cap, cur, rfl, h1, (hb g rfl).trans h2, rest⟩
/-- two rows of different kinds lie in different blocks -/
theorem own_apart {w : World} {base base' : Nat} {e e' : TypeId} {size size' : Nat} {v v' : Value} {n n' : Nat} {xs xs' : List Value} (h : w.ownsRow base e size v n xs) (h' : w.ownsRow base' e' size' v' n' xs') (hne : e ≠ e') : ∀ k, v.ownBlock = some k → v'.ownBlock ≠ some k := by
  intro k hk hk'
  obtain ⟨c, z, q⟩ := Lib.ownsRow_kind h k hk
  obtain ⟨c', z', q'⟩ := Lib.ownsRow_kind h' k hk'
  rw [q] at q'
  injection q' with q'
  injection q' with _ q' _
  exact hne q'
theorem own_ne {a b : Option Nat} (h : ∀ k, a = some k → b ≠ some k) : a = none ∨ a ≠ b := by
  cases a with
  | none => exact .inl rfl
  | some k => exact .inr fun e => h k rfl e.symm
theorem own_ne' {a b : Option Nat} (h : ∀ k, a = some k → b ≠ some k) : b = none ∨ b ≠ a := by
  cases b with
  | none => exact .inl rfl
  | some k => exact .inr fun e => h k e.symm rfl
theorem LR.apart {w : World} {b : Nat} {x : Ln} (h : LR w b x) {base : Nat} {e : TypeId} {size : Nat} {v : Value} {n : Nat} {xs : List Value} (h' : w.ownsRow base e size v n xs) (hne : e ≠ 32) : v.ownBlock ≠ some b := by
  intro hk
  obtain ⟨c, z, q⟩ := Lib.ownsRow_kind h' b hk
  rw [show w.heap[b]? = _ from h] at q
  injection q with q
  injection q with _ q _
  exact hne q.symm

def blL (t : Trf) (step start : Int) (l : List Txt.Val) : List Ln := if spE t step start l = 0 then lnR t (spL t step start l) (spL t step start l).length else []
theorem spA_ok {t : Trf} {step start : Int} {l : List Txt.Val} (h : spE t step start l = 0) : spA t step start l = 0 := by
  obtain ⟨hm, hb, hf, hc, _⟩ := sp_ok h
  unfold spA
  rw [hm, if_pos rfl, if_neg (by omega), if_pos hf]
  exact (pp_yes hc).2.1.symm
end Go.Proofs.YtjaffmmocbplaabDoor
