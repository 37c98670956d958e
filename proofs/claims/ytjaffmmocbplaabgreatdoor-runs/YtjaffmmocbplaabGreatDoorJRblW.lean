/-
  The document's Bill: what lies in memory (made by tools/genrbl.py).
-/
import Derived.Test.YtjaffmmocbplaabGreatDoorJBilX
import Derived.Test.YtjaffmmocbplaabGreatDoorJRbW
import Derived.Test.YtjaffmmocbplaabGreatDoorJ24
namespace Go.Proofs.YtjaffmmocbplaabGreatDoor
open Go.RowKit Bil
set_option linter.unusedVariables false

/-- the line under way, in block b -/
def RR (w : World) (b : Nat) (x : Ln) : Prop := w.heap[b]? = some (.cells #[.int .i64 x.i0, .int .i64 x.i1, .int .i64 x.i2, .int .i64 x.o, .int .i64 x.pk, .int .i64 x.bl, .int .i64 x.en, .int .i64 x.pw, .int .i64 x.ap, .int .i64 x.ex, .int .i64 x.pd, .int .i64 x.bk, .int .i64 x.su, .int .i64 x.tx, .int .i64 x.to] 118 (0, 0))
theorem RR.put {w : World} {b : Nat} {x : Ln} (h : RR w b x) (j : Nat) (u : Value) : (w.setCell ⟨b, j, none⟩ u).heap[b]? = some (.cells ((#[.int .i64 x.i0, .int .i64 x.i1, .int .i64 x.i2, .int .i64 x.o, .int .i64 x.pk, .int .i64 x.bl, .int .i64 x.en, .int .i64 x.pw, .int .i64 x.ap, .int .i64 x.ex, .int .i64 x.pd, .int .i64 x.bk, .int .i64 x.su, .int .i64 x.tx, .int .i64 x.to] : Array Value).setIfInBounds j u) 118 (0, 0)) := heap_setCell_same w b j _ _ u h
theorem RR.lt {w : World} {b : Nat} {x : Ln} (h : RR w b x) : b < w.heap.size := (Array.getElem?_eq_some_iff.1 h).1
theorem RR.frz {w : World} {b : Nat} {x : Ln} (h : RR w b x) (j : Nat) : w.frozen? ⟨b, j, none⟩ = false := frozen_of_row _ _ _ _ _ h
theorem RR.c0 {w : World} {b : Nat} {x : Ln} (h : RR w b x) : w.cell? ⟨b, 0, none⟩ = some (.int .i64 x.i0) := cell_of_row _ _ _ _ _ _ h
theorem RR.c1 {w : World} {b : Nat} {x : Ln} (h : RR w b x) : w.cell? ⟨b, 1, none⟩ = some (.int .i64 x.i1) := cell_of_row _ _ _ _ _ _ h
theorem RR.c2 {w : World} {b : Nat} {x : Ln} (h : RR w b x) : w.cell? ⟨b, 2, none⟩ = some (.int .i64 x.i2) := cell_of_row _ _ _ _ _ _ h
theorem RR.c3 {w : World} {b : Nat} {x : Ln} (h : RR w b x) : w.cell? ⟨b, 3, none⟩ = some (.int .i64 x.o) := cell_of_row _ _ _ _ _ _ h
theorem RR.c4 {w : World} {b : Nat} {x : Ln} (h : RR w b x) : w.cell? ⟨b, 4, none⟩ = some (.int .i64 x.pk) := cell_of_row _ _ _ _ _ _ h
theorem RR.c5 {w : World} {b : Nat} {x : Ln} (h : RR w b x) : w.cell? ⟨b, 5, none⟩ = some (.int .i64 x.bl) := cell_of_row _ _ _ _ _ _ h
theorem RR.bl {w : World} {b : Nat} {x : Ln} (h : RR w b x) (v : Int) : RR (w.setCell ⟨b, 5, none⟩ (.int .i64 v)) b { x with bl := v } := h.put 5 _
theorem RR.c6 {w : World} {b : Nat} {x : Ln} (h : RR w b x) : w.cell? ⟨b, 6, none⟩ = some (.int .i64 x.en) := cell_of_row _ _ _ _ _ _ h
theorem RR.en {w : World} {b : Nat} {x : Ln} (h : RR w b x) (v : Int) : RR (w.setCell ⟨b, 6, none⟩ (.int .i64 v)) b { x with en := v } := h.put 6 _
theorem RR.c7 {w : World} {b : Nat} {x : Ln} (h : RR w b x) : w.cell? ⟨b, 7, none⟩ = some (.int .i64 x.pw) := cell_of_row _ _ _ _ _ _ h
theorem RR.pw {w : World} {b : Nat} {x : Ln} (h : RR w b x) (v : Int) : RR (w.setCell ⟨b, 7, none⟩ (.int .i64 v)) b { x with pw := v } := h.put 7 _
theorem RR.c8 {w : World} {b : Nat} {x : Ln} (h : RR w b x) : w.cell? ⟨b, 8, none⟩ = some (.int .i64 x.ap) := cell_of_row _ _ _ _ _ _ h
theorem RR.ap {w : World} {b : Nat} {x : Ln} (h : RR w b x) (v : Int) : RR (w.setCell ⟨b, 8, none⟩ (.int .i64 v)) b { x with ap := v } := h.put 8 _
theorem RR.c9 {w : World} {b : Nat} {x : Ln} (h : RR w b x) : w.cell? ⟨b, 9, none⟩ = some (.int .i64 x.ex) := cell_of_row _ _ _ _ _ _ h
theorem RR.ex {w : World} {b : Nat} {x : Ln} (h : RR w b x) (v : Int) : RR (w.setCell ⟨b, 9, none⟩ (.int .i64 v)) b { x with ex := v } := h.put 9 _
theorem RR.c10 {w : World} {b : Nat} {x : Ln} (h : RR w b x) : w.cell? ⟨b, 10, none⟩ = some (.int .i64 x.pd) := cell_of_row _ _ _ _ _ _ h
theorem RR.pd {w : World} {b : Nat} {x : Ln} (h : RR w b x) (v : Int) : RR (w.setCell ⟨b, 10, none⟩ (.int .i64 v)) b { x with pd := v } := h.put 10 _
theorem RR.c11 {w : World} {b : Nat} {x : Ln} (h : RR w b x) : w.cell? ⟨b, 11, none⟩ = some (.int .i64 x.bk) := cell_of_row _ _ _ _ _ _ h
theorem RR.bk {w : World} {b : Nat} {x : Ln} (h : RR w b x) (v : Int) : RR (w.setCell ⟨b, 11, none⟩ (.int .i64 v)) b { x with bk := v } := h.put 11 _
theorem RR.c12 {w : World} {b : Nat} {x : Ln} (h : RR w b x) : w.cell? ⟨b, 12, none⟩ = some (.int .i64 x.su) := cell_of_row _ _ _ _ _ _ h
theorem RR.su {w : World} {b : Nat} {x : Ln} (h : RR w b x) (v : Int) : RR (w.setCell ⟨b, 12, none⟩ (.int .i64 v)) b { x with su := v } := h.put 12 _
theorem RR.c13 {w : World} {b : Nat} {x : Ln} (h : RR w b x) : w.cell? ⟨b, 13, none⟩ = some (.int .i64 x.tx) := cell_of_row _ _ _ _ _ _ h
theorem RR.tx {w : World} {b : Nat} {x : Ln} (h : RR w b x) (v : Int) : RR (w.setCell ⟨b, 13, none⟩ (.int .i64 v)) b { x with tx := v } := h.put 13 _
theorem RR.c14 {w : World} {b : Nat} {x : Ln} (h : RR w b x) : w.cell? ⟨b, 14, none⟩ = some (.int .i64 x.to) := cell_of_row _ _ _ _ _ _ h
theorem RR.to {w : World} {b : Nat} {x : Ln} (h : RR w b x) (v : Int) : RR (w.setCell ⟨b, 14, none⟩ (.int .i64 v)) b { x with to := v } := h.put 14 _

/-- the state of the document's Bill within a round: the line in block B, the credits cv, the lines so far fv -/
structure BSt (w1 : World) (B k m : Nat) (cv fv : Value) (ls : List Ln) (wi : World) (x : Ln) (c : List Int) : Prop where
  n : RR wi B x
  c : wi.ownsRow w1.heap.size 3 1 cv m (ints c)
  f : wi.ownsRow w1.heap.size 118 15 fv k (lcs ls)
  b : Below w1.heap.size w1 wi
  hB : w1.heap.size ≤ B
theorem BSt.nc {w1 wi : World} {B k m : Nat} {cv fv : Value} {ls : List Ln} {x : Ln} {c : List Int} (h : BSt w1 B k m cv fv ls wi x c) : cv.ownBlock ≠ some B := by
  intro hk
  obtain ⟨cc, z, q⟩ := Lib.ownsRow_kind h.c B hk
  rw [show wi.heap[B]? = _ from h.n] at q
  injection q with q
  injection q with _ q _
  exact absurd q (by decide)
theorem BSt.fc {w1 wi : World} {B k m : Nat} {cv fv : Value} {ls : List Ln} {x : Ln} {c : List Int} (h : BSt w1 B k m cv fv ls wi x c) : ∀ g, cv.ownBlock = some g → fv.ownBlock ≠ some g := own_apart h.c h.f (by decide)
theorem BSt.below {w1 wi w' : World} {B k m : Nat} {cv fv : Value} {ls : List Ln} {x : Ln} {c : List Int} (h : BSt w1 B k m cv fv ls wi x c) (hb : Below wi.heap.size wi w') : BSt w1 B k m cv fv ls w' x c :=
  ⟨(hb.block B h.n.lt).trans h.n, own_below h.c hb, own_below h.f hb, below_then h.b hb, h.hB⟩
theorem BSt.drewN {w1 wi : World} {B k m : Nat} {cv fv : Value} {ls : List Ln} {x : Ln} {c : List Int} (h : BSt w1 B k m cv fv ls wi x c) (n : Nat) : BSt w1 B k m cv fv ls (wi.drewN n) x c := h.below (below_drewN (Below.refl _ _) n)
theorem BSt.drew {w1 wi : World} {B k m : Nat} {cv fv : Value} {ls : List Ln} {x : Ln} {c : List Int} (h : BSt w1 B k m cv fv ls wi x c) : BSt w1 B k m cv fv ls wi.drew x c := h.below (Below.drew (Below.refl _ _))
theorem BSt.set {w1 wi : World} {B k m : Nat} {cv fv : Value} {ls : List Ln} {x x' : Ln} {c : List Int} (h : BSt w1 B k m cv fv ls wi x c) (hf : fv.ownBlock ≠ some B) (j : Nat) (u : Value) (hn : RR (wi.setCell ⟨B, j, none⟩ u) B x') : BSt w1 B k m cv fv ls (wi.setCell ⟨B, j, none⟩ u) x' c :=
  ⟨hn, own_far h.c h.nc j u, own_far h.f hf j u, Below.setCell h.b h.hB _, h.hB⟩
/-- the credit at j, and its place -/
theorem BSt.at {w1 wi : World} {B k m : Nat} {cv fv : Value} {ls : List Ln} {x : Ln} {c : List Int} (h : BSt w1 B k m cv fv ls wi x c) (hn : c.length = m) {j : Nat} (hj : j < m) :
    ∃ g cap, cv = .slice (some ⟨g, 0, none⟩) m cap ∧ m ≤ cap ∧ g < wi.heap.size ∧ w1.heap.size ≤ g ∧ ¬ g = B ∧ wi.cell? ⟨g, j, none⟩ = some (.int .i64 (cAt c j)) ∧ wi.frozen? ⟨g, j, none⟩ = false := by
  have own := h.c
  obtain ⟨g, cap, rfl, hb, hlt⟩ := own.form (by omega)
  have hcap : m ≤ cap := by
    rcases own.2 with ⟨h1, _⟩ | ⟨g', cap', cur, hv, _, _, hc, _⟩
    · cases h1
    · cases hv; exact hc
  refine ⟨g, cap, rfl, hcap, hlt, hb, fun e => h.nc (by rw [e]; rfl), ?_, own.frozenAt j⟩
  rw [own.cellAt j (by omega), ints_get (by omega)]
theorem BSt.put {w1 wi : World} {B k m g cap : Nat} {fv : Value} {ls : List Ln} {x : Ln} {c : List Int} (h : BSt w1 B k m (.slice (some ⟨g, 0, none⟩) m cap) fv ls wi x c) (hg : ¬ g = B) (hgb : w1.heap.size ≤ g) (j : Nat) (v : Int) :
    BSt w1 B k m (.slice (some ⟨g, 0, none⟩) m cap) fv ls (wi.setCell ⟨g, j, none⟩ (.int .i64 v)) x (c.set j v) := by
  obtain ⟨s1, s2⟩ := h.c.stored j (.int .i64 v)
  refine ⟨?_, ?_, own_far h.f (h.fc g rfl) j _, Below.setCell h.b hgb _, h.hB⟩
  · have e : (wi.setCell ⟨g, j, none⟩ (.int .i64 v)).heap[B]? = wi.heap[B]? := s2.block B h.n.lt (fun e => hg (by injection e with e; exact e.symm))
    exact e.trans h.n
  · have : ints (c.set j v) = (ints c).set j (.int .i64 v) := by simp [ints, List.map_set]
    rw [this]; exact s1
theorem BSt.app {w1 wi w' : World} {B k m m' : Nat} {cv cv' fv : Value} {ls : List Ln} {x : Ln} {c c' : List Int} (h : BSt w1 B k m cv fv ls wi x c) (o : Obj) (g : (wi.alloc o).grownBy w' cv.ownBlock) (own : w'.ownsRow w1.heap.size 3 1 cv' m' (ints c')) : BSt w1 B k m' cv' fv ls w' x c' := by
  have hz := h.b.size
  refine ⟨?_, own, (own_below h.f (below_more (Below.refl _ _) o)).kept g (own_ne' h.fc), Below.grown (below_more h.b o) g (by simp; omega) (fun j hj => (h.c.lt j hj).1), h.hB⟩
  exact ((g.block B (by have := h.n.lt; simp; omega) (fun e => h.nc e.symm)).trans (heap_alloc_old _ _ h.n.lt)).trans h.n
theorem set_self {c : List Int} {j : Nat} {v : Int} (hj : j < c.length) (h : cAt c j = v) : c.set j v = c := by
  refine list_ext (by rw [List.length_set]) fun i hi => ?_
  rw [cAt_set hj]
  by_cases e : j = i
  · rw [if_pos e, ← h, e]
  · rw [if_neg e]
/-- the document's tariff, in block b -/
def UR (w : World) (b : Nat) (t : Trf) : Prop := w.heap[b]? = some (.cells #[.int .i64 t.z.off, .int .i64 t.z.f.m, .int .i64 t.z.f.w, .int .i64 t.z.f.d, .int .i64 t.z.f.h, .int .i64 t.z.t.m, .int .i64 t.z.t.w, .int .i64 t.z.t.d, .int .i64 t.z.t.h, .int .i64 t.days, .int .i64 t.gap, .int .i64 t.first, .int .i64 t.last, .string t.h0, .string t.h1, .string t.h2, .string t.h3, .int .i64 t.b0.x, .int .i64 t.b0.y, .int .i64 t.b0.z, .int .i64 t.b1.x, .int .i64 t.b1.y, .int .i64 t.b1.z, .int .i64 t.b2.x, .int .i64 t.b2.y, .int .i64 t.b2.z, .int .i64 t.d.x, .int .i64 t.d.y, .int .i64 t.d.z, .int .i64 t.np, .int .i64 t.nn, .int .i64 t.fix, .int .i64 t.min, .int .i64 t.tax] 67)
theorem UR.c26 {w : World} {b : Nat} {t : Trf} (h : UR w b t) : w.cell? ⟨b, 26, none⟩ = some (.int .i64 t.d.x) := cell_of_row _ _ _ _ _ _ h
theorem UR.c29 {w : World} {b : Nat} {t : Trf} (h : UR w b t) : w.cell? ⟨b, 29, none⟩ = some (.int .i64 t.np) := cell_of_row _ _ _ _ _ _ h
theorem UR.c30 {w : World} {b : Nat} {t : Trf} (h : UR w b t) : w.cell? ⟨b, 30, none⟩ = some (.int .i64 t.nn) := cell_of_row _ _ _ _ _ _ h
theorem UR.c31 {w : World} {b : Nat} {t : Trf} (h : UR w b t) : w.cell? ⟨b, 31, none⟩ = some (.int .i64 t.fix) := cell_of_row _ _ _ _ _ _ h
theorem UR.c32 {w : World} {b : Nat} {t : Trf} (h : UR w b t) : w.cell? ⟨b, 32, none⟩ = some (.int .i64 t.min) := cell_of_row _ _ _ _ _ _ h
theorem UR.c33 {w : World} {b : Nat} {t : Trf} (h : UR w b t) : w.cell? ⟨b, 33, none⟩ = some (.int .i64 t.tax) := cell_of_row _ _ _ _ _ _ h
end Go.Proofs.YtjaffmmocbplaabGreatDoor
