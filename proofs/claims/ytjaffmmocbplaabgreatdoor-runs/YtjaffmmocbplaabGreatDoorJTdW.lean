/-
  The program's scanner reads a tariff (made by tools/gentd.py).
-/
import Derived.Test.YtjaffmmocbplaabGreatDoorJTdM
import Derived.Test.YtjaffmmocbplaabGreatDoorJTarW
import Derived.Test.YtjaffmmocbplaabGreatDoorJ13
import Derived.Laws.Tables
import Derived.Deep.WholeRow
import Derived.BigQuiet
import Derived.Deep.RegionHeld3
import Derived.Deep.CutRange
import Derived.Deep.DrawnRows
namespace Go.Proofs.YtjaffmmocbplaabGreatDoor
open Go.RowKit
set_option linter.unusedVariables false
attribute [local go_sem ↓] Go.wp_at_zero Go.wp_at_succ

def trf0 : Trf := ⟨⟨0, ⟨0, 0, 0, 0⟩, ⟨0, 0, 0, 0⟩⟩, 0, 0, 0, 0, ByteArray.empty, ByteArray.empty, ByteArray.empty, ByteArray.empty, ⟨0, 0, 0⟩, ⟨0, 0, 0⟩, ⟨0, 0, 0⟩, ⟨0, 0, 0⟩, 0, 0, 0, 0, 0⟩
/-- the scanner in block b, the tariff under way behind the old memory -/
structure GSt (w : World) (b : Nat) (t : ByteArray) (wi : World) (x : Trf) (s : Txt.Sc) : Prop where
  g : w.grownBy wi (some b)
  z : wi.heap[w.heap.size]? = some (.cells #[.int .i64 0, .int .i64 0, .int .i64 0, .int .i64 0, .int .i64 0, .int .i64 0, .int .i64 0, .int .i64 0, .int .i64 0, .int .i64 0, .int .i64 0, .int .i64 0, .int .i64 0, .string ByteArray.empty, .string ByteArray.empty, .string ByteArray.empty, .string ByteArray.empty, .int .i64 0, .int .i64 0, .int .i64 0, .int .i64 0, .int .i64 0, .int .i64 0, .int .i64 0, .int .i64 0, .int .i64 0, .int .i64 0, .int .i64 0, .int .i64 0, .int .i64 0, .int .i64 0, .int .i64 0, .int .i64 0, .int .i64 0] 47)
  r : wi.heap[w.heap.size + 1]? = some (.cells #[.int .i64 x.z.off, .int .i64 x.z.f.m, .int .i64 x.z.f.w, .int .i64 x.z.f.d, .int .i64 x.z.f.h, .int .i64 x.z.t.m, .int .i64 x.z.t.w, .int .i64 x.z.t.d, .int .i64 x.z.t.h, .int .i64 x.days, .int .i64 x.gap, .int .i64 x.first, .int .i64 x.last, .string x.h0, .string x.h1, .string x.h2, .string x.h3, .int .i64 x.b0.x, .int .i64 x.b0.y, .int .i64 x.b0.z, .int .i64 x.b1.x, .int .i64 x.b1.y, .int .i64 x.b1.z, .int .i64 x.b2.x, .int .i64 x.b2.y, .int .i64 x.b2.z, .int .i64 x.d.x, .int .i64 x.d.y, .int .i64 x.d.z, .int .i64 x.np, .int .i64 x.nn, .int .i64 x.fix, .int .i64 x.min, .int .i64 x.tax] 47)
  sc : ScanAt wi b t s
  hb : b < w.heap.size
theorem GSt.lt {w wi : World} {b : Nat} {t : ByteArray} {x : Trf} {s : Txt.Sc} (h : GSt w b t wi x s) : w.heap.size + 1 < wi.heap.size := (Array.getElem?_eq_some_iff.1 h.r).1
theorem GSt.step {w wi w' : World} {b : Nat} {t : ByteArray} {x : Trf} {s s' : Txt.Sc} (h : GSt w b t wi x s) (g : wi.grownBy w' (some b)) (sc : ScanAt w' b t s') : GSt w b t w' x s' := by
  have hl := h.lt
  have hb := h.hb
  exact ⟨grown_trans h.g g, (g.block _ (by omega) (fun e => by injection e with e; omega)).trans h.z, (g.block _ (by omega) (fun e => by injection e with e; omega)).trans h.r, sc, hb⟩
theorem GSt.put {w wi : World} {b : Nat} {t : ByteArray} {x x' : Trf} {s : Txt.Sc} (h : GSt w b t wi x s) (j : Nat) (u : Value) (hr : (wi.setCell ⟨w.heap.size + 1, j, none⟩ u).heap[w.heap.size + 1]? = some (.cells #[.int .i64 x'.z.off, .int .i64 x'.z.f.m, .int .i64 x'.z.f.w, .int .i64 x'.z.f.d, .int .i64 x'.z.f.h, .int .i64 x'.z.t.m, .int .i64 x'.z.t.w, .int .i64 x'.z.t.d, .int .i64 x'.z.t.h, .int .i64 x'.days, .int .i64 x'.gap, .int .i64 x'.first, .int .i64 x'.last, .string x'.h0, .string x'.h1, .string x'.h2, .string x'.h3, .int .i64 x'.b0.x, .int .i64 x'.b0.y, .int .i64 x'.b0.z, .int .i64 x'.b1.x, .int .i64 x'.b1.y, .int .i64 x'.b1.z, .int .i64 x'.b2.x, .int .i64 x'.b2.y, .int .i64 x'.b2.z, .int .i64 x'.d.x, .int .i64 x'.d.y, .int .i64 x'.d.z, .int .i64 x'.np, .int .i64 x'.nn, .int .i64 x'.fix, .int .i64 x'.min, .int .i64 x'.tax] 47)) : GSt w b t (wi.setCell ⟨w.heap.size + 1, j, none⟩ u) x' s := by
  have hb := h.hb
  exact ⟨grown_own h.g (k := w.heap.size + 1) (by omega) _, (Below.heap_setCell _ _ _ _ (show w.heap.size ≠ w.heap.size + 1 by omega)).trans h.z, hr, h.sc.other (by omega) _ _, hb⟩
theorem GSt.same {w wi : World} {b : Nat} {t : ByteArray} {x : Trf} {s : Txt.Sc} (h : GSt w b t wi x s) (j : Nat) (u : Value) : (wi.setCell ⟨w.heap.size + 1, j, none⟩ u).heap[w.heap.size + 1]? = some (.cells ((#[.int .i64 x.z.off, .int .i64 x.z.f.m, .int .i64 x.z.f.w, .int .i64 x.z.f.d, .int .i64 x.z.f.h, .int .i64 x.z.t.m, .int .i64 x.z.t.w, .int .i64 x.z.t.d, .int .i64 x.z.t.h, .int .i64 x.days, .int .i64 x.gap, .int .i64 x.first, .int .i64 x.last, .string x.h0, .string x.h1, .string x.h2, .string x.h3, .int .i64 x.b0.x, .int .i64 x.b0.y, .int .i64 x.b0.z, .int .i64 x.b1.x, .int .i64 x.b1.y, .int .i64 x.b1.z, .int .i64 x.b2.x, .int .i64 x.b2.y, .int .i64 x.b2.z, .int .i64 x.d.x, .int .i64 x.d.y, .int .i64 x.d.z, .int .i64 x.np, .int .i64 x.nn, .int .i64 x.fix, .int .i64 x.min, .int .i64 x.tax] : Array Value).setIfInBounds j u) 47 (0, 0)) := heap_setCell_same wi (w.heap.size + 1) j _ _ u h.r
theorem GSt.cell {w wi : World} {b : Nat} {t : ByteArray} {x : Trf} {s : Txt.Sc} (h : GSt w b t wi x s) (j : Nat) : wi.cell? ⟨w.heap.size + 1, j, none⟩ = (#[.int .i64 x.z.off, .int .i64 x.z.f.m, .int .i64 x.z.f.w, .int .i64 x.z.f.d, .int .i64 x.z.f.h, .int .i64 x.z.t.m, .int .i64 x.z.t.w, .int .i64 x.z.t.d, .int .i64 x.z.t.h, .int .i64 x.days, .int .i64 x.gap, .int .i64 x.first, .int .i64 x.last, .string x.h0, .string x.h1, .string x.h2, .string x.h3, .int .i64 x.b0.x, .int .i64 x.b0.y, .int .i64 x.b0.z, .int .i64 x.b1.x, .int .i64 x.b1.y, .int .i64 x.b1.z, .int .i64 x.b2.x, .int .i64 x.b2.y, .int .i64 x.b2.z, .int .i64 x.d.x, .int .i64 x.d.y, .int .i64 x.d.z, .int .i64 x.np, .int .i64 x.nn, .int .i64 x.fix, .int .i64 x.min, .int .i64 x.tax] : Array Value)[j]? := cell_of_row _ _ _ _ _ _ h.r
theorem GSt.frz {w wi : World} {b : Nat} {t : ByteArray} {x : Trf} {s : Txt.Sc} (h : GSt w b t wi x s) (j : Nat) : wi.frozen? ⟨w.heap.size + 1, j, none⟩ = false := frozen_of_row _ _ _ _ _ h.r
theorem GSt.days {w wi : World} {b : Nat} {t : ByteArray} {x : Trf} {s : Txt.Sc} (h : GSt w b t wi x s) (v : Int) : GSt w b t (wi.setCell ⟨w.heap.size + 1, 9, none⟩ (.int .i64 v)) { x with days := v } s := h.put 9 _ (h.same 9 _)
theorem GSt.gap {w wi : World} {b : Nat} {t : ByteArray} {x : Trf} {s : Txt.Sc} (h : GSt w b t wi x s) (v : Int) : GSt w b t (wi.setCell ⟨w.heap.size + 1, 10, none⟩ (.int .i64 v)) { x with gap := v } s := h.put 10 _ (h.same 10 _)
theorem GSt.first {w wi : World} {b : Nat} {t : ByteArray} {x : Trf} {s : Txt.Sc} (h : GSt w b t wi x s) (v : Int) : GSt w b t (wi.setCell ⟨w.heap.size + 1, 11, none⟩ (.int .i64 v)) { x with first := v } s := h.put 11 _ (h.same 11 _)
theorem GSt.last {w wi : World} {b : Nat} {t : ByteArray} {x : Trf} {s : Txt.Sc} (h : GSt w b t wi x s) (v : Int) : GSt w b t (wi.setCell ⟨w.heap.size + 1, 12, none⟩ (.int .i64 v)) { x with last := v } s := h.put 12 _ (h.same 12 _)
theorem GSt.np {w wi : World} {b : Nat} {t : ByteArray} {x : Trf} {s : Txt.Sc} (h : GSt w b t wi x s) (v : Int) : GSt w b t (wi.setCell ⟨w.heap.size + 1, 29, none⟩ (.int .i64 v)) { x with np := v } s := h.put 29 _ (h.same 29 _)
theorem GSt.nn {w wi : World} {b : Nat} {t : ByteArray} {x : Trf} {s : Txt.Sc} (h : GSt w b t wi x s) (v : Int) : GSt w b t (wi.setCell ⟨w.heap.size + 1, 30, none⟩ (.int .i64 v)) { x with nn := v } s := h.put 30 _ (h.same 30 _)
theorem GSt.fix {w wi : World} {b : Nat} {t : ByteArray} {x : Trf} {s : Txt.Sc} (h : GSt w b t wi x s) (v : Int) : GSt w b t (wi.setCell ⟨w.heap.size + 1, 31, none⟩ (.int .i64 v)) { x with fix := v } s := h.put 31 _ (h.same 31 _)
theorem GSt.min {w wi : World} {b : Nat} {t : ByteArray} {x : Trf} {s : Txt.Sc} (h : GSt w b t wi x s) (v : Int) : GSt w b t (wi.setCell ⟨w.heap.size + 1, 32, none⟩ (.int .i64 v)) { x with min := v } s := h.put 32 _ (h.same 32 _)
theorem GSt.tax {w wi : World} {b : Nat} {t : ByteArray} {x : Trf} {s : Txt.Sc} (h : GSt w b t wi x s) (v : Int) : GSt w b t (wi.setCell ⟨w.heap.size + 1, 33, none⟩ (.int .i64 v)) { x with tax := v } s := h.put 33 _ (h.same 33 _)
theorem GSt.h0 {w wi : World} {b : Nat} {t : ByteArray} {x : Trf} {s : Txt.Sc} (h : GSt w b t wi x s) (v : ByteArray) : GSt w b t (wi.setCell ⟨w.heap.size + 1, 13, none⟩ (.string v)) { x with h0 := v } s := h.put 13 _ (h.same 13 _)
theorem GSt.h1 {w wi : World} {b : Nat} {t : ByteArray} {x : Trf} {s : Txt.Sc} (h : GSt w b t wi x s) (v : ByteArray) : GSt w b t (wi.setCell ⟨w.heap.size + 1, 14, none⟩ (.string v)) { x with h1 := v } s := h.put 14 _ (h.same 14 _)
theorem GSt.h2 {w wi : World} {b : Nat} {t : ByteArray} {x : Trf} {s : Txt.Sc} (h : GSt w b t wi x s) (v : ByteArray) : GSt w b t (wi.setCell ⟨w.heap.size + 1, 15, none⟩ (.string v)) { x with h2 := v } s := h.put 15 _ (h.same 15 _)
theorem GSt.h3 {w wi : World} {b : Nat} {t : ByteArray} {x : Trf} {s : Txt.Sc} (h : GSt w b t wi x s) (v : ByteArray) : GSt w b t (wi.setCell ⟨w.heap.size + 1, 16, none⟩ (.string v)) { x with h3 := v } s := h.put 16 _ (h.same 16 _)
theorem GSt.zone {w wi : World} {b : Nat} {t : ByteArray} {x : Trf} {s : Txt.Sc} (h : GSt w b t wi x s) (z : Zon.Zn) : GSt w b t (((((((((wi.setCell ⟨w.heap.size + 1, 0, none⟩ (.int .i64 z.off)).setCell ⟨w.heap.size + 1, 1, none⟩ (.int .i64 z.f.m)).setCell ⟨w.heap.size + 1, 2, none⟩ (.int .i64 z.f.w)).setCell ⟨w.heap.size + 1, 3, none⟩ (.int .i64 z.f.d)).setCell ⟨w.heap.size + 1, 4, none⟩ (.int .i64 z.f.h)).setCell ⟨w.heap.size + 1, 5, none⟩ (.int .i64 z.t.m)).setCell ⟨w.heap.size + 1, 6, none⟩ (.int .i64 z.t.w)).setCell ⟨w.heap.size + 1, 7, none⟩ (.int .i64 z.t.d)).setCell ⟨w.heap.size + 1, 8, none⟩ (.int .i64 z.t.h)) { x with z := z } s := by
  have h0a := h.put (x' := ⟨⟨z.off, ⟨x.z.f.m, x.z.f.w, x.z.f.d, x.z.f.h⟩, ⟨x.z.t.m, x.z.t.w, x.z.t.d, x.z.t.h⟩⟩, x.days, x.gap, x.first, x.last, x.h0, x.h1, x.h2, x.h3, x.b0, x.b1, x.b2, x.d, x.np, x.nn, x.fix, x.min, x.tax⟩) 0 (.int .i64 z.off) (h.same 0 _)
  have h1a := h0a.put (x' := ⟨⟨z.off, ⟨z.f.m, x.z.f.w, x.z.f.d, x.z.f.h⟩, ⟨x.z.t.m, x.z.t.w, x.z.t.d, x.z.t.h⟩⟩, x.days, x.gap, x.first, x.last, x.h0, x.h1, x.h2, x.h3, x.b0, x.b1, x.b2, x.d, x.np, x.nn, x.fix, x.min, x.tax⟩) 1 (.int .i64 z.f.m) (h0a.same 1 _)
  have h2a := h1a.put (x' := ⟨⟨z.off, ⟨z.f.m, z.f.w, x.z.f.d, x.z.f.h⟩, ⟨x.z.t.m, x.z.t.w, x.z.t.d, x.z.t.h⟩⟩, x.days, x.gap, x.first, x.last, x.h0, x.h1, x.h2, x.h3, x.b0, x.b1, x.b2, x.d, x.np, x.nn, x.fix, x.min, x.tax⟩) 2 (.int .i64 z.f.w) (h1a.same 2 _)
  have h3a := h2a.put (x' := ⟨⟨z.off, ⟨z.f.m, z.f.w, z.f.d, x.z.f.h⟩, ⟨x.z.t.m, x.z.t.w, x.z.t.d, x.z.t.h⟩⟩, x.days, x.gap, x.first, x.last, x.h0, x.h1, x.h2, x.h3, x.b0, x.b1, x.b2, x.d, x.np, x.nn, x.fix, x.min, x.tax⟩) 3 (.int .i64 z.f.d) (h2a.same 3 _)
  have h4a := h3a.put (x' := ⟨⟨z.off, ⟨z.f.m, z.f.w, z.f.d, z.f.h⟩, ⟨x.z.t.m, x.z.t.w, x.z.t.d, x.z.t.h⟩⟩, x.days, x.gap, x.first, x.last, x.h0, x.h1, x.h2, x.h3, x.b0, x.b1, x.b2, x.d, x.np, x.nn, x.fix, x.min, x.tax⟩) 4 (.int .i64 z.f.h) (h3a.same 4 _)
  have h5a := h4a.put (x' := ⟨⟨z.off, ⟨z.f.m, z.f.w, z.f.d, z.f.h⟩, ⟨z.t.m, x.z.t.w, x.z.t.d, x.z.t.h⟩⟩, x.days, x.gap, x.first, x.last, x.h0, x.h1, x.h2, x.h3, x.b0, x.b1, x.b2, x.d, x.np, x.nn, x.fix, x.min, x.tax⟩) 5 (.int .i64 z.t.m) (h4a.same 5 _)
  have h6a := h5a.put (x' := ⟨⟨z.off, ⟨z.f.m, z.f.w, z.f.d, z.f.h⟩, ⟨z.t.m, z.t.w, x.z.t.d, x.z.t.h⟩⟩, x.days, x.gap, x.first, x.last, x.h0, x.h1, x.h2, x.h3, x.b0, x.b1, x.b2, x.d, x.np, x.nn, x.fix, x.min, x.tax⟩) 6 (.int .i64 z.t.w) (h5a.same 6 _)
  have h7a := h6a.put (x' := ⟨⟨z.off, ⟨z.f.m, z.f.w, z.f.d, z.f.h⟩, ⟨z.t.m, z.t.w, z.t.d, x.z.t.h⟩⟩, x.days, x.gap, x.first, x.last, x.h0, x.h1, x.h2, x.h3, x.b0, x.b1, x.b2, x.d, x.np, x.nn, x.fix, x.min, x.tax⟩) 7 (.int .i64 z.t.d) (h6a.same 7 _)
  have h8a := h7a.put (x' := ⟨⟨z.off, ⟨z.f.m, z.f.w, z.f.d, z.f.h⟩, ⟨z.t.m, z.t.w, z.t.d, z.t.h⟩⟩, x.days, x.gap, x.first, x.last, x.h0, x.h1, x.h2, x.h3, x.b0, x.b1, x.b2, x.d, x.np, x.nn, x.fix, x.min, x.tax⟩) 8 (.int .i64 z.t.h) (h7a.same 8 _)
  exact h8a
theorem GSt.b0 {w wi : World} {b : Nat} {t : ByteArray} {x : Trf} {s : Txt.Sc} (h : GSt w b t wi x s) (v : Blk) : GSt w b t (((wi.setCell ⟨w.heap.size + 1, 17, none⟩ (.int .i64 v.x)).setCell ⟨w.heap.size + 1, 18, none⟩ (.int .i64 v.y)).setCell ⟨w.heap.size + 1, 19, none⟩ (.int .i64 v.z)) { x with b0 := v } s := by
  have h0a := h.put (x' := { x with b0 := ⟨v.x, x.b0.y, x.b0.z⟩ }) 17 (.int .i64 v.x) (h.same 17 _)
  have h1a := h0a.put (x' := { x with b0 := ⟨v.x, v.y, x.b0.z⟩ }) 18 (.int .i64 v.y) (h0a.same 18 _)
  have h2a := h1a.put (x' := { x with b0 := ⟨v.x, v.y, v.z⟩ }) 19 (.int .i64 v.z) (h1a.same 19 _)
  exact h2a
theorem GSt.b1 {w wi : World} {b : Nat} {t : ByteArray} {x : Trf} {s : Txt.Sc} (h : GSt w b t wi x s) (v : Blk) : GSt w b t (((wi.setCell ⟨w.heap.size + 1, 20, none⟩ (.int .i64 v.x)).setCell ⟨w.heap.size + 1, 21, none⟩ (.int .i64 v.y)).setCell ⟨w.heap.size + 1, 22, none⟩ (.int .i64 v.z)) { x with b1 := v } s := by
  have h0a := h.put (x' := { x with b1 := ⟨v.x, x.b1.y, x.b1.z⟩ }) 20 (.int .i64 v.x) (h.same 20 _)
  have h1a := h0a.put (x' := { x with b1 := ⟨v.x, v.y, x.b1.z⟩ }) 21 (.int .i64 v.y) (h0a.same 21 _)
  have h2a := h1a.put (x' := { x with b1 := ⟨v.x, v.y, v.z⟩ }) 22 (.int .i64 v.z) (h1a.same 22 _)
  exact h2a
theorem GSt.b2 {w wi : World} {b : Nat} {t : ByteArray} {x : Trf} {s : Txt.Sc} (h : GSt w b t wi x s) (v : Blk) : GSt w b t (((wi.setCell ⟨w.heap.size + 1, 23, none⟩ (.int .i64 v.x)).setCell ⟨w.heap.size + 1, 24, none⟩ (.int .i64 v.y)).setCell ⟨w.heap.size + 1, 25, none⟩ (.int .i64 v.z)) { x with b2 := v } s := by
  have h0a := h.put (x' := { x with b2 := ⟨v.x, x.b2.y, x.b2.z⟩ }) 23 (.int .i64 v.x) (h.same 23 _)
  have h1a := h0a.put (x' := { x with b2 := ⟨v.x, v.y, x.b2.z⟩ }) 24 (.int .i64 v.y) (h0a.same 24 _)
  have h2a := h1a.put (x' := { x with b2 := ⟨v.x, v.y, v.z⟩ }) 25 (.int .i64 v.z) (h1a.same 25 _)
  exact h2a
theorem GSt.dm {w wi : World} {b : Nat} {t : ByteArray} {x : Trf} {s : Txt.Sc} (h : GSt w b t wi x s) (v : Blk) : GSt w b t (((wi.setCell ⟨w.heap.size + 1, 26, none⟩ (.int .i64 v.x)).setCell ⟨w.heap.size + 1, 27, none⟩ (.int .i64 v.y)).setCell ⟨w.heap.size + 1, 28, none⟩ (.int .i64 v.z)) { x with d := v } s := by
  have h0a := h.put (x' := { x with d := ⟨v.x, x.d.y, x.d.z⟩ }) 26 (.int .i64 v.x) (h.same 26 _)
  have h1a := h0a.put (x' := { x with d := ⟨v.x, v.y, x.d.z⟩ }) 27 (.int .i64 v.y) (h0a.same 27 _)
  have h2a := h1a.put (x' := { x with d := ⟨v.x, v.y, v.z⟩ }) 28 (.int .i64 v.z) (h1a.same 28 _)
  exact h2a
theorem hideD {p : Prop} (h : p) : Hid p := h
theorem wp_world {P : Program} {c : Code} {Q : Exit → Act → World → Prop} {a : Act} {w0 : World} (h : ∀ w', w' = w0 → Code.wp P c Q a w') : Code.wp P c Q a w0 := h w0 rfl
theorem grown_row {a w : World} {r : Option Nat} {k : Nat} (h : a.grownBy w r) (hk : a.heap.size ≤ k) (cs : Array Value) : a.grownBy (w.setRow k cs) r :=
  grown_fresh h (r' := some k) ⟨rfl, rfl, rfl, by simp [World.setRow], fun j _ hr => setRow_other w k j cs (fun e => hr (by rw [e]))⟩ (fun j hj => by cases hj; exact hk)
theorem scan_row {w : World} {b k : Nat} {t : ByteArray} {s : Txt.Sc} (h : ScanAt w b t s) (hk : ¬ k = b) (cs : Array Value) : ScanAt (w.setRow k cs) b t s :=
  h.grown (r := some k) ⟨rfl, rfl, rfl, by simp [World.setRow], fun j _ hr => setRow_other w k j cs (fun e => hr (by rw [e]))⟩ (by simpa using hk)
theorem td_one (t : Trf) : (#[.int .i64 t.z.off, .int .i64 t.z.f.m, .int .i64 t.z.f.w, .int .i64 t.z.f.d, .int .i64 t.z.f.h, .int .i64 t.z.t.m, .int .i64 t.z.t.w, .int .i64 t.z.t.d, .int .i64 t.z.t.h, .int .i64 t.days, .int .i64 t.gap, .int .i64 t.first, .int .i64 t.last, .string t.h0, .string t.h1, .string t.h2, .string t.h3, .int .i64 t.b0.x, .int .i64 t.b0.y, .int .i64 t.b0.z, .int .i64 t.b1.x, .int .i64 t.b1.y, .int .i64 t.b1.z, .int .i64 t.b2.x, .int .i64 t.b2.y, .int .i64 t.b2.z, .int .i64 t.d.x, .int .i64 t.d.y, .int .i64 t.d.z, .int .i64 t.np, .int .i64 t.nn, .int .i64 t.fix, .int .i64 t.min, .int .i64 t.tax] : Array Value).all (fun v => v.oneCell') = true := by kernel_rfl
theorem td_size (t : Trf) : (#[.int .i64 0, .int .i64 0, .int .i64 0, .int .i64 0, .int .i64 0, .int .i64 0, .int .i64 0, .int .i64 0, .int .i64 0, .int .i64 0, .int .i64 0, .int .i64 0, .int .i64 0, .string ByteArray.empty, .string ByteArray.empty, .string ByteArray.empty, .string ByteArray.empty, .int .i64 0, .int .i64 0, .int .i64 0, .int .i64 0, .int .i64 0, .int .i64 0, .int .i64 0, .int .i64 0, .int .i64 0, .int .i64 0, .int .i64 0, .int .i64 0, .int .i64 0, .int .i64 0, .int .i64 0, .int .i64 0, .int .i64 0] : Array Value).size = (#[.int .i64 t.z.off, .int .i64 t.z.f.m, .int .i64 t.z.f.w, .int .i64 t.z.f.d, .int .i64 t.z.f.h, .int .i64 t.z.t.m, .int .i64 t.z.t.w, .int .i64 t.z.t.d, .int .i64 t.z.t.h, .int .i64 t.days, .int .i64 t.gap, .int .i64 t.first, .int .i64 t.last, .string t.h0, .string t.h1, .string t.h2, .string t.h3, .int .i64 t.b0.x, .int .i64 t.b0.y, .int .i64 t.b0.z, .int .i64 t.b1.x, .int .i64 t.b1.y, .int .i64 t.b1.z, .int .i64 t.b2.x, .int .i64 t.b2.y, .int .i64 t.b2.z, .int .i64 t.d.x, .int .i64 t.d.y, .int .i64 t.d.z, .int .i64 t.np, .int .i64 t.nn, .int .i64 t.fix, .int .i64 t.min, .int .i64 t.tax] : Array Value).size := rfl
theorem td_info (t : Trf) : (Tryz.prog.info? 47).map (fun i => i.size) = some (#[.int .i64 t.z.off, .int .i64 t.z.f.m, .int .i64 t.z.f.w, .int .i64 t.z.f.d, .int .i64 t.z.f.h, .int .i64 t.z.t.m, .int .i64 t.z.t.w, .int .i64 t.z.t.d, .int .i64 t.z.t.h, .int .i64 t.days, .int .i64 t.gap, .int .i64 t.first, .int .i64 t.last, .string t.h0, .string t.h1, .string t.h2, .string t.h3, .int .i64 t.b0.x, .int .i64 t.b0.y, .int .i64 t.b0.z, .int .i64 t.b1.x, .int .i64 t.b1.y, .int .i64 t.b1.z, .int .i64 t.b2.x, .int .i64 t.b2.y, .int .i64 t.b2.z, .int .i64 t.d.x, .int .i64 t.d.y, .int .i64 t.d.z, .int .i64 t.np, .int .i64 t.nn, .int .i64 t.fix, .int .i64 t.min, .int .i64 t.tax] : Array Value).size := by kernel_rfl

set_option maxRecDepth 1000000 in
set_option maxHeartbeats 2000000 in
theorem scan_tariff_any (t : ByteArray) (x : Trf) (hx : x = rdT t (hrP t)) (b : Nat) (w : World) (h : ScanAt w b t (sT t 0)) (ht : t.size ≤ 100000) :
    Calls Tryz.prog 21 #[.pointer (some ⟨b, 0, none⟩)] w fun e w' => e = .returned (.agg #[.int .i64 x.z.off, .int .i64 x.z.f.m, .int .i64 x.z.f.w, .int .i64 x.z.f.d, .int .i64 x.z.f.h, .int .i64 x.z.t.m, .int .i64 x.z.t.w, .int .i64 x.z.t.d, .int .i64 x.z.t.h, .int .i64 x.days, .int .i64 x.gap, .int .i64 x.first, .int .i64 x.last, .string x.h0, .string x.h1, .string x.h2, .string x.h3, .int .i64 x.b0.x, .int .i64 x.b0.y, .int .i64 x.b0.z, .int .i64 x.b1.x, .int .i64 x.b1.y, .int .i64 x.b1.z, .int .i64 x.b2.x, .int .i64 x.b2.y, .int .i64 x.b2.z, .int .i64 x.d.x, .int .i64 x.d.y, .int .i64 x.d.z, .int .i64 x.np, .int .i64 x.nn, .int .i64 x.fix, .int .i64 x.min, .int .i64 x.tax]) ∧ w.grownBy w' (some b) ∧ ScanAt w' b t (sT t 13) := by
  have HX := hideD hx
  clear hx
  have cZ : ∀ W, ScanAt W b t (sT t 0) → Calls Tryz.prog 56 #[.pointer (some ⟨b, 0, none⟩)] W fun e w' => e = .returned (.agg #[.int .i64 ((lnV t (sT t 0) 90 0) - 720), .int .i64 (lnV t (sT t 0) 90 1), .int .i64 (lnV t (sT t 0) 90 2), .int .i64 (lnV t (sT t 0) 90 3), .int .i64 (lnV t (sT t 0) 90 4), .int .i64 (lnV t (sT t 0) 90 5), .int .i64 (lnV t (sT t 0) 90 6), .int .i64 (lnV t (sT t 0) 90 7), .int .i64 (lnV t (sT t 0) 90 8)]) ∧ W.grownBy w' (some b) ∧ ScanAt w' b t (sT t 1) := fun W h => scan_zone_any t _ b W h (sT_le t 0) ht
  have aD : ∀ W, ScanAt W b t (sT t 1) → Calls Tryz.prog 16 #[.pointer (some ⟨b, 0, none⟩), .int .u8 68] W fun e w' => e = .returned (.tuple #[]) ∧ W.grownBy w' (some b) ∧ ScanAt w' b t (Txt.take t (sT t 1) 68) := fun W h => take_any t _ 68 b W h (by omega) (sT_le t 1) ht
  have lD0 : (Txt.take t (sT t 1) 68).pos ≤ t.size := Txt.take_le (by omega) (sT_le t 1)
  have fD0 : ∀ W, ScanAt W b t (fldS t 9 (Txt.take t (sT t 1) 68) 0) → Calls Tryz.prog 17 #[.pointer (some ⟨b, 0, none⟩)] W fun e w' => e = .returned (.int .i64 (lnV t (sT t 1) 68 0)) ∧ W.grownBy w' (some b) ∧ ScanAt w' b t (fldS t 9 (Txt.take t (sT t 1) 68) 1) := fun W h => field_any t _ b W h (fldS_le t 9 _ lD0 0) ht
  have fD1 : ∀ W, ScanAt W b t (fldS t 9 (Txt.take t (sT t 1) 68) 1) → Calls Tryz.prog 17 #[.pointer (some ⟨b, 0, none⟩)] W fun e w' => e = .returned (.int .i64 (lnV t (sT t 1) 68 1)) ∧ W.grownBy w' (some b) ∧ ScanAt w' b t (fldS t 9 (Txt.take t (sT t 1) 68) 2) := fun W h => field_any t _ b W h (fldS_le t 9 _ lD0 1) ht
  have eD : ∀ W, ScanAt W b t (fldS t 9 (Txt.take t (sT t 1) 68) 2) → Calls Tryz.prog 16 #[.pointer (some ⟨b, 0, none⟩), .int .u8 10] W fun e w' => e = .returned (.tuple #[]) ∧ W.grownBy w' (some b) ∧ ScanAt w' b t (sT t 2) := fun W h => take_any t _ 10 b W h (by omega) (fldS_le t 9 _ lD0 2) ht
  have aS : ∀ W, ScanAt W b t (sT t 2) → Calls Tryz.prog 16 #[.pointer (some ⟨b, 0, none⟩), .int .u8 83] W fun e w' => e = .returned (.tuple #[]) ∧ W.grownBy w' (some b) ∧ ScanAt w' b t (Txt.take t (sT t 2) 83) := fun W h => take_any t _ 83 b W h (by omega) (sT_le t 2) ht
  have lS0 : (Txt.take t (sT t 2) 83).pos ≤ t.size := Txt.take_le (by omega) (sT_le t 2)
  have fS0 : ∀ W, ScanAt W b t (fldS t 9 (Txt.take t (sT t 2) 83) 0) → Calls Tryz.prog 17 #[.pointer (some ⟨b, 0, none⟩)] W fun e w' => e = .returned (.int .i64 (lnV t (sT t 2) 83 0)) ∧ W.grownBy w' (some b) ∧ ScanAt w' b t (fldS t 9 (Txt.take t (sT t 2) 83) 1) := fun W h => field_any t _ b W h (fldS_le t 9 _ lS0 0) ht
  have fS1 : ∀ W, ScanAt W b t (fldS t 9 (Txt.take t (sT t 2) 83) 1) → Calls Tryz.prog 17 #[.pointer (some ⟨b, 0, none⟩)] W fun e w' => e = .returned (.int .i64 (lnV t (sT t 2) 83 1)) ∧ W.grownBy w' (some b) ∧ ScanAt w' b t (fldS t 9 (Txt.take t (sT t 2) 83) 2) := fun W h => field_any t _ b W h (fldS_le t 9 _ lS0 1) ht
  have eS : ∀ W, ScanAt W b t (fldS t 9 (Txt.take t (sT t 2) 83) 2) → Calls Tryz.prog 16 #[.pointer (some ⟨b, 0, none⟩), .int .u8 10] W fun e w' => e = .returned (.tuple #[]) ∧ W.grownBy w' (some b) ∧ ScanAt w' b t (sT t 3) := fun W h => take_any t _ 10 b W h (by omega) (fldS_le t 9 _ lS0 2) ht
  have aF : ∀ W, ScanAt W b t (sT t 12) → Calls Tryz.prog 16 #[.pointer (some ⟨b, 0, none⟩), .int .u8 70] W fun e w' => e = .returned (.tuple #[]) ∧ W.grownBy w' (some b) ∧ ScanAt w' b t (Txt.take t (sT t 12) 70) := fun W h => take_any t _ 70 b W h (by omega) (sT_le t 12) ht
  have lF0 : (Txt.take t (sT t 12) 70).pos ≤ t.size := Txt.take_le (by omega) (sT_le t 12)
  have fF0 : ∀ W, ScanAt W b t (fldS t 9 (Txt.take t (sT t 12) 70) 0) → Calls Tryz.prog 17 #[.pointer (some ⟨b, 0, none⟩)] W fun e w' => e = .returned (.int .i64 (lnV t (sT t 12) 70 0)) ∧ W.grownBy w' (some b) ∧ ScanAt w' b t (fldS t 9 (Txt.take t (sT t 12) 70) 1) := fun W h => field_any t _ b W h (fldS_le t 9 _ lF0 0) ht
  have fF1 : ∀ W, ScanAt W b t (fldS t 9 (Txt.take t (sT t 12) 70) 1) → Calls Tryz.prog 17 #[.pointer (some ⟨b, 0, none⟩)] W fun e w' => e = .returned (.int .i64 (lnV t (sT t 12) 70 1)) ∧ W.grownBy w' (some b) ∧ ScanAt w' b t (fldS t 9 (Txt.take t (sT t 12) 70) 2) := fun W h => field_any t _ b W h (fldS_le t 9 _ lF0 1) ht
  have fF2 : ∀ W, ScanAt W b t (fldS t 9 (Txt.take t (sT t 12) 70) 2) → Calls Tryz.prog 17 #[.pointer (some ⟨b, 0, none⟩)] W fun e w' => e = .returned (.int .i64 (lnV t (sT t 12) 70 2)) ∧ W.grownBy w' (some b) ∧ ScanAt w' b t (fldS t 9 (Txt.take t (sT t 12) 70) 3) := fun W h => field_any t _ b W h (fldS_le t 9 _ lF0 2) ht
  have eF : ∀ W, ScanAt W b t (fldS t 9 (Txt.take t (sT t 12) 70) 3) → Calls Tryz.prog 16 #[.pointer (some ⟨b, 0, none⟩), .int .u8 10] W fun e w' => e = .returned (.tuple #[]) ∧ W.grownBy w' (some b) ∧ ScanAt w' b t (sT t 13) := fun W h => take_any t _ 10 b W h (by omega) (fldS_le t 9 _ lF0 3) ht
  have cH : ∀ k, k < 4 → ∀ W, ScanAt W b t (sT t (3 + k)) → Calls Tryz.prog 57 #[.pointer (some ⟨b, 0, none⟩)] W fun e w' => e = .returned (.string (hrP t (3 + k))) ∧ W.grownBy w' (some b) ∧ ScanAt w' b t (sT t (3 + k + 1)) := fun k hk W h => by
    rcases (by omega : k = 0 ∨ k = 1 ∨ k = 2 ∨ k = 3) with rfl | rfl | rfl | rfl <;> exact scan_hours_any t _ b W h (sT_le t _) ht
  have cB : ∀ k, k < 3 → ∀ W, ScanAt W b t (sT t (7 + k)) → Calls Tryz.prog 58 #[.pointer (some ⟨b, 0, none⟩)] W fun e w' => e = .returned (.agg #[.int .i64 (lnV t (sT t (7 + k)) 66 0), .int .i64 (lnV t (sT t (7 + k)) 66 1), .int .i64 (lnV t (sT t (7 + k)) 66 2)]) ∧ W.grownBy w' (some b) ∧ ScanAt w' b t (sT t (7 + k + 1)) := fun k hk W h => by
    rcases (by omega : k = 0 ∨ k = 1 ∨ k = 2) with rfl | rfl | rfl <;> exact scan_block_any t _ b W h (sT_le t _) ht
  have cM : ∀ W, ScanAt W b t (sT t 10) → Calls Tryz.prog 59 #[.pointer (some ⟨b, 0, none⟩)] W fun e w' => e = .returned (.agg #[.int .i64 (lnV t (sT t 10) 77 0), .int .i64 (lnV t (sT t 10) 77 1), .int .i64 (lnV t (sT t 10) 77 2)]) ∧ W.grownBy w' (some b) ∧ ScanAt w' b t (sT t 11) := fun W h => scan_demand_any t _ b W h (sT_le t 10) ht
  have cN : ∀ W, ScanAt W b t (sT t 11) → Calls Tryz.prog 60 #[.pointer (some ⟨b, 0, none⟩)] W fun e w' => e = .returned (.agg #[.int .i64 (lnV t (sT t 11) 78 0), .int .i64 (lnV t (sT t 11) 78 1)]) ∧ W.grownBy w' (some b) ∧ ScanAt w' b t (sT t 12) := fun W h => scan_net_any t _ b W h (sT_le t 11) ht
  have hb := h.lt
  have hb1 : ¬ w.heap.size + 1 = b := by omega
  have hb0 : ¬ w.heap.size = b := by omega
  have SA : GSt w b t ((w.alloc (.cells #[.int .i64 0, .int .i64 0, .int .i64 0, .int .i64 0, .int .i64 0, .int .i64 0, .int .i64 0, .int .i64 0, .int .i64 0, .int .i64 0, .int .i64 0, .int .i64 0, .int .i64 0, .string ByteArray.empty, .string ByteArray.empty, .string ByteArray.empty, .string ByteArray.empty, .int .i64 0, .int .i64 0, .int .i64 0, .int .i64 0, .int .i64 0, .int .i64 0, .int .i64 0, .int .i64 0, .int .i64 0, .int .i64 0, .int .i64 0, .int .i64 0, .int .i64 0, .int .i64 0, .int .i64 0, .int .i64 0, .int .i64 0] 47)).alloc (.cells #[.int .i64 0, .int .i64 0, .int .i64 0, .int .i64 0, .int .i64 0, .int .i64 0, .int .i64 0, .int .i64 0, .int .i64 0, .int .i64 0, .int .i64 0, .int .i64 0, .int .i64 0, .string ByteArray.empty, .string ByteArray.empty, .string ByteArray.empty, .string ByteArray.empty, .int .i64 0, .int .i64 0, .int .i64 0, .int .i64 0, .int .i64 0, .int .i64 0, .int .i64 0, .int .i64 0, .int .i64 0, .int .i64 0, .int .i64 0, .int .i64 0, .int .i64 0, .int .i64 0, .int .i64 0, .int .i64 0, .int .i64 0] 47)) trf0 (sT t 0) := ⟨grown_alloc (grown_alloc (grown_refl _ _) _) _, (heap_alloc_old _ _ (by simp)).trans (heap_alloc_new _ _), heap_alloc2_new _ _ _, (h.alloc _).alloc _, hb⟩
  clear h
  go_enter Tryz.func21, Tryz.ntmps21
  go_upto_region 2 with fail
  refine wp_world (fun wA hwA => ?_)
  replace SA : GSt w b t wA trf0 (sT t 0) := by rw [hwA]; exact SA
  clear hwA
  go_upto_region 3 with (go_at_call 56; refine (cZ _ SA.sc).mono ?_; rintro e w1 ⟨rfl, g1, s1⟩; have S1 := SA.step g1 s1; have hl1 := S1.lt; have p0 : w1.cell? ⟨w.heap.size + 1, 0, none⟩ = some (.int .i64 0) := S1.cell 0; have f0 : w1.frozen? ⟨w.heap.size + 1, 0, none⟩ = false := S1.frz 0; have p1 : w1.cell? ⟨w.heap.size + 1, 1, none⟩ = some (.int .i64 0) := S1.cell 1; have f1 : w1.frozen? ⟨w.heap.size + 1, 1, none⟩ = false := S1.frz 1; have p2 : w1.cell? ⟨w.heap.size + 1, 2, none⟩ = some (.int .i64 0) := S1.cell 2; have f2 : w1.frozen? ⟨w.heap.size + 1, 2, none⟩ = false := S1.frz 2; have p3 : w1.cell? ⟨w.heap.size + 1, 3, none⟩ = some (.int .i64 0) := S1.cell 3; have f3 : w1.frozen? ⟨w.heap.size + 1, 3, none⟩ = false := S1.frz 3; have p4 : w1.cell? ⟨w.heap.size + 1, 4, none⟩ = some (.int .i64 0) := S1.cell 4; have f4 : w1.frozen? ⟨w.heap.size + 1, 4, none⟩ = false := S1.frz 4; have p5 : w1.cell? ⟨w.heap.size + 1, 5, none⟩ = some (.int .i64 0) := S1.cell 5; have f5 : w1.frozen? ⟨w.heap.size + 1, 5, none⟩ = false := S1.frz 5; have p6 : w1.cell? ⟨w.heap.size + 1, 6, none⟩ = some (.int .i64 0) := S1.cell 6; have f6 : w1.frozen? ⟨w.heap.size + 1, 6, none⟩ = false := S1.frz 6; have p7 : w1.cell? ⟨w.heap.size + 1, 7, none⟩ = some (.int .i64 0) := S1.cell 7; have f7 : w1.frozen? ⟨w.heap.size + 1, 7, none⟩ = false := S1.frz 7; have p8 : w1.cell? ⟨w.heap.size + 1, 8, none⟩ = some (.int .i64 0) := S1.cell 8; have f8 : w1.frozen? ⟨w.heap.size + 1, 8, none⟩ = false := S1.frz 8)
  have T1 := S1.zone ⟨((lnV t (sT t 0) 90 0) - 720), ⟨(lnV t (sT t 0) 90 1), (lnV t (sT t 0) 90 2), (lnV t (sT t 0) 90 3), (lnV t (sT t 0) 90 4)⟩, ⟨(lnV t (sT t 0) 90 5), (lnV t (sT t 0) 90 6), (lnV t (sT t 0) 90 7), (lnV t (sT t 0) 90 8)⟩⟩
  obtain ⟨v1, hv1⟩ : ∃ v, v = (((((((((w1.setCell ⟨w.heap.size + 1, 0, none⟩ (.int .i64 ((lnV t (sT t 0) 90 0) - 720))).setCell ⟨w.heap.size + 1, 1, none⟩ (.int .i64 (lnV t (sT t 0) 90 1))).setCell ⟨w.heap.size + 1, 2, none⟩ (.int .i64 (lnV t (sT t 0) 90 2))).setCell ⟨w.heap.size + 1, 3, none⟩ (.int .i64 (lnV t (sT t 0) 90 3))).setCell ⟨w.heap.size + 1, 4, none⟩ (.int .i64 (lnV t (sT t 0) 90 4))).setCell ⟨w.heap.size + 1, 5, none⟩ (.int .i64 (lnV t (sT t 0) 90 5))).setCell ⟨w.heap.size + 1, 6, none⟩ (.int .i64 (lnV t (sT t 0) 90 6))).setCell ⟨w.heap.size + 1, 7, none⟩ (.int .i64 (lnV t (sT t 0) 90 7))).setCell ⟨w.heap.size + 1, 8, none⟩ (.int .i64 (lnV t (sT t 0) 90 8))) := ⟨_, rfl⟩
  rw [← hv1] at T1 ⊢
  have S1b := T1
  clear hv1 T1 S1 SA g1 s1 hl1 p0 f0 p1 f1 p2 f2 p3 f3 p4 f4 p5 f5 p6 f6 p7 f7 p8 f8
  go_upto_region 4 with (go_at_call 16; refine (aD _ S1b.sc).mono ?_; rintro e w2 ⟨rfl, g2, s2⟩; have S2 := S1b.step g2 s2; have hl2 := S2.lt)
  clear S1b g2 s2 hl2
  go_upto_region 5 with (go_at_call 17; refine (fD0 _ S2.sc).mono ?_; rintro e w3 ⟨rfl, g3, s3⟩; have S3 := S2.step g3 s3; have hl3 := S3.lt; have p9 : w3.cell? ⟨w.heap.size + 1, 9, none⟩ = some (.int .i64 0) := S3.cell 9; have f9 : w3.frozen? ⟨w.heap.size + 1, 9, none⟩ = false := S3.frz 9)
  have T3 := S3.days (lnV t (sT t 1) 68 0)
  obtain ⟨v3, hv3⟩ : ∃ v, v = (w3.setCell ⟨w.heap.size + 1, 9, none⟩ (.int .i64 (lnV t (sT t 1) 68 0))) := ⟨_, rfl⟩
  rw [← hv3] at T3 ⊢
  have S3b := T3
  clear hv3 T3 S3 S2 g3 s3 hl3 p9 f9
  go_upto_region 6 with (go_at_call 17; refine (fD1 _ S3b.sc).mono ?_; rintro e w4 ⟨rfl, g4, s4⟩; have S4 := S3b.step g4 s4; have hl4 := S4.lt; have p10 : w4.cell? ⟨w.heap.size + 1, 10, none⟩ = some (.int .i64 0) := S4.cell 10; have f10 : w4.frozen? ⟨w.heap.size + 1, 10, none⟩ = false := S4.frz 10)
  have T4 := S4.gap (lnV t (sT t 1) 68 1)
  obtain ⟨v4, hv4⟩ : ∃ v, v = (w4.setCell ⟨w.heap.size + 1, 10, none⟩ (.int .i64 (lnV t (sT t 1) 68 1))) := ⟨_, rfl⟩
  rw [← hv4] at T4 ⊢
  have S4b := T4
  clear hv4 T4 S4 S3b g4 s4 hl4 p10 f10
  go_upto_region 7 with (go_at_call 16; refine (eD _ S4b.sc).mono ?_; rintro e w5 ⟨rfl, g5, s5⟩; have S5 := S4b.step g5 s5; have hl5 := S5.lt)
  clear S4b g5 s5 hl5
  go_upto_region 8 with (go_at_call 16; refine (aS _ S5.sc).mono ?_; rintro e w6 ⟨rfl, g6, s6⟩; have S6 := S5.step g6 s6; have hl6 := S6.lt)
  clear S5 g6 s6 hl6
  go_upto_region 9 with (go_at_call 17; refine (fS0 _ S6.sc).mono ?_; rintro e w7 ⟨rfl, g7, s7⟩; have S7 := S6.step g7 s7; have hl7 := S7.lt; have p11 : w7.cell? ⟨w.heap.size + 1, 11, none⟩ = some (.int .i64 0) := S7.cell 11; have f11 : w7.frozen? ⟨w.heap.size + 1, 11, none⟩ = false := S7.frz 11)
  have T7 := S7.first (lnV t (sT t 2) 83 0)
  obtain ⟨v7, hv7⟩ : ∃ v, v = (w7.setCell ⟨w.heap.size + 1, 11, none⟩ (.int .i64 (lnV t (sT t 2) 83 0))) := ⟨_, rfl⟩
  rw [← hv7] at T7 ⊢
  have S7b := T7
  clear hv7 T7 S7 S6 g7 s7 hl7 p11 f11
  go_upto_region 10 with (go_at_call 17; refine (fS1 _ S7b.sc).mono ?_; rintro e w8 ⟨rfl, g8, s8⟩; have S8 := S7b.step g8 s8; have hl8 := S8.lt; have p12 : w8.cell? ⟨w.heap.size + 1, 12, none⟩ = some (.int .i64 0) := S8.cell 12; have f12 : w8.frozen? ⟨w.heap.size + 1, 12, none⟩ = false := S8.frz 12)
  have T8 := S8.last (lnV t (sT t 2) 83 1)
  obtain ⟨v8, hv8⟩ : ∃ v, v = (w8.setCell ⟨w.heap.size + 1, 12, none⟩ (.int .i64 (lnV t (sT t 2) 83 1))) := ⟨_, rfl⟩
  rw [← hv8] at T8 ⊢
  have S8b := T8
  clear hv8 T8 S8 S7b g8 s8 hl8 p12 f12
  go_wp2_with (go_at_call 16; refine (eS _ S8b.sc).mono ?_; rintro e w9 ⟨rfl, g9, s9⟩; have S9 := S8b.step g9 s9; have hl9 := S9.lt)
  clear S8b g9 s9 hl9
  have hH : ∀ k, k < 4 → True := fun _ _ => trivial
  obtain ⟨xh, hxh⟩ : ∃ xh : Nat → Trf, xh = fun k => match k with | 0 => (⟨⟨((lnV t (sT t 0) 90 0) - 720), ⟨(lnV t (sT t 0) 90 1), (lnV t (sT t 0) 90 2), (lnV t (sT t 0) 90 3), (lnV t (sT t 0) 90 4)⟩, ⟨(lnV t (sT t 0) 90 5), (lnV t (sT t 0) 90 6), (lnV t (sT t 0) 90 7), (lnV t (sT t 0) 90 8)⟩⟩, (lnV t (sT t 1) 68 0), (lnV t (sT t 1) 68 1), (lnV t (sT t 2) 83 0), (lnV t (sT t 2) 83 1), ByteArray.empty, ByteArray.empty, ByteArray.empty, ByteArray.empty, ⟨0, 0, 0⟩, ⟨0, 0, 0⟩, ⟨0, 0, 0⟩, ⟨0, 0, 0⟩, 0, 0, 0, 0, 0⟩ : Trf) | 1 => ⟨⟨((lnV t (sT t 0) 90 0) - 720), ⟨(lnV t (sT t 0) 90 1), (lnV t (sT t 0) 90 2), (lnV t (sT t 0) 90 3), (lnV t (sT t 0) 90 4)⟩, ⟨(lnV t (sT t 0) 90 5), (lnV t (sT t 0) 90 6), (lnV t (sT t 0) 90 7), (lnV t (sT t 0) 90 8)⟩⟩, (lnV t (sT t 1) 68 0), (lnV t (sT t 1) 68 1), (lnV t (sT t 2) 83 0), (lnV t (sT t 2) 83 1), (hrP t 3), ByteArray.empty, ByteArray.empty, ByteArray.empty, ⟨0, 0, 0⟩, ⟨0, 0, 0⟩, ⟨0, 0, 0⟩, ⟨0, 0, 0⟩, 0, 0, 0, 0, 0⟩ | 2 => ⟨⟨((lnV t (sT t 0) 90 0) - 720), ⟨(lnV t (sT t 0) 90 1), (lnV t (sT t 0) 90 2), (lnV t (sT t 0) 90 3), (lnV t (sT t 0) 90 4)⟩, ⟨(lnV t (sT t 0) 90 5), (lnV t (sT t 0) 90 6), (lnV t (sT t 0) 90 7), (lnV t (sT t 0) 90 8)⟩⟩, (lnV t (sT t 1) 68 0), (lnV t (sT t 1) 68 1), (lnV t (sT t 2) 83 0), (lnV t (sT t 2) 83 1), (hrP t 3), (hrP t 4), ByteArray.empty, ByteArray.empty, ⟨0, 0, 0⟩, ⟨0, 0, 0⟩, ⟨0, 0, 0⟩, ⟨0, 0, 0⟩, 0, 0, 0, 0, 0⟩ | 3 => ⟨⟨((lnV t (sT t 0) 90 0) - 720), ⟨(lnV t (sT t 0) 90 1), (lnV t (sT t 0) 90 2), (lnV t (sT t 0) 90 3), (lnV t (sT t 0) 90 4)⟩, ⟨(lnV t (sT t 0) 90 5), (lnV t (sT t 0) 90 6), (lnV t (sT t 0) 90 7), (lnV t (sT t 0) 90 8)⟩⟩, (lnV t (sT t 1) 68 0), (lnV t (sT t 1) 68 1), (lnV t (sT t 2) 83 0), (lnV t (sT t 2) 83 1), (hrP t 3), (hrP t 4), (hrP t 5), ByteArray.empty, ⟨0, 0, 0⟩, ⟨0, 0, 0⟩, ⟨0, 0, 0⟩, ⟨0, 0, 0⟩, 0, 0, 0, 0, 0⟩ | _ => ⟨⟨((lnV t (sT t 0) 90 0) - 720), ⟨(lnV t (sT t 0) 90 1), (lnV t (sT t 0) 90 2), (lnV t (sT t 0) 90 3), (lnV t (sT t 0) 90 4)⟩, ⟨(lnV t (sT t 0) 90 5), (lnV t (sT t 0) 90 6), (lnV t (sT t 0) 90 7), (lnV t (sT t 0) 90 8)⟩⟩, (lnV t (sT t 1) 68 0), (lnV t (sT t 1) 68 1), (lnV t (sT t 2) 83 0), (lnV t (sT t 2) 83 1), (hrP t 3), (hrP t 4), (hrP t 5), (hrP t 6), ⟨0, 0, 0⟩, ⟨0, 0, 0⟩, ⟨0, 0, 0⟩, ⟨0, 0, 0⟩, 0, 0, 0, 0, 0⟩ := ⟨_, rfl⟩
  have SH0 : GSt w b t w9 (xh 0) (sT t 3) := by rw [hxh]; exact S9
  have HXH := hideD hxh
  clear S9 hxh hH
  go_loopw [4] (fun p wi => ∃ k : Nat, p = .int .i64 k ∧ k ≤ 4 ∧ GSt w b t wi (xh k) (sT t (3 + k))) (fun p _ => 4 - (intOf p).toNat)
  case atStart => exact ⟨0, rfl, by omega, SH0⟩
  case round =>
    clear SH0
    obtain ⟨k, rfl, hk, Sk⟩ := hrel
    by_cases hlt : k < 4
    · have hlt' : (k : Int) < 4 := by omega
      have hk0 : (0 : Int) ≤ (k : Int) := by omega
      rcases (by omega : k = 0 ∨ k = 1 ∨ k = 2 ∨ k = 3) with rfl | rfl | rfl | rfl
      · rw [HXH.out] at Sk
        have Sm := hideD Sk
        clear Sk
        go_wp2_with (go_at_call 57; refine (cH 0 (by omega) _ Sm.out.sc).mono ?_; rintro e w9 ⟨rfl, g9, s9⟩; have S9 := Sm.out.step g9 s9; have hl9 := S9.lt; have p9 : w9.cell? ⟨w.heap.size + 1, 13, none⟩ = some (.string ByteArray.empty) := S9.cell 13; have f9 : w9.frozen? ⟨w.heap.size + 1, 13, none⟩ = false := S9.frz 13)
        go_roundw
        case rel => exact ⟨1, by first | rfl | go_num, by omega, by rw [HXH.out]; exact S9.h0 (hrP t 3)⟩
        case measure => simp [intOf]
      · rw [HXH.out] at Sk
        have Sm := hideD Sk
        clear Sk
        go_wp2_with (go_at_call 57; refine (cH 1 (by omega) _ Sm.out.sc).mono ?_; rintro e w9 ⟨rfl, g9, s9⟩; have S9 := Sm.out.step g9 s9; have hl9 := S9.lt; have p9 : w9.cell? ⟨w.heap.size + 1, 14, none⟩ = some (.string ByteArray.empty) := S9.cell 14; have f9 : w9.frozen? ⟨w.heap.size + 1, 14, none⟩ = false := S9.frz 14)
        go_roundw
        case rel => exact ⟨2, by first | rfl | go_num, by omega, by rw [HXH.out]; exact S9.h1 (hrP t 4)⟩
        case measure => simp [intOf]
      · rw [HXH.out] at Sk
        have Sm := hideD Sk
        clear Sk
        go_wp2_with (go_at_call 57; refine (cH 2 (by omega) _ Sm.out.sc).mono ?_; rintro e w9 ⟨rfl, g9, s9⟩; have S9 := Sm.out.step g9 s9; have hl9 := S9.lt; have p9 : w9.cell? ⟨w.heap.size + 1, 15, none⟩ = some (.string ByteArray.empty) := S9.cell 15; have f9 : w9.frozen? ⟨w.heap.size + 1, 15, none⟩ = false := S9.frz 15)
        go_roundw
        case rel => exact ⟨3, by first | rfl | go_num, by omega, by rw [HXH.out]; exact S9.h2 (hrP t 5)⟩
        case measure => simp [intOf]
      · rw [HXH.out] at Sk
        have Sm := hideD Sk
        clear Sk
        go_wp2_with (go_at_call 57; refine (cH 3 (by omega) _ Sm.out.sc).mono ?_; rintro e w9 ⟨rfl, g9, s9⟩; have S9 := Sm.out.step g9 s9; have hl9 := S9.lt; have p9 : w9.cell? ⟨w.heap.size + 1, 16, none⟩ = some (.string ByteArray.empty) := S9.cell 16; have f9 : w9.frozen? ⟨w.heap.size + 1, 16, none⟩ = false := S9.frz 16)
        go_roundw
        case rel => exact ⟨4, by first | rfl | go_num, by omega, by rw [HXH.out]; exact S9.h3 (hrP t 6)⟩
        case measure => simp [intOf]
    · have hk4 : k = 4 := by omega
      subst hk4
      obtain ⟨xb, hxb⟩ : ∃ xb : Nat → Trf, xb = fun k => match k with | 0 => (⟨⟨((lnV t (sT t 0) 90 0) - 720), ⟨(lnV t (sT t 0) 90 1), (lnV t (sT t 0) 90 2), (lnV t (sT t 0) 90 3), (lnV t (sT t 0) 90 4)⟩, ⟨(lnV t (sT t 0) 90 5), (lnV t (sT t 0) 90 6), (lnV t (sT t 0) 90 7), (lnV t (sT t 0) 90 8)⟩⟩, (lnV t (sT t 1) 68 0), (lnV t (sT t 1) 68 1), (lnV t (sT t 2) 83 0), (lnV t (sT t 2) 83 1), (hrP t 3), (hrP t 4), (hrP t 5), (hrP t 6), ⟨0, 0, 0⟩, ⟨0, 0, 0⟩, ⟨0, 0, 0⟩, ⟨0, 0, 0⟩, 0, 0, 0, 0, 0⟩ : Trf) | 1 => ⟨⟨((lnV t (sT t 0) 90 0) - 720), ⟨(lnV t (sT t 0) 90 1), (lnV t (sT t 0) 90 2), (lnV t (sT t 0) 90 3), (lnV t (sT t 0) 90 4)⟩, ⟨(lnV t (sT t 0) 90 5), (lnV t (sT t 0) 90 6), (lnV t (sT t 0) 90 7), (lnV t (sT t 0) 90 8)⟩⟩, (lnV t (sT t 1) 68 0), (lnV t (sT t 1) 68 1), (lnV t (sT t 2) 83 0), (lnV t (sT t 2) 83 1), (hrP t 3), (hrP t 4), (hrP t 5), (hrP t 6), ⟨(lnV t (sT t 7) 66 0), (lnV t (sT t 7) 66 1), (lnV t (sT t 7) 66 2)⟩, ⟨0, 0, 0⟩, ⟨0, 0, 0⟩, ⟨0, 0, 0⟩, 0, 0, 0, 0, 0⟩ | 2 => ⟨⟨((lnV t (sT t 0) 90 0) - 720), ⟨(lnV t (sT t 0) 90 1), (lnV t (sT t 0) 90 2), (lnV t (sT t 0) 90 3), (lnV t (sT t 0) 90 4)⟩, ⟨(lnV t (sT t 0) 90 5), (lnV t (sT t 0) 90 6), (lnV t (sT t 0) 90 7), (lnV t (sT t 0) 90 8)⟩⟩, (lnV t (sT t 1) 68 0), (lnV t (sT t 1) 68 1), (lnV t (sT t 2) 83 0), (lnV t (sT t 2) 83 1), (hrP t 3), (hrP t 4), (hrP t 5), (hrP t 6), ⟨(lnV t (sT t 7) 66 0), (lnV t (sT t 7) 66 1), (lnV t (sT t 7) 66 2)⟩, ⟨(lnV t (sT t 8) 66 0), (lnV t (sT t 8) 66 1), (lnV t (sT t 8) 66 2)⟩, ⟨0, 0, 0⟩, ⟨0, 0, 0⟩, 0, 0, 0, 0, 0⟩ | _ => ⟨⟨((lnV t (sT t 0) 90 0) - 720), ⟨(lnV t (sT t 0) 90 1), (lnV t (sT t 0) 90 2), (lnV t (sT t 0) 90 3), (lnV t (sT t 0) 90 4)⟩, ⟨(lnV t (sT t 0) 90 5), (lnV t (sT t 0) 90 6), (lnV t (sT t 0) 90 7), (lnV t (sT t 0) 90 8)⟩⟩, (lnV t (sT t 1) 68 0), (lnV t (sT t 1) 68 1), (lnV t (sT t 2) 83 0), (lnV t (sT t 2) 83 1), (hrP t 3), (hrP t 4), (hrP t 5), (hrP t 6), ⟨(lnV t (sT t 7) 66 0), (lnV t (sT t 7) 66 1), (lnV t (sT t 7) 66 2)⟩, ⟨(lnV t (sT t 8) 66 0), (lnV t (sT t 8) 66 1), (lnV t (sT t 8) 66 2)⟩, ⟨(lnV t (sT t 9) 66 0), (lnV t (sT t 9) 66 1), (lnV t (sT t 9) 66 2)⟩, ⟨0, 0, 0⟩, 0, 0, 0, 0, 0⟩ := ⟨_, rfl⟩
      have SB0 := hideD (show GSt w b t wr (xb 0) (sT t 7) by rw [hxb]; rw [HXH.out] at Sk; exact Sk)
      have HXB := hideD hxb
      clear Sk hxb HXH hlt
      go_wp2_with fail
      go_loopw [5] (fun p wi => ∃ k : Nat, p = .int .i64 k ∧ k ≤ 3 ∧ GSt w b t wi (xb k) (sT t (7 + k))) (fun p _ => 3 - (intOf p).toNat)
      case atStart => exact ⟨0, rfl, by omega, SB0.out⟩
      case round =>
        clear SB0
        obtain ⟨k, rfl, hk, Sk⟩ := hrel
        by_cases hlt : k < 3
        · have hlt' : (k : Int) < 3 := by omega
          have hk0 : (0 : Int) ≤ (k : Int) := by omega
          rcases (by omega : k = 0 ∨ k = 1 ∨ k = 2) with rfl | rfl | rfl
          · rw [HXB.out] at Sk
            have Sm := hideD Sk
            clear Sk
            go_wp2_with (go_at_call 58; refine (cB 0 (by omega) _ Sm.out.sc).mono ?_; rintro e w9 ⟨rfl, g9, s9⟩; have S9 := Sm.out.step g9 s9; have hl9 := S9.lt; have p0 : w9.cell? ⟨w.heap.size + 1, 17, none⟩ = some (.int .i64 0) := S9.cell 17; have f0 : w9.frozen? ⟨w.heap.size + 1, 17, none⟩ = false := S9.frz 17; have p1 : w9.cell? ⟨w.heap.size + 1, 18, none⟩ = some (.int .i64 0) := S9.cell 18; have f1 : w9.frozen? ⟨w.heap.size + 1, 18, none⟩ = false := S9.frz 18; have p2 : w9.cell? ⟨w.heap.size + 1, 19, none⟩ = some (.int .i64 0) := S9.cell 19; have f2 : w9.frozen? ⟨w.heap.size + 1, 19, none⟩ = false := S9.frz 19)
            go_roundw
            case rel => exact ⟨_, _, _, _, _, _, _, _, _, _, ⟨1, by first | rfl | go_num, by omega, by rw [HXB.out]; exact S9.b0 ⟨(lnV t (sT t 7) 66 0), (lnV t (sT t 7) 66 1), (lnV t (sT t 7) 66 2)⟩⟩, rfl⟩
            case measure => simp [intOf]
          · rw [HXB.out] at Sk
            have Sm := hideD Sk
            clear Sk
            go_wp2_with (go_at_call 58; refine (cB 1 (by omega) _ Sm.out.sc).mono ?_; rintro e w9 ⟨rfl, g9, s9⟩; have S9 := Sm.out.step g9 s9; have hl9 := S9.lt; have p0 : w9.cell? ⟨w.heap.size + 1, 20, none⟩ = some (.int .i64 0) := S9.cell 20; have f0 : w9.frozen? ⟨w.heap.size + 1, 20, none⟩ = false := S9.frz 20; have p1 : w9.cell? ⟨w.heap.size + 1, 21, none⟩ = some (.int .i64 0) := S9.cell 21; have f1 : w9.frozen? ⟨w.heap.size + 1, 21, none⟩ = false := S9.frz 21; have p2 : w9.cell? ⟨w.heap.size + 1, 22, none⟩ = some (.int .i64 0) := S9.cell 22; have f2 : w9.frozen? ⟨w.heap.size + 1, 22, none⟩ = false := S9.frz 22)
            go_roundw
            case rel => exact ⟨_, _, _, _, _, _, _, _, _, _, ⟨2, by first | rfl | go_num, by omega, by rw [HXB.out]; exact S9.b1 ⟨(lnV t (sT t 8) 66 0), (lnV t (sT t 8) 66 1), (lnV t (sT t 8) 66 2)⟩⟩, rfl⟩
            case measure => simp [intOf]
          · rw [HXB.out] at Sk
            have Sm := hideD Sk
            clear Sk
            go_wp2_with (go_at_call 58; refine (cB 2 (by omega) _ Sm.out.sc).mono ?_; rintro e w9 ⟨rfl, g9, s9⟩; have S9 := Sm.out.step g9 s9; have hl9 := S9.lt; have p0 : w9.cell? ⟨w.heap.size + 1, 23, none⟩ = some (.int .i64 0) := S9.cell 23; have f0 : w9.frozen? ⟨w.heap.size + 1, 23, none⟩ = false := S9.frz 23; have p1 : w9.cell? ⟨w.heap.size + 1, 24, none⟩ = some (.int .i64 0) := S9.cell 24; have f1 : w9.frozen? ⟨w.heap.size + 1, 24, none⟩ = false := S9.frz 24; have p2 : w9.cell? ⟨w.heap.size + 1, 25, none⟩ = some (.int .i64 0) := S9.cell 25; have f2 : w9.frozen? ⟨w.heap.size + 1, 25, none⟩ = false := S9.frz 25)
            go_roundw
            case rel => exact ⟨_, _, _, _, _, _, _, _, _, _, ⟨3, by first | rfl | go_num, by omega, by rw [HXB.out]; exact S9.b2 ⟨(lnV t (sT t 9) 66 0), (lnV t (sT t 9) 66 1), (lnV t (sT t 9) 66 2)⟩⟩, rfl⟩
            case measure => simp [intOf]
        · have hk3 : k = 3 := by omega
          subst hk3
          rw [HXB.out] at Sk
          have SX := Sk
          clear Sk HXB hlt hk
          go_upto_region 19 with fail
          go_upto_region 20 with (go_at_call 59; refine (cM _ SX.sc).mono ?_; rintro e w10 ⟨rfl, g10, s10⟩; have S10 := SX.step g10 s10; have hl10 := S10.lt; have p26 : w10.cell? ⟨w.heap.size + 1, 26, none⟩ = some (.int .i64 0) := S10.cell 26; have f26 : w10.frozen? ⟨w.heap.size + 1, 26, none⟩ = false := S10.frz 26; have p27 : w10.cell? ⟨w.heap.size + 1, 27, none⟩ = some (.int .i64 0) := S10.cell 27; have f27 : w10.frozen? ⟨w.heap.size + 1, 27, none⟩ = false := S10.frz 27; have p28 : w10.cell? ⟨w.heap.size + 1, 28, none⟩ = some (.int .i64 0) := S10.cell 28; have f28 : w10.frozen? ⟨w.heap.size + 1, 28, none⟩ = false := S10.frz 28)
          have T10 := S10.dm ⟨(lnV t (sT t 10) 77 0), (lnV t (sT t 10) 77 1), (lnV t (sT t 10) 77 2)⟩
          obtain ⟨v10, hv10⟩ : ∃ v, v = (((w10.setCell ⟨w.heap.size + 1, 26, none⟩ (.int .i64 (lnV t (sT t 10) 77 0))).setCell ⟨w.heap.size + 1, 27, none⟩ (.int .i64 (lnV t (sT t 10) 77 1))).setCell ⟨w.heap.size + 1, 28, none⟩ (.int .i64 (lnV t (sT t 10) 77 2))) := ⟨_, rfl⟩
          rw [← hv10] at T10 ⊢
          have S10b := T10
          clear hv10 T10 S10 SX g10 s10 hl10 p26 f26 p27 f27 p28 f28
          have SY := S10b
          clear S10b
          go_upto_region 21 with (go_at_call 60; refine (cN _ SY.sc).mono ?_; rintro e w11 ⟨rfl, g11, s11⟩; have S11 := SY.step g11 s11; have hl11 := S11.lt; have p29 : w11.cell? ⟨w.heap.size + 1, 29, none⟩ = some (.int .i64 0) := S11.cell 29; have f29 : w11.frozen? ⟨w.heap.size + 1, 29, none⟩ = false := S11.frz 29; have p30 : w11.cell? ⟨w.heap.size + 1, 30, none⟩ = some (.int .i64 0) := S11.cell 30; have f30 : w11.frozen? ⟨w.heap.size + 1, 30, none⟩ = false := S11.frz 30)
          have T11 := (S11.np (lnV t (sT t 11) 78 0)).nn (lnV t (sT t 11) 78 1)
          obtain ⟨v11, hv11⟩ : ∃ v, v = (w11.setCell ⟨w.heap.size + 1, 29, none⟩ (.int .i64 (lnV t (sT t 11) 78 0))).setCell ⟨w.heap.size + 1, 30, none⟩ (.int .i64 (lnV t (sT t 11) 78 1)) := ⟨_, rfl⟩
          rw [← hv11] at T11 ⊢
          have S11b := T11
          clear hv11 T11 S11 SY g11 s11 hl11 p29 f29 p30 f30
          go_upto_region 22 with (go_at_call 16; refine (aF _ S11b.sc).mono ?_; rintro e w12 ⟨rfl, g12, s12⟩; have S12 := S11b.step g12 s12; have hl12 := S12.lt)
          clear S11b g12 s12 hl12
          go_upto_region 23 with (go_at_call 17; refine (fF0 _ S12.sc).mono ?_; rintro e w13 ⟨rfl, g13, s13⟩; have S13 := S12.step g13 s13; have hl13 := S13.lt; have p31 : w13.cell? ⟨w.heap.size + 1, 31, none⟩ = some (.int .i64 0) := S13.cell 31; have f31 : w13.frozen? ⟨w.heap.size + 1, 31, none⟩ = false := S13.frz 31)
          have T13 := S13.fix (lnV t (sT t 12) 70 0)
          obtain ⟨v13, hv13⟩ : ∃ v, v = (w13.setCell ⟨w.heap.size + 1, 31, none⟩ (.int .i64 (lnV t (sT t 12) 70 0))) := ⟨_, rfl⟩
          rw [← hv13] at T13 ⊢
          have S13b := T13
          clear hv13 T13 S13 S12 g13 s13 hl13 p31 f31
          go_upto_region 24 with (go_at_call 17; refine (fF1 _ S13b.sc).mono ?_; rintro e w14 ⟨rfl, g14, s14⟩; have S14 := S13b.step g14 s14; have hl14 := S14.lt; have p32 : w14.cell? ⟨w.heap.size + 1, 32, none⟩ = some (.int .i64 0) := S14.cell 32; have f32 : w14.frozen? ⟨w.heap.size + 1, 32, none⟩ = false := S14.frz 32)
          have T14 := S14.min (lnV t (sT t 12) 70 1)
          obtain ⟨v14, hv14⟩ : ∃ v, v = (w14.setCell ⟨w.heap.size + 1, 32, none⟩ (.int .i64 (lnV t (sT t 12) 70 1))) := ⟨_, rfl⟩
          rw [← hv14] at T14 ⊢
          have S14b := T14
          clear hv14 T14 S14 S13b g14 s14 hl14 p32 f32
          go_upto_region 25 with (go_at_call 17; refine (fF2 _ S14b.sc).mono ?_; rintro e w15 ⟨rfl, g15, s15⟩; have S15 := S14b.step g15 s15; have hl15 := S15.lt; have p33 : w15.cell? ⟨w.heap.size + 1, 33, none⟩ = some (.int .i64 0) := S15.cell 33; have f33 : w15.frozen? ⟨w.heap.size + 1, 33, none⟩ = false := S15.frz 33)
          have T15 := S15.tax (lnV t (sT t 12) 70 2)
          obtain ⟨v15, hv15⟩ : ∃ v, v = (w15.setCell ⟨w.heap.size + 1, 33, none⟩ (.int .i64 (lnV t (sT t 12) 70 2))) := ⟨_, rfl⟩
          rw [← hv15] at T15 ⊢
          have S15b := T15
          clear hv15 T15 S15 S14b g15 s15 hl15 p33 f33
          go_upto_region 26 with (go_at_call 16; refine (eF _ S15b.sc).mono ?_; rintro e w16 ⟨rfl, g16, s16⟩; have S16 := S15b.step g16 s16; have hl16 := S16.lt)
          clear S15b g16 s16 hl16
          have SZ : GSt w b t w16 x (sT t 13) := by rw [HX.out]; exact S16
          have hR := SZ.r
          have hZ := SZ.z
          have HZ := hideD SZ
          clear S16 SZ
          go_wp2_with (first
            | (with_reducible show wpList _ _ _ _ _ w16; refine wpList_load_row rfl 47 _ rfl (w.heap.size + 1) rfl 47 _ (0, 0) _ hR Tryz.underlying47 rfl (by kernel_rfl) ?_)
            | (with_reducible show wpList _ _ _ _ _ w16; refine wpList_store_row rfl 47 _ _ rfl w.heap.size #[.int .i64 x.z.off, .int .i64 x.z.f.m, .int .i64 x.z.f.w, .int .i64 x.z.f.d, .int .i64 x.z.f.h, .int .i64 x.z.t.m, .int .i64 x.z.t.w, .int .i64 x.z.t.d, .int .i64 x.z.t.h, .int .i64 x.days, .int .i64 x.gap, .int .i64 x.first, .int .i64 x.last, .string x.h0, .string x.h1, .string x.h2, .string x.h3, .int .i64 x.b0.x, .int .i64 x.b0.y, .int .i64 x.b0.z, .int .i64 x.b1.x, .int .i64 x.b1.y, .int .i64 x.b1.z, .int .i64 x.b2.x, .int .i64 x.b2.y, .int .i64 x.b2.z, .int .i64 x.d.x, .int .i64 x.d.y, .int .i64 x.d.z, .int .i64 x.np, .int .i64 x.nn, .int .i64 x.fix, .int .i64 x.min, .int .i64 x.tax] rfl rfl 47 _ hZ (td_info x) (td_size x) (td_one x) ?_))
          refine bodyPost_ret (v := .agg #[.int .i64 x.z.off, .int .i64 x.z.f.m, .int .i64 x.z.f.w, .int .i64 x.z.f.d, .int .i64 x.z.f.h, .int .i64 x.z.t.m, .int .i64 x.z.t.w, .int .i64 x.z.t.d, .int .i64 x.z.t.h, .int .i64 x.days, .int .i64 x.gap, .int .i64 x.first, .int .i64 x.last, .string x.h0, .string x.h1, .string x.h2, .string x.h3, .int .i64 x.b0.x, .int .i64 x.b0.y, .int .i64 x.b0.z, .int .i64 x.b1.x, .int .i64 x.b1.y, .int .i64 x.b1.z, .int .i64 x.b2.x, .int .i64 x.b2.y, .int .i64 x.b2.z, .int .i64 x.d.x, .int .i64 x.d.y, .int .i64 x.d.z, .int .i64 x.np, .int .i64 x.nn, .int .i64 x.fix, .int .i64 x.min, .int .i64 x.tax]) (results_cell_row rfl _ _ w.heap.size 47 _ (0, 0) _ rfl (setRow_heap _ _ _ _ _ _ hZ) Tryz.underlying47 rfl (td_info x)) rfl ⟨rfl, ?_, ?_⟩
          · exact grown_row HZ.out.g (Nat.le_refl _) _
          · exact scan_row HZ.out.sc hb0 _

end Go.Proofs.YtjaffmmocbplaabGreatDoor
