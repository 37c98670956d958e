/-
  The document's ReadTariff: what lies in memory (made by tools/gentdr.py).
-/
import Derived.Test.YtjaffmmocbplaabGreatDoorJTdX
import Derived.Test.YtjaffmmocbplaabGreatDoorJ19
import Derived.Test.YtjaffmmocbplaabGreatDoorJ03
import Derived.Test.YtjaffmmocbplaabGreatDoorJ10
namespace Go.Proofs.YtjaffmmocbplaabGreatDoor
open Go.RowKit
set_option linter.unusedVariables false
attribute [local go_sem ↓] Go.wp_at_zero Go.wp_at_succ

set_option maxRecDepth 1000000 in
set_option maxHeartbeats 2000000 in
theorem ref_rule_any (g off cap : Nat) (a b c d : Int) (w : World) (hc : 4 ≤ cap) (hg : g < w.heap.size) (q0 : w.cell? ⟨g, off, none⟩ = some (.int .i64 a)) (q1 : w.cell? ⟨g, off + 1, none⟩ = some (.int .i64 b)) (q2 : w.cell? ⟨g, off + 2, none⟩ = some (.int .i64 c)) (q3 : w.cell? ⟨g, off + 3, none⟩ = some (.int .i64 d)) :
    Calls Tryz.prog 41 #[.slice (some ⟨g, off, none⟩) 4 cap] w fun e w' => e = .returned (.agg #[.int .i64 a, .int .i64 b, .int .i64 c, .int .i64 d]) ∧ Below w.heap.size w w' := by
  have hne : ¬ w.heap.size = g := by omega
  have hcap : (4 : Int) ≤ (cap : Int) := by omega
  go_enter Tryz.func41, Tryz.ntmps41
  go_wp2_with fail
  go_region_held3 (fun w' => w'.cell? ⟨g, off, none⟩ = some (.int .i64 a) ∧ w'.cell? ⟨g, off + 1, none⟩ = some (.int .i64 b) ∧ w'.cell? ⟨g, off + 2, none⟩ = some (.int .i64 c) ∧ w'.cell? ⟨g, off + 3, none⟩ = some (.int .i64 d)) (simp [go_sem, *]) (fail)
  all_goals
    go_wp2_with fail
    refine bodyPost_ret (v := .agg #[.int .i64 a, .int .i64 b, .int .i64 c, .int .i64 d]) (by simp [results, Tryz.results41, go_sem]) rfl ⟨rfl, ?_⟩
    first
      | exact Below.drew (below_more (Below.refl _ _) _)
      | exact below_more (Below.drew (Below.refl _ _)) _
      | exact Below.setCell (Below.setCell (Below.setCell (Below.setCell (Below.drew (below_more (Below.refl _ _) _)) (by simp) _) (by simp) _) (by simp) _) (by simp) _
      | exact Below.drew (Below.setCell (Below.setCell (Below.setCell (Below.setCell (below_more (Below.refl _ _) _) (by simp) _) (by simp) _) (by simp) _) (by simp) _)

theorem fldL_get (t : ByteArray) (s : Txt.Sc) : ∀ n i, i < n → (fldL t 9 s n)[i]? = some (Txt.field t 9 (fldS t 9 s i)).1
  | n + 1, i, h => by
    show (fldL t 9 s n ++ [(Txt.field t 9 (fldS t 9 s n)).1])[i]? = _
    by_cases e : i < n
    · rw [List.getElem?_append_left (by rw [fldL_length]; exact e)]; exact fldL_get t s n i e
    · have e' : i = n := by omega
      subst e'
      rw [List.getElem?_append_right (by rw [fldL_length]; exact Nat.le_refl _), fldL_length]; simp
theorem ints_fld (t : ByteArray) (s : Txt.Sc) (c : Int) (n i : Nat) (h : i < n) : (ints (fldL t 9 (Txt.take t s c) n))[i]? = some (.int .i64 (lnV t s c i)) := by
  unfold ints; rw [List.getElem?_map, fldL_get t _ n i h]; rfl
def posL (t : ByteArray) (m : Nat) : List Int := (List.range m).map fun k => ((sT t k).pos : Int)
theorem posL_succ (t : ByteArray) (m : Nat) : posL t (m + 1) = posL t m ++ [((sT t m).pos : Int)] := by simp [posL, List.range_succ]
theorem posL_get (t : ByteArray) (m k : Nat) (h : k < m) : (ints (posL t m))[k]? = some (.int .i64 ((sT t k).pos : Int)) := by simp [ints, posL, h]
theorem pen_row {w : World} {b k : Nat} {t : ByteArray} {s : Txt.Sc} (h : PenAt w b t s) (hk : ¬ k = b) (cs : Array Value) : PenAt (w.setRow k cs) b t s :=
  h.grown (r := some k) ⟨rfl, rfl, rfl, by simp [World.setRow], fun j _ hr => setRow_other w k j cs (fun e => hr (by rw [e]))⟩ (by simpa using hk)

/-- the pen, the tariff under way, the places of the lines -/
structure DSt (w : World) (t : ByteArray) (wi : World) (x : Trf) (s : Txt.Sc) (av : Value) (m : Nat) : Prop where
  b : Below w.heap.size w wi
  z : wi.heap[w.heap.size]? = some (.cells #[.int .i64 0, .int .i64 0, .int .i64 0, .int .i64 0, .int .i64 0, .int .i64 0, .int .i64 0, .int .i64 0, .int .i64 0, .int .i64 0, .int .i64 0, .int .i64 0, .int .i64 0, .string ByteArray.empty, .string ByteArray.empty, .string ByteArray.empty, .string ByteArray.empty, .int .i64 0, .int .i64 0, .int .i64 0, .int .i64 0, .int .i64 0, .int .i64 0, .int .i64 0, .int .i64 0, .int .i64 0, .int .i64 0, .int .i64 0, .int .i64 0, .int .i64 0, .int .i64 0, .int .i64 0, .int .i64 0, .int .i64 0] 67)
  p : PenAt wi (w.heap.size + 1) t s
  r : wi.heap[w.heap.size + 2]? = some (.cells #[.int .i64 x.z.off, .int .i64 x.z.f.m, .int .i64 x.z.f.w, .int .i64 x.z.f.d, .int .i64 x.z.f.h, .int .i64 x.z.t.m, .int .i64 x.z.t.w, .int .i64 x.z.t.d, .int .i64 x.z.t.h, .int .i64 x.days, .int .i64 x.gap, .int .i64 x.first, .int .i64 x.last, .string x.h0, .string x.h1, .string x.h2, .string x.h3, .int .i64 x.b0.x, .int .i64 x.b0.y, .int .i64 x.b0.z, .int .i64 x.b1.x, .int .i64 x.b1.y, .int .i64 x.b1.z, .int .i64 x.b2.x, .int .i64 x.b2.y, .int .i64 x.b2.z, .int .i64 x.d.x, .int .i64 x.d.y, .int .i64 x.d.z, .int .i64 x.np, .int .i64 x.nn, .int .i64 x.fix, .int .i64 x.min, .int .i64 x.tax] 67)
  a : wi.ownsRow (w.heap.size + 3) 3 1 av m (ints (posL t m))
theorem DSt.lt {w wi : World} {t : ByteArray} {x : Trf} {s : Txt.Sc} {av : Value} {m : Nat} (h : DSt w t wi x s av m) : w.heap.size + 2 < wi.heap.size := (Array.getElem?_eq_some_iff.1 h.r).1
theorem DSt.pen {w wi w' : World} {t : ByteArray} {x : Trf} {s s' : Txt.Sc} {av : Value} {m : Nat} (h : DSt w t wi x s av m) (g : wi.grownBy w' (some (w.heap.size + 1))) (p : PenAt w' (w.heap.size + 1) t s') : DSt w t w' x s' av m := by
  have hl := h.lt
  exact ⟨Below.grown h.b g (by omega) (fun j hj => by injection hj with hj; omega), (g.block _ (by omega) (fun e => by injection e with e; omega)).trans h.z, p, (g.block _ (by omega) (fun e => by injection e with e; omega)).trans h.r, own_grown h.a g (by omega)⟩
theorem DSt.below {w wi w' : World} {t : ByteArray} {x : Trf} {s : Txt.Sc} {av : Value} {m : Nat} (h : DSt w t wi x s av m) (g : Below wi.heap.size wi w') : DSt w t w' x s av m := by
  have hl := h.lt
  exact ⟨below_then h.b g, (g.block _ (by omega)).trans h.z, h.p.grown (r := none) ⟨g.os, g.tape, g.output, g.size, fun k hk _ => g.block k hk⟩ (by simp), (g.block _ (by omega)).trans h.r, own_below h.a g⟩
theorem DSt.app {w wi w' : World} {t : ByteArray} {x : Trf} {s : Txt.Sc} {av av' : Value} {m : Nat} (h : DSt w t wi x s av m) (ob : Obj) (g : (wi.alloc ob).grownBy w' av.ownBlock) (own : w'.ownsRow (w.heap.size + 3) 3 1 av' (m + 1) (ints (posL t (m + 1)))) : DSt w t w' x s av' (m + 1) := by
  have hl := h.lt
  have ne : ∀ k, k < w.heap.size + 3 → some k ≠ av.ownBlock := fun k hk e => by have := (h.a.lt k e.symm).1; omega
  refine ⟨Below.grown (below_more h.b ob) g (by simp; omega) (fun j hj => by have := (h.a.lt j hj).1; omega), ((g.block _ (by simp; omega) (ne _ (by omega))).trans (heap_alloc_old _ _ (by omega))).trans h.z, (h.p.alloc ob).grown g (fun e => ne _ (by omega) e.symm), ((g.block _ (by simp; omega) (ne _ (by omega))).trans (heap_alloc_old _ _ (by omega))).trans h.r, own⟩
theorem DSt.put {w wi : World} {t : ByteArray} {x x' : Trf} {s : Txt.Sc} {av : Value} {m : Nat} (h : DSt w t wi x s av m) (j : Nat) (u : Value) (hr : (wi.setCell ⟨w.heap.size + 2, j, none⟩ u).heap[w.heap.size + 2]? = some (.cells #[.int .i64 x'.z.off, .int .i64 x'.z.f.m, .int .i64 x'.z.f.w, .int .i64 x'.z.f.d, .int .i64 x'.z.f.h, .int .i64 x'.z.t.m, .int .i64 x'.z.t.w, .int .i64 x'.z.t.d, .int .i64 x'.z.t.h, .int .i64 x'.days, .int .i64 x'.gap, .int .i64 x'.first, .int .i64 x'.last, .string x'.h0, .string x'.h1, .string x'.h2, .string x'.h3, .int .i64 x'.b0.x, .int .i64 x'.b0.y, .int .i64 x'.b0.z, .int .i64 x'.b1.x, .int .i64 x'.b1.y, .int .i64 x'.b1.z, .int .i64 x'.b2.x, .int .i64 x'.b2.y, .int .i64 x'.b2.z, .int .i64 x'.d.x, .int .i64 x'.d.y, .int .i64 x'.d.z, .int .i64 x'.np, .int .i64 x'.nn, .int .i64 x'.fix, .int .i64 x'.min, .int .i64 x'.tax] 67)) : DSt w t (wi.setCell ⟨w.heap.size + 2, j, none⟩ u) x' s av m := by
  have hl := h.lt
  exact ⟨Below.setCell h.b (by simp) _, (Below.heap_setCell _ _ _ _ (show w.heap.size ≠ w.heap.size + 2 by omega)).trans h.z, h.p.other (by omega) _ _, hr, ownsRow_setCell_below h.a (by simp) _⟩
theorem DSt.same {w wi : World} {t : ByteArray} {x : Trf} {s : Txt.Sc} {av : Value} {m : Nat} (h : DSt w t wi x s av m) (j : Nat) (u : Value) : (wi.setCell ⟨w.heap.size + 2, j, none⟩ u).heap[w.heap.size + 2]? = some (.cells ((#[.int .i64 x.z.off, .int .i64 x.z.f.m, .int .i64 x.z.f.w, .int .i64 x.z.f.d, .int .i64 x.z.f.h, .int .i64 x.z.t.m, .int .i64 x.z.t.w, .int .i64 x.z.t.d, .int .i64 x.z.t.h, .int .i64 x.days, .int .i64 x.gap, .int .i64 x.first, .int .i64 x.last, .string x.h0, .string x.h1, .string x.h2, .string x.h3, .int .i64 x.b0.x, .int .i64 x.b0.y, .int .i64 x.b0.z, .int .i64 x.b1.x, .int .i64 x.b1.y, .int .i64 x.b1.z, .int .i64 x.b2.x, .int .i64 x.b2.y, .int .i64 x.b2.z, .int .i64 x.d.x, .int .i64 x.d.y, .int .i64 x.d.z, .int .i64 x.np, .int .i64 x.nn, .int .i64 x.fix, .int .i64 x.min, .int .i64 x.tax] : Array Value).setIfInBounds j u) 67 (0, 0)) := heap_setCell_same wi (w.heap.size + 2) j _ _ u h.r
theorem DSt.cell {w wi : World} {t : ByteArray} {x : Trf} {s : Txt.Sc} {av : Value} {m : Nat} (h : DSt w t wi x s av m) (j : Nat) : wi.cell? ⟨w.heap.size + 2, j, none⟩ = (#[.int .i64 x.z.off, .int .i64 x.z.f.m, .int .i64 x.z.f.w, .int .i64 x.z.f.d, .int .i64 x.z.f.h, .int .i64 x.z.t.m, .int .i64 x.z.t.w, .int .i64 x.z.t.d, .int .i64 x.z.t.h, .int .i64 x.days, .int .i64 x.gap, .int .i64 x.first, .int .i64 x.last, .string x.h0, .string x.h1, .string x.h2, .string x.h3, .int .i64 x.b0.x, .int .i64 x.b0.y, .int .i64 x.b0.z, .int .i64 x.b1.x, .int .i64 x.b1.y, .int .i64 x.b1.z, .int .i64 x.b2.x, .int .i64 x.b2.y, .int .i64 x.b2.z, .int .i64 x.d.x, .int .i64 x.d.y, .int .i64 x.d.z, .int .i64 x.np, .int .i64 x.nn, .int .i64 x.fix, .int .i64 x.min, .int .i64 x.tax] : Array Value)[j]? := cell_of_row _ _ _ _ _ _ h.r
theorem DSt.frz {w wi : World} {t : ByteArray} {x : Trf} {s : Txt.Sc} {av : Value} {m : Nat} (h : DSt w t wi x s av m) (j : Nat) : wi.frozen? ⟨w.heap.size + 2, j, none⟩ = false := frozen_of_row _ _ _ _ _ h.r
theorem DSt.days {w wi : World} {t : ByteArray} {x : Trf} {s : Txt.Sc} {av : Value} {m : Nat} (h : DSt w t wi x s av m) (v : Int) : DSt w t (wi.setCell ⟨w.heap.size + 2, 9, none⟩ (.int .i64 v)) { x with days := v } s av m := h.put 9 _ (h.same 9 _)
theorem DSt.gap {w wi : World} {t : ByteArray} {x : Trf} {s : Txt.Sc} {av : Value} {m : Nat} (h : DSt w t wi x s av m) (v : Int) : DSt w t (wi.setCell ⟨w.heap.size + 2, 10, none⟩ (.int .i64 v)) { x with gap := v } s av m := h.put 10 _ (h.same 10 _)
theorem DSt.first {w wi : World} {t : ByteArray} {x : Trf} {s : Txt.Sc} {av : Value} {m : Nat} (h : DSt w t wi x s av m) (v : Int) : DSt w t (wi.setCell ⟨w.heap.size + 2, 11, none⟩ (.int .i64 v)) { x with first := v } s av m := h.put 11 _ (h.same 11 _)
theorem DSt.last {w wi : World} {t : ByteArray} {x : Trf} {s : Txt.Sc} {av : Value} {m : Nat} (h : DSt w t wi x s av m) (v : Int) : DSt w t (wi.setCell ⟨w.heap.size + 2, 12, none⟩ (.int .i64 v)) { x with last := v } s av m := h.put 12 _ (h.same 12 _)
theorem DSt.np {w wi : World} {t : ByteArray} {x : Trf} {s : Txt.Sc} {av : Value} {m : Nat} (h : DSt w t wi x s av m) (v : Int) : DSt w t (wi.setCell ⟨w.heap.size + 2, 29, none⟩ (.int .i64 v)) { x with np := v } s av m := h.put 29 _ (h.same 29 _)
theorem DSt.nn {w wi : World} {t : ByteArray} {x : Trf} {s : Txt.Sc} {av : Value} {m : Nat} (h : DSt w t wi x s av m) (v : Int) : DSt w t (wi.setCell ⟨w.heap.size + 2, 30, none⟩ (.int .i64 v)) { x with nn := v } s av m := h.put 30 _ (h.same 30 _)
theorem DSt.fix {w wi : World} {t : ByteArray} {x : Trf} {s : Txt.Sc} {av : Value} {m : Nat} (h : DSt w t wi x s av m) (v : Int) : DSt w t (wi.setCell ⟨w.heap.size + 2, 31, none⟩ (.int .i64 v)) { x with fix := v } s av m := h.put 31 _ (h.same 31 _)
theorem DSt.min {w wi : World} {t : ByteArray} {x : Trf} {s : Txt.Sc} {av : Value} {m : Nat} (h : DSt w t wi x s av m) (v : Int) : DSt w t (wi.setCell ⟨w.heap.size + 2, 32, none⟩ (.int .i64 v)) { x with min := v } s av m := h.put 32 _ (h.same 32 _)
theorem DSt.tax {w wi : World} {t : ByteArray} {x : Trf} {s : Txt.Sc} {av : Value} {m : Nat} (h : DSt w t wi x s av m) (v : Int) : DSt w t (wi.setCell ⟨w.heap.size + 2, 33, none⟩ (.int .i64 v)) { x with tax := v } s av m := h.put 33 _ (h.same 33 _)
theorem DSt.h0 {w wi : World} {t : ByteArray} {x : Trf} {s : Txt.Sc} {av : Value} {m : Nat} (h : DSt w t wi x s av m) (v : ByteArray) : DSt w t (wi.setCell ⟨w.heap.size + 2, 13, none⟩ (.string v)) { x with h0 := v } s av m := h.put 13 _ (h.same 13 _)
theorem DSt.h1 {w wi : World} {t : ByteArray} {x : Trf} {s : Txt.Sc} {av : Value} {m : Nat} (h : DSt w t wi x s av m) (v : ByteArray) : DSt w t (wi.setCell ⟨w.heap.size + 2, 14, none⟩ (.string v)) { x with h1 := v } s av m := h.put 14 _ (h.same 14 _)
theorem DSt.h2 {w wi : World} {t : ByteArray} {x : Trf} {s : Txt.Sc} {av : Value} {m : Nat} (h : DSt w t wi x s av m) (v : ByteArray) : DSt w t (wi.setCell ⟨w.heap.size + 2, 15, none⟩ (.string v)) { x with h2 := v } s av m := h.put 15 _ (h.same 15 _)
theorem DSt.h3 {w wi : World} {t : ByteArray} {x : Trf} {s : Txt.Sc} {av : Value} {m : Nat} (h : DSt w t wi x s av m) (v : ByteArray) : DSt w t (wi.setCell ⟨w.heap.size + 2, 16, none⟩ (.string v)) { x with h3 := v } s av m := h.put 16 _ (h.same 16 _)
theorem DSt.zone {w wi : World} {t : ByteArray} {x : Trf} {s : Txt.Sc} {av : Value} {m : Nat} (h : DSt w t wi x s av m) (z : Zon.Zn) : DSt w t (((((((((wi.setCell ⟨w.heap.size + 2, 0, none⟩ (.int .i64 z.off)).setCell ⟨w.heap.size + 2, 1, none⟩ (.int .i64 z.f.m)).setCell ⟨w.heap.size + 2, 2, none⟩ (.int .i64 z.f.w)).setCell ⟨w.heap.size + 2, 3, none⟩ (.int .i64 z.f.d)).setCell ⟨w.heap.size + 2, 4, none⟩ (.int .i64 z.f.h)).setCell ⟨w.heap.size + 2, 5, none⟩ (.int .i64 z.t.m)).setCell ⟨w.heap.size + 2, 6, none⟩ (.int .i64 z.t.w)).setCell ⟨w.heap.size + 2, 7, none⟩ (.int .i64 z.t.d)).setCell ⟨w.heap.size + 2, 8, none⟩ (.int .i64 z.t.h)) { x with z := z } s av m := by
  have h0a := h.put (x' := ⟨⟨z.off, ⟨x.z.f.m, x.z.f.w, x.z.f.d, x.z.f.h⟩, ⟨x.z.t.m, x.z.t.w, x.z.t.d, x.z.t.h⟩⟩, x.days, x.gap, x.first, x.last, x.h0, x.h1, x.h2, x.h3, x.b0, x.b1, x.b2, x.d, x.np, x.nn, x.fix, x.min, x.tax⟩) 0 (.int .i64 z.off) (h.same 0 _)
  have h1a := h0a.put (x' := ⟨⟨z.off, ⟨z.f.m, x.z.f.w, x.z.f.d, x.z.f.h⟩, ⟨x.z.t.m, x.z.t.w, x.z.t.d, x.z.t.h⟩⟩, x.days, x.gap, x.first, x.last, x.h0, x.h1, x.h2, x.h3, x.b0, x.b1, x.b2, x.d, x.np, x.nn, x.fix, x.min, x.tax⟩) 1 (.int .i64 z.f.m) (h0a.same 1 _)
  have h2a := h1a.put (x' := ⟨⟨z.off, ⟨z.f.m, z.f.w, x.z.f.d, x.z.f.h⟩, ⟨x.z.t.m, x.z.t.w, x.z.t.d, x.z.t.h⟩⟩, x.days, x.gap, x.first, x.last, x.h0, x.h1, x.h2, x.h3, x.b0, x.b1, x.b2, x.d, x.np, x.nn, x.fix, x.min, x.tax⟩) 2 (.int .i64 z.f.w) (h1a.same 2 _)
  have h3a := h2a.put (x' := ⟨⟨z.off, ⟨z.f.m, z.f.w, z.f.d, x.z.f.h⟩, ⟨x.z.t.m, x.z.t.w, x.z.t.d, x.z.t.h⟩⟩, x.days, x.gap, x.first, x.last, x.h0, x.h1, x.h2, x.h3, x.b0, x.b1, x.b2, x.d, x.np, x.nn, x.fix, x.min, x.tax⟩) 3 (.int .i64 z.f.d) (h2a.same 3 _)
  have h4a := h3a.put (x' := ⟨⟨z.off, ⟨z.f.m, z.f.w, z.f.d, z.f.h⟩, ⟨x.z.t.m, x.z.t.w, x.z.t.d, x.z.t.h⟩⟩, x.days, x.gap, x.first, x.last, x.h0, x.h1, x.h2, x.h3, x.b0, x.b1, x.b2, x.d, x.np, x.nn, x.fix, x.min, x.tax⟩) 4 (.int .i64 z.f.h) (h3a.same 4 _)
  have h5a := h4a.put (x' := ⟨⟨z.off, ⟨z.f.m, z.f.w, z.f.d, z.f.h⟩, ⟨z.t.m, x.z.t.w, x.z.t.d, x.z.t.h⟩⟩, x.days, x.gap, x.first, x.last, x.h0, x.h1, x.h2, x.h3, x.b0, x.b1, x.b2, x.d, x.np, x.nn, x.fix, x.min, x.tax⟩) 5 (.int .i64 z.t.m) (h4a.same 5 _)
  have h6a := h5a.put (x' := ⟨⟨z.off, ⟨z.f.m, z.f.w, z.f.d, z.f.h⟩, ⟨z.t.m, z.t.w, x.z.t.d, x.z.t.h⟩⟩, x.days, x.gap, x.first, x.last, x.h0, x.h1, x.h2, x.h3, x.b0, x.b1, x.b2, x.d, x.np, x.nn, x.fix, x.min, x.tax⟩) 6 (.int .i64 z.t.w) (h5a.same 6 _)
  have h7a := h6a.put (x' := ⟨⟨z.off, ⟨z.f.m, z.f.w, z.f.d, z.f.h⟩, ⟨z.t.m, z.t.w, z.t.d, x.z.t.h⟩⟩, x.days, x.gap, x.first, x.last, x.h0, x.h1, x.h2, x.h3, x.b0, x.b1, x.b2, x.d, x.np, x.nn, x.fix, x.min, x.tax⟩) 7 (.int .i64 z.t.d) (h6a.same 7 _)
  have h8a := h7a.put (x' := ⟨⟨z.off, ⟨z.f.m, z.f.w, z.f.d, z.f.h⟩, ⟨z.t.m, z.t.w, z.t.d, z.t.h⟩⟩, x.days, x.gap, x.first, x.last, x.h0, x.h1, x.h2, x.h3, x.b0, x.b1, x.b2, x.d, x.np, x.nn, x.fix, x.min, x.tax⟩) 8 (.int .i64 z.t.h) (h7a.same 8 _)
  exact h8a
theorem DSt.b0 {w wi : World} {t : ByteArray} {x : Trf} {s : Txt.Sc} {av : Value} {m : Nat} (h : DSt w t wi x s av m) (v : Blk) : DSt w t (((wi.setCell ⟨w.heap.size + 2, 17, none⟩ (.int .i64 v.x)).setCell ⟨w.heap.size + 2, 18, none⟩ (.int .i64 v.y)).setCell ⟨w.heap.size + 2, 19, none⟩ (.int .i64 v.z)) { x with b0 := v } s av m := by
  have h0a := h.put (x' := { x with b0 := ⟨v.x, x.b0.y, x.b0.z⟩ }) 17 (.int .i64 v.x) (h.same 17 _)
  have h1a := h0a.put (x' := { x with b0 := ⟨v.x, v.y, x.b0.z⟩ }) 18 (.int .i64 v.y) (h0a.same 18 _)
  have h2a := h1a.put (x' := { x with b0 := ⟨v.x, v.y, v.z⟩ }) 19 (.int .i64 v.z) (h1a.same 19 _)
  exact h2a
theorem DSt.b1 {w wi : World} {t : ByteArray} {x : Trf} {s : Txt.Sc} {av : Value} {m : Nat} (h : DSt w t wi x s av m) (v : Blk) : DSt w t (((wi.setCell ⟨w.heap.size + 2, 20, none⟩ (.int .i64 v.x)).setCell ⟨w.heap.size + 2, 21, none⟩ (.int .i64 v.y)).setCell ⟨w.heap.size + 2, 22, none⟩ (.int .i64 v.z)) { x with b1 := v } s av m := by
  have h0a := h.put (x' := { x with b1 := ⟨v.x, x.b1.y, x.b1.z⟩ }) 20 (.int .i64 v.x) (h.same 20 _)
  have h1a := h0a.put (x' := { x with b1 := ⟨v.x, v.y, x.b1.z⟩ }) 21 (.int .i64 v.y) (h0a.same 21 _)
  have h2a := h1a.put (x' := { x with b1 := ⟨v.x, v.y, v.z⟩ }) 22 (.int .i64 v.z) (h1a.same 22 _)
  exact h2a
theorem DSt.b2 {w wi : World} {t : ByteArray} {x : Trf} {s : Txt.Sc} {av : Value} {m : Nat} (h : DSt w t wi x s av m) (v : Blk) : DSt w t (((wi.setCell ⟨w.heap.size + 2, 23, none⟩ (.int .i64 v.x)).setCell ⟨w.heap.size + 2, 24, none⟩ (.int .i64 v.y)).setCell ⟨w.heap.size + 2, 25, none⟩ (.int .i64 v.z)) { x with b2 := v } s av m := by
  have h0a := h.put (x' := { x with b2 := ⟨v.x, x.b2.y, x.b2.z⟩ }) 23 (.int .i64 v.x) (h.same 23 _)
  have h1a := h0a.put (x' := { x with b2 := ⟨v.x, v.y, x.b2.z⟩ }) 24 (.int .i64 v.y) (h0a.same 24 _)
  have h2a := h1a.put (x' := { x with b2 := ⟨v.x, v.y, v.z⟩ }) 25 (.int .i64 v.z) (h1a.same 25 _)
  exact h2a
theorem DSt.dm {w wi : World} {t : ByteArray} {x : Trf} {s : Txt.Sc} {av : Value} {m : Nat} (h : DSt w t wi x s av m) (v : Blk) : DSt w t (((wi.setCell ⟨w.heap.size + 2, 26, none⟩ (.int .i64 v.x)).setCell ⟨w.heap.size + 2, 27, none⟩ (.int .i64 v.y)).setCell ⟨w.heap.size + 2, 28, none⟩ (.int .i64 v.z)) { x with d := v } s av m := by
  have h0a := h.put (x' := { x with d := ⟨v.x, x.d.y, x.d.z⟩ }) 26 (.int .i64 v.x) (h.same 26 _)
  have h1a := h0a.put (x' := { x with d := ⟨v.x, v.y, x.d.z⟩ }) 27 (.int .i64 v.y) (h0a.same 27 _)
  have h2a := h1a.put (x' := { x with d := ⟨v.x, v.y, v.z⟩ }) 28 (.int .i64 v.z) (h1a.same 28 _)
  exact h2a
theorem tu_one (t : Trf) : (#[.int .i64 t.z.off, .int .i64 t.z.f.m, .int .i64 t.z.f.w, .int .i64 t.z.f.d, .int .i64 t.z.f.h, .int .i64 t.z.t.m, .int .i64 t.z.t.w, .int .i64 t.z.t.d, .int .i64 t.z.t.h, .int .i64 t.days, .int .i64 t.gap, .int .i64 t.first, .int .i64 t.last, .string t.h0, .string t.h1, .string t.h2, .string t.h3, .int .i64 t.b0.x, .int .i64 t.b0.y, .int .i64 t.b0.z, .int .i64 t.b1.x, .int .i64 t.b1.y, .int .i64 t.b1.z, .int .i64 t.b2.x, .int .i64 t.b2.y, .int .i64 t.b2.z, .int .i64 t.d.x, .int .i64 t.d.y, .int .i64 t.d.z, .int .i64 t.np, .int .i64 t.nn, .int .i64 t.fix, .int .i64 t.min, .int .i64 t.tax] : Array Value).all (fun v => v.oneCell') = true := by kernel_rfl
theorem tu_info (t : Trf) : (Tryz.prog.info? 67).map (fun i => i.size) = some (#[.int .i64 t.z.off, .int .i64 t.z.f.m, .int .i64 t.z.f.w, .int .i64 t.z.f.d, .int .i64 t.z.f.h, .int .i64 t.z.t.m, .int .i64 t.z.t.w, .int .i64 t.z.t.d, .int .i64 t.z.t.h, .int .i64 t.days, .int .i64 t.gap, .int .i64 t.first, .int .i64 t.last, .string t.h0, .string t.h1, .string t.h2, .string t.h3, .int .i64 t.b0.x, .int .i64 t.b0.y, .int .i64 t.b0.z, .int .i64 t.b1.x, .int .i64 t.b1.y, .int .i64 t.b1.z, .int .i64 t.b2.x, .int .i64 t.b2.y, .int .i64 t.b2.z, .int .i64 t.d.x, .int .i64 t.d.y, .int .i64 t.d.z, .int .i64 t.np, .int .i64 t.nn, .int .i64 t.fix, .int .i64 t.min, .int .i64 t.tax] : Array Value).size := by kernel_rfl
theorem tuz_info : (Tryz.prog.info? 67).map (fun i => i.size) = some (#[.int .i64 0, .int .i64 0, .int .i64 0, .int .i64 0, .int .i64 0, .int .i64 0, .int .i64 0, .int .i64 0, .int .i64 0, .int .i64 0, .int .i64 0, .int .i64 0, .int .i64 0, .string ByteArray.empty, .string ByteArray.empty, .string ByteArray.empty, .string ByteArray.empty, .int .i64 0, .int .i64 0, .int .i64 0, .int .i64 0, .int .i64 0, .int .i64 0, .int .i64 0, .int .i64 0, .int .i64 0, .int .i64 0, .int .i64 0, .int .i64 0, .int .i64 0, .int .i64 0, .int .i64 0, .int .i64 0, .int .i64 0] : Array Value).size := by kernel_rfl
end Go.Proofs.YtjaffmmocbplaabGreatDoor
