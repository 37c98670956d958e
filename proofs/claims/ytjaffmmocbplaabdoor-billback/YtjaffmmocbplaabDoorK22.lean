/-
  TdR, TdQ in one text.
-/
import Derived.Test.YtjaffmmocbplaabDoorKTdX
import Derived.Test.YtjaffmmocbplaabDoorK21
import Derived.Test.YtjaffmmocbplaabDoorK03
import Derived.Test.YtjaffmmocbplaabDoorK09
namespace Go.Proofs.YtjaffmmocbplaabDoor
open Go.RowKit
set_option linter.unusedVariables false
attribute [local go_sem ↓] Go.wp_at_zero Go.wp_at_succ

theorem fldL_get (t : ByteArray) (s : Txt.Sc) : ∀ n i, i < n → (fldL t 9 s n)[i]? = some (Txt.field t 9 (fldS t 9 s i)).1
  | n + 1, i, h => by
    show (fldL t 9 s n ++ [(Txt.field t 9 (fldS t 9 s n)).1])[i]? = _
    by_cases e : i < n
    · rw [List.getElem?_append_left (by rw [fldL_length]; exact e)]; exact fldL_get t s n i e
    · have e' : i = n := by omega
      subst e'
      rw [List.getElem?_append_right (by rw [fldL_length]; exact Nat.le_refl _), fldL_length]; simp
theorem ints_fld (t : ByteArray) (s : Txt.Sc) (c : Int) (n i : Nat) (h : i < n) : (ints (fldL t 9 (Txt.take t s c) n))[i]? = some (.int .i64 (lnV t s c i)) := by
  unfold ints; rw [List.getElem?_map, fldL_get t _ n i h]; rfl
def posL (t : ByteArray) (m : Nat) : List Int := (List.range m).map fun k => ((sT t k).pos : Int)
theorem posL_succ (t : ByteArray) (m : Nat) : posL t (m + 1) = posL t m ++ [((sT t m).pos : Int)] := by simp [posL, List.range_succ]
theorem posL_get (t : ByteArray) (m k : Nat) (h : k < m) : (ints (posL t m))[k]? = some (.int .i64 ((sT t k).pos : Int)) := by simp [ints, posL, h]
theorem pen_row {w : World} {b k : Nat} {t : ByteArray} {s : Txt.Sc} (h : PenAt w b t s) (hk : ¬ k = b) (cs : Array Value) : PenAt (w.setRow k cs) b t s :=
  h.grown (r := some k) ⟨rfl, rfl, rfl, by simp [World.setRow], fun j _ hr => setRow_other w k j cs (fun e => hr (by rw [e]))⟩ (by simpa using hk)

theorem tu_one (t : Trf) : (#[.int .i64 t.z.off, .int .i64 t.z.f.m, .int .i64 t.z.f.w, .int .i64 t.z.f.d, .int .i64 t.z.f.h, .int .i64 t.z.t.m, .int .i64 t.z.t.w, .int .i64 t.z.t.d, .int .i64 t.z.t.h, .int .i64 t.days, .int .i64 t.gap, .int .i64 t.first, .int .i64 t.last, .string t.h0, .string t.h1, .string t.h2, .string t.h3, .int .i64 t.b0.x, .int .i64 t.b0.y, .int .i64 t.b0.z, .int .i64 t.b1.x, .int .i64 t.b1.y, .int .i64 t.b1.z, .int .i64 t.b2.x, .int .i64 t.b2.y, .int .i64 t.b2.z, .int .i64 t.d.x, .int .i64 t.d.y, .int .i64 t.d.z, .int .i64 t.np, .int .i64 t.nn, .int .i64 t.fix, .int .i64 t.min, .int .i64 t.tax] : Array Value).all (fun v => v.oneCell') = true := by kernel_rfl
end Go.Proofs.YtjaffmmocbplaabDoor

namespace Go.Proofs.YtjaffmmocbplaabDoor
open Go.RowKit
set_option linter.unusedVariables false
attribute [local go_sem ↓] Go.wp_at_zero Go.wp_at_succ

theorem heap_three0 (w : World) (a b c : Obj) : (((w.alloc a).alloc b).alloc c).heap[w.heap.size + 2]? = some c := by
  have := heap_alloc_new ((w.alloc a).alloc b) c
  simpa using this
end Go.Proofs.YtjaffmmocbplaabDoor
