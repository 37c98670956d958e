/-
  The walks of the document's pen: lines.
-/
import Derived.Test.YtjaffmmocbplaaaDoorPenN
namespace Go.Proofs.YtjaffmmocbplaaaDoor
open Go.RowKit
set_option linter.unusedVariables false

theorem info3 : (Tryd.prog.info? 3).map (fun i => (i.zero, i.size, i.bytes)) = some (some (.int .i64 0), 1, 8) := by kernel_rfl

/-- the fields of a line: how the reader stands behind n of them, and their numbers -/
def fldS (t : ByteArray) (m : Nat) (s : Txt.Sc) : Nat → Txt.Sc
  | 0 => s
  | n + 1 => (Txt.field t m (fldS t m s n)).2
def fldL (t : ByteArray) (m : Nat) (s : Txt.Sc) : Nat → List Int
  | 0 => []
  | n + 1 => fldL t m s n ++ [(Txt.field t m (fldS t m s n)).1]
theorem fldL_length (t : ByteArray) (m : Nat) (s : Txt.Sc) : ∀ n, (fldL t m s n).length = n
  | 0 => rfl
  | n + 1 => by simp [fldL, fldL_length t m s n]
theorem fldS_le (t : ByteArray) (m : Nat) (s : Txt.Sc) (h : s.pos ≤ t.size) : ∀ n, (fldS t m s n).pos ≤ t.size
  | 0 => h
  | n + 1 => Txt.field_le (fldS_le t m s h n)
def ints (l : List Int) : List Value := l.map (Value.int .i64)
theorem ints_snoc (l : List Int) (x : Int) : ints (l ++ [x]) = ints l ++ [.int .i64 x] := by simp [ints]

theorem grown_fresh {a b c : World} {r r' : Option Nat} (h : a.grownBy b r) (h' : b.grownBy c r') (hf : ∀ k, r' = some k → a.heap.size ≤ k) : a.grownBy c r :=
  ⟨h'.os.trans h.os, h'.tape.trans h.tape, h'.output.trans h.output, Nat.le_trans h.size h'.size, fun k hk hr => (h'.block k (Nat.lt_of_lt_of_le hk h.size) (fun e => by have := hf k e.symm; omega)).trans (h.block k hk hr)⟩
theorem PenAt.grown {w w' : World} {b : Nat} {t : ByteArray} {s : Txt.Sc} {r : Option Nat} (h : PenAt w b t s) (hg : w.grownBy w' r) (hr : r ≠ some b) : PenAt w' b t s := by
  have e : w'.heap[b]? = w.heap[b]? := hg.block b h.lt (fun e => hr e.symm)
  exact ⟨Nat.lt_of_lt_of_le h.lt hg.size, (World.cell?_of_block (a := ⟨b, 0, none⟩) e).trans h.c0, (World.cell?_of_block (a := ⟨b, 1, none⟩) e).trans h.c1, (World.cell?_of_block (a := ⟨b, 2, none⟩) e).trans h.c2, (World.frozen?_of_block (a := ⟨b, 1, none⟩) e).trans h.f1, (World.frozen?_of_block (a := ⟨b, 2, none⟩) e).trans h.f2⟩
theorem PenAt.alloc {w : World} {b : Nat} {t : ByteArray} {s : Txt.Sc} (h : PenAt w b t s) (o : Obj) : PenAt (w.alloc o) b t s := h.grown (World.grownBy_alloc w o none) (by simp)
theorem ScanAt.grown {w w' : World} {b : Nat} {t : ByteArray} {s : Txt.Sc} {r : Option Nat} (h : ScanAt w b t s) (hg : w.grownBy w' r) (hr : r ≠ some b) : ScanAt w' b t s := by
  have e : w'.heap[b]? = w.heap[b]? := hg.block b h.lt (fun e => hr e.symm)
  exact ⟨Nat.lt_of_lt_of_le h.lt hg.size, (World.cell?_of_block (a := ⟨b, 0, none⟩) e).trans h.c0, (World.cell?_of_block (a := ⟨b, 1, none⟩) e).trans h.c1, (World.cell?_of_block (a := ⟨b, 2, none⟩) e).trans h.c2, (World.frozen?_of_block (a := ⟨b, 1, none⟩) e).trans h.f1, (World.frozen?_of_block (a := ⟨b, 2, none⟩) e).trans h.f2⟩
theorem ScanAt.alloc {w : World} {b : Nat} {t : ByteArray} {s : Txt.Sc} (h : ScanAt w b t s) (o : Obj) : ScanAt (w.alloc o) b t s := h.grown (World.grownBy_alloc w o none) (by simp)
/-- what is owned stays, where another block is written -/
theorem own_grown {w w' : World} {base : Nat} {e : TypeId} {size : Nat} {v : Value} {n : Nat} {xs : List Value} {b : Nat} (h : w.ownsRow base e size v n xs) (hg : w.grownBy w' (some b)) (hb : b < base) : w'.ownsRow base e size v n xs :=
  h.kept hg (.inr (fun e => by have := (h.lt b e).1; omega))

end Go.Proofs.YtjaffmmocbplaaaDoor
