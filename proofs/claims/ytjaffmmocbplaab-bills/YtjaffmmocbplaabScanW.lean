/-
  The walks of the program's scanner.
-/
import Derived.Test.YtjaffmmocbplaabTxt
import Derived.Test.YtjaffmmocbplaabDateX
namespace Go.Proofs.Ytjaffmmocbplaab
open Go.RowKit
set_option linter.unusedVariables false

/-- the scanner in block b -/
structure ScanAt (w : World) (b : Nat) (t : ByteArray) (s : Txt.Sc) : Prop where
  lt : b < w.heap.size
  c0 : w.cell? ⟨b, 0, none⟩ = some (.string t)
  c1 : w.cell? ⟨b, 1, none⟩ = some (.int .i64 s.pos)
  c2 : w.cell? ⟨b, 2, none⟩ = some (.bool s.bad)
  f1 : w.frozen? ⟨b, 1, none⟩ = false
  f2 : w.frozen? ⟨b, 2, none⟩ = false

theorem ret_bool {a b : Bool} (h : a = b) : Ending.returned (.bool a) = .returned (.bool b) := by rw [h]
theorem ScanAt.drewN {w : World} {b : Nat} {t : ByteArray} {s : Txt.Sc} (h : ScanAt w b t s) (n : Nat) : ScanAt (w.drewN n) b t s := ⟨h.lt, h.c0, h.c1, h.c2, h.f1, h.f2⟩
theorem grown_refl (w : World) (r : Option Nat) : w.grownBy w r := ⟨rfl, rfl, rfl, Nat.le_refl _, fun _ _ _ => rfl⟩
theorem grown_trans {a b c : World} {r : Option Nat} (h : a.grownBy b r) (h' : b.grownBy c r) : a.grownBy c r :=
  ⟨h'.os.trans h.os, h'.tape.trans h.tape, h'.output.trans h.output, Nat.le_trans h.size h'.size, fun k hk hr => (h'.block k (Nat.lt_of_lt_of_le hk h.size) hr).trans (h.block k hk hr)⟩
theorem grown_drewN {a b : World} {r : Option Nat} (h : a.grownBy b r) (n : Nat) : a.grownBy (b.drewN n) r := grown_trans h ⟨rfl, rfl, rfl, Nat.le_refl _, fun _ _ _ => rfl⟩
theorem grown_setCell {a w : World} {b o : Nat} (h : a.grownBy w (some b)) (u : Value) : a.grownBy (w.setCell ⟨b, o, none⟩ u) (some b) :=
  grown_trans h ⟨rfl, rfl, rfl, by simp [World.setCell], fun k hk hr => Below.heap_setCell _ _ _ _ (by intro e; apply hr; rw [e])⟩
theorem grown_alloc {a w : World} {r : Option Nat} (h : a.grownBy w r) (o : Obj) : a.grownBy (w.alloc o) r := grown_trans h (World.grownBy_alloc w o r)
theorem ScanAt.moved {w : World} {b : Nat} {t : ByteArray} {s : Txt.Sc} (h : ScanAt w b t s) (p : Nat) (v : Int) (e : v = p) : ScanAt (w.setCell ⟨b, 1, none⟩ (.int .i64 v)) b t ⟨p, s.bad⟩ := by
  obtain ⟨hlt, h0, h1, h2, g1, g2⟩ := h
  subst e
  exact ⟨by simpa [World.setCell] using hlt, by simp [go_sem, h0], by simp [go_sem, h1], by simp [go_sem, h2], by simp [go_sem, g1], by simp [go_sem, g2]⟩
theorem ScanAt.gone {w : World} {b : Nat} {t : ByteArray} {s : Txt.Sc} (h : ScanAt w b t s) (v : Bool) : ScanAt (w.setCell ⟨b, 2, none⟩ (.bool v)) b t ⟨s.pos, v⟩ := by
  obtain ⟨hlt, h0, h1, h2, g1, g2⟩ := h
  exact ⟨by simpa [World.setCell] using hlt, by simp [go_sem, h0], by simp [go_sem, h1], by simp [go_sem, h2], by simp [go_sem, g1], by simp [go_sem, g2]⟩

end Go.Proofs.Ytjaffmmocbplaab
