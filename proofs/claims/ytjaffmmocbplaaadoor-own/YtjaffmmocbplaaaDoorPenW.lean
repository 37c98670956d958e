/-
  The walks of the document's pen.
-/
import Derived.Test.YtjaffmmocbplaaaDoorScanW
namespace Go.Proofs.YtjaffmmocbplaaaDoor
open Go.RowKit
set_option linter.unusedVariables false

def badI (s : Txt.Sc) : Int := if s.bad then s.pos else -1
theorem badI_true {s : Txt.Sc} (h : s.bad = true) : badI s = s.pos := by unfold badI; rw [if_pos h]
theorem badI_false {s : Txt.Sc} (h : s.bad = false) : badI s = -1 := by unfold badI; rw [if_neg (by simp [h])]
/-- the pen in block b -/
structure PenAt (w : World) (b : Nat) (t : ByteArray) (s : Txt.Sc) : Prop where
  lt : b < w.heap.size
  c0 : w.cell? ⟨b, 0, none⟩ = some (.string t)
  c1 : w.cell? ⟨b, 1, none⟩ = some (.int .i64 s.pos)
  c2 : w.cell? ⟨b, 2, none⟩ = some (.int .i64 (badI s))
  f1 : w.frozen? ⟨b, 1, none⟩ = false
  f2 : w.frozen? ⟨b, 2, none⟩ = false
theorem PenAt.drewN {w : World} {b : Nat} {t : ByteArray} {s : Txt.Sc} (h : PenAt w b t s) (n : Nat) : PenAt (w.drewN n) b t s := ⟨h.lt, h.c0, h.c1, h.c2, h.f1, h.f2⟩
theorem PenAt.moved {w : World} {b : Nat} {t : ByteArray} {s : Txt.Sc} (h : PenAt w b t s) (hb : s.bad = false) (p : Nat) (v : Int) (e : v = p) : PenAt (w.setCell ⟨b, 1, none⟩ (.int .i64 v)) b t ⟨p, false⟩ := by
  obtain ⟨hlt, h0, h1, h2, g1, g2⟩ := h
  subst e
  rw [badI_false hb] at h2
  exact ⟨by simpa [World.setCell] using hlt, by simp [go_sem, h0], by simp [go_sem, h1], by simp [go_sem, h2, badI], by simp [go_sem, g1], by simp [go_sem, g2]⟩
theorem PenAt.gone {w : World} {b : Nat} {t : ByteArray} {s : Txt.Sc} (h : PenAt w b t s) : PenAt (w.setCell ⟨b, 2, none⟩ (.int .i64 s.pos)) b t ⟨s.pos, true⟩ := by
  obtain ⟨hlt, h0, h1, h2, g1, g2⟩ := h
  exact ⟨by simpa [World.setCell] using hlt, by simp [go_sem, h0], by simp [go_sem, h1], by simp [go_sem, h2, badI], by simp [go_sem, g1], by simp [go_sem, g2]⟩

theorem drewN_twice (w : World) (a b : Nat) : (w.drewN a).drewN b = w.drewN (a + b) := by simp [go_sem]

/-- the document's words, a byte each -/
def lits (t : ByteArray) : Txt.Sc → List Int → Txt.Sc
  | s, [] => s
  | s, c :: l => lits t (Txt.take t s c) l
theorem lits_bad {t : ByteArray} {s : Txt.Sc} (h : s.bad = true) : ∀ l, lits t s l = s
  | [] => rfl
  | c :: l => by show lits t (Txt.take t s c) l = s; rw [Txt.take_bad h]; exact lits_bad h l
theorem lits_le {t : ByteArray} : ∀ (l : List Int) (s : Txt.Sc), (∀ c ∈ l, 0 ≤ c) → s.pos ≤ t.size → (lits t s l).pos ≤ t.size
  | [], s, _, h => h
  | c :: l, s, hc, h => lits_le l (Txt.take t s c) (fun d hd => hc d (List.mem_cons_of_mem _ hd)) (Txt.take_le (hc c (List.mem_cons_self ..)) h)
def bytes (u : ByteArray) : List Int := u.data.toList.map fun c => (c.toNat : Int)

theorem bytes_length (u : ByteArray) : (bytes u).length = u.size := by unfold bytes; rw [List.length_map]; rfl
theorem bytes_drop (u : ByteArray) (k : Nat) (h : k < u.size) : (bytes u).drop k = (u[k].toNat : Int) :: (bytes u).drop (k + 1) := by
  rw [List.drop_eq_getElem_cons (by rw [bytes_length]; exact h)]
  congr 1
  simp [bytes]; rfl

end Go.Proofs.YtjaffmmocbplaaaDoor
