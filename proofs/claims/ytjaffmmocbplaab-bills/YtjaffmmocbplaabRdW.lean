/-
  ReadMeter: the program's.
-/
import Derived.Test.YtjaffmmocbplaabRowX
namespace Go.Proofs.Ytjaffmmocbplaab
open Go.RowKit
set_option linter.unusedVariables false

/-- what is read of a meter file, up to the last line: n values -/
def tailS (t : ByteArray) (s : Txt.Sc) : Int × Int × Txt.Sc :=
  ((Txt.field t 9 (Txt.take t s 84)).1, (Txt.field t 9 (Txt.field t 9 (Txt.take t s 84)).2).1, Txt.fin t (Txt.take t (Txt.field t 9 (Txt.field t 9 (Txt.take t s 84)).2).2 10))
theorem tailS_le {t : ByteArray} {s : Txt.Sc} (h : s.pos ≤ t.size) : (tailS t s).2.2.pos ≤ t.size := Txt.fin_le (Txt.take_le (by omega) (Txt.field_le (Txt.field_le (Txt.take_le (by omega) h))))
/-- where the values end -/
def Ends (t : ByteArray) (n : Nat) : Prop := (∀ k, k < n → Txt.stopB t (Txt.vS t (hd t ⟨0, false⟩).2.2 k) = false) ∧ Txt.stopB t (Txt.vS t (hd t ⟨0, false⟩).2.2 n) = true
def rS (t : ByteArray) (n : Nat) : Txt.Sc := Txt.vS t (hd t ⟨0, false⟩).2.2 n
def rL (t : ByteArray) (n : Nat) : List Txt.Val := Txt.vL t (hd t ⟨0, false⟩).2.2 n
def rStep (t : ByteArray) : Int := (hd t ⟨0, false⟩).1
def rStart (t : ByteArray) : Int := (hd t ⟨0, false⟩).2.1
/-- the error and the place that ReadMeter answers, n values read -/
def rErr (t : ByteArray) (n : Nat) : Int :=
  if 8000 < t.size then 1 else if (tailS t (rS t n)).2.2.bad then 2 else if meterB (rStep t) (rStart t) (rL t n) = false then 3
  else if (tailS t (rS t n)).1 = (n : Int) ∧ (tailS t (rS t n)).2.1 = sumL (rL t n) then 0 else 4
def rAt (t : ByteArray) (n : Nat) : Int :=
  if 8000 < t.size then 0 else if (tailS t (rS t n)).2.2.bad then (tailS t (rS t n)).2.2.pos else if meterB (rStep t) (rStart t) (rL t n) = false then 0
  else if (tailS t (rS t n)).1 = (n : Int) ∧ (tailS t (rS t n)).2.1 = sumL (rL t n) then 0 else (rS t n).pos
/-- the meter file that it answers -/
def okN (t : ByteArray) (n : Nat) : Bool := decide (rErr t n = 0)
theorem rL_length (t : ByteArray) (n : Nat) : (rL t n).length = n := Txt.vL_length _ _ _

theorem ends_ex (t : ByteArray) : ∃ n, Ends t n := by
  apply Classical.byContradiction
  intro hno
  have hle : (hd t ⟨0, false⟩).2.2.pos ≤ t.size := hd_le (by show 0 ≤ t.size; omega)
  have all : ∀ n, ∀ k, k < n → Txt.stopB t (Txt.vS t (hd t ⟨0, false⟩).2.2 k) = false := by
    intro n
    induction n with
    | zero => intro k hk; omega
    | succ n ih =>
      intro k hk
      rcases Nat.lt_or_ge k n with g | g
      · exact ih k g
      · have e : k = n := by omega
        subst e
        cases q : Txt.stopB t (Txt.vS t (hd t ⟨0, false⟩).2.2 k)
        · rfl
        · exact absurd ⟨k, ih, q⟩ hno
  have h1 := Txt.vS_count hle (t.size + 1) (all _)
  have hs := all (t.size + 2) (t.size + 1) (by omega)
  have hb : (Txt.vS t (hd t ⟨0, false⟩).2.2 (t.size + 1)).bad = false := by simp [Txt.stopB] at hs; exact hs.1
  have h2 := h1.2 hb
  have h3 := Txt.vS_le hle (t.size + 1)
  omega

theorem own_below {w w' : World} {base : Nat} {e : TypeId} {size : Nat} {v : Value} {n : Nat} {xs : List Value} (h : w.ownsRow base e size v n xs) (hb : Below w.heap.size w w') : w'.ownsRow base e size v n xs := by
  refine ⟨h.1, h.2.imp id ?_⟩
  rintro ⟨g, cap, cur, hv, hg, hh, r⟩
  have hlt : g < w.heap.size := by
    rcases Nat.lt_or_ge g w.heap.size with q | q
    · exact q
    · rw [Array.getElem?_eq_none q] at hh; cases hh
  exact ⟨g, cap, cur, hv, hg, (hb.block g hlt).trans hh, r⟩
theorem below_grown {w w' : World} {b : Nat} (h : w.grownBy w' (some b)) (hb : w.heap.size ≤ b) : Below w.heap.size w w' :=
  ⟨h.os, h.tape, h.output, h.size, fun k hk => h.block k hk (fun e => by cases e; omega)⟩

end Go.Proofs.Ytjaffmmocbplaab
