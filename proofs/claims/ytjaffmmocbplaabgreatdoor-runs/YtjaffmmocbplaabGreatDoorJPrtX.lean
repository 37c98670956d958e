/-
  The program's texts: a value, a rule, a block (made by tools/genprt.py).
-/
import Derived.Test.YtjaffmmocbplaabGreatDoorJPrtW
import Derived.Test.YtjaffmmocbplaabGreatDoorJ04
import Derived.Test.YtjaffmmocbplaabGreatDoorJ05
namespace Go.Proofs.YtjaffmmocbplaabGreatDoor
open Go.RowKit Go.Shelf
set_option linter.unusedVariables false
attribute [local go_sem ↓] Go.wp_at_zero Go.wp_at_succ
theorem hideP {p : Prop} (h : p) : Hid p := h
def nB (n : Int) : Prop := 0 ≤ n ∧ n ≤ 9000000000000000
theorem nB.f {n : Int} (h : nB n) : (fS n).size ≤ 22 := fS_size h.1 (by have := h.2; omega)
theorem nB.d {n : Int} (h : nB n) : (dS n).size ≤ 21 := dS_size h.1 (by have := h.2; omega)
theorem nB.ft {n : Int} (h : nB n) (w : World) (ht : TB w) : Calls Tryz.prog 69 #[.int .i64 n] w fun e w' => e = .returned (.string (fS n)) ∧ Below w.heap.size w w' := fieldText_any n h.1 (by have := h.2; omega) w ht
theorem nB.it {n : Int} (h : nB n) (w : World) (ht : TB w) : Calls Tryz.prog 91 #[.int .i64 n] w fun e w' => e = .returned (.string (dS n)) ∧ Below w.heap.size w w' := itoa_any n h.1 (by have := h.2; omega) w ht
def vS (x : Txt.Val) : ByteArray := if x.m then ⟨#[45, 10]⟩ else dS x.i ++ fS x.o ++ ⟨#[10]⟩
def rS (r : Zon.Rul) : ByteArray := fS r.m ++ fS r.w ++ fS r.d ++ fS r.h
def bS (b : Blk) : ByteArray := ⟨#[66]⟩ ++ fS b.x ++ fS b.y ++ fS b.z ++ ⟨#[10]⟩
theorem wp_world2 {P : Program} {c : Code} {Q : Exit → Act → World → Prop} {a : Act} {w0 : World} (h : ∀ w', w' = w0 → Code.wp P c Q a w') : Code.wp P c Q a w0 := h w0 rfl
theorem ret_str {a b : ByteArray} (h : b = a) : Ending.returned (.string a) = .returned (.string b) := by rw [h]

theorem vS_size {x : Txt.Val} (n_0 : nB x.i) (n_1 : nB x.o) : (vS x).size ≤ 44 := by
  unfold vS
  split
  · show 2 ≤ 44; omega
  · have := n_0.d; have := n_1.f
    rw [app_size, app_size]; show _ + 1 ≤ 44; omega
end Go.Proofs.YtjaffmmocbplaabGreatDoor
