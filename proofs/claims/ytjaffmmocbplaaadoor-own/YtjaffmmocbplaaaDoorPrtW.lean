/-
  Texts: numbers in base ten, and what the program writes with them.
-/
import Derived.Test.YtjaffmmocbplaaaDoorDateX
import Derived.Shelf.Strconv.Itoa3
import Derived.Shelf.Lay
import Derived.Ground.NamesProg
import Derived.Lib.ItoaLen
import Derived.Lib.SmallJoins
import Derived.Laws.IdiomStrings
import Derived.Laws.Concat
import Derived.Deep.RegionHeld3
import Derived.Deep.DrawnRows
import Derived.BigQuiet
import Derived.Deep.CutRange
namespace Go.Proofs
open Go.Shelf

shelf_lay LaysM.n171 Nm 171 at Tryd as Tryd.laysItoa

end Go.Proofs
namespace Go.Proofs.YtjaffmmocbplaaaDoor
open Go.RowKit Go.Shelf
set_option linter.unusedVariables false
attribute [local go_sem ↓] Go.wp_at_zero Go.wp_at_succ

def TB (w : World) : Prop := Lib.TabIs Tryd.prog w "internal/strconv.uint64pow10" .u64 Lib.pow10Tab
theorem gTab : (Tryd.prog.globalNamed "internal/strconv.uint64pow10").isSome = true := by kernel_rfl
theorem TB.below {w w' : World} (h : TB w) (hb : Below w.heap.size w w') : TB w' := by
  obtain ⟨g, hg⟩ := Option.isSome_iff_exists.1 gTab
  exact Go.Joins.tab_stays hg h hb (Nat.le_refl _)
/-- n in base ten -/
def dS (n : Int) : ByteArray := ⟨(Lib.decDigits n.toNat).toArray⟩
theorem dS_size {n : Int} (h0 : 0 ≤ n) (h1 : n ≤ 9223372036854775807) : (dS n).size ≤ 21 := by
  have := Lib.itoa_length_le n (by omega) h1
  unfold Lib.itoa at this
  rw [if_neg (by omega)] at this
  show (Lib.decDigits n.toNat).toArray.size ≤ 21
  simpa using this
theorem below_sgrow (w : World) (k : Nat) (os : Array Obj) : Below w.heap.size w (Sort.grow (w.drewN k) os) :=
  ⟨rfl, rfl, rfl, by simp [Sort.grow, World.drewN], fun j hj => by simp [Sort.grow, World.drewN, Array.getElem?_append_left hj]⟩
theorem itoa_any (n : Int) (h0 : 0 ≤ n) (h1 : n ≤ 9223372036854775807) (w : World) (ht : TB w) :
    Calls Tryd.prog 70 #[.int .i64 n] w fun e w' => e = .returned (.string (dS n)) ∧ Below w.heap.size w w' := by
  refine (Any.strconv_Itoa Tryd.laysItoa n (by omega) h1 w ht).mono ?_
  rintro e w' ⟨rfl, k, os, rfl⟩
  refine ⟨?_, below_sgrow w k os⟩
  unfold Lib.itoa
  rw [if_neg (by omega)]; rfl
theorem sadd {P : Program} (a b : ByteArray) (h : a.size + b.size ≤ 9223372036854775807) : ∀ w, (Op.stringOp .add a b).run P w = .ok (.string (a ++ b)) w := fun w => run_string_add_sum w a b (by omega)
theorem app_size (a b : ByteArray) : (a ++ b).size = a.size + b.size := ByteArray.size_append

/-- a number and the blank ahead of it -/
def fS (n : Int) : ByteArray := ⟨#[32]⟩ ++ dS n
theorem fS_size {n : Int} (h0 : 0 ≤ n) (h1 : n ≤ 9223372036854775807) : (fS n).size ≤ 22 := by
  have := dS_size h0 h1
  unfold fS; rw [app_size]; show 1 + _ ≤ 22; omega
theorem fieldText_any (n : Int) (h0 : 0 ≤ n) (h1 : n ≤ 9223372036854775807) (w : World) (ht : TB w) :
    Calls Tryd.prog 31 #[.int .i64 n] w fun e w' => e = .returned (.string (fS n)) ∧ Below w.heap.size w w' := by
  have hs := dS_size h0 h1
  have ha : ∀ w, (Op.stringOp .add ⟨#[32]⟩ (dS n)).run Tryd.prog w = .ok (.string (fS n)) w := sadd _ _ (by show 1 + _ ≤ _; omega)
  have it := fun W (h : TB W) => itoa_any n h0 h1 W h
  go_enter Tryd.func31, Tryd.ntmps31
  go_wp2_with (go_at_call 70; refine (it _ ht).mono ?_; rintro e w1 ⟨rfl, hb1⟩)
  go_ret
  exact ⟨rfl, hb1⟩
end Go.Proofs.YtjaffmmocbplaaaDoor
