/-
  The walks of one value: the program's and the document's.
-/
import Derived.Test.YtjaffmmocbplaabPenL
import Derived.Test.YtjaffmmocbplaabVals
namespace Go.Proofs.Ytjaffmmocbplaab
open Go.RowKit
set_option linter.unusedVariables false

theorem gcell {W w1 : World} {b : Nat} (hg : W.grownBy w1 (some b)) : (∀ k o, k < W.heap.size → ¬ k = b → w1.cell? ⟨k, o, none⟩ = W.cell? ⟨k, o, none⟩) ∧ (∀ k o, k < W.heap.size → ¬ k = b → w1.frozen? ⟨k, o, none⟩ = W.frozen? ⟨k, o, none⟩) :=
  ⟨fun k o hk hb => World.cell?_of_block (a := ⟨k, o, none⟩) (hg.block k hk (by simpa using hb)), fun k o hk hb => World.frozen?_of_block (a := ⟨k, o, none⟩) (hg.block k hk (by simpa using hb))⟩
theorem ScanAt.other {w : World} {b : Nat} {t : ByteArray} {s : Txt.Sc} (h : ScanAt w b t s) {k : Nat} (hk : ¬ k = b) (o : Nat) (v : Value) : ScanAt (w.setCell ⟨k, o, none⟩ v) b t s :=
  h.grown (grown_setCell (grown_refl _ _) v) (by simpa using hk)
theorem PenAt.other {w : World} {b : Nat} {t : ByteArray} {s : Txt.Sc} (h : PenAt w b t s) {k : Nat} (hk : ¬ k = b) (o : Nat) (v : Value) : PenAt (w.setCell ⟨k, o, none⟩ v) b t s :=
  h.grown (grown_setCell (grown_refl _ _) v) (by simpa using hk)
/-- a store into a block that the call has made -/
theorem grown_own {a w : World} {r : Option Nat} {k o : Nat} (h : a.grownBy w r) (hk : a.heap.size ≤ k) (v : Value) : a.grownBy (w.setCell ⟨k, o, none⟩ v) r :=
  grown_fresh h (grown_setCell (o := o) (grown_refl w (some k)) v) (fun j hj => by cases hj; exact hk)

end Go.Proofs.Ytjaffmmocbplaab
