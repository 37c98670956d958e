/-
  No cell of these rows narrows 'for every input' (looked for: loops, veiled, ifaces, maps, wideKeys, modest, calm, conditions, laid).
  DERIVED. THE GIVEN ROWS OF THIS SEAT. 8 by the template 'for every input the law returns true; each argument reads behind the call as it read before'; 0 by the template 'total and deterministic' (their statements: YtjaffmmocbplaabTotals.lean).
  GIVEN WITH THE SEED: the statements are not yours to turn. If you find one false, say at which input.
  Laid BY PROGRAM, IN A SANDBOX (cutbox-rows.mjs): the forced cells as the released guide's own fill.sh prints them over the translation e866a34587841402… (all of the seat's roots in one cut). By AI agents, Wed Nov 11 2026. No macro, syntax, notation, axiom, sorry.
-/
import Derived.Test.YtjaffmmocbplaabChecked
import GoSem.Claim
import GoSem.ClaimJoined
import GoSem.ClaimMapViews
import Derived.JoinedTies
import Derived.KernelRfl
namespace Go.Proofs.Ytjaffmmocbplaab
/- THE CELL 'sum', in the pinned program and in every row, IS THE sha256 OF THE DUMP (.gsa) THAT YtjaffmmocbplaabProg.lean LOADS. Nothing in Lean hashes anything: it is a label: what it is worth is what the hold of that sum in a sandbox is worth. -/
noncomputable def Try.pinned : Pinned := { name := "ytjaffmmocbplaab", sum := "e866a345878414020a821bd11b142c5e774e884a97055beb4208e995d135456c", checked := Try.checked }
namespace Rows
def none {H : Type} : Left H := { results := [], args := [] }

/-- 'meterlaw.Splits': WHATEVER THE INPUT: true; the input reads as it did. -/
def splitsSpec : ChangeSpec := { name := "splits", fn := fun _ => fun
  | [d1, d2] => { results := [.lit (.bool true)], args := [d1, d2] }
  | _ => none }
def splitsRow : OpenClaim := { program := "ytjaffmmocbplaab", sum := "e866a345878414020a821bd11b142c5e774e884a97055beb4208e995d135456c", func := "meter/meterlaw.Splits", spec := "splits", apart := false }
def SplitsSaid : Prop := splitsRow.holds Try.pinned (OpenSpec.ofChange splitsSpec)

/-- ITS FALSE NEIGHBOUR: 'it returns false'. Refute it at one input. -/
def splitsWrong : ChangeSpec := { name := "splits", fn := fun _ => fun
  | [d1, d2] => { results := [.lit (.bool false)], args := [d1, d2] }
  | _ => none }
def SplitsWrongFalsely : Prop := splitsRow.holds Try.pinned (OpenSpec.ofChange splitsWrong)

/-- 'meterlaw.Nothing': WHATEVER THE INPUT: true; the input reads as it did. -/
def nothingSpec : ChangeSpec := { name := "nothing", fn := fun _ => fun
  | [d1, d2] => { results := [.lit (.bool true)], args := [d1, d2] }
  | _ => none }
def nothingRow : OpenClaim := { program := "ytjaffmmocbplaab", sum := "e866a345878414020a821bd11b142c5e774e884a97055beb4208e995d135456c", func := "meter/meterlaw.Nothing", spec := "nothing", apart := false }
def NothingSaid : Prop := nothingRow.holds Try.pinned (OpenSpec.ofChange nothingSpec)

/-- ITS FALSE NEIGHBOUR: 'it returns false'. Refute it at one input. -/
def nothingWrong : ChangeSpec := { name := "nothing", fn := fun _ => fun
  | [d1, d2] => { results := [.lit (.bool false)], args := [d1, d2] }
  | _ => none }
def NothingWrongFalsely : Prop := nothingRow.holds Try.pinned (OpenSpec.ofChange nothingWrong)

/-- 'meterlaw.Bills': WHATEVER THE INPUT: true; the input reads as it did. -/
def billsSpec : ChangeSpec := { name := "bills", fn := fun _ => fun
  | [d1, d2] => { results := [.lit (.bool true)], args := [d1, d2] }
  | _ => none }
def billsRow : OpenClaim := { program := "ytjaffmmocbplaab", sum := "e866a345878414020a821bd11b142c5e774e884a97055beb4208e995d135456c", func := "meter/meterlaw.Bills", spec := "bills", apart := false }
def BillsSaid : Prop := billsRow.holds Try.pinned (OpenSpec.ofChange billsSpec)

/-- ITS FALSE NEIGHBOUR: 'it returns false'. Refute it at one input. -/
def billsWrong : ChangeSpec := { name := "bills", fn := fun _ => fun
  | [d1, d2] => { results := [.lit (.bool false)], args := [d1, d2] }
  | _ => none }
def BillsWrongFalsely : Prop := billsRow.holds Try.pinned (OpenSpec.ofChange billsWrong)

/-- 'meterlaw.Agrees': WHATEVER THE INPUT: true; the input reads as it did. -/
def agreesSpec : ChangeSpec := { name := "agrees", fn := fun _ => fun
  | [d1, d2] => { results := [.lit (.bool true)], args := [d1, d2] }
  | _ => none }
def agreesRow : OpenClaim := { program := "ytjaffmmocbplaab", sum := "e866a345878414020a821bd11b142c5e774e884a97055beb4208e995d135456c", func := "meter/meterlaw.Agrees", spec := "agrees", apart := false }
def AgreesSaid : Prop := agreesRow.holds Try.pinned (OpenSpec.ofChange agreesSpec)

/-- ITS FALSE NEIGHBOUR: 'it returns false'. Refute it at one input. -/
def agreesWrong : ChangeSpec := { name := "agrees", fn := fun _ => fun
  | [d1, d2] => { results := [.lit (.bool false)], args := [d1, d2] }
  | _ => none }
def AgreesWrongFalsely : Prop := agreesRow.holds Try.pinned (OpenSpec.ofChange agreesWrong)

/-- 'meterlaw.Bank': WHATEVER THE INPUT: true; the input reads as it did. -/
def bankSpec : ChangeSpec := { name := "bank", fn := fun _ => fun
  | [d1, d2] => { results := [.lit (.bool true)], args := [d1, d2] }
  | _ => none }
def bankRow : OpenClaim := { program := "ytjaffmmocbplaab", sum := "e866a345878414020a821bd11b142c5e774e884a97055beb4208e995d135456c", func := "meter/meterlaw.Bank", spec := "bank", apart := false }
def BankSaid : Prop := bankRow.holds Try.pinned (OpenSpec.ofChange bankSpec)

/-- ITS FALSE NEIGHBOUR: 'it returns false'. Refute it at one input. -/
def bankWrong : ChangeSpec := { name := "bank", fn := fun _ => fun
  | [d1, d2] => { results := [.lit (.bool false)], args := [d1, d2] }
  | _ => none }
def BankWrongFalsely : Prop := bankRow.holds Try.pinned (OpenSpec.ofChange bankWrong)

/-- 'meterlaw.Adds': WHATEVER THE INPUT: true; the input reads as it did. -/
def addsSpec : ChangeSpec := { name := "adds", fn := fun _ => fun
  | [d1, d2] => { results := [.lit (.bool true)], args := [d1, d2] }
  | _ => none }
def addsRow : OpenClaim := { program := "ytjaffmmocbplaab", sum := "e866a345878414020a821bd11b142c5e774e884a97055beb4208e995d135456c", func := "meter/meterlaw.Adds", spec := "adds", apart := false }
def AddsSaid : Prop := addsRow.holds Try.pinned (OpenSpec.ofChange addsSpec)

/-- ITS FALSE NEIGHBOUR: 'it returns false'. Refute it at one input. -/
def addsWrong : ChangeSpec := { name := "adds", fn := fun _ => fun
  | [d1, d2] => { results := [.lit (.bool false)], args := [d1, d2] }
  | _ => none }
def AddsWrongFalsely : Prop := addsRow.holds Try.pinned (OpenSpec.ofChange addsWrong)

/-- 'meterlaw.More': WHATEVER THE INPUT: true; the input reads as it did. -/
def moreSpec : ChangeSpec := { name := "more", fn := fun _ => fun
  | [d1, d2, d3] => { results := [.lit (.bool true)], args := [d1, d2, d3] }
  | _ => none }
def moreRow : OpenClaim := { program := "ytjaffmmocbplaab", sum := "e866a345878414020a821bd11b142c5e774e884a97055beb4208e995d135456c", func := "meter/meterlaw.More", spec := "more", apart := false }
def MoreSaid : Prop := moreRow.holds Try.pinned (OpenSpec.ofChange moreSpec)

/-- ITS FALSE NEIGHBOUR: 'it returns false'. Refute it at one input. -/
def moreWrong : ChangeSpec := { name := "more", fn := fun _ => fun
  | [d1, d2, d3] => { results := [.lit (.bool false)], args := [d1, d2, d3] }
  | _ => none }
def MoreWrongFalsely : Prop := moreRow.holds Try.pinned (OpenSpec.ofChange moreWrong)

/-- 'meterlaw.Earlier': WHATEVER THE INPUT: true; the input reads as it did. -/
def earlierSpec : ChangeSpec := { name := "earlier", fn := fun _ => fun
  | [d1, d2, d3] => { results := [.lit (.bool true)], args := [d1, d2, d3] }
  | _ => none }
def earlierRow : OpenClaim := { program := "ytjaffmmocbplaab", sum := "e866a345878414020a821bd11b142c5e774e884a97055beb4208e995d135456c", func := "meter/meterlaw.Earlier", spec := "earlier", apart := false }
def EarlierSaid : Prop := earlierRow.holds Try.pinned (OpenSpec.ofChange earlierSpec)

/-- ITS FALSE NEIGHBOUR: 'it returns false'. Refute it at one input. -/
def earlierWrong : ChangeSpec := { name := "earlier", fn := fun _ => fun
  | [d1, d2, d3] => { results := [.lit (.bool false)], args := [d1, d2, d3] }
  | _ => none }
def EarlierWrongFalsely : Prop := earlierRow.holds Try.pinned (OpenSpec.ofChange earlierWrong)

/- THE SECOND FORM. 'bulk': how many values and letters a reading holds, each counted each time it is reached (what is shared counts as often as it is met; a slice's spare places count too). A statement '..UptoSaid' is the law's where the arguments, and the package variables that the reading takes, are together of bulk at most 1048576: NARROWER than '..Said'. Prove '..Said' where nothing that the law and all that it calls make is longer than what came in: it says more and counts as full. Else prove '..UptoSaid'. A law counts once. -/
mutual
def uptoBulk {H : Type} : DataW H → Nat
  | .lit (.string bytes) => bytes.length + 1
  | .lit _ => 1
  | .nil => 1
  | .ptr d => uptoBulk d + 1
  | .slice elems spare => uptoBulkAll elems + uptoBulkAll spare + 1
  | .agg parts => uptoBulkAll parts + 1
  | .iface _ d => uptoBulk d + 1
  | .map entries => uptoBulkEntries entries + 1
  | .held _ => 1
def uptoBulkAll {H : Type} : List (DataW H) → Nat
  | [] => 0
  | d :: r => uptoBulk d + uptoBulkAll r
def uptoBulkEntries {H : Type} : List (Lit × DataW H) → Nat
  | [] => 0
  | x :: r => uptoBulkEntry x + uptoBulkEntries r
def uptoBulkEntry {H : Type} : Lit × DataW H → Nat
  | (.string bytes, d) => bytes.length + uptoBulk d + 1
  | (_, d) => uptoBulk d + 1
 end
def uptoSmall : (H : Type) → List (DataW H) → Bool := fun _ ds => decide (uptoBulkAll ds ≤ 1048576)
def OpenSpec.upto (s : _root_.Go.ChangeSpec) : _root_.Go.OpenSpec := { _root_.Go.OpenSpec.ofChange s with cond := some uptoSmall }

/-- 'meterlaw.Splits', WHERE WHAT IT READS IS OF BULK AT MOST 1048576: true; the input reads as it did. -/
def splitsUptoRow : OpenClaim := { program := "ytjaffmmocbplaab", sum := "e866a345878414020a821bd11b142c5e774e884a97055beb4208e995d135456c", func := "meter/meterlaw.Splits", spec := "splits", apart := false, narrowed := true }
def SplitsUptoSaid : Prop := splitsUptoRow.holds Try.pinned (OpenSpec.upto splitsSpec)

/-- 'meterlaw.Nothing', WHERE WHAT IT READS IS OF BULK AT MOST 1048576: true; the input reads as it did. -/
def nothingUptoRow : OpenClaim := { program := "ytjaffmmocbplaab", sum := "e866a345878414020a821bd11b142c5e774e884a97055beb4208e995d135456c", func := "meter/meterlaw.Nothing", spec := "nothing", apart := false, narrowed := true }
def NothingUptoSaid : Prop := nothingUptoRow.holds Try.pinned (OpenSpec.upto nothingSpec)

/-- 'meterlaw.Bills', WHERE WHAT IT READS IS OF BULK AT MOST 1048576: true; the input reads as it did. -/
def billsUptoRow : OpenClaim := { program := "ytjaffmmocbplaab", sum := "e866a345878414020a821bd11b142c5e774e884a97055beb4208e995d135456c", func := "meter/meterlaw.Bills", spec := "bills", apart := false, narrowed := true }
def BillsUptoSaid : Prop := billsUptoRow.holds Try.pinned (OpenSpec.upto billsSpec)

/-- 'meterlaw.Agrees', WHERE WHAT IT READS IS OF BULK AT MOST 1048576: true; the input reads as it did. -/
def agreesUptoRow : OpenClaim := { program := "ytjaffmmocbplaab", sum := "e866a345878414020a821bd11b142c5e774e884a97055beb4208e995d135456c", func := "meter/meterlaw.Agrees", spec := "agrees", apart := false, narrowed := true }
def AgreesUptoSaid : Prop := agreesUptoRow.holds Try.pinned (OpenSpec.upto agreesSpec)

/-- 'meterlaw.Bank', WHERE WHAT IT READS IS OF BULK AT MOST 1048576: true; the input reads as it did. -/
def bankUptoRow : OpenClaim := { program := "ytjaffmmocbplaab", sum := "e866a345878414020a821bd11b142c5e774e884a97055beb4208e995d135456c", func := "meter/meterlaw.Bank", spec := "bank", apart := false, narrowed := true }
def BankUptoSaid : Prop := bankUptoRow.holds Try.pinned (OpenSpec.upto bankSpec)

/-- 'meterlaw.Adds', WHERE WHAT IT READS IS OF BULK AT MOST 1048576: true; the input reads as it did. -/
def addsUptoRow : OpenClaim := { program := "ytjaffmmocbplaab", sum := "e866a345878414020a821bd11b142c5e774e884a97055beb4208e995d135456c", func := "meter/meterlaw.Adds", spec := "adds", apart := false, narrowed := true }
def AddsUptoSaid : Prop := addsUptoRow.holds Try.pinned (OpenSpec.upto addsSpec)

/-- 'meterlaw.More', WHERE WHAT IT READS IS OF BULK AT MOST 1048576: true; the input reads as it did. -/
def moreUptoRow : OpenClaim := { program := "ytjaffmmocbplaab", sum := "e866a345878414020a821bd11b142c5e774e884a97055beb4208e995d135456c", func := "meter/meterlaw.More", spec := "more", apart := false, narrowed := true }
def MoreUptoSaid : Prop := moreUptoRow.holds Try.pinned (OpenSpec.upto moreSpec)

/-- 'meterlaw.Earlier', WHERE WHAT IT READS IS OF BULK AT MOST 1048576: true; the input reads as it did. -/
def earlierUptoRow : OpenClaim := { program := "ytjaffmmocbplaab", sum := "e866a345878414020a821bd11b142c5e774e884a97055beb4208e995d135456c", func := "meter/meterlaw.Earlier", spec := "earlier", apart := false, narrowed := true }
def EarlierUptoSaid : Prop := earlierUptoRow.holds Try.pinned (OpenSpec.upto earlierSpec)

end Rows
end Go.Proofs.Ytjaffmmocbplaab
