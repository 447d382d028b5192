/-
  NARROWER THAN 'FOR EVERY INPUT', by the rows' own cells (each row's printed sentence says how): QueueSizes: laid · QueueErrs: laid · QueueLong: laid.
  DERIVED. THE GIVEN ROWS OF THIS SEAT. 3 by the template 'for every input the law returns true; each argument reads behind the call as it read before'; 0 by the template 'total and deterministic' (their statements: YtpnjcpamhelaeabDoorTotals.lean).
  GIVEN WITH THE SEED: the statements are not yours to turn. If you find one false, say at which input.
  Laid BY PROGRAM, IN A SANDBOX (cutbox-rows.mjs): the forced cells as the released guide's own fill.sh prints them over the translation 30a66c6298d32b69… (all of the seat's roots in one cut). By AI agents, Wed Nov 11 2026. No macro, syntax, notation, axiom, sorry.
-/
import Derived.Test.YtpnjcpamhelaeabDoorChecked
import GoSem.Claim
import GoSem.ClaimJoined
import GoSem.ClaimMapViews
import Derived.JoinedTies
import Derived.KernelRfl
namespace Go.Proofs.YtpnjcpamhelaeabDoor
/- THE CELL 'sum', in the pinned program and in every row, IS THE sha256 OF THE DUMP (.gsa) THAT YtpnjcpamhelaeabDoorProg.lean LOADS. Nothing in Lean hashes anything: it is a label: what it is worth is what the hold of that sum in a sandbox is worth. -/
noncomputable def Tryd.pinned : Pinned := { name := "ytpnjcpamhelaeabdoor", sum := "30a66c6298d32b69c551f8c336648e2be8938d9cd0a9f7fbd196fb323014eea7", checked := Tryd.checked }
namespace Rows
def none {H : Type} : Left H := { results := [], args := [] }

/- WHAT THE LISTED PACKAGE-LEVEL VARIABLES READ AS WHEN THE CALL BEGINS. Each datum BY PROGRAM (the guide's laid-datum.mjs) off the statement by which the dump's own 'gosem.cut.vars' lays the variable. In a bare row this is a premise. The card (YtpnjcpamhelaeabDoorCards.lean) ties it to the program's text. -/
def laid_dumbwaiter_octet_sumSteps {H : Type} : DataW H := .agg [.lit (.int .u32 0), .lit (.int .u32 498536548), .lit (.int .u32 997073096), .lit (.int .u32 651767980), .lit (.int .u32 1994146192), .lit (.int .u32 1802195444), .lit (.int .u32 1303535960), .lit (.int .u32 1342533948), .lit (.int .u32 3988292384), .lit (.int .u32 4027552580), .lit (.int .u32 3604390888), .lit (.int .u32 3412177804), .lit (.int .u32 2607071920), .lit (.int .u32 2262029012), .lit (.int .u32 2685067896), .lit (.int .u32 3183342108)]

/-- 'dumbwaiterlaw06.QueueSizes': WHATEVER THE INPUT: true; the input reads as it did. -/
def queueSizesSpec : ChangeSpec := { name := "queueSizes", fn := fun _ => fun
  | [d1, d2, d3] => { results := [.lit (.bool true)], args := [d1, d2, d3] }
  | _ => none }
def queueSizesRow : OpenClaim := { program := "ytpnjcpamhelaeabdoor", sum := "30a66c6298d32b69c551f8c336648e2be8938d9cd0a9f7fbd196fb323014eea7", func := "dumbwaiter/dumbwaiterlaw06.QueueSizes", spec := "queueSizes", named := ["dumbwaiter/octet.sumSteps"], apart := false, laid := [("dumbwaiter/octet.sumSteps", laid_dumbwaiter_octet_sumSteps)] }
def QueueSizesSaid : Prop := queueSizesRow.holds Tryd.pinned (OpenSpec.ofChange queueSizesSpec)

/-- ITS FALSE NEIGHBOUR: 'it returns false'. Refute it at one input. -/
def queueSizesWrong : ChangeSpec := { name := "queueSizes", fn := fun _ => fun
  | [d1, d2, d3] => { results := [.lit (.bool false)], args := [d1, d2, d3] }
  | _ => none }
def QueueSizesWrongFalsely : Prop := queueSizesRow.holds Tryd.pinned (OpenSpec.ofChange queueSizesWrong)

/-- 'dumbwaiterlaw06.QueueErrs': WHATEVER THE INPUT: true; the input reads as it did. -/
def queueErrsSpec : ChangeSpec := { name := "queueErrs", fn := fun _ => fun
  | [d1, d2, d3] => { results := [.lit (.bool true)], args := [d1, d2, d3] }
  | _ => none }
def queueErrsRow : OpenClaim := { program := "ytpnjcpamhelaeabdoor", sum := "30a66c6298d32b69c551f8c336648e2be8938d9cd0a9f7fbd196fb323014eea7", func := "dumbwaiter/dumbwaiterlaw06.QueueErrs", spec := "queueErrs", named := ["dumbwaiter/octet.sumSteps"], apart := false, laid := [("dumbwaiter/octet.sumSteps", laid_dumbwaiter_octet_sumSteps)] }
def QueueErrsSaid : Prop := queueErrsRow.holds Tryd.pinned (OpenSpec.ofChange queueErrsSpec)

/-- ITS FALSE NEIGHBOUR: 'it returns false'. Refute it at one input. -/
def queueErrsWrong : ChangeSpec := { name := "queueErrs", fn := fun _ => fun
  | [d1, d2, d3] => { results := [.lit (.bool false)], args := [d1, d2, d3] }
  | _ => none }
def QueueErrsWrongFalsely : Prop := queueErrsRow.holds Tryd.pinned (OpenSpec.ofChange queueErrsWrong)

/-- 'dumbwaiterlaw06.QueueLong': WHATEVER THE INPUT: true; the input reads as it did. -/
def queueLongSpec : ChangeSpec := { name := "queueLong", fn := fun _ => fun
  | [d] => { results := [.lit (.bool true)], args := [d] }
  | _ => none }
def queueLongRow : OpenClaim := { program := "ytpnjcpamhelaeabdoor", sum := "30a66c6298d32b69c551f8c336648e2be8938d9cd0a9f7fbd196fb323014eea7", func := "dumbwaiter/dumbwaiterlaw06.QueueLong", spec := "queueLong", named := ["dumbwaiter/octet.sumSteps"], apart := false, laid := [("dumbwaiter/octet.sumSteps", laid_dumbwaiter_octet_sumSteps)] }
def QueueLongSaid : Prop := queueLongRow.holds Tryd.pinned (OpenSpec.ofChange queueLongSpec)

/-- ITS FALSE NEIGHBOUR: 'it returns false'. Refute it at one input. -/
def queueLongWrong : ChangeSpec := { name := "queueLong", fn := fun _ => fun
  | [d] => { results := [.lit (.bool false)], args := [d] }
  | _ => none }
def QueueLongWrongFalsely : Prop := queueLongRow.holds Tryd.pinned (OpenSpec.ofChange queueLongWrong)

/- THE SECOND FORM. 'bulk': how many values and letters a reading holds, each counted each time it is reached (what is shared counts as often as it is met; a slice's spare places count too). A statement '..UptoSaid' is the law's where the arguments, and the package variables that the reading takes, are together of bulk at most 1048576: NARROWER than '..Said'. Prove '..Said' where nothing that the law and all that it calls make is longer than what came in: it says more and counts as full. Else prove '..UptoSaid'. A law counts once. -/
mutual
def uptoBulk {H : Type} : DataW H → Nat
  | .lit (.string bytes) => bytes.length + 1
  | .lit _ => 1
  | .nil => 1
  | .ptr d => uptoBulk d + 1
  | .slice elems spare => uptoBulkAll elems + uptoBulkAll spare + 1
  | .agg parts => uptoBulkAll parts + 1
  | .iface _ d => uptoBulk d + 1
  | .map entries => uptoBulkEntries entries + 1
  | .held _ => 1
def uptoBulkAll {H : Type} : List (DataW H) → Nat
  | [] => 0
  | d :: r => uptoBulk d + uptoBulkAll r
def uptoBulkEntries {H : Type} : List (Lit × DataW H) → Nat
  | [] => 0
  | x :: r => uptoBulkEntry x + uptoBulkEntries r
def uptoBulkEntry {H : Type} : Lit × DataW H → Nat
  | (.string bytes, d) => bytes.length + uptoBulk d + 1
  | (_, d) => uptoBulk d + 1
 end
def uptoSmall : (H : Type) → List (DataW H) → Bool := fun _ ds => decide (uptoBulkAll ds ≤ 1048576)
def OpenSpec.upto (s : _root_.Go.ChangeSpec) : _root_.Go.OpenSpec := { _root_.Go.OpenSpec.ofChange s with cond := some uptoSmall }

/-- 'dumbwaiterlaw06.QueueSizes', WHERE WHAT IT READS IS OF BULK AT MOST 1048576: true; the input reads as it did. -/
def queueSizesUptoRow : OpenClaim := { program := "ytpnjcpamhelaeabdoor", sum := "30a66c6298d32b69c551f8c336648e2be8938d9cd0a9f7fbd196fb323014eea7", func := "dumbwaiter/dumbwaiterlaw06.QueueSizes", spec := "queueSizes", named := ["dumbwaiter/octet.sumSteps"], apart := false, laid := [("dumbwaiter/octet.sumSteps", laid_dumbwaiter_octet_sumSteps)], narrowed := true }
def QueueSizesUptoSaid : Prop := queueSizesUptoRow.holds Tryd.pinned (OpenSpec.upto queueSizesSpec)

/-- 'dumbwaiterlaw06.QueueErrs', WHERE WHAT IT READS IS OF BULK AT MOST 1048576: true; the input reads as it did. -/
def queueErrsUptoRow : OpenClaim := { program := "ytpnjcpamhelaeabdoor", sum := "30a66c6298d32b69c551f8c336648e2be8938d9cd0a9f7fbd196fb323014eea7", func := "dumbwaiter/dumbwaiterlaw06.QueueErrs", spec := "queueErrs", named := ["dumbwaiter/octet.sumSteps"], apart := false, laid := [("dumbwaiter/octet.sumSteps", laid_dumbwaiter_octet_sumSteps)], narrowed := true }
def QueueErrsUptoSaid : Prop := queueErrsUptoRow.holds Tryd.pinned (OpenSpec.upto queueErrsSpec)

/-- 'dumbwaiterlaw06.QueueLong', WHERE WHAT IT READS IS OF BULK AT MOST 1048576: true; the input reads as it did. -/
def queueLongUptoRow : OpenClaim := { program := "ytpnjcpamhelaeabdoor", sum := "30a66c6298d32b69c551f8c336648e2be8938d9cd0a9f7fbd196fb323014eea7", func := "dumbwaiter/dumbwaiterlaw06.QueueLong", spec := "queueLong", named := ["dumbwaiter/octet.sumSteps"], apart := false, laid := [("dumbwaiter/octet.sumSteps", laid_dumbwaiter_octet_sumSteps)], narrowed := true }
def QueueLongUptoSaid : Prop := queueLongUptoRow.holds Tryd.pinned (OpenSpec.upto queueLongSpec)

end Rows
end Go.Proofs.YtpnjcpamhelaeabDoor
