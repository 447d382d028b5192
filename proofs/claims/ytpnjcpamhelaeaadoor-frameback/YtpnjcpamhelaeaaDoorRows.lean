/-
  NARROWER THAN 'FOR EVERY INPUT', by the rows' own cells (each row's printed sentence says how): FrameSplits: laid · FrameDummies: laid · FrameJoins: laid · FrameBack: laid · FrameNil: laid · QueuePlays: laid.
  DERIVED. THE GIVEN ROWS OF THIS SEAT. 6 by the template 'for every input the law returns true; each argument reads behind the call as it read before'; 0 by the template 'total and deterministic' (their statements: YtpnjcpamhelaeaaDoorTotals.lean).
  GIVEN WITH THE SEED: the statements are not yours to turn. If you find one false, say at which input.
  Laid BY PROGRAM, IN A SANDBOX (cutbox-rows.mjs): the forced cells as the released guide's own fill.sh prints them over the translation 6c7567eab8c33c95… (all of the seat's roots in one cut). By AI agents, Wed Nov 11 2026. No macro, syntax, notation, axiom, sorry.
-/
import Derived.Test.YtpnjcpamhelaeaaDoorChecked
import GoSem.Claim
import GoSem.ClaimJoined
import GoSem.ClaimMapViews
import Derived.JoinedTies
import Derived.KernelRfl
namespace Go.Proofs.YtpnjcpamhelaeaaDoor
/- THE CELL 'sum', in the pinned program and in every row, IS THE sha256 OF THE DUMP (.gsa) THAT YtpnjcpamhelaeaaDoorProg.lean LOADS. Nothing in Lean hashes anything: it is a label: what it is worth is what the hold of that sum in a sandbox is worth. -/
noncomputable def Tryd.pinned : Pinned := { name := "ytpnjcpamhelaeaadoor", sum := "6c7567eab8c33c95cc6078b9268d7b314b245d8f7cd47ad44b7f7b6843eedd51", checked := Tryd.checked }
namespace Rows
def none {H : Type} : Left H := { results := [], args := [] }

/- WHAT THE LISTED PACKAGE-LEVEL VARIABLES READ AS WHEN THE CALL BEGINS. Each datum BY PROGRAM (the guide's laid-datum.mjs) off the statement by which the dump's own 'gosem.cut.vars' lays the variable. In a bare row this is a premise. The card (YtpnjcpamhelaeaaDoorCards.lean) ties it to the program's text. -/
def laid_dumbwaiter_octet_sumSteps {H : Type} : DataW H := .agg [.lit (.int .u32 0), .lit (.int .u32 498536548), .lit (.int .u32 997073096), .lit (.int .u32 651767980), .lit (.int .u32 1994146192), .lit (.int .u32 1802195444), .lit (.int .u32 1303535960), .lit (.int .u32 1342533948), .lit (.int .u32 3988292384), .lit (.int .u32 4027552580), .lit (.int .u32 3604390888), .lit (.int .u32 3412177804), .lit (.int .u32 2607071920), .lit (.int .u32 2262029012), .lit (.int .u32 2685067896), .lit (.int .u32 3183342108)]

/-- 'dumbwaiterlaw05.FrameSplits': WHATEVER THE INPUT: true; the input reads as it did. -/
def frameSplitsSpec : ChangeSpec := { name := "frameSplits", fn := fun _ => fun
  | [d1, d2, d3, d4] => { results := [.lit (.bool true)], args := [d1, d2, d3, d4] }
  | _ => none }
def frameSplitsRow : OpenClaim := { program := "ytpnjcpamhelaeaadoor", sum := "6c7567eab8c33c95cc6078b9268d7b314b245d8f7cd47ad44b7f7b6843eedd51", func := "dumbwaiter/dumbwaiterlaw05.FrameSplits", spec := "frameSplits", named := ["dumbwaiter/octet.sumSteps"], apart := false, laid := [("dumbwaiter/octet.sumSteps", laid_dumbwaiter_octet_sumSteps)] }
def FrameSplitsSaid : Prop := frameSplitsRow.holds Tryd.pinned (OpenSpec.ofChange frameSplitsSpec)

/-- ITS FALSE NEIGHBOUR: 'it returns false'. Refute it at one input. -/
def frameSplitsWrong : ChangeSpec := { name := "frameSplits", fn := fun _ => fun
  | [d1, d2, d3, d4] => { results := [.lit (.bool false)], args := [d1, d2, d3, d4] }
  | _ => none }
def FrameSplitsWrongFalsely : Prop := frameSplitsRow.holds Tryd.pinned (OpenSpec.ofChange frameSplitsWrong)

/-- 'dumbwaiterlaw05.FrameDummies': WHATEVER THE INPUT: true; the input reads as it did. -/
def frameDummiesSpec : ChangeSpec := { name := "frameDummies", fn := fun _ => fun
  | [d1, d2] => { results := [.lit (.bool true)], args := [d1, d2] }
  | _ => none }
def frameDummiesRow : OpenClaim := { program := "ytpnjcpamhelaeaadoor", sum := "6c7567eab8c33c95cc6078b9268d7b314b245d8f7cd47ad44b7f7b6843eedd51", func := "dumbwaiter/dumbwaiterlaw05.FrameDummies", spec := "frameDummies", inPlace := ["internal/bytealg.Count", "internal/bytealg.IndexByte", "internal/bytealg.Index"], named := ["dumbwaiter/octet.sumSteps", "internal/bytealg.MaxLen"], apart := false, laid := [("dumbwaiter/octet.sumSteps", laid_dumbwaiter_octet_sumSteps)] }
def FrameDummiesSaid : Prop := frameDummiesRow.holds Tryd.pinned (OpenSpec.ofChange frameDummiesSpec)

/-- ITS FALSE NEIGHBOUR: 'it returns false'. Refute it at one input. -/
def frameDummiesWrong : ChangeSpec := { name := "frameDummies", fn := fun _ => fun
  | [d1, d2] => { results := [.lit (.bool false)], args := [d1, d2] }
  | _ => none }
def FrameDummiesWrongFalsely : Prop := frameDummiesRow.holds Tryd.pinned (OpenSpec.ofChange frameDummiesWrong)

/-- 'dumbwaiterlaw05.FrameJoins': WHATEVER THE INPUT: true; the input reads as it did. -/
def frameJoinsSpec : ChangeSpec := { name := "frameJoins", fn := fun _ => fun
  | [d1, d2, d3] => { results := [.lit (.bool true)], args := [d1, d2, d3] }
  | _ => none }
def frameJoinsRow : OpenClaim := { program := "ytpnjcpamhelaeaadoor", sum := "6c7567eab8c33c95cc6078b9268d7b314b245d8f7cd47ad44b7f7b6843eedd51", func := "dumbwaiter/dumbwaiterlaw05.FrameJoins", spec := "frameJoins", inPlace := ["internal/bytealg.Count", "internal/bytealg.IndexByte", "internal/bytealg.Index"], unfollowed := true, recurses := true, named := ["dumbwaiter/octet.sumSteps", "internal/bytealg.MaxLen"], apart := false, laid := [("dumbwaiter/octet.sumSteps", laid_dumbwaiter_octet_sumSteps)] }
def FrameJoinsSaid : Prop := frameJoinsRow.holds Tryd.pinned (OpenSpec.ofChange frameJoinsSpec)

/-- ITS FALSE NEIGHBOUR: 'it returns false'. Refute it at one input. -/
def frameJoinsWrong : ChangeSpec := { name := "frameJoins", fn := fun _ => fun
  | [d1, d2, d3] => { results := [.lit (.bool false)], args := [d1, d2, d3] }
  | _ => none }
def FrameJoinsWrongFalsely : Prop := frameJoinsRow.holds Tryd.pinned (OpenSpec.ofChange frameJoinsWrong)

/-- 'dumbwaiterlaw05.FrameBack': WHATEVER THE INPUT: true; the input reads as it did. -/
def frameBackSpec : ChangeSpec := { name := "frameBack", fn := fun _ => fun
  | [d1, d2, d3, d4] => { results := [.lit (.bool true)], args := [d1, d2, d3, d4] }
  | _ => none }
def frameBackRow : OpenClaim := { program := "ytpnjcpamhelaeaadoor", sum := "6c7567eab8c33c95cc6078b9268d7b314b245d8f7cd47ad44b7f7b6843eedd51", func := "dumbwaiter/dumbwaiterlaw05.FrameBack", spec := "frameBack", inPlace := ["internal/bytealg.Count", "internal/bytealg.IndexByte", "internal/bytealg.Index"], unfollowed := true, recurses := true, named := ["dumbwaiter/octet.sumSteps", "internal/bytealg.MaxLen"], apart := false, laid := [("dumbwaiter/octet.sumSteps", laid_dumbwaiter_octet_sumSteps)] }
def FrameBackSaid : Prop := frameBackRow.holds Tryd.pinned (OpenSpec.ofChange frameBackSpec)

/-- ITS FALSE NEIGHBOUR: 'it returns false'. Refute it at one input. -/
def frameBackWrong : ChangeSpec := { name := "frameBack", fn := fun _ => fun
  | [d1, d2, d3, d4] => { results := [.lit (.bool false)], args := [d1, d2, d3, d4] }
  | _ => none }
def FrameBackWrongFalsely : Prop := frameBackRow.holds Tryd.pinned (OpenSpec.ofChange frameBackWrong)

/-- 'dumbwaiterlaw05.FrameNil': WHATEVER THE INPUT: true; the input reads as it did. -/
def frameNilSpec : ChangeSpec := { name := "frameNil", fn := fun _ => fun
  | [d] => { results := [.lit (.bool true)], args := [d] }
  | _ => none }
def frameNilRow : OpenClaim := { program := "ytpnjcpamhelaeaadoor", sum := "6c7567eab8c33c95cc6078b9268d7b314b245d8f7cd47ad44b7f7b6843eedd51", func := "dumbwaiter/dumbwaiterlaw05.FrameNil", spec := "frameNil", inPlace := ["internal/bytealg.Count", "internal/bytealg.IndexByte", "internal/bytealg.Index"], unfollowed := true, recurses := true, named := ["dumbwaiter/octet.sumSteps", "internal/bytealg.MaxLen"], apart := false, laid := [("dumbwaiter/octet.sumSteps", laid_dumbwaiter_octet_sumSteps)] }
def FrameNilSaid : Prop := frameNilRow.holds Tryd.pinned (OpenSpec.ofChange frameNilSpec)

/-- ITS FALSE NEIGHBOUR: 'it returns false'. Refute it at one input. -/
def frameNilWrong : ChangeSpec := { name := "frameNil", fn := fun _ => fun
  | [d] => { results := [.lit (.bool false)], args := [d] }
  | _ => none }
def FrameNilWrongFalsely : Prop := frameNilRow.holds Tryd.pinned (OpenSpec.ofChange frameNilWrong)

/-- 'dumbwaiterlaw06.QueuePlays': WHATEVER THE INPUT: true; the input reads as it did. -/
def queuePlaysSpec : ChangeSpec := { name := "queuePlays", fn := fun _ => fun
  | [d1, d2, d3, d4] => { results := [.lit (.bool true)], args := [d1, d2, d3, d4] }
  | _ => none }
def queuePlaysRow : OpenClaim := { program := "ytpnjcpamhelaeaadoor", sum := "6c7567eab8c33c95cc6078b9268d7b314b245d8f7cd47ad44b7f7b6843eedd51", func := "dumbwaiter/dumbwaiterlaw06.QueuePlays", spec := "queuePlays", named := ["dumbwaiter/octet.sumSteps"], apart := false, laid := [("dumbwaiter/octet.sumSteps", laid_dumbwaiter_octet_sumSteps)] }
def QueuePlaysSaid : Prop := queuePlaysRow.holds Tryd.pinned (OpenSpec.ofChange queuePlaysSpec)

/-- ITS FALSE NEIGHBOUR: 'it returns false'. Refute it at one input. -/
def queuePlaysWrong : ChangeSpec := { name := "queuePlays", fn := fun _ => fun
  | [d1, d2, d3, d4] => { results := [.lit (.bool false)], args := [d1, d2, d3, d4] }
  | _ => none }
def QueuePlaysWrongFalsely : Prop := queuePlaysRow.holds Tryd.pinned (OpenSpec.ofChange queuePlaysWrong)

/- THE SECOND FORM. 'bulk': how many values and letters a reading holds, each counted each time it is reached (what is shared counts as often as it is met; a slice's spare places count too). A statement '..UptoSaid' is the law's where the arguments, and the package variables that the reading takes, are together of bulk at most 1048576: NARROWER than '..Said'. Prove '..Said' where nothing that the law and all that it calls make is longer than what came in: it says more and counts as full. Else prove '..UptoSaid'. A law counts once. -/
mutual
def uptoBulk {H : Type} : DataW H → Nat
  | .lit (.string bytes) => bytes.length + 1
  | .lit _ => 1
  | .nil => 1
  | .ptr d => uptoBulk d + 1
  | .slice elems spare => uptoBulkAll elems + uptoBulkAll spare + 1
  | .agg parts => uptoBulkAll parts + 1
  | .iface _ d => uptoBulk d + 1
  | .map entries => uptoBulkEntries entries + 1
  | .held _ => 1
def uptoBulkAll {H : Type} : List (DataW H) → Nat
  | [] => 0
  | d :: r => uptoBulk d + uptoBulkAll r
def uptoBulkEntries {H : Type} : List (Lit × DataW H) → Nat
  | [] => 0
  | x :: r => uptoBulkEntry x + uptoBulkEntries r
def uptoBulkEntry {H : Type} : Lit × DataW H → Nat
  | (.string bytes, d) => bytes.length + uptoBulk d + 1
  | (_, d) => uptoBulk d + 1
 end
def uptoSmall : (H : Type) → List (DataW H) → Bool := fun _ ds => decide (uptoBulkAll ds ≤ 1048576)
def OpenSpec.upto (s : _root_.Go.ChangeSpec) : _root_.Go.OpenSpec := { _root_.Go.OpenSpec.ofChange s with cond := some uptoSmall }

/-- 'dumbwaiterlaw05.FrameSplits', WHERE WHAT IT READS IS OF BULK AT MOST 1048576: true; the input reads as it did. -/
def frameSplitsUptoRow : OpenClaim := { program := "ytpnjcpamhelaeaadoor", sum := "6c7567eab8c33c95cc6078b9268d7b314b245d8f7cd47ad44b7f7b6843eedd51", func := "dumbwaiter/dumbwaiterlaw05.FrameSplits", spec := "frameSplits", named := ["dumbwaiter/octet.sumSteps"], apart := false, laid := [("dumbwaiter/octet.sumSteps", laid_dumbwaiter_octet_sumSteps)], narrowed := true }
def FrameSplitsUptoSaid : Prop := frameSplitsUptoRow.holds Tryd.pinned (OpenSpec.upto frameSplitsSpec)

/-- 'dumbwaiterlaw05.FrameDummies', WHERE WHAT IT READS IS OF BULK AT MOST 1048576: true; the input reads as it did. -/
def frameDummiesUptoRow : OpenClaim := { program := "ytpnjcpamhelaeaadoor", sum := "6c7567eab8c33c95cc6078b9268d7b314b245d8f7cd47ad44b7f7b6843eedd51", func := "dumbwaiter/dumbwaiterlaw05.FrameDummies", spec := "frameDummies", inPlace := ["internal/bytealg.Count", "internal/bytealg.IndexByte", "internal/bytealg.Index"], named := ["dumbwaiter/octet.sumSteps", "internal/bytealg.MaxLen"], apart := false, laid := [("dumbwaiter/octet.sumSteps", laid_dumbwaiter_octet_sumSteps)], narrowed := true }
def FrameDummiesUptoSaid : Prop := frameDummiesUptoRow.holds Tryd.pinned (OpenSpec.upto frameDummiesSpec)

/-- 'dumbwaiterlaw05.FrameJoins', WHERE WHAT IT READS IS OF BULK AT MOST 1048576: true; the input reads as it did. -/
def frameJoinsUptoRow : OpenClaim := { program := "ytpnjcpamhelaeaadoor", sum := "6c7567eab8c33c95cc6078b9268d7b314b245d8f7cd47ad44b7f7b6843eedd51", func := "dumbwaiter/dumbwaiterlaw05.FrameJoins", spec := "frameJoins", inPlace := ["internal/bytealg.Count", "internal/bytealg.IndexByte", "internal/bytealg.Index"], unfollowed := true, recurses := true, named := ["dumbwaiter/octet.sumSteps", "internal/bytealg.MaxLen"], apart := false, laid := [("dumbwaiter/octet.sumSteps", laid_dumbwaiter_octet_sumSteps)], narrowed := true }
def FrameJoinsUptoSaid : Prop := frameJoinsUptoRow.holds Tryd.pinned (OpenSpec.upto frameJoinsSpec)

/-- 'dumbwaiterlaw05.FrameBack', WHERE WHAT IT READS IS OF BULK AT MOST 1048576: true; the input reads as it did. -/
def frameBackUptoRow : OpenClaim := { program := "ytpnjcpamhelaeaadoor", sum := "6c7567eab8c33c95cc6078b9268d7b314b245d8f7cd47ad44b7f7b6843eedd51", func := "dumbwaiter/dumbwaiterlaw05.FrameBack", spec := "frameBack", inPlace := ["internal/bytealg.Count", "internal/bytealg.IndexByte", "internal/bytealg.Index"], unfollowed := true, recurses := true, named := ["dumbwaiter/octet.sumSteps", "internal/bytealg.MaxLen"], apart := false, laid := [("dumbwaiter/octet.sumSteps", laid_dumbwaiter_octet_sumSteps)], narrowed := true }
def FrameBackUptoSaid : Prop := frameBackUptoRow.holds Tryd.pinned (OpenSpec.upto frameBackSpec)

/-- 'dumbwaiterlaw05.FrameNil', WHERE WHAT IT READS IS OF BULK AT MOST 1048576: true; the input reads as it did. -/
def frameNilUptoRow : OpenClaim := { program := "ytpnjcpamhelaeaadoor", sum := "6c7567eab8c33c95cc6078b9268d7b314b245d8f7cd47ad44b7f7b6843eedd51", func := "dumbwaiter/dumbwaiterlaw05.FrameNil", spec := "frameNil", inPlace := ["internal/bytealg.Count", "internal/bytealg.IndexByte", "internal/bytealg.Index"], unfollowed := true, recurses := true, named := ["dumbwaiter/octet.sumSteps", "internal/bytealg.MaxLen"], apart := false, laid := [("dumbwaiter/octet.sumSteps", laid_dumbwaiter_octet_sumSteps)], narrowed := true }
def FrameNilUptoSaid : Prop := frameNilUptoRow.holds Tryd.pinned (OpenSpec.upto frameNilSpec)

/-- 'dumbwaiterlaw06.QueuePlays', WHERE WHAT IT READS IS OF BULK AT MOST 1048576: true; the input reads as it did. -/
def queuePlaysUptoRow : OpenClaim := { program := "ytpnjcpamhelaeaadoor", sum := "6c7567eab8c33c95cc6078b9268d7b314b245d8f7cd47ad44b7f7b6843eedd51", func := "dumbwaiter/dumbwaiterlaw06.QueuePlays", spec := "queuePlays", named := ["dumbwaiter/octet.sumSteps"], apart := false, laid := [("dumbwaiter/octet.sumSteps", laid_dumbwaiter_octet_sumSteps)], narrowed := true }
def QueuePlaysUptoSaid : Prop := queuePlaysUptoRow.holds Tryd.pinned (OpenSpec.upto queuePlaysSpec)

end Rows
end Go.Proofs.YtpnjcpamhelaeaaDoor
