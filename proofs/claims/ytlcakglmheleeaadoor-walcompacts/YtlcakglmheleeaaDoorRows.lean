/-
  NARROWER THAN 'FOR EVERY INPUT', by the rows' own cells (each row's printed sentence says how): WalScans: laid · WalBytes: laid · WalCrashes: laid · WalCompacts: laid · WalJunk: laid · WalNil: laid.
  DERIVED. THE GIVEN ROWS OF THIS SEAT. 6 by the template 'for every input the law returns true; each argument reads behind the call as it read before'; 0 by the template 'total and deterministic' (their statements: YtlcakglmheleeaaDoorTotals.lean).
  GIVEN WITH THE SEED: the statements are not yours to turn. If you find one false, say at which input.
  Laid BY PROGRAM, IN A SANDBOX (cutbox-rows.mjs): the forced cells as the released guide's own fill.sh prints them over the translation 9b65dc3a8f3854bd… (all of the seat's roots in one cut). By AI agents, Wed Nov 11 2026. No macro, syntax, notation, axiom, sorry.
-/
import Derived.Test.YtlcakglmheleeaaDoorChecked
import GoSem.Claim
import GoSem.ClaimJoined
import GoSem.ClaimMapViews
import Derived.JoinedTies
import Derived.KernelRfl
namespace Go.Proofs.YtlcakglmheleeaaDoor
/- THE CELL 'sum', in the pinned program and in every row, IS THE sha256 OF THE DUMP (.gsa) THAT YtlcakglmheleeaaDoorProg.lean LOADS. Nothing in Lean hashes anything: it is a label: what it is worth is what the hold of that sum in a sandbox is worth. -/
noncomputable def Tryd.pinned : Pinned := { name := "ytlcakglmheleeaadoor", sum := "9b65dc3a8f3854bdd2f361ad204eb69547e4e8a8479e976b6f1ce41d1ef0d07e", checked := Tryd.checked }
namespace Rows
def none {H : Type} : Left H := { results := [], args := [] }

/- WHAT THE LISTED PACKAGE-LEVEL VARIABLES READ AS WHEN THE CALL BEGINS. Each datum BY PROGRAM (the guide's laid-datum.mjs) off the statement by which the dump's own 'gosem.cut.vars' lays the variable. In a bare row this is a premise. The card (YtlcakglmheleeaaDoorCards.lean) ties it to the program's text. -/
def laid_dumbwaiter_octet_sumSteps {H : Type} : DataW H := .agg [.lit (.int .u32 0), .lit (.int .u32 498536548), .lit (.int .u32 997073096), .lit (.int .u32 651767980), .lit (.int .u32 1994146192), .lit (.int .u32 1802195444), .lit (.int .u32 1303535960), .lit (.int .u32 1342533948), .lit (.int .u32 3988292384), .lit (.int .u32 4027552580), .lit (.int .u32 3604390888), .lit (.int .u32 3412177804), .lit (.int .u32 2607071920), .lit (.int .u32 2262029012), .lit (.int .u32 2685067896), .lit (.int .u32 3183342108)]

/-- 'dumbwaiterlaw08.WalScans': WHATEVER THE INPUT: true; the input reads as it did. -/
def walScansSpec : ChangeSpec := { name := "walScans", fn := fun _ => fun
  | [d1, d2, d3] => { results := [.lit (.bool true)], args := [d1, d2, d3] }
  | _ => none }
def walScansRow : OpenClaim := { program := "ytlcakglmheleeaadoor", sum := "9b65dc3a8f3854bdd2f361ad204eb69547e4e8a8479e976b6f1ce41d1ef0d07e", func := "dumbwaiter/dumbwaiterlaw08.WalScans", spec := "walScans", named := ["dumbwaiter/octet.sumSteps"], apart := false, laid := [("dumbwaiter/octet.sumSteps", laid_dumbwaiter_octet_sumSteps)] }
def WalScansSaid : Prop := walScansRow.holds Tryd.pinned (OpenSpec.ofChange walScansSpec)

/-- ITS FALSE NEIGHBOUR: 'it returns false'. Refute it at one input. -/
def walScansWrong : ChangeSpec := { name := "walScans", fn := fun _ => fun
  | [d1, d2, d3] => { results := [.lit (.bool false)], args := [d1, d2, d3] }
  | _ => none }
def WalScansWrongFalsely : Prop := walScansRow.holds Tryd.pinned (OpenSpec.ofChange walScansWrong)

/-- 'dumbwaiterlaw08.WalBytes': WHATEVER THE INPUT: true; the input reads as it did. -/
def walBytesSpec : ChangeSpec := { name := "walBytes", fn := fun _ => fun
  | [d1, d2, d3, d4, d5] => { results := [.lit (.bool true)], args := [d1, d2, d3, d4, d5] }
  | _ => none }
def walBytesRow : OpenClaim := { program := "ytlcakglmheleeaadoor", sum := "9b65dc3a8f3854bdd2f361ad204eb69547e4e8a8479e976b6f1ce41d1ef0d07e", func := "dumbwaiter/dumbwaiterlaw08.WalBytes", spec := "walBytes", named := ["dumbwaiter/octet.sumSteps"], apart := false, laid := [("dumbwaiter/octet.sumSteps", laid_dumbwaiter_octet_sumSteps)] }
def WalBytesSaid : Prop := walBytesRow.holds Tryd.pinned (OpenSpec.ofChange walBytesSpec)

/-- ITS FALSE NEIGHBOUR: 'it returns false'. Refute it at one input. -/
def walBytesWrong : ChangeSpec := { name := "walBytes", fn := fun _ => fun
  | [d1, d2, d3, d4, d5] => { results := [.lit (.bool false)], args := [d1, d2, d3, d4, d5] }
  | _ => none }
def WalBytesWrongFalsely : Prop := walBytesRow.holds Tryd.pinned (OpenSpec.ofChange walBytesWrong)

/-- 'dumbwaiterlaw08.WalCrashes': WHATEVER THE INPUT: true; the input reads as it did. -/
def walCrashesSpec : ChangeSpec := { name := "walCrashes", fn := fun _ => fun
  | [d1, d2, d3] => { results := [.lit (.bool true)], args := [d1, d2, d3] }
  | _ => none }
def walCrashesRow : OpenClaim := { program := "ytlcakglmheleeaadoor", sum := "9b65dc3a8f3854bdd2f361ad204eb69547e4e8a8479e976b6f1ce41d1ef0d07e", func := "dumbwaiter/dumbwaiterlaw08.WalCrashes", spec := "walCrashes", named := ["dumbwaiter/octet.sumSteps"], apart := false, laid := [("dumbwaiter/octet.sumSteps", laid_dumbwaiter_octet_sumSteps)] }
def WalCrashesSaid : Prop := walCrashesRow.holds Tryd.pinned (OpenSpec.ofChange walCrashesSpec)

/-- ITS FALSE NEIGHBOUR: 'it returns false'. Refute it at one input. -/
def walCrashesWrong : ChangeSpec := { name := "walCrashes", fn := fun _ => fun
  | [d1, d2, d3] => { results := [.lit (.bool false)], args := [d1, d2, d3] }
  | _ => none }
def WalCrashesWrongFalsely : Prop := walCrashesRow.holds Tryd.pinned (OpenSpec.ofChange walCrashesWrong)

/-- 'dumbwaiterlaw08.WalCompacts': WHATEVER THE INPUT: true; the input reads as it did. -/
def walCompactsSpec : ChangeSpec := { name := "walCompacts", fn := fun _ => fun
  | [d1, d2, d3, d4] => { results := [.lit (.bool true)], args := [d1, d2, d3, d4] }
  | _ => none }
def walCompactsRow : OpenClaim := { program := "ytlcakglmheleeaadoor", sum := "9b65dc3a8f3854bdd2f361ad204eb69547e4e8a8479e976b6f1ce41d1ef0d07e", func := "dumbwaiter/dumbwaiterlaw08.WalCompacts", spec := "walCompacts", named := ["dumbwaiter/octet.sumSteps"], apart := false, laid := [("dumbwaiter/octet.sumSteps", laid_dumbwaiter_octet_sumSteps)] }
def WalCompactsSaid : Prop := walCompactsRow.holds Tryd.pinned (OpenSpec.ofChange walCompactsSpec)

/-- ITS FALSE NEIGHBOUR: 'it returns false'. Refute it at one input. -/
def walCompactsWrong : ChangeSpec := { name := "walCompacts", fn := fun _ => fun
  | [d1, d2, d3, d4] => { results := [.lit (.bool false)], args := [d1, d2, d3, d4] }
  | _ => none }
def WalCompactsWrongFalsely : Prop := walCompactsRow.holds Tryd.pinned (OpenSpec.ofChange walCompactsWrong)

/-- 'dumbwaiterlaw08.WalJunk': WHATEVER THE INPUT: true; the input reads as it did. -/
def walJunkSpec : ChangeSpec := { name := "walJunk", fn := fun _ => fun
  | [d1, d2, d3, d4] => { results := [.lit (.bool true)], args := [d1, d2, d3, d4] }
  | _ => none }
def walJunkRow : OpenClaim := { program := "ytlcakglmheleeaadoor", sum := "9b65dc3a8f3854bdd2f361ad204eb69547e4e8a8479e976b6f1ce41d1ef0d07e", func := "dumbwaiter/dumbwaiterlaw08.WalJunk", spec := "walJunk", named := ["dumbwaiter/octet.sumSteps"], apart := false, laid := [("dumbwaiter/octet.sumSteps", laid_dumbwaiter_octet_sumSteps)] }
def WalJunkSaid : Prop := walJunkRow.holds Tryd.pinned (OpenSpec.ofChange walJunkSpec)

/-- ITS FALSE NEIGHBOUR: 'it returns false'. Refute it at one input. -/
def walJunkWrong : ChangeSpec := { name := "walJunk", fn := fun _ => fun
  | [d1, d2, d3, d4] => { results := [.lit (.bool false)], args := [d1, d2, d3, d4] }
  | _ => none }
def WalJunkWrongFalsely : Prop := walJunkRow.holds Tryd.pinned (OpenSpec.ofChange walJunkWrong)

/-- 'dumbwaiterlaw08.WalNil': WHATEVER THE INPUT: true; the input reads as it did. -/
def walNilSpec : ChangeSpec := { name := "walNil", fn := fun _ => fun
  | [d] => { results := [.lit (.bool true)], args := [d] }
  | _ => none }
def walNilRow : OpenClaim := { program := "ytlcakglmheleeaadoor", sum := "9b65dc3a8f3854bdd2f361ad204eb69547e4e8a8479e976b6f1ce41d1ef0d07e", func := "dumbwaiter/dumbwaiterlaw08.WalNil", spec := "walNil", named := ["dumbwaiter/octet.sumSteps"], apart := false, laid := [("dumbwaiter/octet.sumSteps", laid_dumbwaiter_octet_sumSteps)] }
def WalNilSaid : Prop := walNilRow.holds Tryd.pinned (OpenSpec.ofChange walNilSpec)

/-- ITS FALSE NEIGHBOUR: 'it returns false'. Refute it at one input. -/
def walNilWrong : ChangeSpec := { name := "walNil", fn := fun _ => fun
  | [d] => { results := [.lit (.bool false)], args := [d] }
  | _ => none }
def WalNilWrongFalsely : Prop := walNilRow.holds Tryd.pinned (OpenSpec.ofChange walNilWrong)

/- THE SECOND FORM. 'bulk': how many values and letters a reading holds, each counted each time it is reached (what is shared counts as often as it is met; a slice's spare places count too). A statement '..UptoSaid' is the law's where the arguments, and the package variables that the reading takes, are together of bulk at most 1048576: NARROWER than '..Said'. Prove '..Said' where nothing that the law and all that it calls make is longer than what came in: it says more and counts as full. Else prove '..UptoSaid'. A law counts once. -/
mutual
def uptoBulk {H : Type} : DataW H → Nat
  | .lit (.string bytes) => bytes.length + 1
  | .lit _ => 1
  | .nil => 1
  | .ptr d => uptoBulk d + 1
  | .slice elems spare => uptoBulkAll elems + uptoBulkAll spare + 1
  | .agg parts => uptoBulkAll parts + 1
  | .iface _ d => uptoBulk d + 1
  | .map entries => uptoBulkEntries entries + 1
  | .held _ => 1
def uptoBulkAll {H : Type} : List (DataW H) → Nat
  | [] => 0
  | d :: r => uptoBulk d + uptoBulkAll r
def uptoBulkEntries {H : Type} : List (Lit × DataW H) → Nat
  | [] => 0
  | x :: r => uptoBulkEntry x + uptoBulkEntries r
def uptoBulkEntry {H : Type} : Lit × DataW H → Nat
  | (.string bytes, d) => bytes.length + uptoBulk d + 1
  | (_, d) => uptoBulk d + 1
 end
def uptoSmall : (H : Type) → List (DataW H) → Bool := fun _ ds => decide (uptoBulkAll ds ≤ 1048576)
def OpenSpec.upto (s : _root_.Go.ChangeSpec) : _root_.Go.OpenSpec := { _root_.Go.OpenSpec.ofChange s with cond := some uptoSmall }

/-- 'dumbwaiterlaw08.WalScans', WHERE WHAT IT READS IS OF BULK AT MOST 1048576: true; the input reads as it did. -/
def walScansUptoRow : OpenClaim := { program := "ytlcakglmheleeaadoor", sum := "9b65dc3a8f3854bdd2f361ad204eb69547e4e8a8479e976b6f1ce41d1ef0d07e", func := "dumbwaiter/dumbwaiterlaw08.WalScans", spec := "walScans", named := ["dumbwaiter/octet.sumSteps"], apart := false, laid := [("dumbwaiter/octet.sumSteps", laid_dumbwaiter_octet_sumSteps)], narrowed := true }
def WalScansUptoSaid : Prop := walScansUptoRow.holds Tryd.pinned (OpenSpec.upto walScansSpec)

/-- 'dumbwaiterlaw08.WalBytes', WHERE WHAT IT READS IS OF BULK AT MOST 1048576: true; the input reads as it did. -/
def walBytesUptoRow : OpenClaim := { program := "ytlcakglmheleeaadoor", sum := "9b65dc3a8f3854bdd2f361ad204eb69547e4e8a8479e976b6f1ce41d1ef0d07e", func := "dumbwaiter/dumbwaiterlaw08.WalBytes", spec := "walBytes", named := ["dumbwaiter/octet.sumSteps"], apart := false, laid := [("dumbwaiter/octet.sumSteps", laid_dumbwaiter_octet_sumSteps)], narrowed := true }
def WalBytesUptoSaid : Prop := walBytesUptoRow.holds Tryd.pinned (OpenSpec.upto walBytesSpec)

/-- 'dumbwaiterlaw08.WalCrashes', WHERE WHAT IT READS IS OF BULK AT MOST 1048576: true; the input reads as it did. -/
def walCrashesUptoRow : OpenClaim := { program := "ytlcakglmheleeaadoor", sum := "9b65dc3a8f3854bdd2f361ad204eb69547e4e8a8479e976b6f1ce41d1ef0d07e", func := "dumbwaiter/dumbwaiterlaw08.WalCrashes", spec := "walCrashes", named := ["dumbwaiter/octet.sumSteps"], apart := false, laid := [("dumbwaiter/octet.sumSteps", laid_dumbwaiter_octet_sumSteps)], narrowed := true }
def WalCrashesUptoSaid : Prop := walCrashesUptoRow.holds Tryd.pinned (OpenSpec.upto walCrashesSpec)

/-- 'dumbwaiterlaw08.WalCompacts', WHERE WHAT IT READS IS OF BULK AT MOST 1048576: true; the input reads as it did. -/
def walCompactsUptoRow : OpenClaim := { program := "ytlcakglmheleeaadoor", sum := "9b65dc3a8f3854bdd2f361ad204eb69547e4e8a8479e976b6f1ce41d1ef0d07e", func := "dumbwaiter/dumbwaiterlaw08.WalCompacts", spec := "walCompacts", named := ["dumbwaiter/octet.sumSteps"], apart := false, laid := [("dumbwaiter/octet.sumSteps", laid_dumbwaiter_octet_sumSteps)], narrowed := true }
def WalCompactsUptoSaid : Prop := walCompactsUptoRow.holds Tryd.pinned (OpenSpec.upto walCompactsSpec)

/-- 'dumbwaiterlaw08.WalJunk', WHERE WHAT IT READS IS OF BULK AT MOST 1048576: true; the input reads as it did. -/
def walJunkUptoRow : OpenClaim := { program := "ytlcakglmheleeaadoor", sum := "9b65dc3a8f3854bdd2f361ad204eb69547e4e8a8479e976b6f1ce41d1ef0d07e", func := "dumbwaiter/dumbwaiterlaw08.WalJunk", spec := "walJunk", named := ["dumbwaiter/octet.sumSteps"], apart := false, laid := [("dumbwaiter/octet.sumSteps", laid_dumbwaiter_octet_sumSteps)], narrowed := true }
def WalJunkUptoSaid : Prop := walJunkUptoRow.holds Tryd.pinned (OpenSpec.upto walJunkSpec)

/-- 'dumbwaiterlaw08.WalNil', WHERE WHAT IT READS IS OF BULK AT MOST 1048576: true; the input reads as it did. -/
def walNilUptoRow : OpenClaim := { program := "ytlcakglmheleeaadoor", sum := "9b65dc3a8f3854bdd2f361ad204eb69547e4e8a8479e976b6f1ce41d1ef0d07e", func := "dumbwaiter/dumbwaiterlaw08.WalNil", spec := "walNil", named := ["dumbwaiter/octet.sumSteps"], apart := false, laid := [("dumbwaiter/octet.sumSteps", laid_dumbwaiter_octet_sumSteps)], narrowed := true }
def WalNilUptoSaid : Prop := walNilUptoRow.holds Tryd.pinned (OpenSpec.upto walNilSpec)

end Rows
end Go.Proofs.YtlcakglmheleeaaDoor
