/-
  NARROWER THAN 'FOR EVERY INPUT', by the rows' own cells (each row's printed sentence says how): OctetWrites: laid · OctetReads: laid · OctetSums: laid · OctetOpens: laid · OctetBursts: laid · OctetNil: laid.
  DERIVED. THE GIVEN ROWS OF THIS SEAT. 6 by the template 'for every input the law returns true; each argument reads behind the call as it read before'; 0 by the template 'total and deterministic' (their statements: YtonhkmcjfggnlaaDoorTotals.lean).
  GIVEN WITH THE SEED: the statements are not yours to turn. If you find one false, say at which input.
  Laid BY PROGRAM, IN A SANDBOX (cutbox-rows.mjs): the forced cells as the released guide's own fill.sh prints them over the translation fc9645ce69234315… (all of the seat's roots in one cut). By AI agents, Wed Nov 11 2026. No macro, syntax, notation, axiom, sorry.
-/
import Derived.Test.YtonhkmcjfggnlaaDoorChecked
import GoSem.Claim
import GoSem.ClaimJoined
import GoSem.ClaimMapViews
import Derived.JoinedTies
import Derived.KernelRfl
namespace Go.Proofs.YtonhkmcjfggnlaaDoor
/- THE CELL 'sum', in the pinned program and in every row, IS THE sha256 OF THE DUMP (.gsa) THAT YtonhkmcjfggnlaaDoorProg.lean LOADS. Nothing in Lean hashes anything: it is a label: what it is worth is what the hold of that sum in a sandbox is worth. -/
noncomputable def Tryd.pinned : Pinned := { name := "ytonhkmcjfggnlaadoor", sum := "fc9645ce69234315844c556cc2a4fb7d5f52ce95b860949a5c7a3b62961647db", checked := Tryd.checked }
namespace Rows
def none {H : Type} : Left H := { results := [], args := [] }

/- WHAT THE LISTED PACKAGE-LEVEL VARIABLES READ AS WHEN THE CALL BEGINS. Each datum BY PROGRAM (the guide's laid-datum.mjs) off the statement by which the dump's own 'gosem.cut.vars' lays the variable. In a bare row this is a premise. The card (YtonhkmcjfggnlaaDoorCards.lean) ties it to the program's text. -/
def laid_dumbwaiter_octet_sumSteps {H : Type} : DataW H := .agg [.lit (.int .u32 0), .lit (.int .u32 498536548), .lit (.int .u32 997073096), .lit (.int .u32 651767980), .lit (.int .u32 1994146192), .lit (.int .u32 1802195444), .lit (.int .u32 1303535960), .lit (.int .u32 1342533948), .lit (.int .u32 3988292384), .lit (.int .u32 4027552580), .lit (.int .u32 3604390888), .lit (.int .u32 3412177804), .lit (.int .u32 2607071920), .lit (.int .u32 2262029012), .lit (.int .u32 2685067896), .lit (.int .u32 3183342108)]

/-- 'dumbwaiterlaw02.OctetWrites': WHATEVER THE INPUT: true; the input reads as it did. -/
def octetWritesSpec : ChangeSpec := { name := "octetWrites", fn := fun _ => fun
  | [d1, d2, d3, d4] => { results := [.lit (.bool true)], args := [d1, d2, d3, d4] }
  | _ => none }
def octetWritesRow : OpenClaim := { program := "ytonhkmcjfggnlaadoor", sum := "fc9645ce69234315844c556cc2a4fb7d5f52ce95b860949a5c7a3b62961647db", func := "dumbwaiter/dumbwaiterlaw02.OctetWrites", spec := "octetWrites", named := ["dumbwaiter/octet.sumSteps"], apart := false, laid := [("dumbwaiter/octet.sumSteps", laid_dumbwaiter_octet_sumSteps)] }
def OctetWritesSaid : Prop := octetWritesRow.holds Tryd.pinned (OpenSpec.ofChange octetWritesSpec)

/-- ITS FALSE NEIGHBOUR: 'it returns false'. Refute it at one input. -/
def octetWritesWrong : ChangeSpec := { name := "octetWrites", fn := fun _ => fun
  | [d1, d2, d3, d4] => { results := [.lit (.bool false)], args := [d1, d2, d3, d4] }
  | _ => none }
def OctetWritesWrongFalsely : Prop := octetWritesRow.holds Tryd.pinned (OpenSpec.ofChange octetWritesWrong)

/-- 'dumbwaiterlaw02.OctetReads': WHATEVER THE INPUT: true; the input reads as it did. -/
def octetReadsSpec : ChangeSpec := { name := "octetReads", fn := fun _ => fun
  | [d1, d2] => { results := [.lit (.bool true)], args := [d1, d2] }
  | _ => none }
def octetReadsRow : OpenClaim := { program := "ytonhkmcjfggnlaadoor", sum := "fc9645ce69234315844c556cc2a4fb7d5f52ce95b860949a5c7a3b62961647db", func := "dumbwaiter/dumbwaiterlaw02.OctetReads", spec := "octetReads", named := ["dumbwaiter/octet.sumSteps"], apart := false, laid := [("dumbwaiter/octet.sumSteps", laid_dumbwaiter_octet_sumSteps)] }
def OctetReadsSaid : Prop := octetReadsRow.holds Tryd.pinned (OpenSpec.ofChange octetReadsSpec)

/-- ITS FALSE NEIGHBOUR: 'it returns false'. Refute it at one input. -/
def octetReadsWrong : ChangeSpec := { name := "octetReads", fn := fun _ => fun
  | [d1, d2] => { results := [.lit (.bool false)], args := [d1, d2] }
  | _ => none }
def OctetReadsWrongFalsely : Prop := octetReadsRow.holds Tryd.pinned (OpenSpec.ofChange octetReadsWrong)

/-- 'dumbwaiterlaw02.OctetSums': WHATEVER THE INPUT: true; the input reads as it did. -/
def octetSumsSpec : ChangeSpec := { name := "octetSums", fn := fun _ => fun
  | [d] => { results := [.lit (.bool true)], args := [d] }
  | _ => none }
def octetSumsRow : OpenClaim := { program := "ytonhkmcjfggnlaadoor", sum := "fc9645ce69234315844c556cc2a4fb7d5f52ce95b860949a5c7a3b62961647db", func := "dumbwaiter/dumbwaiterlaw02.OctetSums", spec := "octetSums", named := ["dumbwaiter/octet.sumSteps"], apart := false, laid := [("dumbwaiter/octet.sumSteps", laid_dumbwaiter_octet_sumSteps)] }
def OctetSumsSaid : Prop := octetSumsRow.holds Tryd.pinned (OpenSpec.ofChange octetSumsSpec)

/-- ITS FALSE NEIGHBOUR: 'it returns false'. Refute it at one input. -/
def octetSumsWrong : ChangeSpec := { name := "octetSums", fn := fun _ => fun
  | [d] => { results := [.lit (.bool false)], args := [d] }
  | _ => none }
def OctetSumsWrongFalsely : Prop := octetSumsRow.holds Tryd.pinned (OpenSpec.ofChange octetSumsWrong)

/-- 'dumbwaiterlaw02.OctetOpens': WHATEVER THE INPUT: true; the input reads as it did. -/
def octetOpensSpec : ChangeSpec := { name := "octetOpens", fn := fun _ => fun
  | [d] => { results := [.lit (.bool true)], args := [d] }
  | _ => none }
def octetOpensRow : OpenClaim := { program := "ytonhkmcjfggnlaadoor", sum := "fc9645ce69234315844c556cc2a4fb7d5f52ce95b860949a5c7a3b62961647db", func := "dumbwaiter/dumbwaiterlaw02.OctetOpens", spec := "octetOpens", named := ["dumbwaiter/octet.sumSteps"], apart := false, laid := [("dumbwaiter/octet.sumSteps", laid_dumbwaiter_octet_sumSteps)] }
def OctetOpensSaid : Prop := octetOpensRow.holds Tryd.pinned (OpenSpec.ofChange octetOpensSpec)

/-- ITS FALSE NEIGHBOUR: 'it returns false'. Refute it at one input. -/
def octetOpensWrong : ChangeSpec := { name := "octetOpens", fn := fun _ => fun
  | [d] => { results := [.lit (.bool false)], args := [d] }
  | _ => none }
def OctetOpensWrongFalsely : Prop := octetOpensRow.holds Tryd.pinned (OpenSpec.ofChange octetOpensWrong)

/-- 'dumbwaiterlaw02.OctetBursts': WHATEVER THE INPUT: true; the input reads as it did. -/
def octetBurstsSpec : ChangeSpec := { name := "octetBursts", fn := fun _ => fun
  | [d1, d2, d3] => { results := [.lit (.bool true)], args := [d1, d2, d3] }
  | _ => none }
def octetBurstsRow : OpenClaim := { program := "ytonhkmcjfggnlaadoor", sum := "fc9645ce69234315844c556cc2a4fb7d5f52ce95b860949a5c7a3b62961647db", func := "dumbwaiter/dumbwaiterlaw02.OctetBursts", spec := "octetBursts", named := ["dumbwaiter/octet.sumSteps"], apart := false, laid := [("dumbwaiter/octet.sumSteps", laid_dumbwaiter_octet_sumSteps)] }
def OctetBurstsSaid : Prop := octetBurstsRow.holds Tryd.pinned (OpenSpec.ofChange octetBurstsSpec)

/-- ITS FALSE NEIGHBOUR: 'it returns false'. Refute it at one input. -/
def octetBurstsWrong : ChangeSpec := { name := "octetBursts", fn := fun _ => fun
  | [d1, d2, d3] => { results := [.lit (.bool false)], args := [d1, d2, d3] }
  | _ => none }
def OctetBurstsWrongFalsely : Prop := octetBurstsRow.holds Tryd.pinned (OpenSpec.ofChange octetBurstsWrong)

/-- 'dumbwaiterlaw02.OctetNil': WHATEVER THE INPUT: true; the input reads as it did. -/
def octetNilSpec : ChangeSpec := { name := "octetNil", fn := fun _ => fun
  | [d1, d2] => { results := [.lit (.bool true)], args := [d1, d2] }
  | _ => none }
def octetNilRow : OpenClaim := { program := "ytonhkmcjfggnlaadoor", sum := "fc9645ce69234315844c556cc2a4fb7d5f52ce95b860949a5c7a3b62961647db", func := "dumbwaiter/dumbwaiterlaw02.OctetNil", spec := "octetNil", named := ["dumbwaiter/octet.sumSteps"], apart := false, laid := [("dumbwaiter/octet.sumSteps", laid_dumbwaiter_octet_sumSteps)] }
def OctetNilSaid : Prop := octetNilRow.holds Tryd.pinned (OpenSpec.ofChange octetNilSpec)

/-- ITS FALSE NEIGHBOUR: 'it returns false'. Refute it at one input. -/
def octetNilWrong : ChangeSpec := { name := "octetNil", fn := fun _ => fun
  | [d1, d2] => { results := [.lit (.bool false)], args := [d1, d2] }
  | _ => none }
def OctetNilWrongFalsely : Prop := octetNilRow.holds Tryd.pinned (OpenSpec.ofChange octetNilWrong)

/- THE SECOND FORM. 'bulk': how many values and letters a reading holds, each counted each time it is reached (what is shared counts as often as it is met; a slice's spare places count too). A statement '..UptoSaid' is the law's where the arguments, and the package variables that the reading takes, are together of bulk at most 1048576: NARROWER than '..Said'. Prove '..Said' where nothing that the law and all that it calls make is longer than what came in: it says more and counts as full. Else prove '..UptoSaid'. A law counts once. -/
mutual
def uptoBulk {H : Type} : DataW H → Nat
  | .lit (.string bytes) => bytes.length + 1
  | .lit _ => 1
  | .nil => 1
  | .ptr d => uptoBulk d + 1
  | .slice elems spare => uptoBulkAll elems + uptoBulkAll spare + 1
  | .agg parts => uptoBulkAll parts + 1
  | .iface _ d => uptoBulk d + 1
  | .map entries => uptoBulkEntries entries + 1
  | .held _ => 1
def uptoBulkAll {H : Type} : List (DataW H) → Nat
  | [] => 0
  | d :: r => uptoBulk d + uptoBulkAll r
def uptoBulkEntries {H : Type} : List (Lit × DataW H) → Nat
  | [] => 0
  | x :: r => uptoBulkEntry x + uptoBulkEntries r
def uptoBulkEntry {H : Type} : Lit × DataW H → Nat
  | (.string bytes, d) => bytes.length + uptoBulk d + 1
  | (_, d) => uptoBulk d + 1
 end
def uptoSmall : (H : Type) → List (DataW H) → Bool := fun _ ds => decide (uptoBulkAll ds ≤ 1048576)
def OpenSpec.upto (s : _root_.Go.ChangeSpec) : _root_.Go.OpenSpec := { _root_.Go.OpenSpec.ofChange s with cond := some uptoSmall }

/-- 'dumbwaiterlaw02.OctetWrites', WHERE WHAT IT READS IS OF BULK AT MOST 1048576: true; the input reads as it did. -/
def octetWritesUptoRow : OpenClaim := { program := "ytonhkmcjfggnlaadoor", sum := "fc9645ce69234315844c556cc2a4fb7d5f52ce95b860949a5c7a3b62961647db", func := "dumbwaiter/dumbwaiterlaw02.OctetWrites", spec := "octetWrites", named := ["dumbwaiter/octet.sumSteps"], apart := false, laid := [("dumbwaiter/octet.sumSteps", laid_dumbwaiter_octet_sumSteps)], narrowed := true }
def OctetWritesUptoSaid : Prop := octetWritesUptoRow.holds Tryd.pinned (OpenSpec.upto octetWritesSpec)

/-- 'dumbwaiterlaw02.OctetReads', WHERE WHAT IT READS IS OF BULK AT MOST 1048576: true; the input reads as it did. -/
def octetReadsUptoRow : OpenClaim := { program := "ytonhkmcjfggnlaadoor", sum := "fc9645ce69234315844c556cc2a4fb7d5f52ce95b860949a5c7a3b62961647db", func := "dumbwaiter/dumbwaiterlaw02.OctetReads", spec := "octetReads", named := ["dumbwaiter/octet.sumSteps"], apart := false, laid := [("dumbwaiter/octet.sumSteps", laid_dumbwaiter_octet_sumSteps)], narrowed := true }
def OctetReadsUptoSaid : Prop := octetReadsUptoRow.holds Tryd.pinned (OpenSpec.upto octetReadsSpec)

/-- 'dumbwaiterlaw02.OctetSums', WHERE WHAT IT READS IS OF BULK AT MOST 1048576: true; the input reads as it did. -/
def octetSumsUptoRow : OpenClaim := { program := "ytonhkmcjfggnlaadoor", sum := "fc9645ce69234315844c556cc2a4fb7d5f52ce95b860949a5c7a3b62961647db", func := "dumbwaiter/dumbwaiterlaw02.OctetSums", spec := "octetSums", named := ["dumbwaiter/octet.sumSteps"], apart := false, laid := [("dumbwaiter/octet.sumSteps", laid_dumbwaiter_octet_sumSteps)], narrowed := true }
def OctetSumsUptoSaid : Prop := octetSumsUptoRow.holds Tryd.pinned (OpenSpec.upto octetSumsSpec)

/-- 'dumbwaiterlaw02.OctetOpens', WHERE WHAT IT READS IS OF BULK AT MOST 1048576: true; the input reads as it did. -/
def octetOpensUptoRow : OpenClaim := { program := "ytonhkmcjfggnlaadoor", sum := "fc9645ce69234315844c556cc2a4fb7d5f52ce95b860949a5c7a3b62961647db", func := "dumbwaiter/dumbwaiterlaw02.OctetOpens", spec := "octetOpens", named := ["dumbwaiter/octet.sumSteps"], apart := false, laid := [("dumbwaiter/octet.sumSteps", laid_dumbwaiter_octet_sumSteps)], narrowed := true }
def OctetOpensUptoSaid : Prop := octetOpensUptoRow.holds Tryd.pinned (OpenSpec.upto octetOpensSpec)

/-- 'dumbwaiterlaw02.OctetBursts', WHERE WHAT IT READS IS OF BULK AT MOST 1048576: true; the input reads as it did. -/
def octetBurstsUptoRow : OpenClaim := { program := "ytonhkmcjfggnlaadoor", sum := "fc9645ce69234315844c556cc2a4fb7d5f52ce95b860949a5c7a3b62961647db", func := "dumbwaiter/dumbwaiterlaw02.OctetBursts", spec := "octetBursts", named := ["dumbwaiter/octet.sumSteps"], apart := false, laid := [("dumbwaiter/octet.sumSteps", laid_dumbwaiter_octet_sumSteps)], narrowed := true }
def OctetBurstsUptoSaid : Prop := octetBurstsUptoRow.holds Tryd.pinned (OpenSpec.upto octetBurstsSpec)

/-- 'dumbwaiterlaw02.OctetNil', WHERE WHAT IT READS IS OF BULK AT MOST 1048576: true; the input reads as it did. -/
def octetNilUptoRow : OpenClaim := { program := "ytonhkmcjfggnlaadoor", sum := "fc9645ce69234315844c556cc2a4fb7d5f52ce95b860949a5c7a3b62961647db", func := "dumbwaiter/dumbwaiterlaw02.OctetNil", spec := "octetNil", named := ["dumbwaiter/octet.sumSteps"], apart := false, laid := [("dumbwaiter/octet.sumSteps", laid_dumbwaiter_octet_sumSteps)], narrowed := true }
def OctetNilUptoSaid : Prop := octetNilUptoRow.holds Tryd.pinned (OpenSpec.upto octetNilSpec)

end Rows
end Go.Proofs.YtonhkmcjfggnlaaDoor
