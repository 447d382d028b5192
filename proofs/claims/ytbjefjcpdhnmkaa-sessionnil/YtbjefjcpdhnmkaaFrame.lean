/- How arguments are opened. -/
import Derived.Test.YtbjefjcpdhnmkaaBase
import Derived.ProofKit
import Derived.OpenShut
import Derived.Lay
import Derived.ChangeOld
import Derived.Deep.Slices
import Derived.Laws.Cover2
namespace Go.Proofs.Ytbjefjcpdhnmkaa
open Go.ChangeShapes Go.WideShapes Go.ChangeAt Go.RowKit
theorem ownK : ownKnob Try.prog.godebug = none := by kernel_rfl
theorem laidOut : laidOutB Try.prog = true := by kernel_rfl
end Go.Proofs.Ytbjefjcpdhnmkaa
