/- numbers that float: what the program's functions answer, over their bits. -/
import Derived.Test.YtkabmjeeficfhaaDoorRows
import Derived.WalkKit
import Derived.WalkLawsBesides
import Derived.Below
namespace Go.Proofs.YtkabmjeeficfhaaDoor
open Go.RowKit
theorem f64bits (b : Nat) (w : World) : (callFunc 13 #[.float .f64 b]).run Tryd.prog w = .ok (.value (.int .u64 (b : Int))) w := by kernel_rfl
theorem frombits (b : Nat) (w : World) : (callFunc 12 #[.int .u64 (b : Int)]).run Tryd.prog w = .ok (.value (.float .f64 b)) w := by kernel_rfl
end Go.Proofs.YtkabmjeeficfhaaDoor
