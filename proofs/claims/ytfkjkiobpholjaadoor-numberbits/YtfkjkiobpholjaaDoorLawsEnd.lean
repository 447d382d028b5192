/- The statements' walks at the model's own whole numbers. -/
import Derived.Test.YtfkjkiobpholjaaDoorLaws
import Derived.Test.YtfkjkiobpholjaaDoorFrame
namespace Go.Proofs.YtfkjkiobpholjaaDoor
open Go.RowKit
theorem ranks_ints (a : Nat) (n : Int) (w : World) (ht : Tabs w) (ha : a < 18446744073709551616) (hn : (Lit.int .u64 n).wf = true) : Calls Tryd.prog 4 #[.float .f64 a, .int .u64 n] w fun e w' => e = .returned (.bool true) ∧ Fr (fun _ => False) w w' := by
  obtain ⟨m, rfl, hm⟩ := u64_lt hn
  exact ranks_walk a m w ht ha hm
theorem bits_ints (n : Int) (w : World) (ht : Tabs w) (hn : (Lit.int .u64 n).wf = true) : Calls Tryd.prog 5 #[.int .u64 n] w fun e w' => e = .returned (.bool true) ∧ Fr (fun _ => False) w w' := by
  obtain ⟨m, rfl, hm⟩ := u64_lt hn
  exact bits_walk m w ht hm
end Go.Proofs.YtfkjkiobpholjaaDoor
