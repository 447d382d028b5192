/- The document's whole look: 0, 1 or 15. -/
import Derived.Test.YtjbkmflbhlnbpabRef
import Derived.Deep.Cut
import Derived.Deep.CutRange
namespace Go.Proofs.Ytjbkmflbhlnbpab
open Go.RowKit

def Lat.tr (l : List Nat) (a b c : Nat) : Bool := !(Lat.rel l a b && Lat.rel l b c) || Lat.rel l a c
end Go.Proofs.Ytjbkmflbhlnbpab
