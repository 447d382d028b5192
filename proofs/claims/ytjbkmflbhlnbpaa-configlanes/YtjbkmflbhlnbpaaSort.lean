/- The library's sorting by a comparison of the caller's own, laid at this program. -/
import Derived.Test.YtjbkmflbhlnbpaaOnes
import Derived.Shelf.SlSortCmp.NoneTotal
import Derived.Shelf.SlicesG.Cmp
import Derived.Shelf.Lay
import Derived.Ground.SlsfProg
import Derived.Ground.SlgcProg
import Derived.Lib.RowBridge
import Derived.Lib.SortBridge
namespace Go.Proofs
open Go.Shelf
shelf_lay_g SlLaysF.n6 Slsf 6 at Try 60 as Try.sortL
shelf_lay_g SlLaysC2.n5 Slgc 5 at Try 63 as Try.cmpL
end Go.Proofs
