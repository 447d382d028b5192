/- The statement LogsFits, walked: near or far. -/
import Derived.Test.YtkkpdnholnkeoabFitsX
import Derived.Test.YtkkpdnholnkeoabFitsY
namespace Go.Proofs.Ytkkpdnholnkeoab
open Go.RowKit

theorem fits_any (n : Nat) (a1 : Option Addr) (terms : List Nat) (c1 : Nat) (a2 : Option Addr) (kinds : List Nat) (c2 : Nat) (i t : Nat) (near : Bool) (w : World) (hn : n < 256) (h1 : Row w a1 terms c1) (h2 : Row w a2 kinds c2) (hi : i < 18446744073709551616) (ht : t < 18446744073709551616) :
    Calls Try.prog 6 #[.int .u8 (n : Int), .slice a1 terms.length c1, .slice a2 kinds.length c2, .int .u64 (i : Int), .int .u64 (t : Int), .bool near] w fun e w' => e = .returned (.bool true) ∧ Fr (fun _ => False) w w' := by
  cases near
  · exact fits_far n a1 terms c1 a2 kinds c2 i t w hn h1 h2 hi ht
  · exact fits_near n a1 terms c1 a2 kinds c2 i t w hn h1 h2 hi ht
end Go.Proofs.Ytkkpdnholnkeoab
