/- The statement WalBytes, walked. -/
import Derived.Test.YtlcakglmheleeaaDoorWBytesA
import Derived.Test.YtlcakglmheleeaaDoorWBytesB
import Derived.Test.YtlcakglmheleeaaDoorWBytesC
import Derived.Test.YtlcakglmheleeaaDoorWBytesD
namespace Go.Proofs.YtlcakglmheleeaaDoor
open Go.RowKit

theorem wbytes_walk (hd : Bool) (t : Nat) (v : Int) (ra : Option Addr) (rs : List Rc) (rc : Nat) (s : Rc) (w : World) (ht : Tab w) (hrr : RRow w ra rs rc) (hs : RcG w s) (ht64 : t < 18446744073709551616) (hv : -32768 ≤ v ∧ v < 32768) :
    Calls Tryd.prog 4 #[.bool hd, .int .u64 (t : Int), .int .i16 v, .slice ra rs.length rc, .agg #[.int .u8 (s.k : Int), .int .u64 (s.a : Int), .int .u64 (s.b : Int), .int .i16 s.v, .slice s.p s.d.length s.c]] w fun e w' => e = .returned (.bool true) ∧ Fr (fun _ => False) w w' := by
  by_cases h1 : shortB rs = true
  · by_cases h2 : 200 < s.d.length
    · exact wbytes_short hd t v ra rs rc s w ht hrr hs (.inr ⟨h1, h2⟩)
    · by_cases hn : v < -1
      · cases hd with
        | true => exact wbytes_hn t v ra rs rc s w ht hrr hs h1 h2 ht64 hn hv.1 hv.2
        | false => exact wbytes_on t v ra rs rc s w ht hrr hs h1 h2 ht64 hn hv.1 hv.2
      · cases hd with
        | true => exact wbytes_hp t v ra rs rc s w ht hrr hs h1 h2 ht64 hn hv.1 hv.2
        | false => exact wbytes_op t v ra rs rc s w ht hrr hs h1 h2 ht64 hn hv.1 hv.2
  · exact wbytes_short hd t v ra rs rc s w ht hrr hs (.inl (by simpa using h1))
end Go.Proofs.YtlcakglmheleeaaDoor
