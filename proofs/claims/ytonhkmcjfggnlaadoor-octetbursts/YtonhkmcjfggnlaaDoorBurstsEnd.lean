/- The statement OctetBursts' walk, at the model's own numbers. -/
import Derived.Test.YtonhkmcjfggnlaaDoorBurstsWalk
namespace Go.Proofs.YtonhkmcjfggnlaaDoor
open Go.RowKit
theorem bursts_ints (ao : Option Addr) (l : List Nat) (cap : Nat) (a p : Int) (w : World) (ht : Tab w) (hr : Row w ao l cap) (ha : (Lit.int .u16 a).wf = true) (hp : (Lit.int .u32 p).wf = true) :
    Calls Tryd.prog 7 #[.slice ao l.length cap, .int .u16 a, .int .u32 p] w fun e w' => e = .returned (.bool true) ∧ Fr (fun _ => False) w w' := by
  simp [Lit.wf, IntKind.min, IntKind.max, IntKind.signed, IntKind.bits] at ha hp
  obtain ⟨n, rfl⟩ := Int.eq_ofNat_of_zero_le ha.1
  obtain ⟨m, rfl⟩ := Int.eq_ofNat_of_zero_le hp.1
  exact bursts_walk ao l cap n m w ht hr (by omega) (by omega)
end Go.Proofs.YtonhkmcjfggnlaaDoor
