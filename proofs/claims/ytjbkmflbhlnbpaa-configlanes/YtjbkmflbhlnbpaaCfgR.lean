/- A plan made of a config whose cuts rise. -/
import Derived.Test.YtjbkmflbhlnbpaaCfgC
namespace Go.Proofs.Ytjbkmflbhlnbpaa
open Go.RowKit

set_option maxHeartbeats 1000000 in
theorem bounded_draw (up : Value) (ao : Option Addr) (n cap : Nat) (nodes frame depth quota wide beat elect : Int) (w : World) (h1 : 1 ≤ nodes ∧ nodes ≤ 7) (hn : n < 8) (hr : ∀ W, Fr (fun _ => False) w W → Calls Try.prog 48 #[.slice ao n cap] W fun e w' => e = .returned (.bool true) ∧ ∃ q, w' = W.drewN q)
    (h2 : 64 ≤ frame ∧ frame ≤ 4096) (h3 : 1 ≤ depth ∧ depth ≤ 65536) (h4 : 1 ≤ quota ∧ quota ≤ 268435456) (h5 : 0 ≤ wide ∧ wide ≤ 256) (h6 : 1 ≤ beat) (h7 : beat < elect) (h8 : elect ≤ 1000) :
    Calls Try.prog 32 #[.agg (cfg up nodes (.slice ao n cap) frame depth quota wide beat elect)] w fun e w' => e = .returned (.bool true) ∧ Fr (fun _ => False) w w' := by
  have k1 := fun w => in_yes nodes 1 7 w h1.1 h1.2
  have k2 := fun w => in_yes frame 64 4096 w h2.1 h2.2
  have k3 := fun w => in_yes depth 1 65536 w h3.1 h3.2
  have k4 := fun w => in_yes quota 1 268435456 w h4.1 h4.2
  have k5 := fun w => in_yes wide 0 256 w h5.1 h5.2
  have H1 : Hid _ := k1
  have H2 : Hid _ := k2
  have H3 : Hid _ := k3
  have H4 : Hid _ := k4
  have H5 : Hid _ := k5
  have HR : Hid _ := hr
  have hn' : (n : Int) < 8 := by omega
  clear k1 k2 k3 k4 k5 hr h1 h2 h3 h4 h5
  unfold cfg
  go_enter Try.func32, Try.ntmps32
  go_wp2_with fail
  refine (H1.out _).mono ?_
  rintro e w2 ⟨rfl, hw⟩
  subst w2
  go_wp2_with fail
  refine (HR.out _ ((Fr.refl _ _).alloc _)).mono ?_
  rintro e w2 ⟨rfl, q, hw⟩
  subst w2
  go_wp2_with fail
  refine (H2.out _).mono ?_
  rintro e w2 ⟨rfl, hw⟩
  subst w2
  go_wp2_with fail
  refine (H3.out _).mono ?_
  rintro e w2 ⟨rfl, hw⟩
  subst w2
  go_wp2_with fail
  refine (H4.out _).mono ?_
  rintro e w2 ⟨rfl, hw⟩
  subst w2
  go_wp2_with fail
  refine (H5.out _).mono ?_
  rintro e w2 ⟨rfl, hw⟩
  subst w2
  go_wp2
  go_ret
  exact ⟨ret_bool (by simp), ((Fr.refl _ _).alloc _).drewN _⟩


end Go.Proofs.Ytjbkmflbhlnbpaa
