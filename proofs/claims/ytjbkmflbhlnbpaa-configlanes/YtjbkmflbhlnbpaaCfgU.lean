/- A plan made of a right config, whatever its cuts that rise. -/
import Derived.Test.YtjbkmflbhlnbpaaCfgQ
import Derived.Test.YtjbkmflbhlnbpaaCfgS
import Derived.Test.YtjbkmflbhlnbpaaCfgT
import Derived.Test.YtjbkmflbhlnbpaaCfgN
namespace Go.Proofs.Ytjbkmflbhlnbpaa
open Go.RowKit

theorem cnew_all (g c nd : Nat) (L cl : List Nat) (ao : Option Addr) (cap : Nat) (w : World) (hF : 0 < L.length ∧ L.length ≤ 16 ∧ (∀ x ∈ L, x < 18446744073709551616) ∧ Lat.ok L = true) (hnd : 1 ≤ nd ∧ nd ≤ 7) (hA : At .u64 w g 0 L) (hf : FRow w ao cl cap) (hn : cl.length ≤ 7) (hr : Rises cl) (hnone : ao = none → cap = 0) :
    Calls Try.prog 10 #[.agg (cfg (.slice (some ⟨g, 0, none⟩) L.length c) (nd : Int) (.slice ao cl.length cap) 128 512 1048576 8 2 4)] w fun e w' => ∃ p a2 c2 cp, e = madeAt p ∧ PlanAt w' p L (nd : Int) (.slice a2 cl.length c2) ∧ FRow w' a2 cl cp ∧ Fr (fun _ => False) w w' := by
  obtain ⟨h1, h2, h3, h4⟩ := hF
  by_cases hl : cl = []
  · subst hl
    cases ao with
    | none =>
      have := hnone rfl
      subst this
      exact (cnew_none g 0 c L (nd : Int) 128 512 1048576 8 2 4 w (by omega) (by omega) (by omega) (by omega) (by omega) (by omega) (by omega) (by omega) h2 h1 h3 hA h4).mono fun e w' ⟨p, he, hP, _, hfr⟩ => ⟨p, none, 0, 0, he, hP, ⟨Nat.le_refl _, Nat.zero_le _, by simp, fun h => absurd rfl h⟩, hfr⟩
    | some ad =>
      refine (cnew_empty g 0 c ad cap L (nd : Int) 128 512 1048576 8 2 4 w (by omega) (fun W fW => ?_) (by omega) (by omega) (by omega) (by omega) (by omega) (by omega) (by omega) h2 h1 h3 hA h4).mono fun e w' ⟨p, g2, c2, he, hP, _, hfr⟩ => ⟨p, _, c2, 0, he, hP, ⟨Nat.le_refl _, Nat.zero_le _, by simp, fun h => absurd rfl h⟩, hfr⟩
      have := rising_nil (some ad) cap W
      rw [rises_yes hr] at this
      exact this
  · obtain ⟨b, off, rfl, hc⟩ := hf.2.2.2 hl
    refine (cnew_cuts g 0 c b off cap L cl (nd : Int) 128 512 1048576 8 2 4 w (by omega) (by omega) (List.length_pos_iff.2 hl) (fun W fW => ?_) (by omega) (by omega) (by omega) (by omega) (by omega) (by omega) (by omega) h2 h1 h3 hA h4 hc).mono fun e w' ⟨p, g2, c2, he, hP, hAF, _, hfr⟩ => ⟨p, _, c2, cl.length, he, hP, ⟨Nat.le_refl _, by unfold maxLen; omega, hf.2.2.1, fun _ => ⟨g2, 0, rfl, hAF⟩⟩, hfr⟩
    have := rising_any (some ⟨b, off, none⟩) cl cap W (hf.fr fW)
    rw [rises_yes hr] at this
    exact this
end Go.Proofs.Ytjbkmflbhlnbpaa
