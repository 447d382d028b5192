/- The statement LabelOrders, walked. -/
import Derived.Test.YtggcfhebidjajaaOrderL
import Derived.Test.YtggcfhebidjajaaAwake
import Derived.Test.YtggcfhebidjajaaKnownWalk
namespace Go.Proofs.Ytggcfhebidjajaa
open Go.RowKit

set_option maxHeartbeats 1000000 in
theorem orders_walk (n : Int) (hn : (Lit.int .u8 n).wf = true) (ao : Option Addr) (cap : Nat) (l : List Nat) (w : World) (hb : ∀ x ∈ l, x < 256) (h : Came .u8 w ao l) :
    Calls Try.prog 4 #[.int .u8 n, .slice ao l.length cap] w fun e w' => e = .returned (.bool true) ∧ Fr (fun _ => False) w w' := by
  obtain ⟨n, rfl, hn'⟩ := byte_of hn
  go_enter Try.func4, Try.ntmps4
  go_wp2_with fail
  refine (awake_any w).mono ?_
  rintro e w1 ⟨rfl, f1⟩
  have h1 := order_all n hn' ao cap l w1 hb ⟨h.1, fun hne => by obtain ⟨b, off, rfl, hA⟩ := h.2 hne; exact ⟨b, off, rfl, hA.fr f1 (by simp)⟩⟩
  clear h
  go_wp2_with fail
  refine h1.mono ?_
  rintro e w2 ⟨g, L, rfl, hL1, hL2, hL3, hA, f2⟩
  clear h1
  cases hok : Lat.ok L with
  | false =>
    have h2 := new_bad g 0 L.length L w2 (by omega) hL1 hL3 hA hok
    unfold nilErr at h2
    go_wp2_with fail
    refine h2.mono ?_
    rintro e w3 ⟨rfl, f3⟩
    have h3 := check_any g 0 L.length L w3 (by omega) hL1 hL3 (hA.fr f3 (by simp))
    rw [hok] at h3
    simp only [Bool.false_eq_true, if_false] at h3
    clear hok h2
    go_wp2_with fail
    refine h3.mono ?_
    rintro e w4 ⟨rfl, hw⟩
    subst w4
    go_wp2
    go_ret
    exact ⟨rfl, (f1.trans f2).trans f3⟩
  | true =>
    have hF := fine_of L (by omega) hL1 hL3 hok
    have h2 := new_ok g 0 L.length L w2 (by omega) hL1 hL3 hA hok
    unfold madeAt at h2
    go_wp2_with fail
    refine h2.mono ?_
    rintro e w3 ⟨p, bu, cu, bd, bo, rfl, hL, _, _, _, _, f3⟩
    have hA3 := hA.fr f3 (by simp)
    have h3 := check_any g 0 L.length L w3 (by omega) hL1 hL3 hA3
    rw [hok] at h3
    simp only [if_true] at h3
    have h4 := told_any g 0 L.length p bu cu bd bo L w3 hF hA3 hL
    clear hok h2 hL hF
    go_wp2_with fail
    refine h3.mono ?_
    rintro e w4 ⟨rfl, hw⟩
    subst w4
    go_wp2_with fail
    refine h4.mono ?_
    rintro e w4 ⟨rfl, f4⟩
    go_wp2
    go_ret
    exact ⟨rfl, (f1.trans f2).trans (f3.trans f4)⟩
end Go.Proofs.Ytggcfhebidjajaa
