/- The document's own look at labels, as it is written: what each of its functions answers. -/
import Derived.Test.YtjbkmflbhlnbpabTurn
namespace Go.Proofs.Ytjbkmflbhlnbpab
open Go.RowKit

theorem leq_out (l : List Nat) (x y : Int) (h : x < 0 ∨ y < 0 ∨ l.length ≤ x ∨ l.length ≤ y) : Lat.leq l x y = false := by
  unfold Lat.leq
  rcases h with h | h | h | h
  · rw [show decide (0 ≤ x) = false by simpa using h]; rfl
  · rw [show decide (0 ≤ y) = false by simpa using h, Bool.and_false]; rfl
  · rw [show decide (x < (l.length : Int)) = false by simpa using h, Bool.and_false]; rfl
  · rw [show decide (y < (l.length : Int)) = false by simpa using h, Bool.and_false]; rfl
theorem leq_in (l : List Nat) (x y : Nat) (hx : x < l.length) (hy : y < l.length) : Lat.leq l (x : Int) (y : Int) = Lat.rel l x y := by
  unfold Lat.leq
  simp [hx, hy]
end Go.Proofs.Ytjbkmflbhlnbpab
