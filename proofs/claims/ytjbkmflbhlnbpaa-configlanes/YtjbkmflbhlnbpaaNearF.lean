/- A whole number as a float is a pattern of 64 bits. -/
import Derived.Test.YtjbkmflbhlnbpaaFl
import Derived.Laws.Cover2
namespace Go.Proofs.Ytjbkmflbhlnbpaa

theorem word_lt (neg : Bool) (r : Nat) (h : r ≤ FloatKind.f64.format.infRung) : FloatKind.f64.format.word neg r < 18446744073709551616 := by
  have h2 : FloatKind.f64.format.infRung = 9218868437227405312 := by decide
  have h3 : FloatKind.f64.format.signWeight = 9223372036854775808 := by decide
  rw [h2] at h
  unfold Ieee.Format.word
  rw [h3]
  split <;> omega
theorem floatOfInt_lt (n : Int) : floatOfInt .f64 n < 18446744073709551616 := by
  have : floatOfInt .f64 n = FloatKind.f64.format.nearest (decide (n < 0)) n.natAbs 0 := rfl
  rw [this]
  unfold Ieee.Format.nearest
  split
  · exact word_lt _ _ (Nat.zero_le _)
  · exact word_lt _ _ (Nat.min_le_right _ _)
end Go.Proofs.Ytjbkmflbhlnbpaa
