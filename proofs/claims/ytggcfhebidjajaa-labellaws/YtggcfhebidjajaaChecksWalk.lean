/- The statement LabelChecks, walked: whatever the labels, it answers true and writes nothing that was there. -/
import Derived.Test.YtggcfhebidjajaaTold
import Derived.Test.YtggcfhebidjajaaAwake
namespace Go.Proofs.Ytggcfhebidjajaa
open Go.RowKit

set_option maxHeartbeats 400000 in
theorem check_arg (ao : Option Addr) (n cap : Nat) (w : World) (h : n = 0 ∨ 16 < n) (hm : n ≤ maxLen) :
    Calls Try.prog 11 #[.slice ao n cap] w fun e w' => e = .returned (.int .i64 1) ∧ w' = w := by
  unfold maxLen at hm
  rcases h with rfl | h
  · go_enter Try.func11, Try.ntmps11
    go_wp2
    go_ret
    exact ⟨rfl, rfl⟩
  · have h0 : ¬ (n : Int) < 1 := by omega
    go_enter Try.func11, Try.ntmps11
    go_wp2
    go_ret
    exact ⟨rfl, rfl⟩
set_option maxHeartbeats 1000000 in
theorem checks_many (ao : Option Addr) (n cap : Nat) (w : World) (h : 20 < n) (hm : n ≤ maxLen) :
    Calls Try.prog 3 #[.slice ao n cap] w fun e w' => e = .returned (.bool true) ∧ Fr (fun _ => False) w w' := by
  unfold maxLen at hm
  go_enter Try.func3, Try.ntmps3
  go_wp2_with fail
  refine (awake_any w).mono ?_
  rintro e w1 ⟨rfl, f1⟩
  go_wp2_with fail
  refine (awake_any w1).mono ?_
  rintro e w2 ⟨rfl, f2⟩
  go_wp2
  go_ret
  exact ⟨rfl, f1.trans f2⟩
set_option maxHeartbeats 1000000 in
theorem checks_arg (ao : Option Addr) (n cap : Nat) (w : World) (h : n = 0 ∨ 16 < n) (hm : n ≤ 20) :
    Calls Try.prog 3 #[.slice ao n cap] w fun e w' => e = .returned (.bool true) ∧ Fr (fun _ => False) w w' := by
  have h1 := fun w => new_arg ao n cap w h (by unfold maxLen; omega)
  have h2 := fun w => check_arg ao n cap w h (by unfold maxLen; omega)
  clear h
  unfold nilErr at h1
  go_enter Try.func3, Try.ntmps3
  go_wp2_with fail
  refine (awake_any w).mono ?_
  rintro e w1 ⟨rfl, f1⟩
  go_wp2_with fail
  refine (h1 w1).mono ?_
  rintro e w2 ⟨rfl, hw⟩
  subst w2
  go_wp2_with fail
  refine (h2 w1).mono ?_
  rintro e w2 ⟨rfl, hw⟩
  subst w2
  go_wp2
  go_ret
  exact ⟨rfl, f1⟩
set_option maxHeartbeats 1000000 in
theorem checks_bad (b off cap : Nat) (l : List Nat) (w : World) (hl : l.length ≤ 16) (hl0 : 0 < l.length) (hb : ∀ x ∈ l, x < 18446744073709551616) (hc : At .u64 w b off l) (hok : Lat.ok l = false) :
    Calls Try.prog 3 #[.slice (some ⟨b, off, none⟩) l.length cap] w fun e w' => e = .returned (.bool true) ∧ Fr (fun _ => False) w w' := by
  go_enter Try.func3, Try.ntmps3
  go_wp2_with fail
  refine (awake_any w).mono ?_
  rintro e w1 ⟨rfl, f1⟩
  have hc1 := hc.fr f1 (by simp)
  have h1 := new_bad b off cap l w1 hl hl0 hb hc1 hok
  unfold nilErr at h1
  go_wp2_with fail
  refine h1.mono ?_
  rintro e w2 ⟨rfl, f2⟩
  have h2 := check_any b off cap l w2 hl hl0 hb (hc1.fr f2 (by simp))
  rw [hok] at h2
  simp only [Bool.false_eq_true, if_false] at h2
  clear hok h1
  go_wp2_with fail
  refine h2.mono ?_
  rintro e w3 ⟨rfl, hw⟩
  subst w3
  go_wp2
  go_ret
  exact ⟨rfl, f1.trans f2⟩
set_option maxHeartbeats 1000000 in
theorem checks_ok (b off cap : Nat) (l : List Nat) (w : World) (hl : l.length ≤ 16) (hl0 : 0 < l.length) (hb : ∀ x ∈ l, x < 18446744073709551616) (hc : At .u64 w b off l) (hok : Lat.ok l = true) :
    Calls Try.prog 3 #[.slice (some ⟨b, off, none⟩) l.length cap] w fun e w' => e = .returned (.bool true) ∧ Fr (fun _ => False) w w' := by
  have hF := fine_of l hl hl0 hb hok
  go_enter Try.func3, Try.ntmps3
  go_wp2_with fail
  refine (awake_any w).mono ?_
  rintro e w1 ⟨rfl, f1⟩
  have hc1 := hc.fr f1 (by simp)
  have h1 := new_ok b off cap l w1 hl hl0 hb hc1 hok
  unfold madeAt at h1
  go_wp2_with fail
  refine h1.mono ?_
  rintro e w2 ⟨p, bu, cu, bd, bo, rfl, hL, _, _, _, _, f2⟩
  have hc2 := hc1.fr f2 (by simp)
  have h2 := check_any b off cap l w2 hl hl0 hb hc2
  rw [hok] at h2
  simp only [if_true] at h2
  have h3 := told_any b off cap p bu cu bd bo l w2 hF hc2 hL
  clear hok h1 hL hF
  go_wp2_with fail
  refine h2.mono ?_
  rintro e w3 ⟨rfl, hw⟩
  subst w3
  go_wp2_with fail
  refine h3.mono ?_
  rintro e w3 ⟨rfl, f3⟩
  go_wp2
  go_ret
  exact ⟨rfl, (f1.trans f2).trans f3⟩
/-- NUMBERS THAT CAME IN. -/
def Came (k : IntKind) (w : World) (ao : Option Addr) (l : List Nat) : Prop := l.length ≤ maxLen ∧ (l ≠ [] → ∃ b off, ao = some ⟨b, off, none⟩ ∧ At k w b off l)
theorem checks_walk (ao : Option Addr) (cap : Nat) (l : List Nat) (w : World) (hb : ∀ x ∈ l, x < 18446744073709551616) (h : Came .u64 w ao l) :
    Calls Try.prog 3 #[.slice ao l.length cap] w fun e w' => e = .returned (.bool true) ∧ Fr (fun _ => False) w w' := by
  by_cases h1 : 20 < l.length
  · exact checks_many ao l.length cap w h1 h.1
  by_cases h2 : l.length = 0 ∨ 16 < l.length
  · exact checks_arg ao l.length cap w h2 (by omega)
  obtain ⟨b, off, rfl, hA⟩ := h.2 (fun e => by rw [e] at h2; simp at h2)
  cases hok : Lat.ok l with
  | true => exact checks_ok b off cap l w (by omega) (by omega) hb hA hok
  | false => exact checks_bad b off cap l w (by omega) (by omega) hb hA hok
end Go.Proofs.Ytggcfhebidjajaa
