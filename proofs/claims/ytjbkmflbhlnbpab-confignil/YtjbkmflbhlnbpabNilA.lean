/- What a plan that is nil answers. -/
import Derived.Test.YtjbkmflbhlnbpabAwake
namespace Go.Proofs.Ytjbkmflbhlnbpab
open Go.RowKit

theorem nshards (w : World) : Calls Try.prog 5 #[.pointer none] w fun e w' => e = .returned (.int .i64 0) ∧ w' = w := by
  go_enter Try.func5, Try.ntmps5
  go_wp2
  go_ret
  exact ⟨rfl, rfl⟩
theorem nl0 (w : World) : Calls Try.prog 8 #[.pointer none] w fun e w' => e = .returned (.int .i64 0) ∧ w' = w := by
  go_enter Try.func8, Try.ntmps8
  go_wp2
  go_ret
  exact ⟨rfl, rfl⟩
theorem nrules (w : World) : Calls Try.prog 7 #[.pointer none] w fun e w' => e = .returned (.int .i64 0) ∧ w' = w := by
  have k1 := nl0 w
  have k2 := nshards w
  go_enter Try.func7, Try.ntmps7
  go_wp2_with fail
  refine (k1).mono ?_
  rintro e w9 ⟨rfl, hw⟩
  subst w9
  go_wp2_with fail
  refine (k2).mono ?_
  rintro e w9 ⟨rfl, hw⟩
  subst w9
  go_wp2
  go_ret
  exact ⟨rfl, rfl⟩
theorem nlanes (w : World) : Calls Try.prog 6 #[.pointer none] w fun e w' => e = .returned (.int .i64 1) ∧ w' = w := by
  have k1 := nrules w
  go_enter Try.func6, Try.ntmps6
  go_wp2_with fail
  refine (k1).mono ?_
  rintro e w9 ⟨rfl, hw⟩
  subst w9
  go_wp2
  go_ret
  exact ⟨rfl, rfl⟩
theorem nshard (x : Nat) (w : World) : Calls Try.prog 9 #[.pointer none, .float .f64 x] w fun e w' => e = .returned (.int .i64 0) ∧ w' = w := by
  go_enter Try.func9, Try.ntmps9
  go_wp2
  go_ret
  exact ⟨rfl, rfl⟩
theorem nall (w : World) : Calls Try.prog 15 #[.pointer none] w fun e w' => e = .returned (.int .u64 0) ∧ w' = w := by
  go_enter Try.func15, Try.ntmps15
  go_wp2
  go_ret
  exact ⟨rfl, rfl⟩
theorem nnode (i : Int) (w : World) : Calls Try.prog 14 #[.pointer none, .int .i64 i] w fun e w' => e = .returned (.bool false) ∧ w' = w := by
  go_enter Try.func14, Try.ntmps14
  go_wp2
  go_ret
  exact ⟨rfl, rfl⟩
theorem nlabel (i : Int) (w : World) : Calls Try.prog 12 #[.pointer none, .int .i64 i] w fun e w' => e = .returned (.int .i64 (-1)) ∧ w' = w := by
  go_enter Try.func12, Try.ntmps12
  go_wp2
  go_ret
  exact ⟨rfl, rfl⟩
theorem in_no (i : Int) (w : World) : Calls Try.prog 22 #[.int .i64 i, .int .i64 0, .int .i64 (-1)] w fun e w' => e = .returned (.bool false) ∧ w' = w :=
  (in_any i 0 (-1) w).mono fun e w' ⟨h, hw⟩ => ⟨h.trans (by congr 2; by_cases h0 : (0 : Int) ≤ i <;> simp [h0]; omega), hw⟩
theorem npart (i : Int) (w : World) : Calls Try.prog 13 #[.pointer none, .int .i64 i] w fun e w' => e = .returned (.int .i64 (-1)) ∧ w' = w := by
  have k1 := nrules w
  have k2 := in_no i w
  go_enter Try.func13, Try.ntmps13
  go_wp2_with fail
  refine (k1).mono ?_
  rintro e w9 ⟨rfl, hw⟩
  subst w9
  go_wp2_with fail
  refine (k2).mono ?_
  rintro e w9 ⟨rfl, hw⟩
  subst w9
  go_wp2
  go_ret
  exact ⟨rfl, rfl⟩
theorem nlane (i : Int) (w : World) : Calls Try.prog 10 #[.pointer none, .int .i64 i, .int .i64 0] w fun e w' => e = .returned (.int .i64 (-1)) ∧ w' = w := by
  have k1 := nl0 w
  have k2 := in_no i w
  go_enter Try.func10, Try.ntmps10
  go_wp2_with fail
  refine (k1).mono ?_
  rintro e w9 ⟨rfl, hw⟩
  subst w9
  go_wp2_with fail
  refine (k2).mono ?_
  rintro e w9 ⟨rfl, hw⟩
  subst w9
  go_wp2
  go_ret
  exact ⟨rfl, rfl⟩
theorem nchief (i : Int) (w : World) : Calls Try.prog 11 #[.pointer none, .int .i64 i] w fun e w' => e = .returned (.int .i64 (-1)) ∧ w' = w := by
  have k1 := nlane i w
  go_enter Try.func11, Try.ntmps11
  go_wp2_with fail
  refine (k1).mono ?_
  rintro e w9 ⟨rfl, hw⟩
  subst w9
  go_wp2
  go_ret
  exact ⟨rfl, rfl⟩
end Go.Proofs.Ytjbkmflbhlnbpab
