/- The document's examples hold: the first nought stands ahead of the second, draws, and a text. -/
import Derived.Test.YtkabmjeeficfhaaDoorTextD
namespace Go.Proofs.YtkabmjeeficfhaaDoor
open Go.RowKit
set_option maxHeartbeats 1000000 in
theorem draw_a (w : World) : Calls Tryd.prog 4 #[.float .f64 4602678819172646912, .int .i64 10] w fun e w' => e = .returned (.int .i64 5) ∧ w' = w := by
  have o1 : (FloatKind.f64.format.order 4602678819172646912 0 == some Ordering.gt) = true := by decide +kernel
  have h1 : ∀ w, (Builtin.min_ #[22, 22] 22 #[.float .f64 4602678819172646912, .float .f64 4607182418800017407]).run Tryd.prog w = .ok (.float .f64 4602678819172646912) w := fun _ => by kernel_rfl
  have h2 : ∀ w, (convert 3 22 (.int .i64 10)).run Tryd.prog w = .ok (.float .f64 4621819117588971520) w := fun _ => by kernel_rfl
  have h3 : ∀ w, (binOp .mul 22 (.float .f64 4602678819172646912) (.float .f64 4621819117588971520)).run Tryd.prog w = .ok (.float .f64 4617315517961601024) w := fun _ => by kernel_rfl
  have h4 : ∀ w, (convert 22 3 (.float .f64 4617315517961601024)).run Tryd.prog w = .ok (.int .i64 5) w := fun _ => by kernel_rfl
  go_enter Tryd.func4, Tryd.ntmps4
  go_wp2
  go_ret
  exact ⟨rfl, rfl⟩
set_option maxHeartbeats 1000000 in
theorem draw_b (w : World) : Calls Tryd.prog 4 #[.float .f64 9221120237041090561, .int .i64 10] w fun e w' => e = .returned (.int .i64 0) ∧ w' = w := by
  have o1 : (FloatKind.f64.format.order 9221120237041090561 0 == some Ordering.gt) = false := by decide +kernel
  have h2 : ∀ w, (convert 3 22 (.int .i64 10)).run Tryd.prog w = .ok (.float .f64 4621819117588971520) w := fun _ => by kernel_rfl
  have h3 : ∀ w, (binOp .mul 22 (.float .f64 0) (.float .f64 4621819117588971520)).run Tryd.prog w = .ok (.float .f64 0) w := fun _ => by kernel_rfl
  have h4 : ∀ w, (convert 22 3 (.float .f64 0)).run Tryd.prog w = .ok (.int .i64 0) w := fun _ => by kernel_rfl
  go_enter Tryd.func4, Tryd.ntmps4
  go_wp2
  go_ret
  exact ⟨rfl, rfl⟩
set_option maxHeartbeats 1000000 in
theorem nan_a (w : World) : Calls Tryd.prog 9 #[] w fun e w' => e = .returned (.float .f64 9221120237041090561) ∧ w' = w := by
  have h1 : ∀ w, (callFunc 12 #[.int .u64 9221120237041090561]).run Tryd.prog w = .ok (.value (.float .f64 9221120237041090561)) w := fun _ => by kernel_rfl
  go_enter Tryd.func9, Tryd.ntmps9
  go_wp2
  go_ret
  exact ⟨rfl, rfl⟩
set_option maxHeartbeats 1000000 in
theorem copysign_a (w : World) : Calls Tryd.prog 8 #[.float .f64 0, .float .f64 13830554455654793216] w fun e w' => e = .returned (.float .f64 9223372036854775808) ∧ w' = w := by
  have h1 : ∀ w, (callFunc 13 #[.float .f64 0]).run Tryd.prog w = .ok (.value (.int .u64 0)) w := fun _ => by kernel_rfl
  have h2 : ∀ w, (callFunc 13 #[.float .f64 13830554455654793216]).run Tryd.prog w = .ok (.value (.int .u64 13830554455654793216)) w := fun _ => by kernel_rfl
  have h3 : ∀ w, (callFunc 12 #[.int .u64 9223372036854775808]).run Tryd.prog w = .ok (.value (.float .f64 9223372036854775808)) w := fun _ => by kernel_rfl
  have e1 : bits .andNot .u64 0 9223372036854775808 = 0 := by decide +kernel
  have e2 : bits .and .u64 13830554455654793216 9223372036854775808 = 9223372036854775808 := by decide +kernel
  have e3 : bits .or .u64 0 9223372036854775808 = 9223372036854775808 := by decide +kernel
  go_enter Tryd.func8, Tryd.ntmps8
  go_wp2
  go_ret
  exact ⟨rfl, rfl⟩
set_option maxHeartbeats 1000000 in
theorem less_a (w : World) : Calls Tryd.prog 7 #[.float .f64 9223372036854775808, .float .f64 0] w fun e w' => e = .returned (.bool true) ∧ w' = w := by
  have h1 : ∀ w, (callFunc 13 #[.float .f64 0]).run Tryd.prog w = .ok (.value (.int .u64 0)) w := fun _ => by kernel_rfl
  have h2 : ∀ w, (callFunc 13 #[.float .f64 9223372036854775808]).run Tryd.prog w = .ok (.value (.int .u64 9223372036854775808)) w := fun _ => by kernel_rfl
  have o1 : (FloatKind.f64.format.order 9223372036854775808 9223372036854775808 != some Ordering.eq) = false := by decide +kernel
  have o2 : (FloatKind.f64.format.order 0 0 != some Ordering.eq) = false := by decide +kernel
  have e1 : bits .and .u64 9223372036854775808 9223372036854775808 = 9223372036854775808 := by decide +kernel
  have e2 : bits .and .u64 0 9223372036854775808 = 0 := by decide +kernel
  have e3 : bits .or .u64 0 9223372036854775808 = 9223372036854775808 := by decide +kernel
  have e4 : bits .xor .u64 IntKind.u64.max 9223372036854775808 = 9223372036854775807 := by decide +kernel
  go_enter Tryd.func7, Tryd.ntmps7
  go_wp2
  go_ret
  exact ⟨rfl, rfl⟩
set_option maxHeartbeats 1000000 in
theorem awake_any (w : World) (ht : Tabs w) : Calls Tryd.prog 5 #[] w fun e w' => e = .returned (.bool true) ∧ Fr (fun _ => False) w w' := by
  go_enter Tryd.func5, Tryd.ntmps5
  go_wp2_with fail
  refine (copysign_a w).mono ?_
  rintro e w1 ⟨rfl, hw⟩
  subst w1
  go_wp2_with fail
  refine (less_a w).mono ?_
  rintro e w1 ⟨rfl, hw⟩
  subst w1
  go_wp2_with fail
  refine (draw_a w).mono ?_
  rintro e w1 ⟨rfl, hw⟩
  subst w1
  go_wp2_with fail
  refine (nan_a w).mono ?_
  rintro e w1 ⟨rfl, hw⟩
  subst w1
  go_wp2_with fail
  refine (draw_b w).mono ?_
  rintro e w1 ⟨rfl, hw⟩
  subst w1
  go_wp2_with fail
  refine (text_a w ht).mono ?_
  rintro e w1 ⟨rfl, f1⟩
  go_wp2
  go_ret
  exact ⟨rfl, f1⟩
end Go.Proofs.YtkabmjeeficfhaaDoor
