/- The statement NumberUnits, walked: whatever the number, it answers true and writes nothing that was there. -/
import Derived.Test.YtfkjkiobpholjaaDoorLaws
namespace Go.Proofs.YtfkjkiobpholjaaDoor
open Go.RowKit

theorem ord_pos (x c : Nat) (hx : x < 9223372036854775808) (hc : c < 9223372036854775808) (nx : Fl.nanB x = false) (nc : Fl.nanB c = false) : FloatKind.f64.format.order x c = some (compare (x : Int) (c : Int)) := by
  show Ieee.double.order x c = _
  rw [Fl.order_num x c nx nc, Fl.val_pos x hx, Fl.val_pos c hc]
  congr 1
  rcases Nat.lt_trichotomy x c with h | h | h
  · have := Fl.mag_lt h
    rw [Fl.cmp_lt (by omega), Fl.cmp_lt (by omega)]
  · subst h; rw [Fl.cmp_eq, Fl.cmp_eq]
  · have := Fl.mag_lt h
    rw [Fl.cmp_gt (by omega), Fl.cmp_gt (by omega)]
theorem ord_lt (x c : Nat) (hx : x < 9223372036854775808) (hc : c < 9223372036854775808) (nx : Fl.nanB x = false) (nc : Fl.nanB c = false) (h : x < c) : FloatKind.f64.format.order x c = some .lt := by
  rw [ord_pos x c hx hc nx nc, Fl.cmp_lt (by omega)]
theorem ord_gt (x c : Nat) (hx : x < 9223372036854775808) (hc : c < 9223372036854775808) (nx : Fl.nanB x = false) (nc : Fl.nanB c = false) (h : c < x) : FloatKind.f64.format.order x c = some .gt := by
  rw [ord_pos x c hx hc nx nc, Fl.cmp_gt (by omega)]
theorem ord_eq (x : Nat) (nx : Fl.nanB x = false) : FloatKind.f64.format.order x x = some .eq := by
  show Ieee.double.order x x = _
  rw [Fl.order_num x x nx nx, Fl.cmp_eq]
theorem nan0 : Fl.nanB 0 = false := by decide +kernel
theorem nan1 : Fl.nanB 4607182418800017408 = false := by decide +kernel
theorem nanU : Fl.nanB 4607182418800017407 = false := by decide +kernel
theorem min_lt (x c : Nat) (w : World) (h : FloatKind.f64.format.order x c = some .lt) : (Builtin.min_ #[22, 22] 22 #[.float .f64 x, .float .f64 c]).run Tryd.prog w = .ok (.float .f64 x) w := by
  simp [Builtin.min_, Builtin.min2, h]
theorem min_gt (x c : Nat) (w : World) (h : FloatKind.f64.format.order x c = some .gt) : (Builtin.min_ #[22, 22] 22 #[.float .f64 x, .float .f64 c]).run Tryd.prog w = .ok (.float .f64 c) w := by
  simp [Builtin.min_, Builtin.min2, h]
theorem min_self (w : World) : (Builtin.min_ #[22, 22] 22 #[.float .f64 4607182418800017407, .float .f64 4607182418800017407]).run Tryd.prog w = .ok (.float .f64 4607182418800017407) w := by kernel_rfl

/-- what a number that isn't above 0 is held to. -/
theorem unit_low (x : Nat) (w : World) (h : (FloatKind.f64.format.order x 0 == some Ordering.gt) = false) : Calls Tryd.prog 26 #[.float .f64 x] w fun e w' => e = .returned (.float .f64 0) ∧ w' = w := by
  go_enter Tryd.func26, Tryd.ntmps26
  go_wp2
  go_ret
  exact ⟨rfl, rfl⟩
theorem unit_high (x u : Nat) (w : World) (h : (FloatKind.f64.format.order x 0 == some Ordering.gt) = true) (hm : ∀ w, (Builtin.min_ #[22, 22] 22 #[.float .f64 x, .float .f64 4607182418800017407]).run Tryd.prog w = .ok (.float .f64 u) w) : Calls Tryd.prog 26 #[.float .f64 x] w fun e w' => e = .returned (.float .f64 u) ∧ w' = w := by
  go_enter Tryd.func26, Tryd.ntmps26
  go_wp2
  go_ret
  exact ⟨rfl, rfl⟩
set_option maxHeartbeats 1000000 in
theorem units_low (x : Nat) (w : World) (ht : Tabs w) (h : (FloatKind.f64.format.order x 0 == some Ordering.gt) = false) (h1 : (FloatKind.f64.format.order x 4607182418800017408 == some Ordering.gt) = false) (h2 : (FloatKind.f64.format.order x 4607182418800017408 == some Ordering.eq) = false) : Calls Tryd.prog 8 #[.float .f64 x] w fun e w' => e = .returned (.bool true) ∧ Fr (fun _ => False) w w' := by
  have k1 : (FloatKind.f64.format.order 0 0 == some Ordering.gt) = false := by decide +kernel
  have k2 : (FloatKind.f64.format.order 0 0 == some Ordering.eq) = true := by decide +kernel
  have k3 : (FloatKind.f64.format.order 0 0 != some Ordering.eq) = false := by decide +kernel
  have k4 : (FloatKind.f64.format.order 0 4607182418800017408 == some Ordering.lt) = true := by decide +kernel
  go_enter Tryd.func8, Tryd.ntmps8
  go_wp2_with fail
  refine (unit_low x w h).mono ?_
  rintro e w1 ⟨rfl, hw⟩
  subst w1
  go_wp2_with fail
  refine (awake_any w ht).mono ?_
  rintro e w1 ⟨rfl, f1⟩
  go_wp2
  go_ret
  exact ⟨rfl, f1⟩
set_option maxHeartbeats 1000000 in
theorem units_mid (x : Nat) (w : World) (ht : Tabs w) (h : (FloatKind.f64.format.order x 0 == some Ordering.gt) = true) (h0 : (FloatKind.f64.format.order x 4607182418800017408 == some Ordering.lt) = true) (h1 : (FloatKind.f64.format.order x 4607182418800017408 == some Ordering.gt) = false) (h2 : (FloatKind.f64.format.order x 4607182418800017408 == some Ordering.eq) = false)
    (hm : ∀ w, (Builtin.min_ #[22, 22] 22 #[.float .f64 x, .float .f64 4607182418800017407]).run Tryd.prog w = .ok (.float .f64 x) w) : Calls Tryd.prog 8 #[.float .f64 x] w fun e w' => e = .returned (.bool true) ∧ Fr (fun _ => False) w w' := by
  have h18 := f64bits x
  have hu := unit_high x x w h hm
  clear hm
  go_enter Tryd.func8, Tryd.ntmps8
  go_wp2_with fail
  refine hu.mono ?_
  rintro e w1 ⟨rfl, hw⟩
  subst w1
  go_wp2_with fail
  refine (awake_any w ht).mono ?_
  rintro e w1 ⟨rfl, f1⟩
  go_wp2
  go_ret
  exact ⟨rfl, f1⟩
set_option maxHeartbeats 1000000 in
theorem units_top (x : Nat) (w : World) (ht : Tabs w) (h : (FloatKind.f64.format.order x 0 == some Ordering.gt) = true) (h0 : (FloatKind.f64.format.order x 4607182418800017408 == some Ordering.lt) = false) (t : Bool) (h1 : (FloatKind.f64.format.order x 4607182418800017408 == some Ordering.gt) = t) (h2 : (FloatKind.f64.format.order x 4607182418800017408 == some Ordering.eq) = !t)
    (hm : ∀ w, (Builtin.min_ #[22, 22] 22 #[.float .f64 x, .float .f64 4607182418800017407]).run Tryd.prog w = .ok (.float .f64 4607182418800017407) w) : Calls Tryd.prog 8 #[.float .f64 x] w fun e w' => e = .returned (.bool true) ∧ Fr (fun _ => False) w w' := by
  have k1 : (FloatKind.f64.format.order 4607182418800017407 0 == some Ordering.gt) = true := by decide +kernel
  have k3 : (FloatKind.f64.format.order 4607182418800017407 0 != some Ordering.eq) = true := by decide +kernel
  have k4 : (FloatKind.f64.format.order 4607182418800017407 4607182418800017408 == some Ordering.lt) = true := by decide +kernel
  have k5 : (FloatKind.f64.format.order 4607182418800017407 4607182418800017406 == some Ordering.gt) = true := by decide +kernel
  have hu := unit_high x _ w h hm
  clear hm
  cases t
  all_goals
    simp only [Bool.not_false, Bool.not_true] at h2
    go_enter Tryd.func8, Tryd.ntmps8
    go_wp2_with fail
    refine hu.mono ?_
    rintro e w1 ⟨rfl, hw⟩
    subst w1
    go_wp2_with fail
    refine (awake_any w ht).mono ?_
    rintro e w1 ⟨rfl, f1⟩
    go_wp2
    go_ret
    exact ⟨rfl, f1⟩
theorem units_walk (x : Nat) (w : World) (ht : Tabs w) (hx : x < 18446744073709551616) : Calls Tryd.prog 8 #[.float .f64 x] w fun e w' => e = .returned (.bool true) ∧ Fr (fun _ => False) w w' := by
  cases nx : Fl.nanB x
  · by_cases hp : x < 9223372036854775808
    · by_cases h0 : x = 0
      · subst h0
        exact units_low 0 w ht (by decide +kernel) (by decide +kernel) (by decide +kernel)
      · have o0 := ord_gt x 0 hp (by omega) nx nan0 (by omega)
        by_cases h1 : x < 4607182418800017408
        · have o1 := ord_lt x 4607182418800017408 hp (by omega) nx nan1 h1
          refine units_mid x w ht (by rw [o0]; rfl) (by rw [o1]; rfl) (by rw [o1]; rfl) (by rw [o1]; rfl) ?_
          by_cases h2 : x = 4607182418800017407
          · subst h2; exact min_self
          · exact fun w => min_lt x _ w (ord_lt x _ hp (by omega) nx nanU (by omega))
        · have om := ord_gt x 4607182418800017407 hp (by omega) nx nanU (by omega)
          by_cases h2 : x = 4607182418800017408
          · subst h2
            exact units_top _ w ht (by decide +kernel) (by decide +kernel) false (by decide +kernel) (by decide +kernel) (fun w => min_gt _ _ w om)
          · have o1 := ord_gt x 4607182418800017408 hp (by omega) nx nan1 (by omega)
            exact units_top x w ht (by rw [o0]; rfl) (by rw [o1]; rfl) true (by rw [o1]; rfl) (by rw [o1]; rfl) (fun w => min_gt _ _ w om)
    · have hv := Fl.val_neg x (by omega) hx
      have e0 : FloatKind.f64.format.order x 0 = some (compare (Fl.val x) (Fl.val 0)) := Fl.order_num x 0 nx nan0
      have e1 : FloatKind.f64.format.order x 4607182418800017408 = some (compare (Fl.val x) (Fl.val 4607182418800017408)) := Fl.order_num x _ nx nan1
      have v0 : Fl.val 0 = 0 := rfl
      have v1 : 0 < Fl.val 4607182418800017408 := by
        rw [Fl.val_pos _ (by omega)]
        have := Fl.mag_lt (show 0 < 4607182418800017408 by omega)
        rw [Fl.mag_zero] at this
        omega
      refine units_low x w ht ?_ ?_ ?_
      · rw [e0, Fl.gt_beq, v0]; simp; omega
      · rw [e1, Fl.gt_beq]; simp; omega
      · rw [e1, Fl.eq_beq]; simp; omega
  · have hn := Fl.nanB_true nx
    have e0 : FloatKind.f64.format.order x 0 = none := Fl.order_nan_left x 0 hn
    have e1 : FloatKind.f64.format.order x 4607182418800017408 = none := Fl.order_nan_left x _ hn
    exact units_low x w ht (by rw [e0]; rfl) (by rw [e1]; rfl) (by rw [e1]; rfl)
end Go.Proofs.YtfkjkiobpholjaaDoor
