/- The statement NumberDraws, walked. -/
import Derived.Test.YtkabmjeeficfhaaDoorAwake
import Derived.Test.YtkabmjeeficfhaaDoorFl
import Derived.Test.YtkabmjeeficfhaaDoorRound
import Derived.Laws.FloatArith
namespace Go.Proofs.YtkabmjeeficfhaaDoor
open Go.RowKit
theorem ord_pos (x c : Nat) (hx : x < 9223372036854775808) (hc : c < 9223372036854775808) (nx : Fl.nanB x = false) (nc : Fl.nanB c = false) : FloatKind.f64.format.order x c = some (compare (x : Int) (c : Int)) := by
  show Ieee.double.order x c = _
  rw [Fl.order_num x c nx nc, Fl.val_pos x hx, Fl.val_pos c hc]
  congr 1
  rcases Nat.lt_trichotomy x c with h | h | h
  · have := Fl.mag_lt h
    rw [Fl.cmp_lt (by omega), Fl.cmp_lt (by omega)]
  · subst h; rw [Fl.cmp_eq, Fl.cmp_eq]
  · have := Fl.mag_lt h
    rw [Fl.cmp_gt (by omega), Fl.cmp_gt (by omega)]
theorem ord_lt (x c : Nat) (hx : x < 9223372036854775808) (hc : c < 9223372036854775808) (nx : Fl.nanB x = false) (nc : Fl.nanB c = false) (h : x < c) : FloatKind.f64.format.order x c = some .lt := by
  rw [ord_pos x c hx hc nx nc, Fl.cmp_lt (by omega)]
theorem ord_gt (x c : Nat) (hx : x < 9223372036854775808) (hc : c < 9223372036854775808) (nx : Fl.nanB x = false) (nc : Fl.nanB c = false) (h : c < x) : FloatKind.f64.format.order x c = some .gt := by
  rw [ord_pos x c hx hc nx nc, Fl.cmp_gt (by omega)]
theorem ord_eq (x : Nat) (nx : Fl.nanB x = false) : FloatKind.f64.format.order x x = some .eq := by
  show Ieee.double.order x x = _
  rw [Fl.order_num x x nx nx, Fl.cmp_eq]
theorem nan0 : Fl.nanB 0 = false := by decide +kernel
theorem nan1 : Fl.nanB 4607182418800017408 = false := by decide +kernel
theorem nanU : Fl.nanB 4607182418800017407 = false := by decide +kernel
theorem min_lt (x c : Nat) (w : World) (h : FloatKind.f64.format.order x c = some .lt) : (Builtin.min_ #[22, 22] 22 #[.float .f64 x, .float .f64 c]).run Tryd.prog w = .ok (.float .f64 x) w := by
  simp [Builtin.min_, Builtin.min2, h]
theorem min_gt (x c : Nat) (w : World) (h : FloatKind.f64.format.order x c = some .gt) : (Builtin.min_ #[22, 22] 22 #[.float .f64 x, .float .f64 c]).run Tryd.prog w = .ok (.float .f64 c) w := by
  simp [Builtin.min_, Builtin.min2, h]
theorem min_self (w : World) : (Builtin.min_ #[22, 22] 22 #[.float .f64 4607182418800017407, .float .f64 4607182418800017407]).run Tryd.prog w = .ok (.float .f64 4607182418800017407) w := by kernel_rfl

/-- what a number that isn't above 0 is held to. -/
theorem unit_low (x : Nat) (w : World) (h : (FloatKind.f64.format.order x 0 == some Ordering.gt) = false) : Calls Tryd.prog 6 #[.float .f64 x] w fun e w' => e = .returned (.float .f64 0) ∧ w' = w := by
  go_enter Tryd.func6, Tryd.ntmps6
  go_wp2
  go_ret
  exact ⟨rfl, rfl⟩
theorem unit_high (x u : Nat) (w : World) (h : (FloatKind.f64.format.order x 0 == some Ordering.gt) = true) (hm : ∀ w, (Builtin.min_ #[22, 22] 22 #[.float .f64 x, .float .f64 4607182418800017407]).run Tryd.prog w = .ok (.float .f64 u) w) : Calls Tryd.prog 6 #[.float .f64 x] w fun e w' => e = .returned (.float .f64 u) ∧ w' = w := by
  go_enter Tryd.func6, Tryd.ntmps6
  go_wp2
  go_ret
  exact ⟨rfl, rfl⟩

theorem magm : ∀ r s, r < s → Draws.mag r < Draws.mag s := fun r s h => (show Fl.mag r < Fl.mag s from Fl.mag_lt h)
/-- what a number is held to. -/
def uV (x : Nat) : Nat := if Fl.nanB x = true ∨ x = 0 ∨ 9223372036854775808 ≤ x then 0 else if x < 4607182418800017407 then x else 4607182418800017407
theorem uV_le (x : Nat) : uV x ≤ 4607182418800017407 := by
  unfold uV
  split
  · omega
  · split <;> omega
theorem unit_any (x : Nat) (hx : x < 18446744073709551616) (w : World) : Calls Tryd.prog 6 #[.float .f64 x] w fun e w' => ∃ u, e = .returned (.float .f64 u) ∧ Hid (u = uV x) ∧ u ≤ 4607182418800017407 ∧ w' = w := by
  have low : uV x = 0 → (FloatKind.f64.format.order x 0 == some Ordering.gt) = false → Calls Tryd.prog 6 #[.float .f64 x] w fun e w' => ∃ u, e = .returned (.float .f64 u) ∧ Hid (u = uV x) ∧ u ≤ 4607182418800017407 ∧ w' = w := fun h1 h2 => by
    refine (unit_low x w h2).mono ?_
    rintro e w' ⟨rfl, hw⟩
    exact ⟨0, rfl, h1.symm, by omega, hw⟩
  cases nx : Fl.nanB x
  · by_cases hp : x < 9223372036854775808
    · by_cases h0 : x = 0
      · subst h0
        exact low (by unfold uV; rw [if_pos (.inr (.inl rfl))]) (by decide +kernel)
      · have o0 := ord_gt x 0 hp (by omega) nx nan0 (by omega)
        have hn : ¬ (Fl.nanB x = true ∨ x = 0 ∨ 9223372036854775808 ≤ x) := by
          rintro (h | h | h)
          · rw [nx] at h; cases h
          · exact h0 h
          · omega
        have high : ∀ u, uV x = u → (∀ w, (Builtin.min_ #[22, 22] 22 #[.float .f64 x, .float .f64 4607182418800017407]).run Tryd.prog w = .ok (.float .f64 u) w) → Calls Tryd.prog 6 #[.float .f64 x] w fun e w' => ∃ u, e = .returned (.float .f64 u) ∧ Hid (u = uV x) ∧ u ≤ 4607182418800017407 ∧ w' = w := fun u h1 h2 => by
          refine (unit_high x u w (by rw [o0]; rfl) h2).mono ?_
          rintro e w' ⟨rfl, hw⟩
          exact ⟨u, rfl, h1.symm, by rw [← h1]; exact uV_le x, hw⟩
        rcases Nat.lt_trichotomy x 4607182418800017407 with h | h | h
        · exact high x (by unfold uV; rw [if_neg hn, if_pos h]) (fun w => min_lt x _ w (ord_lt x _ hp (by omega) nx nanU h))
        · exact high x (by unfold uV; rw [if_neg hn, if_neg (by omega)]; exact h.symm) (fun w => by rw [h]; exact min_self w)
        · exact high _ (by unfold uV; rw [if_neg hn, if_neg (by omega)]) (fun w => min_gt _ _ w (ord_gt x _ hp (by omega) nx nanU h))
    · refine low (by unfold uV; rw [if_pos (.inr (.inr (by omega)))]) ?_
      have hv := Fl.val_neg x (by omega) hx
      have e0 : FloatKind.f64.format.order x 0 = some (compare (Fl.val x) (Fl.val 0)) := Fl.order_num x 0 nx nan0
      have v0 : Fl.val 0 = 0 := rfl
      rw [e0, Fl.gt_beq, v0]; simp; omega
  · have hn := Fl.nanB_true nx
    have e0 : FloatKind.f64.format.order x 0 = none := Fl.order_nan_left x 0 hn
    exact low (by unfold uV; rw [if_pos (.inl nx)]) (by rw [e0]; rfl)
def tr (P : Nat) : Nat := (((Ieee.double.read P).toInt .zero).getD 0).toNat
/-- which one of the count is drawn. -/
def dV (u k : Nat) : Nat := min (tr ((Ieee.double.mul u (Draws.fl k)).getD 0)) (k - 1)
theorem fofi (k : Nat) : floatOfInt .f64 (k : Int) = Draws.fl k := by
  show Ieee.double.nearest (decide ((k : Int) < 0)) (Int.natAbs (k : Int)) 0 = Ieee.double.nearest false k 0
  rw [show decide ((k : Int) < 0) = false by simp, Int.natAbs_natCast]
theorem dV_mono (u v k : Nat) (hk2 : k < 1000) (hv : v ≤ 4607182418800017407) (h : u ≤ v) : dV u k ≤ dV v k := by
  obtain ⟨P, R, e1, e2, h1, h2⟩ := Draws.mul_mono magm u v k hk2 (by omega) hv h
  obtain ⟨p, r, e3, e4, h3, _⟩ := Draws.trunc_mono magm P R k hk2 h1 h2
  unfold dV tr
  rw [e1, e2, Option.getD_some, Option.getD_some, e3, e4, Option.getD_some, Option.getD_some, Int.toNat_natCast, Int.toNat_natCast]
  omega
set_option maxRecDepth 100000 in
set_option maxHeartbeats 1000000 in
theorem draw_pos (x k : Nat) (hx : x < 18446744073709551616) (hk : 0 < k) (hk2 : k < 1000) (w : World) : Calls Tryd.prog 4 #[.float .f64 x, .int .i64 (k : Int)] w fun e w' => ∃ a : Nat, e = .returned (.int .i64 (a : Int)) ∧ Hid (a = dV (uV x) k) ∧ a < k ∧ w' = w := by
  obtain ⟨P, R, e1, e2, h1, h2⟩ := Draws.mul_mono magm (uV x) (uV x) k hk2 (uV_le x) (uV_le x) (Nat.le_refl _)
  obtain ⟨p, r, e3, e4, h3, h4⟩ := Draws.trunc_mono magm P R k hk2 h1 h2
  have hd : Hid (dV (uV x) k = min p (k - 1)) := by
    show _ = _
    unfold dV tr
    rw [e1, Option.getD_some, e3, Option.getD_some, Int.toNat_natCast]
  have hp : p ≤ k := Nat.le_trans h3 h4
  have g1 : ∀ w, (binOp .mul 22 (.float .f64 (uV x)) (.float .f64 (floatOfInt .f64 (k : Int)))).run Tryd.prog w = .ok (.float .f64 P) w := fun w => run_float_arith w .mul 22 .f64 _ _ P (by rw [fofi]; exact e1)
  have g2 : ∀ w, (convert 22 3 (.float .f64 P)).run Tryd.prog w = .ok (.int .i64 (p : Int)) w := fun w => run_convert_float_int w 22 3 .f64 .i64 P p (by rw [Tryd.underlying22]; rfl) Tryd.underlying3 (by
    unfold floatToIntVal
    rw [show (FloatKind.f64.decode P).toInt .zero = some (p : Int) from e3]
    have a1 : (IntKind.i64.min : Int) ≤ p := by simp [IntKind.min, IntKind.signed, IntKind.bits]
    have a2 : (p : Int) ≤ IntKind.i64.max := by simp [IntKind.max, IntKind.signed, IntKind.bits]; omega
    simp only [if_pos (And.intro a1 a2)])
  have hk1 : ¬ (k : Int) < 1 := by omega
  have hk3 : (0 : Int) < (k : Int) := by omega
  have hk4 : (k : Int) < 1000 := by omega
  clear e1 e2 e3 e4 h1 h2 h3 h4
  go_enter Tryd.func4, Tryd.ntmps4
  go_wp2_with fail
  refine (unit_any x hx w).mono ?_
  rintro e w1 ⟨u, rfl, Hu, hu, hw⟩
  subst w1
  rw [← Hu.out] at g1 hd
  go_wp2
  case inr =>
    go_ret
    exact ⟨p, rfl, (show p = dV (uV x) k by rw [← Hu.out, hd.out]; omega), by omega, rfl⟩
  case inl =>
    go_ret
    exact ⟨k - 1, (show Ending.returned (Value.int .i64 ((k : Int) - 1)) = _ by rw [show ((k - 1 : Nat) : Int) = (k : Int) - 1 by omega]), (show k - 1 = dV (uV x) k by rw [← Hu.out, hd.out]; omega), by omega, rfl⟩
set_option maxRecDepth 100000 in
set_option maxHeartbeats 1000000 in
theorem draw_low (x : Nat) (k : Int) (hk : k < 1) (w : World) : Calls Tryd.prog 4 #[.float .f64 x, .int .i64 k] w fun e w' => e = .returned (.int .i64 0) ∧ w' = w := by
  go_enter Tryd.func4, Tryd.ntmps4
  go_wp2
  go_ret
  exact ⟨rfl, rfl⟩
set_option maxRecDepth 100000 in
set_option maxHeartbeats 1000000 in
theorem draws_low (x y : Nat) (n k : Int) (hk : n.tmod 1000 = k) (hk1 : k < 1) (w : World) (ht : Tabs w) : Calls Tryd.prog 3 #[.float .f64 x, .float .f64 y, .int .i64 n] w fun e w' => e = .returned (.bool true) ∧ Fr (fun _ => False) w w' := by
  go_enter Tryd.func3, Tryd.ntmps3
  go_wp2_with fail
  refine (draw_low x k hk1 w).mono ?_
  rintro e w1 ⟨rfl, hw⟩
  subst w1
  go_wp2_with fail
  refine (draw_low y k hk1 w).mono ?_
  rintro e w1 ⟨rfl, hw⟩
  subst w1
  go_wp2_with fail
  refine (awake_any w ht).mono ?_
  rintro e w1 ⟨rfl, f1⟩
  go_wp2
  go_ret
  exact ⟨rfl, f1⟩
theorem uV_self (W : Nat) (h0 : 0 < W) (h1 : W < 4607182418800017407) : uV W = W := by
  have hn : Fl.nanB W = false := by
    unfold Fl.nanB Fl.rung Fl.infR
    simp
    omega
  unfold uV
  have hx : ¬ (Fl.nanB W = true ∨ W = 0 ∨ 9223372036854775808 ≤ W) := by
    rintro (h | h | h)
    · rw [hn] at h; cases h
    · omega
    · omega
  rw [if_neg hx, if_pos h1]
set_option maxRecDepth 100000 in
set_option maxHeartbeats 2000000 in
theorem draws_pos (x y : Nat) (n : Int) (k : Nat) (hx : x < 18446744073709551616) (hy : y < 18446744073709551616) (hk : n.tmod 1000 = (k : Int)) (hk1 : 0 < k) (hk2 : k < 1000) (w : World) (ht : Tabs w) : Calls Tryd.prog 3 #[.float .f64 x, .float .f64 y, .int .i64 n] w fun e w' => e = .returned (.bool true) ∧ Fr (fun _ => False) w w' := by
  have hk3 : ¬ (k : Int) < 1 := by omega
  go_enter Tryd.func3, Tryd.ntmps3
  go_wp2_with fail
  refine (draw_pos x k hx hk1 hk2 w).mono ?_
  rintro e w1 ⟨a, rfl, Ha, ha, hw⟩
  subst w1
  go_wp2_with fail
  refine (draw_pos y k hy hk1 hk2 w).mono ?_
  rintro e w1 ⟨b, rfl, Hb, hb, hw⟩
  subst w1
  obtain ⟨A, H, W, P, eA, eH, eW, hW0, hW1, eP, iP, hT⟩ := Draws.back magm k a hk1 hk2 ha
  have hWl : W < 18446744073709551616 := by omega
  have hback : Hid (dV (uV W) k = a) := by
    show _ = _
    unfold dV tr
    rw [uV_self W hW0 hW1, eP, Option.getD_some, hT, Option.getD_some, Int.toNat_natCast]
    omega
  have g1 : ∀ w, (binOp .quo 22 (.float .f64 (floatOfInt .f64 (a : Int))) (.float .f64 (floatOfInt .f64 (k : Int)))).run Tryd.prog w = .ok (.float .f64 A) w := fun w => run_float_arith w .quo 22 .f64 _ _ A (by rw [fofi, fofi]; exact eA)
  have g2 : ∀ w, (binOp .quo 22 (.float .f64 4602678819172646912) (.float .f64 (floatOfInt .f64 (k : Int)))).run Tryd.prog w = .ok (.float .f64 H) w := fun w => run_float_arith w .quo 22 .f64 _ _ H (by rw [fofi]; exact eH)
  have g3 : ∀ w, (binOp .add 22 (.float .f64 A) (.float .f64 H)).run Tryd.prog w = .ok (.float .f64 W) w := fun w => run_float_arith w .add 22 .f64 _ _ W eW
  have hak : (a : Int) < (k : Int) := by omega
  have hbk : (b : Int) < (k : Int) := by omega
  have ha0 : (0 : Int) ≤ (a : Int) := by omega
  clear eA eH eW eP iP hT hW0 hW1
  go_wp2_with fail
  refine (awake_any w ht).mono ?_
  rintro e w1 ⟨rfl, f1⟩
  go_wp2_with fail
  refine (unit_any x hx w1).mono ?_
  rintro e w2 ⟨u, rfl, Hu, hu, hw⟩
  subst w2
  go_wp2_with fail
  refine (unit_any y hy w1).mono ?_
  rintro e w2 ⟨v, rfl, Hv, hv, hw⟩
  subst w2
  by_cases huv : u ≤ v
  · have hab : a ≤ b := by rw [Ha.out, Hb.out, ← Hu.out, ← Hv.out]; exact dV_mono u v k hk2 hv huv
    have hab' : (a : Int) ≤ (b : Int) := by omega
    have ho : (FloatKind.f64.format.order u v == some Ordering.gt) = false := by
      have nu : Fl.nanB u = false := by unfold Fl.nanB Fl.rung Fl.infR; simp; omega
      have nv : Fl.nanB v = false := by unfold Fl.nanB Fl.rung Fl.infR; simp; omega
      rcases Nat.lt_or_ge u v with h | h
      · rw [ord_lt u v (by omega) (by omega) nu nv h]; rfl
      · obtain rfl : u = v := by omega
        rw [ord_eq u nu]; rfl
    go_wp2_with fail
    refine (draw_pos W k hWl hk1 hk2 w1).mono ?_
    rintro e w2 ⟨c, rfl, Hc, hc, hw⟩
    subst w2
    obtain rfl : c = a := Hc.out.trans hback.out
    go_wp2
    go_ret
    exact ⟨rfl, f1⟩
  · have ho : (FloatKind.f64.format.order u v == some Ordering.gt) = true := by
      have nu : Fl.nanB u = false := by unfold Fl.nanB Fl.rung Fl.infR; simp; omega
      have nv : Fl.nanB v = false := by unfold Fl.nanB Fl.rung Fl.infR; simp; omega
      rw [ord_gt u v (by omega) (by omega) nu nv (by omega)]; rfl
    go_wp2_with fail
    refine (draw_pos W k hWl hk1 hk2 w1).mono ?_
    rintro e w2 ⟨c, rfl, Hc, hc, hw⟩
    subst w2
    obtain rfl : c = a := Hc.out.trans hback.out
    go_wp2
    go_ret
    exact ⟨rfl, f1⟩
theorem draws_walk (x y : Nat) (n : Int) (hx : x < 18446744073709551616) (hy : y < 18446744073709551616) (w : World) (ht : Tabs w) : Calls Tryd.prog 3 #[.float .f64 x, .float .f64 y, .int .i64 n] w fun e w' => e = .returned (.bool true) ∧ Fr (fun _ => False) w w' := by
  by_cases hk : n.tmod 1000 < 1
  · exact draws_low x y n _ rfl hk w ht
  · have h1 : n.tmod 1000 < 1000 := Int.tmod_lt_of_pos n (by decide)
    exact draws_pos x y n (n.tmod 1000).toNat hx hy (by omega) (by omega) (by omega) w ht
end Go.Proofs.YtkabmjeeficfhaaDoor
