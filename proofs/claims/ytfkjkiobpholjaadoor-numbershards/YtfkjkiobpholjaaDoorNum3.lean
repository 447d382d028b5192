/- The document's own order is the order of the ranks; and what the laws call besides. -/
import Derived.Test.YtfkjkiobpholjaaDoorNum2
namespace Go.Proofs.YtfkjkiobpholjaaDoor
open Go.RowKit

theorem order_zero (a : Nat) (ha : a < 18446744073709551616) (na : Fl.nanB a = false) : (FloatKind.f64.format.order a 0 == some Ordering.eq) = decide (a % 9223372036854775808 = 0) := by
  have h := Fl.order_num a 0 na (by decide)
  show (Ieee.double.order a 0 == some Ordering.eq) = _
  rw [h, Fl.eq_beq, show Fl.val 0 = 0 from rfl]
  exact decide_eq_decide.2 (Fl.val_zero a ha)
theorem order_less (a b : Nat) (ha : a < 18446744073709551616) (hb : b < 18446744073709551616) (na : Fl.nanB a = false) (nb : Fl.nanB b = false) (hz : ¬ (a % 9223372036854775808 = 0 ∧ b % 9223372036854775808 = 0)) :
    (FloatKind.f64.format.order a b == some Ordering.lt) = decide (Fl.rk a < Fl.rk b) := by
  show (Ieee.double.order a b == some Ordering.lt) = _
  rw [Fl.order_num a b na nb, Fl.lt_beq]
  exact decide_eq_decide.2 (Fl.val_lt a b ha hb na nb hz)
set_option maxHeartbeats 400000 in
theorem signbit_any (a : Nat) (w : World) (ha : a < 18446744073709551616) : Calls Tryd.prog 31 #[.float .f64 a] w fun e w' => e = .returned (.bool (decide (9223372036854775808 ≤ a))) ∧ w' = w := by
  have h18 := f64bits a
  by_cases hp : 9223372036854775808 ≤ a
  · have e1 : IntKind.i64.wrap (a : Int) = (a : Int) - 18446744073709551616 := by
      rw [IntKind.wrap_i64]; omega
    have e2 : (a : Int) - 18446744073709551616 < 0 := by omega
    obtain ⟨t, ht, ht2⟩ : ∃ t : Int, IntKind.i64.wrap (a : Int) = t ∧ t < 0 := ⟨_, e1, e2⟩
    clear e1 e2
    rw [decide_eq_true hp]
    clear hp
    go_enter Tryd.func31, Tryd.ntmps31
    go_wp2
    go_ret
    exact ⟨rfl, rfl⟩
  · have e1 : IntKind.i64.wrap (a : Int) = (a : Int) := by
      rw [IntKind.wrap_i64]; omega
    rw [decide_eq_false hp]
    have h0 : ¬ ((a : Int) < 0) := by omega
    clear hp
    go_enter Tryd.func31, Tryd.ntmps31
    go_wp2
    go_ret
    exact ⟨rfl, rfl⟩
theorem rk_le (b : Nat) (hb : b < 18446744073709551616) : Fl.rk b ≤ 18446744073709551615 := by
  cases hn : Fl.nanB b
  · have := Fl.rk_lt b hn hb; omega
  · rw [Fl.rk_nan b hn]; omega
set_option maxHeartbeats 400000 in
theorem ahead_any (a b : Nat) (w : World) (ha : a < 18446744073709551616) (hb : b < 18446744073709551616) : Calls Tryd.prog 11 #[.float .f64 a, .float .f64 b] w fun e w' => e = .returned (.bool (decide (Fl.rk a < Fl.rk b))) ∧ w' = w := by
  have s1 := self_ne a
  have s2 := self_ne b
  cases na : Fl.nanB a
  · rw [na] at s1
    cases nb : Fl.nanB b
    · rw [nb] at s2
      have z1 := order_zero a ha na
      have z2 := order_zero b hb nb
      by_cases hz : a % 9223372036854775808 = 0 ∧ b % 9223372036854775808 = 0
      · rw [decide_eq_true hz.1] at z1
        rw [decide_eq_true hz.2] at z2
        have hA := signbit_any a w ha
        have hB := signbit_any b w hb
        have hres : decide (Fl.rk a < Fl.rk b) = (decide (9223372036854775808 ≤ a) && !decide (9223372036854775808 ≤ b)) := by
          rw [Bool.eq_iff_iff]
          simp only [decide_eq_true_eq, Bool.and_eq_true, Bool.not_eq_true', decide_eq_false_iff_not]
          by_cases p1 : 9223372036854775808 ≤ a <;> by_cases p2 : 9223372036854775808 ≤ b
          · rw [Fl.rk_neg a na p1, Fl.rk_neg b nb p2]; omega
          · rw [Fl.rk_neg a na p1, Fl.rk_pos b nb (by omega)]; omega
          · rw [Fl.rk_pos a na (by omega), Fl.rk_neg b nb p2]; omega
          · rw [Fl.rk_pos a na (by omega), Fl.rk_pos b nb (by omega)]; omega
        rw [hres]
        generalize decide (9223372036854775808 ≤ a) = p at *
        generalize decide (9223372036854775808 ≤ b) = q at *
        clear na nb hz hres
        cases p
        · go_enter Tryd.func11, Tryd.ntmps11
          go_wp2_with fail
          refine hA.mono ?_
          rintro e w1 ⟨rfl, hw⟩
          subst w1
          go_wp2
          go_ret
          exact ⟨rfl, rfl⟩
        · go_enter Tryd.func11, Tryd.ntmps11
          go_wp2_with fail
          refine hA.mono ?_
          rintro e w1 ⟨rfl, hw⟩
          subst w1
          go_wp2_with fail
          refine hB.mono ?_
          rintro e w1 ⟨rfl, hw⟩
          subst w1
          go_wp2
          go_ret
          exact ⟨rfl, rfl⟩
      · have hl := order_less a b ha hb na nb hz
        generalize decide (Fl.rk a < Fl.rk b) = res at *
        by_cases h1 : a % 9223372036854775808 = 0
        · have h2 : ¬ b % 9223372036854775808 = 0 := fun e => hz ⟨h1, e⟩
          rw [decide_eq_true h1] at z1
          rw [decide_eq_false h2] at z2
          clear hz h1 h2 na nb
          go_enter Tryd.func11, Tryd.ntmps11
          go_wp2
          go_ret
          exact ⟨rfl, rfl⟩
        · rw [decide_eq_false h1] at z1
          clear hz h1 na nb z2
          go_enter Tryd.func11, Tryd.ntmps11
          go_wp2
          go_ret
          exact ⟨rfl, rfl⟩
    · rw [nb] at s2
      have hres : decide (Fl.rk a < Fl.rk b) = true := by
        rw [Fl.rk_nan b nb]; have := Fl.rk_lt a na ha; simpa using this
      rw [hres]
      clear na nb hres
      go_enter Tryd.func11, Tryd.ntmps11
      go_wp2
      go_ret
      exact ⟨rfl, rfl⟩
  · rw [na] at s1
    have hres : decide (Fl.rk a < Fl.rk b) = false := by
      rw [Fl.rk_nan a na]; have := rk_le b hb; simp; omega
    rw [hres]
    clear na hres s2
    go_enter Tryd.func11, Tryd.ntmps11
    go_wp2
    go_ret
    exact ⟨rfl, rfl⟩
set_option maxHeartbeats 400000 in
theorem refsame_any (a b : Nat) (w : World) (ha : a < 18446744073709551616) (hb : b < 18446744073709551616) : Calls Tryd.prog 13 #[.float .f64 a, .float .f64 b] w fun e w' => e = .returned (.bool (decide (Fl.rk a = Fl.rk b))) ∧ w' = w := by
  have h1 := ahead_any a b w ha hb
  have h2 := ahead_any b a w hb ha
  have hres : decide (Fl.rk a = Fl.rk b) = (!decide (Fl.rk a < Fl.rk b) && !decide (Fl.rk b < Fl.rk a)) := by
    rw [Bool.eq_iff_iff]; simp; omega
  rw [hres]
  generalize decide (Fl.rk a < Fl.rk b) = p at *
  generalize decide (Fl.rk b < Fl.rk a) = q at *
  clear hres
  cases p
  · go_enter Tryd.func13, Tryd.ntmps13
    go_wp2_with fail
    refine h1.mono ?_
    rintro e w1 ⟨rfl, hw⟩
    subst w1
    go_wp2_with fail
    refine h2.mono ?_
    rintro e w1 ⟨rfl, hw⟩
    subst w1
    go_wp2
    go_ret
    exact ⟨rfl, rfl⟩
  · go_enter Tryd.func13, Tryd.ntmps13
    go_wp2_with fail
    refine h1.mono ?_
    rintro e w1 ⟨rfl, hw⟩
    subst w1
    go_wp2
    go_ret
    exact ⟨rfl, rfl⟩
end Go.Proofs.YtfkjkiobpholjaaDoor
