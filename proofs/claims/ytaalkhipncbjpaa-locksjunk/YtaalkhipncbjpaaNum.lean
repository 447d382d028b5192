/- numbers that float: their ranks, their order, and the document's own. -/
import Derived.Test.YtaalkhipncbjpaaFl
import Derived.Test.YtaalkhipncbjpaaBase
namespace Go.Proofs.Ytaalkhipncbjpaa
open Go.RowKit
theorem f64bits (b : Nat) (w : World) : (callFunc 100 #[.float .f64 b]).run Try.prog w = .ok (.value (.int .u64 (b : Int))) w := by kernel_rfl
theorem wrap_u64_small (n : Int) (h0 : 0 ≤ n) (h1 : n < 2 ^ 64) : IntKind.u64.wrap n = n := by
  simp [IntKind.wrap, IntKind.bits, IntKind.signed]; omega
theorem bits_xor_nat (k : IntKind) (j : Nat) (hj : j ≤ k.bits) (hk : ∀ n : Int, 0 ≤ n → n < 2 ^ j → k.wrap n = n) (a b : Nat) (ha : a < 2 ^ j) (hb : b < 2 ^ j) :
    bits .xor k a b = ((a ^^^ b : Nat) : Int) := by
  have hp : 2 ^ j ≤ 2 ^ k.bits := Nat.pow_le_pow_right (by decide) hj
  have ha' : a % 2 ^ k.bits = a := Nat.mod_eq_of_lt (Nat.lt_of_lt_of_le ha hp)
  have hb' : b % 2 ^ k.bits = b := Nat.mod_eq_of_lt (Nat.lt_of_lt_of_le hb hp)
  simp only [bits, BitVec.ofInt_natCast, BitVec.toNat_xor, BitVec.toNat_ofNat, ha', hb']
  exact hk _ (Int.natCast_nonneg _) (by exact_mod_cast Nat.xor_lt_two_pow ha hb)
theorem not_nat (s : Nat) (h : s < 2 ^ 64) : (2 ^ 64 - 1) ^^^ s = 2 ^ 64 - 1 - s := by
  apply Nat.eq_of_testBit_eq; intro i
  rw [show 2 ^ 64 - 1 - s = 2 ^ 64 - (s + 1) by omega, Nat.testBit_two_pow_sub_succ h, Nat.testBit_xor, Nat.testBit_two_pow_sub_one]
  by_cases hi : i < 64
  · simp [hi]
  · have : s.testBit i = false := Nat.testBit_lt_two_pow (Nat.lt_of_lt_of_le h (Nat.pow_le_pow_right (n := 2) (by omega) (show 64 ≤ i by omega)))
    simp [hi, this]
theorem not_u64 (b : Nat) (h : b < 2 ^ 64) : bits .xor .u64 IntKind.u64.max (b : Int) = ((18446744073709551615 - b : Nat) : Int) := by
  have := bits_xor_nat .u64 64 (by decide) wrap_u64_small (2 ^ 64 - 1) b (by decide) h
  rw [not_nat b h] at this
  exact this
theorem high_and (b : Nat) (h : b < 2 ^ 64) : bits .and .u64 (b : Int) 9223372036854775808 = ((if 9223372036854775808 ≤ b then 9223372036854775808 else 0 : Nat) : Int) := by
  have := (bits_nat .u64 64 (by decide) wrap_u64_small b (2 ^ 63) h (by decide)).1
  rw [show ((2 ^ 63 : Nat) : Int) = 9223372036854775808 from rfl] at this
  rw [this]
  congr 1
  have e : b &&& 2 ^ 63 = 2 ^ 63 * (b / 2 ^ 63 % 2) := by
    apply Nat.eq_of_testBit_eq; intro i
    rw [Nat.testBit_and, Nat.testBit_two_pow, Nat.testBit_two_pow_mul]
    by_cases hi : i = 63
    · subst hi
      simp [Nat.testBit_eq_decide_div_mod_eq]
    · by_cases h2 : 63 ≤ i
      · have : (b / 2 ^ 63 % 2).testBit (i - 63) = false := Nat.testBit_lt_two_pow (Nat.lt_of_lt_of_le (show b / 2 ^ 63 % 2 < 2 ^ 1 by omega) (Nat.pow_le_pow_right (by omega) (by omega)))
        simp [this, Ne.symm hi]
      · simp [h2, Ne.symm hi]
  rw [e]
  split <;> omega
theorem high_or (b : Nat) (h : b < 2 ^ 63) : bits .or .u64 (b : Int) 9223372036854775808 = ((b + 9223372036854775808 : Nat) : Int) := by
  have := (bits_nat .u64 64 (by decide) wrap_u64_small b (2 ^ 63) (by omega) (by decide)).2
  rw [show ((2 ^ 63 : Nat) : Int) = 9223372036854775808 from rfl] at this
  rw [this, Nat.or_comm]
  have e := Nat.two_pow_add_eq_or_of_lt h 1
  rw [Nat.mul_one] at e
  rw [← e, Nat.add_comm]
theorem self_ne (b : Nat) : (FloatKind.f64.format.order b b != some Ordering.eq) = Fl.nanB b := Fl.order_self b

set_option maxHeartbeats 400000 in
theorem rank_any (b : Nat) (w : World) (hb : b < 18446744073709551616) : Calls Try.prog 77 #[.float .f64 b] w fun e w' => e = .returned (.int .u64 ((Fl.rk b : Nat) : Int)) ∧ w' = w := by
  have hs := self_ne b
  have h18 := f64bits b
  cases hn : Fl.nanB b
  · rw [hn] at hs
    by_cases hp : 9223372036854775808 ≤ b
    · have e1 := high_and b (by omega)
      rw [if_pos hp] at e1
      have e2 := not_u64 b (by omega)
      rw [Fl.rk_neg b hn hp]
      generalize 18446744073709551615 - b = r at *
      have e1' : bits .and .u64 (b : Int) 9223372036854775808 = 9223372036854775808 := e1
      clear e1 hp hn
      go_enter Try.func77, Try.ntmps77
      go_wp2
      go_ret
      exact ⟨rfl, rfl⟩
    · have e1 := high_and b (by omega)
      rw [if_neg hp] at e1
      have e2 := high_or b (by omega)
      rw [Fl.rk_pos b hn (by omega)]
      generalize b + 9223372036854775808 = r at *
      have e1' : bits .and .u64 (b : Int) 9223372036854775808 = 0 := e1
      clear e1 hp hn
      go_enter Try.func77, Try.ntmps77
      go_wp2
      go_ret
      exact ⟨rfl, rfl⟩
  · rw [hn] at hs
    rw [Fl.rk_nan b hn]
    clear hn
    go_enter Try.func77, Try.ntmps77
    go_wp2
    go_ret
    exact ⟨rfl, rfl⟩
set_option maxHeartbeats 400000 in
theorem less_any (a b : Nat) (w : World) (ha : a < 18446744073709551616) (hb : b < 18446744073709551616) : Calls Try.prog 112 #[.float .f64 a, .float .f64 b] w fun e w' => e = .returned (.bool (decide (Fl.rk a < Fl.rk b))) ∧ w' = w := by
  have r1 := rank_any a w ha
  have r2 := rank_any b w hb
  generalize Fl.rk a = p at *
  generalize Fl.rk b = q at *
  go_enter Try.func112, Try.ntmps112
  go_wp2_with fail
  refine r1.mono ?_
  rintro e w1 ⟨rfl, hw⟩
  subst w1
  go_wp2_with fail
  refine r2.mono ?_
  rintro e w1 ⟨rfl, hw⟩
  subst w1
  go_wp2
  go_ret
  refine ⟨?_, rfl⟩
  simp
theorem order_zero (a : Nat) (ha : a < 18446744073709551616) (na : Fl.nanB a = false) : (FloatKind.f64.format.order a 0 == some Ordering.eq) = decide (a % 9223372036854775808 = 0) := by
  have h := Fl.order_num a 0 na (by decide)
  show (Ieee.double.order a 0 == some Ordering.eq) = _
  rw [h, Fl.eq_beq, show Fl.val 0 = 0 from rfl]
  exact decide_eq_decide.2 (Fl.val_zero a ha)
theorem order_less (a b : Nat) (ha : a < 18446744073709551616) (hb : b < 18446744073709551616) (na : Fl.nanB a = false) (nb : Fl.nanB b = false) (hz : ¬ (a % 9223372036854775808 = 0 ∧ b % 9223372036854775808 = 0)) :
    (FloatKind.f64.format.order a b == some Ordering.lt) = decide (Fl.rk a < Fl.rk b) := by
  show (Ieee.double.order a b == some Ordering.lt) = _
  rw [Fl.order_num a b na nb, Fl.lt_beq]
  exact decide_eq_decide.2 (Fl.val_lt a b ha hb na nb hz)
set_option maxHeartbeats 400000 in
theorem signbit_any (a : Nat) (w : World) (ha : a < 18446744073709551616) : Calls Try.prog 102 #[.float .f64 a] w fun e w' => e = .returned (.bool (decide (9223372036854775808 ≤ a))) ∧ w' = w := by
  have h18 := f64bits a
  by_cases hp : 9223372036854775808 ≤ a
  · have e1 : IntKind.i64.wrap (a : Int) = (a : Int) - 18446744073709551616 := by
      rw [IntKind.wrap_i64]; omega
    have e2 : (a : Int) - 18446744073709551616 < 0 := by omega
    obtain ⟨t, ht, ht2⟩ : ∃ t : Int, IntKind.i64.wrap (a : Int) = t ∧ t < 0 := ⟨_, e1, e2⟩
    clear e1 e2
    rw [decide_eq_true hp]
    clear hp
    go_enter Try.func102, Try.ntmps102
    go_wp2
    go_ret
    exact ⟨rfl, rfl⟩
  · have e1 : IntKind.i64.wrap (a : Int) = (a : Int) := by
      rw [IntKind.wrap_i64]; omega
    rw [decide_eq_false hp]
    have h0 : ¬ ((a : Int) < 0) := by omega
    clear hp
    go_enter Try.func102, Try.ntmps102
    go_wp2
    go_ret
    exact ⟨rfl, rfl⟩
theorem rk_le (b : Nat) (hb : b < 18446744073709551616) : Fl.rk b ≤ 18446744073709551615 := by
  cases hn : Fl.nanB b
  · have := Fl.rk_lt b hn hb; omega
  · rw [Fl.rk_nan b hn]; omega
set_option maxHeartbeats 400000 in
theorem ahead_any (a b : Nat) (w : World) (ha : a < 18446744073709551616) (hb : b < 18446744073709551616) : Calls Try.prog 78 #[.float .f64 a, .float .f64 b] w fun e w' => e = .returned (.bool (decide (Fl.rk a < Fl.rk b))) ∧ w' = w := by
  have s1 := self_ne a
  have s2 := self_ne b
  cases na : Fl.nanB a
  · rw [na] at s1
    cases nb : Fl.nanB b
    · rw [nb] at s2
      have z1 := order_zero a ha na
      have z2 := order_zero b hb nb
      by_cases hz : a % 9223372036854775808 = 0 ∧ b % 9223372036854775808 = 0
      · rw [decide_eq_true hz.1] at z1
        rw [decide_eq_true hz.2] at z2
        have hA := signbit_any a w ha
        have hB := signbit_any b w hb
        have hres : decide (Fl.rk a < Fl.rk b) = (decide (9223372036854775808 ≤ a) && !decide (9223372036854775808 ≤ b)) := by
          rw [Bool.eq_iff_iff]
          simp only [decide_eq_true_eq, Bool.and_eq_true, Bool.not_eq_true', decide_eq_false_iff_not]
          by_cases p1 : 9223372036854775808 ≤ a <;> by_cases p2 : 9223372036854775808 ≤ b
          · rw [Fl.rk_neg a na p1, Fl.rk_neg b nb p2]; omega
          · rw [Fl.rk_neg a na p1, Fl.rk_pos b nb (by omega)]; omega
          · rw [Fl.rk_pos a na (by omega), Fl.rk_neg b nb p2]; omega
          · rw [Fl.rk_pos a na (by omega), Fl.rk_pos b nb (by omega)]; omega
        rw [hres]
        generalize decide (9223372036854775808 ≤ a) = p at *
        generalize decide (9223372036854775808 ≤ b) = q at *
        clear na nb hz hres
        cases p
        · go_enter Try.func78, Try.ntmps78
          go_wp2_with fail
          refine hA.mono ?_
          rintro e w1 ⟨rfl, hw⟩
          subst w1
          go_wp2
          go_ret
          exact ⟨rfl, rfl⟩
        · go_enter Try.func78, Try.ntmps78
          go_wp2_with fail
          refine hA.mono ?_
          rintro e w1 ⟨rfl, hw⟩
          subst w1
          go_wp2_with fail
          refine hB.mono ?_
          rintro e w1 ⟨rfl, hw⟩
          subst w1
          go_wp2
          go_ret
          exact ⟨rfl, rfl⟩
      · have hl := order_less a b ha hb na nb hz
        generalize decide (Fl.rk a < Fl.rk b) = res at *
        by_cases h1 : a % 9223372036854775808 = 0
        · have h2 : ¬ b % 9223372036854775808 = 0 := fun e => hz ⟨h1, e⟩
          rw [decide_eq_true h1] at z1
          rw [decide_eq_false h2] at z2
          clear hz h1 h2 na nb
          go_enter Try.func78, Try.ntmps78
          go_wp2
          go_ret
          exact ⟨rfl, rfl⟩
        · rw [decide_eq_false h1] at z1
          clear hz h1 na nb z2
          go_enter Try.func78, Try.ntmps78
          go_wp2
          go_ret
          exact ⟨rfl, rfl⟩
    · rw [nb] at s2
      have hres : decide (Fl.rk a < Fl.rk b) = true := by
        rw [Fl.rk_nan b nb]; have := Fl.rk_lt a na ha; simpa using this
      rw [hres]
      clear na nb hres
      go_enter Try.func78, Try.ntmps78
      go_wp2
      go_ret
      exact ⟨rfl, rfl⟩
  · rw [na] at s1
    have hres : decide (Fl.rk a < Fl.rk b) = false := by
      rw [Fl.rk_nan a na]; have := rk_le b hb; simp; omega
    rw [hres]
    clear na hres s2
    go_enter Try.func78, Try.ntmps78
    go_wp2
    go_ret
    exact ⟨rfl, rfl⟩
end Go.Proofs.Ytaalkhipncbjpaa
