/- What the program's ranks, and the document's own order, come to at any bits. -/
import Derived.Test.YtfkjkiobpholjaaDoorAwake
import Derived.Test.YtfkjkiobpholjaaDoorFl
namespace Go.Proofs.YtfkjkiobpholjaaDoor
open Go.RowKit

theorem wrap_u64_small (n : Int) (h0 : 0 ≤ n) (h1 : n < 2 ^ 64) : IntKind.u64.wrap n = n := by
  simp [IntKind.wrap, IntKind.bits, IntKind.signed]; omega
theorem bits_xor_nat (k : IntKind) (j : Nat) (hj : j ≤ k.bits) (hk : ∀ n : Int, 0 ≤ n → n < 2 ^ j → k.wrap n = n) (a b : Nat) (ha : a < 2 ^ j) (hb : b < 2 ^ j) :
    bits .xor k a b = ((a ^^^ b : Nat) : Int) := by
  have hp : 2 ^ j ≤ 2 ^ k.bits := Nat.pow_le_pow_right (by decide) hj
  have ha' : a % 2 ^ k.bits = a := Nat.mod_eq_of_lt (Nat.lt_of_lt_of_le ha hp)
  have hb' : b % 2 ^ k.bits = b := Nat.mod_eq_of_lt (Nat.lt_of_lt_of_le hb hp)
  simp only [bits, BitVec.ofInt_natCast, BitVec.toNat_xor, BitVec.toNat_ofNat, ha', hb']
  exact hk _ (Int.natCast_nonneg _) (by exact_mod_cast Nat.xor_lt_two_pow ha hb)
theorem not_nat (s : Nat) (h : s < 2 ^ 64) : (2 ^ 64 - 1) ^^^ s = 2 ^ 64 - 1 - s := by
  apply Nat.eq_of_testBit_eq; intro i
  rw [show 2 ^ 64 - 1 - s = 2 ^ 64 - (s + 1) by omega, Nat.testBit_two_pow_sub_succ h, Nat.testBit_xor, Nat.testBit_two_pow_sub_one]
  by_cases hi : i < 64
  · simp [hi]
  · have : s.testBit i = false := Nat.testBit_lt_two_pow (Nat.lt_of_lt_of_le h (Nat.pow_le_pow_right (n := 2) (by omega) (show 64 ≤ i by omega)))
    simp [hi, this]
theorem not_u64 (b : Nat) (h : b < 2 ^ 64) : bits .xor .u64 IntKind.u64.max (b : Int) = ((18446744073709551615 - b : Nat) : Int) := by
  have := bits_xor_nat .u64 64 (by decide) wrap_u64_small (2 ^ 64 - 1) b (by decide) h
  rw [not_nat b h] at this
  exact this
theorem high_and (b : Nat) (h : b < 2 ^ 64) : bits .and .u64 (b : Int) 9223372036854775808 = ((if 9223372036854775808 ≤ b then 9223372036854775808 else 0 : Nat) : Int) := by
  have := (bits_nat .u64 64 (by decide) wrap_u64_small b (2 ^ 63) h (by decide)).1
  rw [show ((2 ^ 63 : Nat) : Int) = 9223372036854775808 from rfl] at this
  rw [this]
  congr 1
  have e : b &&& 2 ^ 63 = 2 ^ 63 * (b / 2 ^ 63 % 2) := by
    apply Nat.eq_of_testBit_eq; intro i
    rw [Nat.testBit_and, Nat.testBit_two_pow, Nat.testBit_two_pow_mul]
    by_cases hi : i = 63
    · subst hi
      simp [Nat.testBit_eq_decide_div_mod_eq]
    · by_cases h2 : 63 ≤ i
      · have : (b / 2 ^ 63 % 2).testBit (i - 63) = false := Nat.testBit_lt_two_pow (Nat.lt_of_lt_of_le (show b / 2 ^ 63 % 2 < 2 ^ 1 by omega) (Nat.pow_le_pow_right (by omega) (by omega)))
        simp [this, Ne.symm hi]
      · simp [h2, Ne.symm hi]
  rw [e]
  split <;> omega
theorem high_or (b : Nat) (h : b < 2 ^ 63) : bits .or .u64 (b : Int) 9223372036854775808 = ((b + 9223372036854775808 : Nat) : Int) := by
  have := (bits_nat .u64 64 (by decide) wrap_u64_small b (2 ^ 63) (by omega) (by decide)).2
  rw [show ((2 ^ 63 : Nat) : Int) = 9223372036854775808 from rfl] at this
  rw [this, Nat.or_comm]
  have e := Nat.two_pow_add_eq_or_of_lt h 1
  rw [Nat.mul_one] at e
  rw [← e, Nat.add_comm]
theorem self_ne (b : Nat) : (FloatKind.f64.format.order b b != some Ordering.eq) = Fl.nanB b := Fl.order_self b

set_option maxHeartbeats 400000 in
theorem rank_any (b : Nat) (w : World) (hb : b < 18446744073709551616) : Calls Tryd.prog 14 #[.float .f64 b] w fun e w' => e = .returned (.int .u64 ((Fl.rk b : Nat) : Int)) ∧ w' = w := by
  have hs := self_ne b
  have h18 := f64bits b
  cases hn : Fl.nanB b
  · rw [hn] at hs
    by_cases hp : 9223372036854775808 ≤ b
    · have e1 := high_and b (by omega)
      rw [if_pos hp] at e1
      have e2 := not_u64 b (by omega)
      rw [Fl.rk_neg b hn hp]
      generalize 18446744073709551615 - b = r at *
      have e1' : bits .and .u64 (b : Int) 9223372036854775808 = 9223372036854775808 := e1
      clear e1 hp hn
      go_enter Tryd.func14, Tryd.ntmps14
      go_wp2
      go_ret
      exact ⟨rfl, rfl⟩
    · have e1 := high_and b (by omega)
      rw [if_neg hp] at e1
      have e2 := high_or b (by omega)
      rw [Fl.rk_pos b hn (by omega)]
      generalize b + 9223372036854775808 = r at *
      have e1' : bits .and .u64 (b : Int) 9223372036854775808 = 0 := e1
      clear e1 hp hn
      go_enter Tryd.func14, Tryd.ntmps14
      go_wp2
      go_ret
      exact ⟨rfl, rfl⟩
  · rw [hn] at hs
    rw [Fl.rk_nan b hn]
    clear hn
    go_enter Tryd.func14, Tryd.ntmps14
    go_wp2
    go_ret
    exact ⟨rfl, rfl⟩
end Go.Proofs.YtfkjkiobpholjaaDoor
