/- number.Back: the bits of a rank. -/
import Derived.Test.YtlneneacbjkheaaNum
namespace Go.Proofs.Ytlneneacbjkheaa
open Go.RowKit
theorem frombits (b : Nat) (w : World) : (callFunc 57 #[.int .u64 (b : Int)]).run Try.prog w = .ok (.value (.float .f64 b)) w := by kernel_rfl
theorem nan_a (w : World) : Calls Try.prog 58 #[] w fun e w' => e = .returned (.float .f64 9221120237041090561) ∧ w' = w := by
  have h17 : ∀ w, (callFunc 57 #[.int .u64 9221120237041090561]).run Try.prog w = .ok (.value (.float .f64 9221120237041090561)) w := fun _ => by kernel_rfl
  go_enter Try.func58, Try.ntmps58
  go_wp2
  go_ret
  exact ⟨rfl, rfl⟩
theorem high_andNot (b : Nat) (h : b < 2 ^ 64) (hp : 9223372036854775808 ≤ b) : bits .andNot .u64 (b : Int) 9223372036854775808 = ((b - 9223372036854775808 : Nat) : Int) := by
  have hx : (BitVec.ofInt 64 (b : Int)) &&& ~~~(BitVec.ofInt 64 9223372036854775808) = BitVec.ofNat 64 (b - 9223372036854775808) := by
    apply BitVec.eq_of_toNat_eq
    rw [BitVec.toNat_and, BitVec.ofInt_natCast, BitVec.toNat_ofNat, BitVec.toNat_ofNat]
    rw [show (~~~(BitVec.ofInt 64 9223372036854775808)).toNat = 2 ^ 63 - 1 from by decide +kernel, Nat.and_two_pow_sub_one_eq_mod]
    omega
  simp only [bits]
  rw [show IntKind.u64.bits = 64 from rfl, hx, BitVec.toNat_ofNat]
  rw [wrap_u64_small _ (Int.natCast_nonneg _) (by omega)]
  omega
/-- the bits of a rank. -/
def bk (n : Nat) : Nat := if 9223372036854775808 ≤ n then n - 9223372036854775808 else 18446744073709551615 - n
set_option maxRecDepth 10000 in
set_option maxHeartbeats 400000 in
theorem back_any (n : Nat) (w : World) (hb : n < 18446744073709551616) : Calls Try.prog 54 #[.int .u64 (n : Int)] w fun e w' => e = .returned (.float .f64 (if Fl.nanB (bk n) then 9221120237041090561 else bk n)) ∧ w' = w := by
  have hself := self_ne (bk n)
  have h17 := frombits (bk n)
  have e2 := not_u64 n (by omega)
  have e3 : 9223372036854775808 ≤ n → bits .andNot .u64 (n : Int) 9223372036854775808 = ((n - 9223372036854775808 : Nat) : Int) := fun hp => high_andNot n (by omega) hp
  have e1 := high_and n (by omega)
  by_cases hp : 9223372036854775808 ≤ n
  · have hbk : bk n = n - 9223372036854775808 := by unfold bk; rw [if_pos hp]
    have e3' := e3 hp
    rw [if_pos hp] at e1
    rw [hbk] at hself h17 ⊢
    generalize n - 9223372036854775808 = r at *
    generalize 18446744073709551615 - n = r2 at *
    have e1' : bits .and .u64 (n : Int) 9223372036854775808 = 9223372036854775808 := e1
    clear e1 hp e3 hbk
    cases hn : Fl.nanB r
    · rw [hn] at hself
      clear hn
      go_enter Try.func54, Try.ntmps54
      go_wp2
      go_ret
      exact ⟨rfl, rfl⟩
    · rw [hn] at hself
      clear hn
      go_enter Try.func54, Try.ntmps54
      go_wp2_with (first | (go_at_call 56; go_in))
      refine (nan_a w).mono ?_
      rintro e w1 ⟨rfl, hw⟩
      subst w1
      go_wp2
      go_ret
      exact ⟨rfl, rfl⟩
  · have hbk : bk n = 18446744073709551615 - n := by unfold bk; rw [if_neg hp]
    rw [if_neg hp] at e1
    rw [hbk] at hself h17 ⊢
    generalize 18446744073709551615 - n = r at *
    have e1' : bits .and .u64 (n : Int) 9223372036854775808 = 0 := e1
    clear e1 hp e3 hbk
    cases hn : Fl.nanB r
    · rw [hn] at hself
      clear hn
      go_enter Try.func54, Try.ntmps54
      go_wp2
      go_ret
      exact ⟨rfl, rfl⟩
    · rw [hn] at hself
      clear hn
      go_enter Try.func54, Try.ntmps54
      go_wp2_with (first | (go_at_call 56; go_in))
      refine (nan_a w).mono ?_
      rintro e w1 ⟨rfl, hw⟩
      subst w1
      go_wp2
      go_ret
      exact ⟨rfl, rfl⟩
theorem bk_rk (b : Nat) (hb : b < 18446744073709551616) (hn : Fl.nanB b = false) : bk (Fl.rk b) = b := by
  have := Fl.nan_le hn
  by_cases h : 9223372036854775808 ≤ b
  · rw [Fl.rk_neg b hn h]; unfold bk; rw [if_neg (by omega)]; omega
  · rw [Fl.rk_pos b hn (by omega)]; unfold bk; rw [if_pos (by omega)]; omega
theorem nan_const : Fl.nanB 9221120237041090561 = true := by decide +kernel
theorem bk_max : Fl.nanB (bk 18446744073709551615) = true := by decide +kernel
theorem rk_bk (n : Nat) (hn : n < 18446744073709551616) (h : Fl.nanB (bk n) = false) : Fl.rk (bk n) = n := by
  by_cases hp : 9223372036854775808 ≤ n
  · have e : bk n = n - 9223372036854775808 := by unfold bk; rw [if_pos hp]
    rw [Fl.rk_pos _ h (by omega), e]; omega
  · have e : bk n = 18446744073709551615 - n := by unfold bk; rw [if_neg hp]
    rw [Fl.rk_neg _ h (by omega), e]; omega
theorem bk_lt (n : Nat) (hn : n < 18446744073709551616) : bk n < 18446744073709551616 := by unfold bk; split <;> omega
end Go.Proofs.Ytlneneacbjkheaa
