/- What the program's numbers of ranks, its order, and the document's own, come to at any bits. -/
import Derived.Test.YtfkjkiobpholjaaDoorNum
namespace Go.Proofs.YtfkjkiobpholjaaDoor
open Go.RowKit

theorem high_andNot (b : Nat) (h : b < 2 ^ 64) (hp : 9223372036854775808 ≤ b) : bits .andNot .u64 (b : Int) 9223372036854775808 = ((b - 9223372036854775808 : Nat) : Int) := by
  have hx : (BitVec.ofInt 64 (b : Int)) &&& ~~~(BitVec.ofInt 64 9223372036854775808) = BitVec.ofNat 64 (b - 9223372036854775808) := by
    apply BitVec.eq_of_toNat_eq
    rw [BitVec.toNat_and, BitVec.ofInt_natCast, BitVec.toNat_ofNat, BitVec.toNat_ofNat]
    rw [show (~~~(BitVec.ofInt 64 9223372036854775808)).toNat = 2 ^ 63 - 1 from by decide +kernel, Nat.and_two_pow_sub_one_eq_mod]
    omega
  simp only [bits]
  rw [show IntKind.u64.bits = 64 from rfl, hx, BitVec.toNat_ofNat]
  rw [wrap_u64_small _ (Int.natCast_nonneg _) (by omega)]
  omega
/-- the bits of a rank. -/
def bk (n : Nat) : Nat := if 9223372036854775808 ≤ n then n - 9223372036854775808 else 18446744073709551615 - n
set_option maxRecDepth 10000 in
set_option maxHeartbeats 400000 in
theorem back_any (n : Nat) (w : World) (hb : n < 18446744073709551616) : Calls Tryd.prog 15 #[.int .u64 (n : Int)] w fun e w' => e = .returned (.float .f64 (if Fl.nanB (bk n) then 9221120237041090561 else bk n)) ∧ w' = w := by
  have hself := self_ne (bk n)
  have h17 := frombits (bk n)
  have e2 := not_u64 n (by omega)
  have e3 : 9223372036854775808 ≤ n → bits .andNot .u64 (n : Int) 9223372036854775808 = ((n - 9223372036854775808 : Nat) : Int) := fun hp => high_andNot n (by omega) hp
  have e1 := high_and n (by omega)
  by_cases hp : 9223372036854775808 ≤ n
  · have hbk : bk n = n - 9223372036854775808 := by unfold bk; rw [if_pos hp]
    have e3' := e3 hp
    rw [if_pos hp] at e1
    rw [hbk] at hself h17 ⊢
    generalize n - 9223372036854775808 = r at *
    generalize 18446744073709551615 - n = r2 at *
    have e1' : bits .and .u64 (n : Int) 9223372036854775808 = 9223372036854775808 := e1
    clear e1 hp e3 hbk
    cases hn : Fl.nanB r
    · rw [hn] at hself
      clear hn
      go_enter Tryd.func15, Tryd.ntmps15
      go_wp2
      go_ret
      exact ⟨rfl, rfl⟩
    · rw [hn] at hself
      clear hn
      go_enter Tryd.func15, Tryd.ntmps15
      go_wp2_with (first | (go_at_call 32; go_in))
      refine (nan_a w).mono ?_
      rintro e w1 ⟨rfl, hw⟩
      subst w1
      go_wp2
      go_ret
      exact ⟨rfl, rfl⟩
  · have hbk : bk n = 18446744073709551615 - n := by unfold bk; rw [if_neg hp]
    rw [if_neg hp] at e1
    rw [hbk] at hself h17 ⊢
    generalize 18446744073709551615 - n = r at *
    have e1' : bits .and .u64 (n : Int) 9223372036854775808 = 0 := e1
    clear e1 hp e3 hbk
    cases hn : Fl.nanB r
    · rw [hn] at hself
      clear hn
      go_enter Tryd.func15, Tryd.ntmps15
      go_wp2
      go_ret
      exact ⟨rfl, rfl⟩
    · rw [hn] at hself
      clear hn
      go_enter Tryd.func15, Tryd.ntmps15
      go_wp2_with (first | (go_at_call 32; go_in))
      refine (nan_a w).mono ?_
      rintro e w1 ⟨rfl, hw⟩
      subst w1
      go_wp2
      go_ret
      exact ⟨rfl, rfl⟩
set_option maxHeartbeats 400000 in
theorem refrank_any (b : Nat) (w : World) (hb : b < 18446744073709551616) : Calls Tryd.prog 16 #[.float .f64 b] w fun e w' => e = .returned (.int .u64 ((Fl.rk b : Nat) : Int)) ∧ w' = w := by
  have hs := self_ne b
  have h18 := f64bits b
  cases hn : Fl.nanB b
  · rw [hn] at hs
    by_cases hp : 9223372036854775808 ≤ b
    · rw [Fl.rk_neg b hn hp]
      have e2 : (18446744073709551615 : Int) - (b : Int) = ((18446744073709551615 - b : Nat) : Int) := by omega
      have e3 : IntKind.u64.wrap ((18446744073709551615 - b : Nat) : Int) = ((18446744073709551615 - b : Nat) : Int) := wrap_u64_small _ (Int.natCast_nonneg _) (by omega)
      generalize 18446744073709551615 - b = r at *
      have hp' : (9223372036854775808 : Int) ≤ (b : Int) := by omega
      clear hp hn
      go_enter Tryd.func16, Tryd.ntmps16
      go_wp2
      go_ret
      exact ⟨rfl, rfl⟩
    · rw [Fl.rk_pos b hn (by omega)]
      have e2 : (b : Int) + 9223372036854775808 = ((b + 9223372036854775808 : Nat) : Int) := by omega
      have e3 : IntKind.u64.wrap ((b + 9223372036854775808 : Nat) : Int) = ((b + 9223372036854775808 : Nat) : Int) := wrap_u64_small _ (Int.natCast_nonneg _) (by omega)
      generalize b + 9223372036854775808 = r at *
      have hp' : ¬ (9223372036854775808 : Int) ≤ (b : Int) := by omega
      clear hp hn
      go_enter Tryd.func16, Tryd.ntmps16
      go_wp2
      go_ret
      exact ⟨rfl, rfl⟩
  · rw [hn] at hs
    rw [Fl.rk_nan b hn]
    clear hn
    go_enter Tryd.func16, Tryd.ntmps16
    go_wp2
    go_ret
    exact ⟨rfl, rfl⟩
set_option maxHeartbeats 400000 in
theorem less_any (a b : Nat) (w : World) (ha : a < 18446744073709551616) (hb : b < 18446744073709551616) : Calls Tryd.prog 10 #[.float .f64 a, .float .f64 b] w fun e w' => e = .returned (.bool (decide (Fl.rk a < Fl.rk b))) ∧ w' = w := by
  have r1 := rank_any a w ha
  have r2 := rank_any b w hb
  generalize Fl.rk a = p at *
  generalize Fl.rk b = q at *
  go_enter Tryd.func10, Tryd.ntmps10
  go_wp2_with fail
  refine r1.mono ?_
  rintro e w1 ⟨rfl, hw⟩
  subst w1
  go_wp2_with fail
  refine r2.mono ?_
  rintro e w1 ⟨rfl, hw⟩
  subst w1
  go_wp2
  go_ret
  refine ⟨?_, rfl⟩
  simp
set_option maxHeartbeats 400000 in
theorem same_any (a b : Nat) (w : World) (ha : a < 18446744073709551616) (hb : b < 18446744073709551616) : Calls Tryd.prog 12 #[.float .f64 a, .float .f64 b] w fun e w' => e = .returned (.bool (decide (Fl.rk a = Fl.rk b))) ∧ w' = w := by
  have r1 := rank_any a w ha
  have r2 := rank_any b w hb
  generalize Fl.rk a = p at *
  generalize Fl.rk b = q at *
  go_enter Tryd.func12, Tryd.ntmps12
  go_wp2_with fail
  refine r1.mono ?_
  rintro e w1 ⟨rfl, hw⟩
  subst w1
  go_wp2_with fail
  refine r2.mono ?_
  rintro e w1 ⟨rfl, hw⟩
  subst w1
  go_wp2
  go_ret
  refine ⟨?_, rfl⟩
  rw [show (decide (p = q)) = ((p : Int) == (q : Int)) from by rw [Bool.eq_iff_iff]; simp; omega]
  rfl
end Go.Proofs.YtfkjkiobpholjaaDoor
