/- number.Back: the bits of a rank. A book's bytes, and back, as plain lists. -/
import Derived.Test.YtaalkhipncbjpaaNum
import Derived.Test.YtaalkhipncbjpaaOPure
namespace Go.Proofs.Ytaalkhipncbjpaa
open Go.RowKit
theorem frombits (b : Nat) (w : World) : (callFunc 110 #[.int .u64 (b : Int)]).run Try.prog w = .ok (.value (.float .f64 b)) w := by kernel_rfl
theorem nan_a (w : World) : Calls Try.prog 111 #[] w fun e w' => e = .returned (.float .f64 9221120237041090561) ∧ w' = w := by
  have h17 : ∀ w, (callFunc 110 #[.int .u64 9221120237041090561]).run Try.prog w = .ok (.value (.float .f64 9221120237041090561)) w := fun _ => by kernel_rfl
  go_enter Try.func111, Try.ntmps111
  go_wp2
  go_ret
  exact ⟨rfl, rfl⟩
theorem high_andNot (b : Nat) (h : b < 2 ^ 64) (hp : 9223372036854775808 ≤ b) : bits .andNot .u64 (b : Int) 9223372036854775808 = ((b - 9223372036854775808 : Nat) : Int) := by
  have hx : (BitVec.ofInt 64 (b : Int)) &&& ~~~(BitVec.ofInt 64 9223372036854775808) = BitVec.ofNat 64 (b - 9223372036854775808) := by
    apply BitVec.eq_of_toNat_eq
    rw [BitVec.toNat_and, BitVec.ofInt_natCast, BitVec.toNat_ofNat, BitVec.toNat_ofNat]
    rw [show (~~~(BitVec.ofInt 64 9223372036854775808)).toNat = 2 ^ 63 - 1 from by decide +kernel, Nat.and_two_pow_sub_one_eq_mod]
    omega
  simp only [bits]
  rw [show IntKind.u64.bits = 64 from rfl, hx, BitVec.toNat_ofNat]
  rw [wrap_u64_small _ (Int.natCast_nonneg _) (by omega)]
  omega
/-- the bits of a rank. -/
def bk (n : Nat) : Nat := if 9223372036854775808 ≤ n then n - 9223372036854775808 else 18446744073709551615 - n
set_option maxRecDepth 10000 in
set_option maxHeartbeats 400000 in
theorem back_any (n : Nat) (w : World) (hb : n < 18446744073709551616) : Calls Try.prog 98 #[.int .u64 (n : Int)] w fun e w' => e = .returned (.float .f64 (if Fl.nanB (bk n) then 9221120237041090561 else bk n)) ∧ w' = w := by
  have hself := self_ne (bk n)
  have h17 := frombits (bk n)
  have e2 := not_u64 n (by omega)
  have e3 : 9223372036854775808 ≤ n → bits .andNot .u64 (n : Int) 9223372036854775808 = ((n - 9223372036854775808 : Nat) : Int) := fun hp => high_andNot n (by omega) hp
  have e1 := high_and n (by omega)
  by_cases hp : 9223372036854775808 ≤ n
  · have hbk : bk n = n - 9223372036854775808 := by unfold bk; rw [if_pos hp]
    have e3' := e3 hp
    rw [if_pos hp] at e1
    rw [hbk] at hself h17 ⊢
    generalize n - 9223372036854775808 = r at *
    generalize 18446744073709551615 - n = r2 at *
    have e1' : bits .and .u64 (n : Int) 9223372036854775808 = 9223372036854775808 := e1
    clear e1 hp e3 hbk
    cases hn : Fl.nanB r
    · rw [hn] at hself
      clear hn
      go_enter Try.func98, Try.ntmps98
      go_wp2
      go_ret
      exact ⟨rfl, rfl⟩
    · rw [hn] at hself
      clear hn
      go_enter Try.func98, Try.ntmps98
      go_wp2_with (first | (go_at_call 101; go_in))
      refine (nan_a w).mono ?_
      rintro e w1 ⟨rfl, hw⟩
      subst w1
      go_wp2
      go_ret
      exact ⟨rfl, rfl⟩
  · have hbk : bk n = 18446744073709551615 - n := by unfold bk; rw [if_neg hp]
    rw [if_neg hp] at e1
    rw [hbk] at hself h17 ⊢
    generalize 18446744073709551615 - n = r at *
    have e1' : bits .and .u64 (n : Int) 9223372036854775808 = 0 := e1
    clear e1 hp e3 hbk
    cases hn : Fl.nanB r
    · rw [hn] at hself
      clear hn
      go_enter Try.func98, Try.ntmps98
      go_wp2
      go_ret
      exact ⟨rfl, rfl⟩
    · rw [hn] at hself
      clear hn
      go_enter Try.func98, Try.ntmps98
      go_wp2_with (first | (go_at_call 101; go_in))
      refine (nan_a w).mono ?_
      rintro e w1 ⟨rfl, hw⟩
      subst w1
      go_wp2
      go_ret
      exact ⟨rfl, rfl⟩
theorem bk_rk (b : Nat) (hb : b < 18446744073709551616) (hn : Fl.nanB b = false) : bk (Fl.rk b) = b := by
  have := Fl.nan_le hn
  by_cases h : 9223372036854775808 ≤ b
  · rw [Fl.rk_neg b hn h]; unfold bk; rw [if_neg (by omega)]; omega
  · rw [Fl.rk_pos b hn (by omega)]; unfold bk; rw [if_pos (by omega)]; omega
theorem nan_const : Fl.nanB 9221120237041090561 = true := by decide +kernel
theorem bk_max : Fl.nanB (bk 18446744073709551615) = true := by decide +kernel
theorem rk_bk (n : Nat) (hn : n < 18446744073709551616) (h : Fl.nanB (bk n) = false) : Fl.rk (bk n) = n := by
  by_cases hp : 9223372036854775808 ≤ n
  · have e : bk n = n - 9223372036854775808 := by unfold bk; rw [if_pos hp]
    rw [Fl.rk_pos _ h (by omega), e]; omega
  · have e : bk n = 18446744073709551615 - n := by unfold bk; rw [if_neg hp]
    rw [Fl.rk_neg _ h (by omega), e]; omega
theorem bk_lt (n : Nat) (hn : n < 18446744073709551616) : bk n < 18446744073709551616 := by unfold bk; split <;> omega
end Go.Proofs.Ytaalkhipncbjpaa
namespace Go.Proofs.Ytaalkhipncbjpaa

def nanC : Nat := 9221120237041090561
/-- number.Back. -/
def bkV (n : Nat) : Nat := if Fl.nanB (bk n) then 9221120237041090561 else bk n
theorem bkV_lt (n : Nat) (h : n < 18446744073709551616) : bkV n < 18446744073709551616 := by
  unfold bkV; split
  · decide
  · exact bk_lt n h
theorem bkV_rk (b : Nat) (hb : b < 18446744073709551616) (hn : Fl.nanB b = false) : bkV (Fl.rk b) = b := by
  unfold bkV; rw [bk_rk b hb hn, hn]; rfl
/-- a number by its rank. -/
def fltV (s : Rs) : Nat := if Fl.rk (bkV (numV s 8)) = numV s 8 then bkV (numV s 8) else 0
def fltS (s : Rs) : Rs := if Fl.rk (bkV (numV s 8)) = numV s 8 then numS s 8 else ⟨[], true⟩
theorem flt_front (b : Nat) (hb : b < 18446744073709551616) (hn : Fl.nanB b = false) (r : List Nat) : fltV ⟨Crc.le 8 (Fl.rk b) ++ r, false⟩ = b ∧ fltS ⟨Crc.le 8 (Fl.rk b) ++ r, false⟩ = ⟨r, false⟩ := by
  have hr : Fl.rk b < 256 ^ 8 := by have := Fl.rk_lt b hn hb; omega
  have e : numV ⟨Crc.le 8 (Fl.rk b) ++ r, false⟩ 8 = Fl.rk b := by rw [(num_front 8 _ r).1, Nat.mod_eq_of_lt hr]
  have e2 : bkV (Fl.rk b) = b := bkV_rk b hb hn
  unfold fltV fltS
  rw [e, e2, if_pos rfl, if_pos rfl, (num_front 8 _ r).2]
  exact ⟨rfl, rfl⟩
theorem num_back (s : Rs) (n : Nat) (hx : ∀ x ∈ s.l, x < 256) (hb : (numS s n).bad = false) : s.bad = false ∧ s.l = Crc.le n (numV s n) ++ (numS s n).l ∧ (∀ x ∈ (numS s n).l, x < 256) := by
  by_cases h : s.has n
  · have e1 : numV s n = Crc.num (s.l.take n) := by unfold numV; rw [if_pos h]
    have e2 : numS s n = ⟨s.l.drop n, false⟩ := by unfold numS; rw [if_pos h]
    rw [e1, e2]
    refine ⟨h.1, ?_, fun x hx' => hx x (List.mem_of_mem_drop hx')⟩
    have hl : (s.l.take n).length = n := by rw [List.length_take]; exact Nat.min_eq_left h.2
    have ht : ∀ x ∈ s.l.take n, x < 256 := fun x hx' => hx x (List.mem_of_mem_take hx')
    have : Crc.le n (Crc.num (s.l.take n)) = s.l.take n := by
      refine Crc.num_inj _ _ (Crc.le_lt _ _) ht (by rw [Crc.le_length, hl]) ?_
      rw [Crc.num_le, Nat.mod_eq_of_lt]
      have := Crc.num_lt (s.l.take n) ht
      rwa [hl] at this
    rw [this]
    exact (List.take_append_drop n s.l).symm
  · unfold numS at hb; rw [if_neg h] at hb; cases hb
theorem flt_back (s : Rs) (hx : ∀ x ∈ s.l, x < 256) (hb : (fltS s).bad = false) : s.bad = false ∧ s.l = Crc.le 8 (Fl.rk (fltV s)) ++ (fltS s).l ∧ (∀ x ∈ (fltS s).l, x < 256) := by
  by_cases h : Fl.rk (bkV (numV s 8)) = numV s 8
  · have e1 : fltV s = bkV (numV s 8) := by unfold fltV; rw [if_pos h]
    have e2 : fltS s = numS s 8 := by unfold fltS; rw [if_pos h]
    rw [e2] at hb ⊢
    rw [e1, h]
    exact num_back s 8 hx hb
  · unfold fltS at hb; rw [if_neg h] at hb; cases hb
end Go.Proofs.Ytaalkhipncbjpaa
