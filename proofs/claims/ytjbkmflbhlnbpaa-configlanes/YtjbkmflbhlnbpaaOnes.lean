/- How many bits are set: the library's sum of bits, step by step, is their number. -/
import Derived.Test.YtjbkmflbhlnbpaaBase
namespace Go.Proofs.Ytjbkmflbhlnbpaa
open Go.RowKit
namespace Ones
def pop : Nat → Nat → Nat
  | 0, _ => 0
  | f + 1, x => x % 2 + pop f (x / 2)
def rep (m : Nat) : Nat → Nat
  | 0 => 0
  | k + 1 => rep m k * 256 + m
theorem bit_join (a b j : Nat) (hb : b < 256) : (a * 256 + b).testBit j = if j < 8 then b.testBit j else a.testBit (j - 8) := by
  have := Nat.testBit_two_pow_mul_add a (show b < 2 ^ 8 from hb) j
  rw [← this]
  congr 1
  omega
/-- a shift, then a mask that takes nothing from the next byte. -/
theorem shift_mask (s M μ hi lo : Nat) (hμ : μ < 2 ^ (8 - s)) (hs : s ≤ 8) (hlo : lo < 256) :
    ((hi * 256 + lo) >>> s) &&& (M * 256 + μ) = ((hi >>> s) &&& M) * 256 + ((lo >>> s) &&& μ) := by
  have hμ8 : μ < 256 := Nat.lt_of_lt_of_le hμ (by have := Nat.pow_le_pow_right (n := 2) (by decide) (show 8 - s ≤ 8 by omega); simpa using this)
  apply Nat.eq_of_testBit_eq
  intro j
  rw [Nat.testBit_and, Nat.testBit_shiftRight, bit_join _ _ _ hlo, bit_join _ _ _ hμ8, bit_join _ _ _ (Nat.lt_of_le_of_lt Nat.and_le_right hμ8)]
  by_cases hj : j < 8
  · rw [if_pos hj, if_pos hj, Nat.testBit_and, Nat.testBit_shiftRight]
    by_cases hsj : s + j < 8
    · rw [if_pos hsj]
    · rw [Nat.testBit_lt_two_pow (Nat.lt_of_lt_of_le hμ (Nat.pow_le_pow_right (by decide) (show 8 - s ≤ j by omega))), Bool.and_false, Bool.and_false]
  · rw [if_neg hj, if_neg hj, if_neg (by omega), Nat.testBit_and, Nat.testBit_shiftRight]
    congr 2
    omega
theorem mask (M μ hi lo : Nat) (hμ : μ < 256) (hlo : lo < 256) : (hi * 256 + lo) &&& (M * 256 + μ) = (hi &&& M) * 256 + (lo &&& μ) := by
  have := shift_mask 0 M μ hi lo hμ (by decide) hlo
  simpa using this
def V (k x : Nat) : Nat := ((x >>> 1) &&& rep 85 k) + (x &&& rep 85 k)
def V8 (x : Nat) : Nat := ((x >>> 1) &&& 85) + (x &&& 85)
def Z (k x : Nat) : Nat := ((x >>> 2) &&& rep 51 k) + (x &&& rep 51 k)
def Z8 (x : Nat) : Nat := ((x >>> 2) &&& 51) + (x &&& 51)
def Y (k x : Nat) : Nat := ((x >>> 4) + x) &&& rep 15 k
theorem V_step (k hi lo : Nat) (hlo : lo < 256) : V (k + 1) (hi * 256 + lo) = V k hi * 256 + V8 lo := by
  unfold V V8
  rw [show rep 85 (k + 1) = rep 85 k * 256 + 85 from rfl, shift_mask 1 _ _ _ _ (by decide) (by decide) hlo, mask _ _ _ _ (by decide) hlo, Nat.add_mul]
  omega
theorem Z_step (k hi lo : Nat) (hlo : lo < 256) : Z (k + 1) (hi * 256 + lo) = Z k hi * 256 + Z8 lo := by
  unfold Z Z8
  rw [show rep 51 (k + 1) = rep 51 k * 256 + 51 from rfl, shift_mask 2 _ _ _ _ (by decide) (by decide) hlo, mask _ _ _ _ (by decide) hlo, Nat.add_mul]
  omega
theorem byte_facts : ∀ b : Fin 256, V8 b.val < 256 ∧ Z8 (V8 b.val) % 16 ≤ 4 ∧ Z8 (V8 b.val) ≤ 68 ∧ ((Z8 (V8 b.val)) / 16 + Z8 (V8 b.val)) % 16 = pop 8 b.val ∧ pop 8 b.val ≤ 8 := by decide +kernel
theorem ZV_step (k hi lo : Nat) (hlo : lo < 256) : Z (k + 1) (V (k + 1) (hi * 256 + lo)) = Z k (V k hi) * 256 + Z8 (V8 lo) := by
  rw [V_step k hi lo hlo, Z_step _ _ _ (byte_facts ⟨lo, hlo⟩).1]
theorem ZV_mod (k x : Nat) : Z k (V k x) % 16 ≤ 4 := by
  cases k with
  | zero => simp [Z, rep]
  | succ k =>
    have h := ZV_step k (x / 256) (x % 256) (Nat.mod_lt _ (by decide))
    rw [show x / 256 * 256 + x % 256 = x by omega] at h
    rw [h]
    have := (byte_facts ⟨x % 256, Nat.mod_lt _ (by decide)⟩).2.1
    simp only at this
    omega
theorem Y_step (k hi lo : Nat) (hlo : lo < 256) : Y (k + 1) (Z (k + 1) (V (k + 1) (hi * 256 + lo))) = Y k (Z k (V k hi)) * 256 + pop 8 lo := by
  rw [ZV_step k hi lo hlo]
  have h1 := ZV_mod k hi
  obtain ⟨_, h2, h3, h4, _⟩ := byte_facts ⟨lo, hlo⟩
  simp only at h2 h3 h4
  generalize Z k (V k hi) = a at *
  generalize Z8 (V8 lo) = b at *
  unfold Y
  rw [show rep 15 (k + 1) = rep 15 k * 256 + 15 from rfl]
  have e : ((a * 256 + b) >>> 4) + (a * 256 + b) = ((a >>> 4) + a) * 256 + (b / 16 + b + 16 * (a % 16)) := by
    rw [Nat.shiftRight_eq_div_pow, Nat.shiftRight_eq_div_pow]
    omega
  rw [e, mask _ _ _ _ (by decide) (by omega)]
  congr 1
  have e15 : ∀ c : Nat, c &&& 15 = c % 16 := fun c => Nat.and_two_pow_sub_one_eq_mod c 4
  rw [e15, ← h4]
  omega
theorem pop_add (a b x : Nat) : pop (a + b) x = pop a x + pop b (x / 2 ^ a) := by
  induction a generalizing x with
  | zero => simp [pop]
  | succ a ih =>
    rw [show a + 1 + b = (a + b) + 1 by omega]
    simp only [pop, ih]
    rw [Nat.div_div_eq_div_mul, show 2 * 2 ^ a = 2 ^ (a + 1) by rw [Nat.pow_succ]; omega]
    omega
theorem pop8_mod (x : Nat) : pop 8 (x % 256) = pop 8 x := by simp only [pop]; omega
theorem pop_byte (f x : Nat) : pop (8 + f) x = pop 8 (x % 256) + pop f (x / 256) := by rw [pop_add, pop8_mod]
theorem pop_count (f x : Nat) : pop f x = ((List.range f).filter fun i => x.testBit i).length := by
  induction f generalizing x with
  | zero => rfl
  | succ f ih =>
    rw [List.range_succ_eq_map, List.filter_cons]
    have h2 : ((List.map Nat.succ (List.range f)).filter fun i => x.testBit i).length = pop f (x / 2) := by
      rw [List.filter_map, List.length_map, ih]
      congr 1
      apply List.filter_congr
      intro i _
      show x.testBit (i + 1) = _
      rw [Nat.testBit_succ]
    rcases Nat.mod_two_eq_zero_or_one x with h | h
    · rw [if_neg (by simp [h]), h2]
      simp only [pop, h]; omega
    · rw [if_pos (by simp [h]), List.length_cons, h2]
      simp only [pop, h]; omega
theorem digits (x : Nat) : ∃ p0 p1 p2 p3 p4 p5 p6 p7 : Nat, p0 ≤ 8 ∧ p1 ≤ 8 ∧ p2 ≤ 8 ∧ p3 ≤ 8 ∧ p4 ≤ 8 ∧ p5 ≤ 8 ∧ p6 ≤ 8 ∧ p7 ≤ 8 ∧
    Y 8 (Z 8 (V 8 x)) = p0 + 256 * p1 + 65536 * p2 + 16777216 * p3 + 4294967296 * p4 + 1099511627776 * p5 + 281474976710656 * p6 + 72057594037927936 * p7 ∧ pop 64 x = p0 + p1 + p2 + p3 + p4 + p5 + p6 + p7 := by
  have st : ∀ k x, Y (k + 1) (Z (k + 1) (V (k + 1) x)) = Y k (Z k (V k (x / 256))) * 256 + pop 8 (x % 256) := fun k x => by
    have := Y_step k (x / 256) (x % 256) (Nat.mod_lt _ (by decide))
    rwa [show x / 256 * 256 + x % 256 = x by omega] at this
  have z : ∀ x, Y 0 (Z 0 (V 0 x)) = 0 := fun x => by simp [Y, rep]
  have le : ∀ x, pop 8 (x % 256) ≤ 8 := fun x => (byte_facts ⟨x % 256, Nat.mod_lt _ (by decide)⟩).2.2.2.2
  refine ⟨_, _, _, _, _, _, _, _, le x, le (x / 256), le (x / 256 / 256), le (x / 256 / 256 / 256), le (x / 256 / 256 / 256 / 256), le (x / 256 / 256 / 256 / 256 / 256), le (x / 256 / 256 / 256 / 256 / 256 / 256), le (x / 256 / 256 / 256 / 256 / 256 / 256 / 256), ?_, ?_⟩
  · rw [st, st, st, st, st, st, st, st, z]
    omega
  · rw [show 64 = 8 + (8 + (8 + (8 + (8 + (8 + (8 + (8 + 0))))))) by decide]
    simp only [pop_byte]
    simp only [pop]
    omega
theorem div_at (m a x : Nat) (h : a < m) : (a + m * x) / m = x := by
  rw [Nat.add_mul_div_left _ _ (by omega), Nat.div_eq_of_lt h]
  omega
theorem swar_digits (y p0 p1 p2 p3 p4 p5 p6 p7 : Nat) (h0 : p0 ≤ 8) (h1 : p1 ≤ 8) (h2 : p2 ≤ 8) (h3 : p3 ≤ 8) (h4 : p4 ≤ 8) (h5 : p5 ≤ 8) (h6 : p6 ≤ 8) (h7 : p7 ≤ 8)
    (hy : y = p0 + 256 * p1 + 65536 * p2 + 16777216 * p3 + 4294967296 * p4 + 1099511627776 * p5 + 281474976710656 * p6 + 72057594037927936 * p7) :
    ∃ y1 y2 y3, y1 = y + y / 256 ∧ y2 = y1 + y1 / 65536 ∧ y3 = y2 + y2 / 4294967296 ∧ y1 < 18446744073709551616 ∧ y2 < 18446744073709551616 ∧ y3 < 9223372036854775808 ∧ y3 % 128 = p0 + p1 + p2 + p3 + p4 + p5 + p6 + p7 := by
  have e1 : y / 256 = p1 + 256 * p2 + 65536 * p3 + 16777216 * p4 + 4294967296 * p5 + 1099511627776 * p6 + 281474976710656 * p7 := by
    rw [hy, show p0 + 256 * p1 + 65536 * p2 + 16777216 * p3 + 4294967296 * p4 + 1099511627776 * p5 + 281474976710656 * p6 + 72057594037927936 * p7 = p0 + 256 * (p1 + 256 * p2 + 65536 * p3 + 16777216 * p4 + 4294967296 * p5 + 1099511627776 * p6 + 281474976710656 * p7) by omega]
    exact div_at _ _ _ (by clear hy; omega)
  obtain ⟨y1, hy1, hz1⟩ : ∃ y1, y1 = y + y / 256 ∧ y1 = (p0 + p1) + 256 * (p1 + p2) + 65536 * ((p2 + p3) + 256 * (p3 + p4) + 65536 * (p4 + p5) + 16777216 * (p5 + p6) + 4294967296 * (p6 + p7) + 1099511627776 * p7) := ⟨_, rfl, by rw [e1, hy]; clear e1 hy; omega⟩
  have e2 : y1 / 65536 = (p2 + p3) + 256 * (p3 + p4) + 65536 * (p4 + p5) + 16777216 * (p5 + p6) + 4294967296 * (p6 + p7) + 1099511627776 * p7 := by
    rw [hz1]
    exact div_at _ _ _ (by clear hz1 hy1 e1 hy; omega)
  obtain ⟨y2, hy2, hz2⟩ : ∃ y2, y2 = y1 + y1 / 65536 ∧ y2 = (p0 + p1 + p2 + p3) + 256 * (p1 + p2 + p3 + p4) + 65536 * (p2 + p3 + p4 + p5) + 16777216 * (p3 + p4 + p5 + p6) + 4294967296 * ((p4 + p5 + p6 + p7) + 256 * (p5 + p6 + p7) + 65536 * (p6 + p7) + 16777216 * p7) := ⟨_, rfl, by rw [e2, hz1]; clear e2 hz1 hy1 e1 hy; omega⟩
  have e3 : y2 / 4294967296 = (p4 + p5 + p6 + p7) + 256 * (p5 + p6 + p7) + 65536 * (p6 + p7) + 16777216 * p7 := by
    rw [hz2]
    exact div_at _ _ _ (by clear hz2 hy2 e2 hz1 hy1 e1 hy; omega)
  obtain ⟨y3, hy3, hz3⟩ : ∃ y3, y3 = y2 + y2 / 4294967296 ∧ y3 = (p0 + p1 + p2 + p3 + p4 + p5 + p6 + p7) + 128 * (2 * (p1 + p2 + p3 + p4 + p5 + p6 + p7) + 512 * (p2 + p3 + p4 + p5 + p6 + p7) + 131072 * (p3 + p4 + p5 + p6 + p7) + 33554432 * (p4 + p5 + p6 + p7) + 8589934592 * (p5 + p6 + p7) + 2199023255552 * (p6 + p7) + 562949953421312 * p7) := ⟨_, rfl, by rw [e3, hz2]; clear e3 hz2 hy2 e2 hz1 hy1 e1 hy; omega⟩
  refine ⟨y1, y2, y3, hy1, hy2, hy3, ?_, ?_, ?_, ?_⟩
  · clear e1 e2 e3 hy hy1 hy2 hy3 hz2 hz3; omega
  · clear e1 e2 e3 hy hy1 hy2 hy3 hz1 hz3; omega
  · clear e1 e2 e3 hy hy1 hy2 hy3 hz1 hz2; omega
  · rw [hz3, Nat.add_mul_mod_self_left, Nat.mod_eq_of_lt (by clear e1 e2 e3 hy hy1 hy2 hy3 hz1 hz2 hz3; omega)]
end Ones
theorem wrap_small (n : Nat) (h : n < 18446744073709551616) : IntKind.u64.wrap (n : Int) = (n : Int) := by
  simp [IntKind.wrap, IntKind.bits, IntKind.signed]
  omega
theorem ones_e1 (m : Nat) (hm : m < 18446744073709551616) : IntKind.u64.wrap (bits .and .u64 ((m : Int) / 2) 6148914691236517205 + bits .and .u64 (m : Int) 6148914691236517205) = ((Ones.V 8 m : Nat) : Int) ∧ Ones.V 8 m < 18446744073709551616 := by
  have hr : Ones.rep 85 8 = 6148914691236517205 := by decide +kernel
  have h1 : bits .and .u64 ((m : Int) / 2) 6148914691236517205 = (((m >>> 1) &&& 6148914691236517205 : Nat) : Int) := by
    have := u64_and_nat (m >>> 1) 6148914691236517205 (by rw [Nat.shiftRight_eq_div_pow]; omega) (by decide)
    rw [← this, Nat.shiftRight_eq_div_pow]
    simp
  have h2 : bits .and .u64 (m : Int) 6148914691236517205 = ((m &&& 6148914691236517205 : Nat) : Int) := u64_and_nat m 6148914691236517205 hm (by decide)
  have l1 : (m >>> 1) &&& 6148914691236517205 ≤ 6148914691236517205 := Nat.and_le_right
  have l2 : m &&& 6148914691236517205 ≤ 6148914691236517205 := Nat.and_le_right
  have hV : Ones.V 8 m = ((m >>> 1) &&& 6148914691236517205) + (m &&& 6148914691236517205) := by unfold Ones.V; rw [hr]
  rw [h1, h2, hV, ← Int.natCast_add]
  exact ⟨wrap_small _ (by omega), by omega⟩
theorem ones_e2 (m : Nat) (hm : m < 18446744073709551616) : IntKind.u64.wrap (bits .and .u64 ((m : Int) / 4) 3689348814741910323 + bits .and .u64 (m : Int) 3689348814741910323) = ((Ones.Z 8 m : Nat) : Int) ∧ Ones.Z 8 m ≤ 7378697629483820646 := by
  have hr : Ones.rep 51 8 = 3689348814741910323 := by decide +kernel
  have h1 : bits .and .u64 ((m : Int) / 4) 3689348814741910323 = (((m >>> 2) &&& 3689348814741910323 : Nat) : Int) := by
    have := u64_and_nat (m >>> 2) 3689348814741910323 (by rw [Nat.shiftRight_eq_div_pow]; omega) (by decide)
    rw [← this, Nat.shiftRight_eq_div_pow]
    simp
  have h2 : bits .and .u64 (m : Int) 3689348814741910323 = ((m &&& 3689348814741910323 : Nat) : Int) := u64_and_nat m 3689348814741910323 hm (by decide)
  have l1 : (m >>> 2) &&& 3689348814741910323 ≤ 3689348814741910323 := Nat.and_le_right
  have l2 : m &&& 3689348814741910323 ≤ 3689348814741910323 := Nat.and_le_right
  have hV : Ones.Z 8 m = ((m >>> 2) &&& 3689348814741910323) + (m &&& 3689348814741910323) := by unfold Ones.Z; rw [hr]
  rw [h1, h2, hV, ← Int.natCast_add]
  exact ⟨wrap_small _ (by omega), by omega⟩
theorem ones_e3 (m : Nat) (hm : m ≤ 7378697629483820646) : bits .and .u64 (IntKind.u64.wrap ((m : Int) / 16 + (m : Int))) 1085102592571150095 = ((Ones.Y 8 m : Nat) : Int) := by
  have hr : Ones.rep 15 8 = 1085102592571150095 := by decide +kernel
  have h0 : (m : Int) / 16 + (m : Int) = ((m / 16 + m : Nat) : Int) := by omega
  rw [h0, wrap_small _ (by omega)]
  have h2 := u64_and_nat (m / 16 + m) 1085102592571150095 (by omega) (by decide)
  unfold Ones.Y
  rw [hr, Nat.shiftRight_eq_div_pow]
  exact h2
theorem ones_e4 (y a d : Nat) (h : a = y + y / d) (ha : a < 18446744073709551616) : IntKind.u64.wrap ((y : Int) + (y : Int) / (d : Int)) = (a : Int) := by
  rw [show (y : Int) + (y : Int) / (d : Int) = (a : Int) by rw [h]; simp]
  exact wrap_small _ ha
theorem ones_e5 (y : Nat) (h : y < 9223372036854775808) : bits .and .i64 (wrap64 (y : Int)) 127 = ((y % 128 : Nat) : Int) := by
  have h1 : wrap64 (y : Int) = (y : Int) := by simp [wrap64]; omega
  rw [h1]
  have := bits_mask .i64 63 (by decide) (fun n h0 h1 => by rw [IntKind.wrap_i64]; omega) 7 (by decide) (y : Int) (by omega) (by omega)
  simpa using this
set_option maxHeartbeats 400000 in
theorem ones_any (m : Nat) (w : World) (hm : m < 18446744073709551616) :
    Calls Try.prog 47 #[.int .u64 (m : Int)] w fun e w' => e = .returned (.int .i64 ((Ones.pop 64 m : Nat) : Int)) ∧ w' = w := by
  go_enter Try.func47, Try.ntmps47
  go_wp2
  go_ret
  refine ⟨ret_int ?_, rfl⟩
  obtain ⟨h1, k1⟩ := ones_e1 m hm
  rw [h1]
  obtain ⟨p0, p1, p2, p3, p4, p5, p6, p7, l0, l1, l2, l3, l4, l5, l6, l7, hy, hp⟩ := Ones.digits m
  generalize Ones.V 8 m = v at *
  obtain ⟨h2, k2⟩ := ones_e2 v k1
  rw [h2]
  generalize Ones.Z 8 v = z at *
  rw [ones_e3 z k2]
  generalize Ones.Y 8 z = y at *
  obtain ⟨y1, y2, y3, a1, a2, a3, b1, b2, b3, hs⟩ := Ones.swar_digits y p0 p1 p2 p3 p4 p5 p6 p7 l0 l1 l2 l3 l4 l5 l6 l7 hy
  rw [show (256 : Int) = ((256 : Nat) : Int) from rfl, ones_e4 y y1 256 a1 b1, show (65536 : Int) = ((65536 : Nat) : Int) from rfl, ones_e4 y1 y2 65536 a2 b2, show (4294967296 : Int) = ((4294967296 : Nat) : Int) from rfl, ones_e4 y2 y3 4294967296 a3 (by omega), ones_e5 y3 b3, hs, hp]
end Go.Proofs.Ytjbkmflbhlnbpaa
