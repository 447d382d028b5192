/- The plain mathematics of numbers that float: their order is that of their ranks. No program is named here. -/
import Ieee.Arith
namespace Go.Proofs.Ytaalkhipncbjpaa.Fl
open Ieee
/-- a number's size, in units of the least place, by its lower bits. -/
def mag (r : Nat) : Nat := if r < 4503599627370496 then r else (4503599627370496 + r % 4503599627370496) * 2 ^ (r / 4503599627370496 - 1)
def infR : Nat := 9218868437227405312
def rung (b : Nat) : Nat := b % 9223372036854775808
def neg (b : Nat) : Bool := b / 9223372036854775808 % 2 == 1
def nan (b : Nat) : Prop := infR < rung b
def val (b : Nat) : Int := if neg b then -(mag (rung b) : Int) else (mag (rung b) : Int)

theorem mag_step (r : Nat) : mag r < mag (r + 1) := by
  unfold mag
  by_cases h1 : r + 1 < 4503599627370496
  · rw [if_pos (by omega), if_pos h1]; omega
  · rw [if_neg h1]
    by_cases h2 : r < 4503599627370496
    · rw [if_pos h2]
      have : r + 1 = 4503599627370496 := by omega
      rw [this]; omega
    · rw [if_neg h2]
      by_cases h3 : (r + 1) % 4503599627370496 = 0
      · have e1 : r % 4503599627370496 = 4503599627370495 := by omega
        have e2 : (r + 1) / 4503599627370496 - 1 = (r / 4503599627370496 - 1) + 1 := by omega
        rw [e1, h3, e2, Nat.pow_succ]
        have hp := Nat.two_pow_pos (r / 4503599627370496 - 1)
        generalize 2 ^ (r / 4503599627370496 - 1) = p at *
        omega
      · have e1 : (r + 1) % 4503599627370496 = r % 4503599627370496 + 1 := by omega
        have e2 : (r + 1) / 4503599627370496 = r / 4503599627370496 := by omega
        rw [e1, e2]
        exact Nat.mul_lt_mul_of_pos_right (by omega) (Nat.two_pow_pos _)
theorem mag_lt {r s : Nat} (h : r < s) : mag r < mag s := by
  induction s with
  | zero => omega
  | succ s ih =>
    rcases Nat.lt_or_ge r s with h' | h'
    · exact Nat.lt_trans (ih h') (mag_step s)
    · have : r = s := by omega
      subst this; exact mag_step r
theorem mag_lt_iff (r s : Nat) : mag r < mag s ↔ r < s := by
  constructor
  · intro h
    rcases Nat.lt_trichotomy r s with h' | h' | h'
    · exact h'
    · subst h'; omega
    · have := mag_lt h'; omega
  · exact mag_lt
theorem mag_inj (r s : Nat) : mag r = mag s ↔ r = s := by
  constructor
  · intro h
    rcases Nat.lt_trichotomy r s with h' | h' | h'
    · have := mag_lt h'; omega
    · exact h'
    · have := mag_lt h'; omega
  · intro h; rw [h]
theorem mag_zero : mag 0 = 0 := rfl

theorem lp : double.leastPlace = -1074 := rfl
/-- how a word is read, by its lower bits. -/
theorem read_fin (b : Nat) (h : rung b < infR) : ∃ (m : Nat) (k : Nat), double.read b = .number (neg b) m (-1074 + (k : Int)) ∧ m * 2 ^ k = mag (rung b) := by
  unfold Format.read
  have e1 : double.signWeight = 9223372036854775808 := rfl
  have e2 : double.binade = 4503599627370496 := rfl
  have e3 : double.infRung = 9218868437227405312 := rfl
  simp only [e1, e2, e3, lp]
  unfold rung infR at h
  unfold mag rung neg
  by_cases h1 : b % 9223372036854775808 < 4503599627370496
  · refine ⟨b % 9223372036854775808, 0, ?_, ?_⟩
    · rw [if_pos h1]; rfl
    · rw [if_pos h1]; simp
  · refine ⟨4503599627370496 + b % 9223372036854775808 % 4503599627370496, b % 9223372036854775808 / 4503599627370496 - 1, ?_, ?_⟩
    · rw [if_neg h1, if_pos h]
    · rw [if_neg h1]
theorem read_inf (b : Nat) (h : rung b = infR) : double.read b = .infinity (neg b) := by
  unfold Format.read
  have e1 : double.signWeight = 9223372036854775808 := rfl
  have e2 : double.binade = 4503599627370496 := rfl
  have e3 : double.infRung = 9218868437227405312 := rfl
  simp only [e1, e2, e3]
  unfold rung infR at h
  unfold neg
  rw [h, if_neg (by omega), if_neg (by omega), if_pos rfl]
theorem read_nan (b : Nat) (h : nan b) : ∃ f, double.read b = .nan (neg b) f := by
  unfold Format.read
  have e1 : double.signWeight = 9223372036854775808 := rfl
  have e2 : double.binade = 4503599627370496 := rfl
  have e3 : double.infRung = 9218868437227405312 := rfl
  simp only [e1, e2, e3]
  unfold nan rung infR at h
  unfold neg
  exact ⟨b % 9223372036854775808 - 9218868437227405312, by rw [if_neg (by omega), if_neg (by omega), if_neg (by omega)]⟩
theorem order_nan_left (a b : Nat) (h : nan a) : double.order a b = none := by
  obtain ⟨f, hf⟩ := read_nan a h
  unfold Format.order; rw [hf]; cases double.read b <;> rfl
theorem order_nan_right (a b : Nat) (h : nan b) : double.order a b = none := by
  obtain ⟨f, hf⟩ := read_nan b h
  unfold Format.order; rw [hf]; cases double.read a <;> rfl

theorem signed_eq (s : Bool) (m k : Nat) : signed s m k = (if s then -((m * 2 ^ k : Nat) : Int) else ((m * 2 ^ k : Nat) : Int)) := by
  unfold signed; rw [Nat.shiftLeft_eq]
theorem compare_scale (x y : Int) (k : Nat) : compare (x * 2 ^ k) (y * 2 ^ k) = compare x y := by
  have hp : (0 : Int) < 2 ^ k := Int.pow_pos (by decide)
  simp only [compare, compareOfLessAndEq]
  have h1 : x * 2 ^ k < y * 2 ^ k ↔ x < y := ⟨fun h => Int.lt_of_mul_lt_mul_right h (Int.le_of_lt hp), fun h => Int.mul_lt_mul_of_pos_right h hp⟩
  have h2 : x * 2 ^ k = y * 2 ^ k ↔ x = y := ⟨fun h => Int.eq_of_mul_eq_mul_right (by omega) h, fun h => by rw [h]⟩
  simp only [h1, h2]
theorem order_fin (a b : Nat) (ha : rung a < infR) (hb : rung b < infR) : double.order a b = some (compare (val a) (val b)) := by
  obtain ⟨m, i, e1, m1⟩ := read_fin a ha
  obtain ⟨n, j, e2, n1⟩ := read_fin b hb
  unfold Format.order
  rw [e1, e2]
  simp only [Datum.order]
  congr 1
  rw [signed_eq, signed_eq]
  have t1 : (-1074 + (i : Int) - min (-1074 + (i : Int)) (-1074 + (j : Int))).toNat = i - min i j := by omega
  have t2 : (-1074 + (j : Int) - min (-1074 + (i : Int)) (-1074 + (j : Int))).toNat = j - min i j := by omega
  rw [t1, t2, ← compare_scale _ _ (min i j)]
  have key : ∀ (s : Bool) (m k c : Nat), c ≤ k → (if s then -((m * 2 ^ (k - c) : Nat) : Int) else ((m * 2 ^ (k - c) : Nat) : Int)) * 2 ^ c = (if s then -((m * 2 ^ k : Nat) : Int) else ((m * 2 ^ k : Nat) : Int)) := by
    intro s m k c h
    have e : ((m * 2 ^ (k - c) : Nat) : Int) * 2 ^ c = ((m * 2 ^ k : Nat) : Int) := by
      have : m * 2 ^ (k - c) * 2 ^ c = m * 2 ^ k := by rw [Nat.mul_assoc, ← Nat.pow_add, Nat.sub_add_cancel h]
      rw [← this]; push_cast; rfl
    cases s
    · simpa using e
    · simp only [if_true]; rw [Int.neg_mul, e]
  rw [key _ _ _ _ (by omega), key _ _ _ _ (by omega), m1, n1]
  rfl
theorem cmp_lt {x y : Int} (h : x < y) : compare x y = .lt := by simp [compare, compareOfLessAndEq, h]
theorem cmp_gt {x y : Int} (h : y < x) : compare x y = .gt := by
  have h1 : ¬ x < y := by omega
  have h2 : ¬ x = y := by omega
  simp [compare, compareOfLessAndEq, h1, h2]
theorem cmp_eq (x : Int) : compare x x = .eq := by simp [compare, compareOfLessAndEq]
theorem val_of (b : Nat) (s : Bool) (h : neg b = s) : val b = if s then -(mag (rung b) : Int) else (mag (rung b) : Int) := by unfold val; rw [h]
theorem order_inf (a b : Nat) (ha : rung a ≤ infR) (hb : rung b ≤ infR) : double.order a b = some (compare (val a) (val b)) := by
  have hpos : 0 < mag infR := by have := mag_lt (show 0 < infR by decide); rw [mag_zero] at this; exact this
  by_cases h1 : rung a = infR
  · by_cases h2 : rung b = infR
    · unfold Format.order
      rw [read_inf a h1, read_inf b h2]
      have e1 := val_of a _ rfl
      have e2 := val_of b _ rfl
      rw [h1] at e1
      rw [h2] at e2
      rw [e1, e2]
      cases neg a <;> cases neg b
      · simp only [Bool.false_eq_true, if_false]; rw [cmp_eq]; rfl
      · simp only [Bool.false_eq_true, if_false, if_true]; rw [cmp_gt (by omega)]; rfl
      · simp only [Bool.false_eq_true, if_false, if_true]; rw [cmp_lt (by omega)]; rfl
      · simp only [if_true]; rw [cmp_eq]; rfl
    · obtain ⟨n, j, e2, n1⟩ := read_fin b (by omega)
      unfold Format.order
      rw [read_inf a h1, e2]
      have hlt : mag (rung b) < mag (rung a) := mag_lt (by omega)
      have e1 := val_of a _ rfl
      have e2 := val_of b _ rfl
      rw [e1, e2]
      cases neg a <;> cases neg b
      · simp only [Bool.false_eq_true, if_false]; rw [cmp_gt (by omega)]; rfl
      · simp only [Bool.false_eq_true, if_false, if_true]; rw [cmp_gt (by omega)]; rfl
      · simp only [Bool.false_eq_true, if_false, if_true]; rw [cmp_lt (by omega)]; rfl
      · simp only [if_true]; rw [cmp_lt (by omega)]; rfl
  · by_cases h2 : rung b = infR
    · obtain ⟨n, j, e2, n1⟩ := read_fin a (by omega)
      unfold Format.order
      rw [read_inf b h2, e2]
      have hlt : mag (rung a) < mag (rung b) := mag_lt (by omega)
      have e1 := val_of a _ rfl
      have e2 := val_of b _ rfl
      rw [e1, e2]
      cases neg a <;> cases neg b
      · simp only [Bool.false_eq_true, if_false]; rw [cmp_lt (by omega)]; rfl
      · simp only [Bool.false_eq_true, if_false, if_true]; rw [cmp_gt (by omega)]; rfl
      · simp only [Bool.false_eq_true, if_false, if_true]; rw [cmp_lt (by omega)]; rfl
      · simp only [if_true]; rw [cmp_gt (by omega)]; rfl
    · exact order_fin a b (by omega) (by omega)
/-- the rank of a number, by its bits. -/
def rk (b : Nat) : Nat := if infR < rung b then 18446744073709551615 else if b < 9223372036854775808 then b + 9223372036854775808 else 18446744073709551615 - b
def nanB (b : Nat) : Bool := decide (infR < rung b)
theorem nanB_false {b : Nat} (h : nanB b = false) : ¬ nan b := by unfold nan; simpa [nanB] using h
theorem nanB_true {b : Nat} (h : nanB b = true) : nan b := by unfold nan; simpa [nanB] using h
theorem order_num (a b : Nat) (ha : nanB a = false) (hb : nanB b = false) : double.order a b = some (compare (val a) (val b)) :=
  order_inf a b (by have := nanB_false ha; unfold nan at this; omega) (by have := nanB_false hb; unfold nan at this; omega)
theorem order_self (a : Nat) : (double.order a a != some .eq) = nanB a := by
  cases h : nanB a
  · rw [order_num a a h h, cmp_eq]; rfl
  · rw [order_nan_left a a (nanB_true h)]; rfl
theorem val_pos (b : Nat) (h : b < 9223372036854775808) : val b = (mag b : Int) := by
  have hn : neg b = false := by unfold neg; simp; omega
  have hr : rung b = b := by unfold rung; omega
  rw [val_of b false hn, hr, if_neg (by decide)]
theorem val_neg (b : Nat) (h : 9223372036854775808 ≤ b) (hb : b < 18446744073709551616) : val b = -(mag (b - 9223372036854775808) : Int) := by
  have hn : neg b = true := by unfold neg; simp; omega
  have hr : rung b = b - 9223372036854775808 := by unfold rung; omega
  rw [val_of b true hn, hr, if_pos rfl]
theorem rk_pos (b : Nat) (hn : nanB b = false) (h : b < 9223372036854775808) : rk b = b + 9223372036854775808 := by
  unfold rk; rw [if_neg (show ¬ infR < rung b from nanB_false hn), if_pos h]
theorem rk_neg (b : Nat) (hn : nanB b = false) (h : 9223372036854775808 ≤ b) : rk b = 18446744073709551615 - b := by
  unfold rk; rw [if_neg (show ¬ infR < rung b from nanB_false hn), if_neg (by omega)]
theorem rk_nan (b : Nat) (hn : nanB b = true) : rk b = 18446744073709551615 := by
  unfold rk; rw [if_pos (show infR < rung b from nanB_true hn)]
theorem nan_le {b : Nat} (hn : nanB b = false) : b % 9223372036854775808 ≤ 9218868437227405312 := by
  have := nanB_false hn; unfold nan rung infR at this; omega
theorem rk_lt (b : Nat) (hn : nanB b = false) (hb : b < 18446744073709551616) : rk b < 18446744073709551615 := by
  have := nan_le hn
  by_cases h : b < 9223372036854775808
  · rw [rk_pos b hn h]; omega
  · rw [rk_neg b hn (by omega)]; omega
theorem val_lt (a b : Nat) (ha : a < 18446744073709551616) (hb : b < 18446744073709551616) (na : nanB a = false) (nb : nanB b = false) (hz : ¬ (a % 9223372036854775808 = 0 ∧ b % 9223372036854775808 = 0)) : val a < val b ↔ rk a < rk b := by
  by_cases p1 : 9223372036854775808 ≤ a <;> by_cases p2 : 9223372036854775808 ≤ b
  · rw [val_neg a p1 ha, val_neg b p2 hb, rk_neg a na p1, rk_neg b nb p2]
    have := mag_lt_iff (b - 9223372036854775808) (a - 9223372036854775808)
    omega
  · rw [val_neg a p1 ha, val_pos b (by omega), rk_neg a na p1, rk_pos b nb (by omega)]
    have z1 := mag_inj (a - 9223372036854775808) 0
    have z2 := mag_inj b 0
    rw [mag_zero] at z1 z2
    omega
  · rw [val_pos a (by omega), val_neg b p2 hb, rk_pos a na (by omega), rk_neg b nb p2]
    omega
  · rw [val_pos a (by omega), val_pos b (by omega), rk_pos a na (by omega), rk_pos b nb (by omega)]
    have := mag_lt_iff a b
    omega
theorem val_zero (a : Nat) (ha : a < 18446744073709551616) : val a = 0 ↔ a % 9223372036854775808 = 0 := by
  by_cases p1 : 9223372036854775808 ≤ a
  · rw [val_neg a p1 ha]
    have z1 := mag_inj (a - 9223372036854775808) 0
    rw [mag_zero] at z1
    omega
  · rw [val_pos a (by omega)]
    have z1 := mag_inj a 0
    rw [mag_zero] at z1
    omega
theorem lt_beq (x y : Int) : (some (compare x y) == some Ordering.lt) = decide (x < y) := by
  rcases Int.lt_trichotomy x y with h | h | h
  · rw [cmp_lt h]; simp [h]
  · subst h; rw [cmp_eq]; simp
  · rw [cmp_gt h]
    have : ¬ x < y := by omega
    simp [this]
theorem gt_beq (x y : Int) : (some (compare x y) == some Ordering.gt) = decide (y < x) := by
  rcases Int.lt_trichotomy x y with h | h | h
  · rw [cmp_lt h]
    have : ¬ y < x := by omega
    simp [this]
  · subst h; rw [cmp_eq]; simp
  · rw [cmp_gt h]; simp [h]
theorem eq_beq (x y : Int) : (some (compare x y) == some Ordering.eq) = decide (x = y) := by
  rcases Int.lt_trichotomy x y with h | h | h
  · rw [cmp_lt h]
    have : ¬ x = y := by omega
    simp [this]
  · subst h; rw [cmp_eq]; simp
  · rw [cmp_gt h]
    have : ¬ x = y := by omega
    simp [this]
end Go.Proofs.Ytaalkhipncbjpaa.Fl
