/- The plain mathematics of the sum (CRC-32): one step is linear, four bits at once are four steps, and a burst of at most 32 bits is found. No program is named here. What a reader has, as plain lists. -/

namespace Go.Proofs.Ytaalkhipncbjpaa.Crc
/-- one step of the remainder. -/
def st (c : Nat) : Nat := if c % 2 = 1 then (c / 2) ^^^ 3988292384 else c / 2
def stN : Nat → Nat → Nat
  | 0, c => c
  | n + 1, c => stN n (st c)

theorem xor_mod_two (a b : Nat) : (a ^^^ b) % 2 = (a % 2 + b % 2) % 2 := by
  have := Nat.xor_mod_two_eq_one (a := a) (b := b)
  rcases Nat.mod_two_eq_zero_or_one a with h | h <;> rcases Nat.mod_two_eq_zero_or_one b with k | k <;> rcases Nat.mod_two_eq_zero_or_one (a ^^^ b) with m | m <;> simp_all
theorem xor_div_two (a b : Nat) : (a ^^^ b) / 2 = (a / 2) ^^^ (b / 2) := Nat.xor_div_two

theorem st_xor (x y : Nat) : st (x ^^^ y) = st x ^^^ st y := by
  unfold st
  rw [xor_mod_two, xor_div_two]
  rcases Nat.mod_two_eq_zero_or_one x with h | h <;> rcases Nat.mod_two_eq_zero_or_one y with k | k <;> simp [h, k]
  · rw [Nat.xor_assoc]
  · rw [Nat.xor_assoc, Nat.xor_assoc]; congr 1; exact Nat.xor_comm _ _
  · rw [Nat.xor_assoc, ← Nat.xor_assoc 3988292384, Nat.xor_comm 3988292384, Nat.xor_assoc (y/2), Nat.xor_self, Nat.xor_zero]

theorem st_zero : st 0 = 0 := rfl
theorem stN_xor (n x y : Nat) : stN n (x ^^^ y) = stN n x ^^^ stN n y := by
  induction n generalizing x y with
  | zero => rfl
  | succ n ih => simp only [stN, st_xor, ih]
theorem stN_zero (n : Nat) : stN n 0 = 0 := by induction n with | zero => rfl | succ n ih => simpa [stN, st_zero] using ih
theorem stN_add (m n c : Nat) : stN (m + n) c = stN n (stN m c) := by
  induction m generalizing c with
  | zero => simp [stN]
  | succ m ih => rw [Nat.succ_add]; simp only [stN, ih]
theorem st_two (y : Nat) : st (2 * y) = y := by unfold st; rw [if_neg (by omega)]; omega
theorem stN_shift (n y : Nat) : stN n (2 ^ n * y) = y := by
  induction n generalizing y with
  | zero => simp [stN]
  | succ n ih => simp only [stN]; rw [show 2 ^ (n + 1) * y = 2 * (2 ^ n * y) by rw [Nat.pow_succ]; rw [Nat.mul_comm (2^n) 2, Nat.mul_assoc], st_two, ih]
theorem st_lt (c : Nat) (h : c < 4294967296) : st c < 4294967296 := by
  unfold st; split
  · exact Nat.xor_lt_two_pow (n := 32) (by omega) (by decide)
  · omega
theorem st_inj0 (c : Nat) (h : c < 4294967296) (e : st c = 0) : c = 0 := by
  unfold st at e
  split at e
  · have h2 : c / 2 = 3988292384 := by
      have h3 : (c / 2 ^^^ 3988292384) ^^^ 3988292384 = 0 ^^^ 3988292384 := by rw [e]
      rw [Nat.xor_assoc, Nat.xor_self, Nat.xor_zero, Nat.zero_xor] at h3; exact h3
    omega
  · omega
theorem stN_lt (n c : Nat) (h : c < 4294967296) : stN n c < 4294967296 := by
  induction n generalizing c with
  | zero => exact h
  | succ n ih => exact ih _ (st_lt c h)
theorem stN_inj0 (n c : Nat) (h : c < 4294967296) (e : stN n c = 0) : c = 0 := by
  induction n generalizing c with
  | zero => exact e
  | succ n ih => exact st_inj0 c h (ih _ (st_lt c h) e)

/-- one byte. -/
def by8 (c b : Nat) : Nat := stN 8 (c ^^^ b)
def run (c : Nat) (l : List Nat) : Nat := l.foldl by8 c
/-- the sum. -/
def sum (l : List Nat) : Nat := run 4294967295 l ^^^ 4294967295

theorem by8_lt (c b : Nat) (hc : c < 4294967296) (hb : b < 256) : by8 c b < 4294967296 :=
  stN_lt 8 _ (Nat.xor_lt_two_pow (n := 32) (by omega) (by omega))
theorem run_lt (l : List Nat) (c : Nat) (hc : c < 4294967296) (hl : ∀ b ∈ l, b < 256) : run c l < 4294967296 := by
  induction l generalizing c with
  | nil => exact hc
  | cons b l ih => exact ih _ (by8_lt c b hc (hl b (by simp))) (fun x hx => hl x (by simp [hx]))
theorem sum_lt (l : List Nat) (hl : ∀ b ∈ l, b < 256) : sum l < 4294967296 :=
  Nat.xor_lt_two_pow (n := 32) (run_lt l _ (by omega) hl) (by decide)
theorem run_append (c : Nat) (l m : List Nat) : run c (l ++ m) = run (run c l) m := List.foldl_append ..

/-- the table of four bits. -/
def tab (n : Nat) : Nat := stN 4 n
def nib (s : Nat) : Nat := s / 16 ^^^ tab (s % 16)
theorem split16 (s : Nat) : s = 16 * (s / 16) ^^^ (s % 16) := by
  have h : s % 16 < 2 ^ 4 := by omega
  have := Nat.two_pow_add_eq_or_of_lt (i := 4) h (s / 16)
  have e : 16 * (s / 16) ||| s % 16 = 16 * (s / 16) ^^^ s % 16 := by
    apply Nat.eq_of_testBit_eq; intro i
    rw [Nat.testBit_or, Nat.testBit_xor]
    have h1 : (16 * (s / 16)).testBit i = (decide (4 ≤ i) && (s / 16).testBit (i - 4)) := by
      rw [show 16 = 2 ^ 4 from rfl, Nat.testBit_two_pow_mul]
    by_cases hi : 4 ≤ i
    · have : (s % 16).testBit i = false := Nat.testBit_lt_two_pow (Nat.lt_of_lt_of_le h (Nat.pow_le_pow_right (by omega) hi))
      rw [this]; simp
    · rw [h1]; simp [hi]
  rw [← e, ← show (2 : Nat) ^ 4 = 16 from rfl, ← this]; omega
theorem nib_eq (s : Nat) : nib s = stN 4 s := by
  unfold nib tab
  conv => rhs; rw [split16 s, stN_xor]
  rw [show stN 4 (16 * (s / 16)) = s / 16 from stN_shift 4 (s / 16)]
theorem nib2 (s : Nat) : nib (nib s) = stN 8 s := by rw [nib_eq, nib_eq, ← stN_add]

/-- the same, bit by bit, as it is told. -/
def bitStep (c b : Nat) : Nat := if ((b % 2 + c % 2) % 2) = 1 then (c / 2) ^^^ 3988292384 else c / 2
theorem bitStep_eq (c b : Nat) : bitStep c b = st (c ^^^ (b % 2)) := by
  unfold bitStep st
  rw [xor_mod_two, xor_div_two]
  have : b % 2 / 2 = 0 := by omega
  rw [this, Nat.xor_zero, show (c % 2 + b % 2 % 2) % 2 = (b % 2 + c % 2) % 2 by omega]
def bitsTo (c b : Nat) : Nat → Nat
  | 0 => c
  | k + 1 => bitStep (bitsTo c b k) (b / 2 ^ k)
theorem split2 (s : Nat) : s = 2 * (s / 2) ^^^ (s % 2) := by
  apply Nat.eq_of_testBit_eq; intro i
  rw [Nat.testBit_xor]
  have h1 : (2 * (s / 2)).testBit i = (decide (1 ≤ i) && (s / 2).testBit (i - 1)) := by
    have := Nat.testBit_two_pow_mul (a := s / 2) (i := 1) (j := i); simpa using this
  rw [h1]
  cases i with
  | zero => simp [Nat.testBit_zero]
  | succ i =>
    have h2 : (s % 2).testBit (i + 1) = false := Nat.testBit_lt_two_pow (Nat.lt_of_lt_of_le (show s % 2 < 2 ^ 1 by omega) (Nat.pow_le_pow_right (by omega) (by omega)))
    rw [h2]; simp [Nat.testBit_succ]
theorem bitsTo_eq (c b k : Nat) : bitsTo c b k ^^^ (b / 2 ^ k) = stN k (c ^^^ b) := by
  induction k with
  | zero => simp [bitsTo, stN]
  | succ k ih =>
    rw [stN_add k 1, ← ih]
    simp only [bitsTo, stN, bitStep_eq]
    have h := split2 (b / 2 ^ k)
    conv => rhs; rw [h, Nat.xor_comm (2 * _), ← Nat.xor_assoc, st_xor, st_two]
    rw [Nat.div_div_eq_div_mul, ← Nat.pow_succ]
theorem bits8 (c b : Nat) (hb : b < 256) : bitsTo c b 8 = by8 c b := by
  have := bitsTo_eq c b 8
  rw [show b / 2 ^ 8 = 0 by omega, Nat.xor_zero] at this
  exact this

/-- bytes as one number, the lowest first. -/
def num : List Nat → Nat
  | [] => 0
  | b :: l => b + 256 * num l
/-- a number's bytes, the lowest first. -/
def le : Nat → Nat → List Nat
  | 0, _ => []
  | k + 1, n => n % 256 :: le k (n / 256)

theorem le_length (k n : Nat) : (le k n).length = k := by induction k generalizing n with | zero => rfl | succ k ih => simp [le, ih]
theorem le_lt (k n : Nat) : ∀ b ∈ le k n, b < 256 := by
  induction k generalizing n with
  | zero => simp [le]
  | succ k ih => intro b hb; simp only [le, List.mem_cons] at hb; rcases hb with rfl | hb; omega; exact ih _ b hb
theorem le_snoc (k n : Nat) : le (k + 1) n = le k n ++ [n / 256 ^ k % 256] := by
  induction k generalizing n with
  | zero => simp [le]
  | succ k ih => rw [le, ih (n / 256)]; simp only [le, List.cons_append]; rw [Nat.div_div_eq_div_mul, Nat.pow_succ, Nat.mul_comm 256]
theorem num_le (k n : Nat) : num (le k n) = n % 256 ^ k := by
  induction k generalizing n with
  | zero => simp [le, num]; omega
  | succ k ih => simp only [le, num, ih]; rw [Nat.pow_succ, Nat.mul_comm (256 ^ k)]; exact (Nat.mod_mul ..).symm
theorem num_lt (l : List Nat) (h : ∀ b ∈ l, b < 256) : num l < 256 ^ l.length := by
  induction l with
  | nil => simp [num]
  | cons b l ih =>
    have := ih (fun x hx => h x (by simp [hx])); have hb := h b (by simp)
    simp only [num, List.length_cons]; rw [Nat.pow_succ]; omega
theorem num_inj (l m : List Nat) (hl : ∀ b ∈ l, b < 256) (hm : ∀ b ∈ m, b < 256) (hlen : l.length = m.length) (e : num l = num m) : l = m := by
  induction l generalizing m with
  | nil => cases m with | nil => rfl | cons => simp at hlen
  | cons b l ih =>
    cases m with
    | nil => simp at hlen
    | cons c m =>
      simp only [num] at e
      have hb := hl b (by simp); have hc := hm c (by simp)
      have e1 : b = c := by omega
      have e2 : num l = num m := by omega
      rw [e1, ih m (fun x hx => hl x (by simp [hx])) (fun x hx => hm x (by simp [hx])) (by simpa using hlen) e2]
theorem num_append (l m : List Nat) : num (l ++ m) = num l + 256 ^ l.length * num m := by
  induction l with
  | nil => simp [num]
  | cons b l ih => simp only [List.cons_append, num, ih, List.length_cons, Nat.pow_succ]; rw [Nat.mul_add, ← Nat.mul_assoc, Nat.mul_comm 256 (256 ^ l.length)]; omega

theorem add_eq_xor (k a b : Nat) (h : a < 2 ^ k) : a + 2 ^ k * b = a ^^^ 2 ^ k * b := by
  have h1 := Nat.two_pow_add_eq_or_of_lt (i := k) h b
  rw [Nat.add_comm, h1]
  apply Nat.eq_of_testBit_eq; intro i
  rw [Nat.testBit_or, Nat.testBit_xor, Nat.testBit_two_pow_mul]
  by_cases hi : k ≤ i
  · have : a.testBit i = false := Nat.testBit_lt_two_pow (Nat.lt_of_lt_of_le h (Nat.pow_le_pow_right (by omega) hi))
    rw [this]; simp
  · simp [hi]
theorem p256 (n : Nat) : 256 ^ n = 2 ^ (8 * n) := by rw [Nat.pow_mul]
theorem run_num (l : List Nat) (c : Nat) (h : ∀ b ∈ l, b < 256) : run c l = stN (8 * l.length) (c ^^^ num l) := by
  induction l generalizing c with
  | nil => simp [run, num, stN]
  | cons b l ih =>
    have hb := h b (by simp)
    show run (by8 c b) l = _
    rw [ih _ (fun x hx => h x (by simp [hx]))]
    simp only [by8, num, List.length_cons]
    rw [show 8 * (l.length + 1) = 8 + 8 * l.length by omega, stN_add]
    congr 1
    rw [show b + 256 * num l = b ^^^ 2 ^ 8 * num l from add_eq_xor 8 b (num l) (by omega), ← Nat.xor_assoc, stN_xor 8 (c ^^^ b), stN_shift]

/-- sealed bytes, all in one. -/
theorem check_eq (t : List Nat) (n : Nat) (hn : t.length = n + 4) (h : ∀ b ∈ t, b < 256) :
    num (t.drop n) = sum (t.take n) ↔ stN (8 * t.length) (4294967295 ^^^ num t) = stN 32 4294967295 := by
  have ht : ∀ b ∈ t.take n, b < 256 := fun b hb => h b (List.mem_of_mem_take hb)
  have hd : ∀ b ∈ t.drop n, b < 256 := fun b hb => h b (List.mem_of_mem_drop hb)
  have hlt : (t.take n).length = n := by simp; omega
  have hld : (t.drop n).length = 4 := by simp; omega
  have e1 : num t = num (t.take n) ^^^ 2 ^ (8 * n) * num (t.drop n) := by
    conv => lhs; rw [← List.take_append_drop n t, num_append, hlt, p256]
    exact add_eq_xor _ _ _ (by have := num_lt _ ht; rw [hlt, p256] at this; exact this)
  have e2 : stN (8 * t.length) (4294967295 ^^^ num t) = stN 32 (run 4294967295 (t.take n) ^^^ num (t.drop n)) := by
    rw [run_num _ _ ht, hlt, hn, show 8 * (n + 4) = 8 * n + 32 by omega, stN_add, e1, ← Nat.xor_assoc, stN_xor (8 * n), stN_shift]
  have hrl : run 4294967295 (t.take n) < 4294967296 := run_lt _ _ (by omega) ht
  have hdl : num (t.drop n) < 4294967296 := by have := num_lt _ hd; rw [hld] at this; exact this
  rw [e2]; unfold sum
  constructor
  · intro e
    rw [e, ← Nat.xor_assoc, Nat.xor_self, Nat.zero_xor]
  · intro e
    have z : stN 32 ((run 4294967295 (t.take n) ^^^ num (t.drop n)) ^^^ 4294967295) = 0 := by rw [stN_xor, e, Nat.xor_self]
    have z2 := stN_inj0 32 _ (Nat.xor_lt_two_pow (n := 32) (Nat.xor_lt_two_pow (n := 32) hrl hdl) (by decide)) z
    generalize run 4294967295 (t.take n) = a at *
    generalize num (t.drop n) = b at *
    have z3 : b = (a ^^^ 4294967295) := by
      have : ((a ^^^ b) ^^^ 4294967295) ^^^ (a ^^^ 4294967295) = 0 ^^^ (a ^^^ 4294967295) := by rw [z2]
      rw [Nat.zero_xor] at this
      rw [← this, Nat.xor_comm a b, Nat.xor_assoc b, Nat.xor_assoc b, Nat.xor_self, Nat.xor_zero]
    exact z3
theorem xor_back (f a q : Nat) : q = (f ^^^ (a ^^^ q)) ^^^ (f ^^^ a) := by
  apply Nat.eq_of_testBit_eq; intro i
  simp only [Nat.testBit_xor]
  cases f.testBit i <;> cases a.testBit i <;> cases q.testBit i <;> rfl
/-- A BURST IS FOUND. -/
theorem burst (s t : List Nat) (n k P : Nat) (hs : s.length = n + 4) (hl : t.length = s.length) (bs : ∀ b ∈ s, b < 256) (bt : ∀ b ∈ t, b < 256)
    (ok : num (s.drop n) = sum (s.take n)) (hk : k ≤ 8 * s.length) (hP : P < 4294967296) (e : num t = num s ^^^ 2 ^ k * P) (ok2 : num (t.drop n) = sum (t.take n)) : t = s := by
  have a1 := (check_eq s n hs bs).1 ok
  have a2 := (check_eq t n (by omega) bt).1 ok2
  have z : stN (8 * s.length) (2 ^ k * P) = 0 := by
    have h2 : 2 ^ k * P = (4294967295 ^^^ num t) ^^^ (4294967295 ^^^ num s) := by
      rw [e]; exact xor_back 4294967295 (num s) (2 ^ k * P)
    rw [h2, stN_xor, ← hl, a2, hl, a1, Nat.xor_self]
  rw [show 8 * s.length = k + (8 * s.length - k) by omega, stN_add, stN_shift] at z
  have := stN_inj0 _ P hP z
  subst this
  exact num_inj t s bt bs hl (by simpa using e)
end Go.Proofs.Ytaalkhipncbjpaa.Crc
namespace Go.Proofs.Ytaalkhipncbjpaa
/-- what a reader has: the bytes that are left, and whether it has a fault. -/
structure Rs where
  l : List Nat
  bad : Bool
def Rs.has (s : Rs) (n : Nat) : Prop := s.bad = false ∧ n ≤ s.l.length
instance (s : Rs) (n : Nat) : Decidable (s.has n) := by unfold Rs.has; infer_instance
def numV (s : Rs) (n : Nat) : Nat := if s.has n then Crc.num (s.l.take n) else 0
def numS (s : Rs) (n : Nat) : Rs := if s.has n then ⟨s.l.drop n, false⟩ else ⟨[], true⟩
/-- a count of at most m. -/
def Rs.cnt (s : Rs) (m : Nat) : Prop := s.has 4 ∧ Crc.num (s.l.take 4) ≤ m
instance (s : Rs) (m : Nat) : Decidable (s.cnt m) := by unfold Rs.cnt; infer_instance
def cntV (s : Rs) (m : Nat) : Nat := if s.cnt m then Crc.num (s.l.take 4) else 0
def cntS (s : Rs) (m : Nat) : Rs := if s.cnt m then ⟨s.l.drop 4, false⟩ else ⟨[], true⟩
/-- bytes, at most m. -/
def Rs.byt (s : Rs) (m : Nat) : Prop := s.cnt m ∧ Crc.num (s.l.take 4) ≤ s.l.length - 4
instance (s : Rs) (m : Nat) : Decidable (s.byt m) := by unfold Rs.byt; infer_instance
def bytV (s : Rs) (m : Nat) : List Nat := if s.byt m then (s.l.drop 4).take (Crc.num (s.l.take 4)) else []
def bytS (s : Rs) (m : Nat) : Rs := if s.byt m then ⟨(s.l.drop 4).drop (Crc.num (s.l.take 4)), false⟩ else ⟨[], true⟩
def endV (s : Rs) : Bool := !s.bad && ((s.l.length : Int) == 0)

theorem take_app {l r : List Nat} {n : Nat} (h : l.length = n) : (l ++ r).take n = l := by rw [← h]; simp
theorem drop_app {l r : List Nat} {n : Nat} (h : l.length = n) : (l ++ r).drop n = r := by rw [← h]; simp
theorem num_front (n x : Nat) (r : List Nat) : numV ⟨Crc.le n x ++ r, false⟩ n = x % 256 ^ n ∧ numS ⟨Crc.le n x ++ r, false⟩ n = ⟨r, false⟩ := by
  have hh : (⟨Crc.le n x ++ r, false⟩ : Rs).has n := ⟨rfl, by simp [Crc.le_length]⟩
  unfold numV numS
  rw [if_pos hh, if_pos hh]
  simp only [take_app (Crc.le_length n x), drop_app (Crc.le_length n x), Crc.num_le]
  exact ⟨trivial, trivial⟩
end Go.Proofs.Ytaalkhipncbjpaa
