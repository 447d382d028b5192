/- Lattices of labels, told of plain numbers: what the document asks, and what the code looks at, come to the same. -/
import Derived.Test.YtjbkmflbhlnbpaaRows
import Derived.WalkKit
import Derived.WalkLawsBesides
import Derived.Below
import Derived.Laws.BitsLemmas
import Derived.Laws.BitsAllLaws
namespace Go.Proofs.Ytjbkmflbhlnbpaa
open Go.RowKit

namespace Lat
/-- the first number below n of which something holds; -1: there is none. -/
def first (P : Nat → Bool) (n : Nat) : Int := match (List.range n).find? P with
  | some a => (a : Int)
  | none => -1
theorem first_at {P : Nat → Bool} {n k : Nat} (hk : k < n) (hp : P k = true) (hj : ∀ j, j < k → P j = false) : first P n = (k : Int) := by
  have : (List.range n).find? P = some k := by
    rw [List.find?_range_eq_some]
    exact ⟨hp, by simpa using hk, fun j h => by simp [hj j h]⟩
  simp [first, this]
theorem first_none {P : Nat → Bool} {n : Nat} (hj : ∀ j, j < n → P j = false) : first P n = -1 := by
  have : (List.range n).find? P = none := by
    rw [List.find?_eq_none]
    intro x hx
    simp [hj x (by simpa using hx)]
  simp [first, this]
theorem first_cases (P : Nat → Bool) (n : Nat) : (∃ k, k < n ∧ P k = true ∧ (∀ j, j < k → P j = false) ∧ first P n = (k : Int)) ∨ ((∀ j, j < n → P j = false) ∧ first P n = -1) := by
  cases h : (List.range n).find? P with
  | some k =>
    rw [List.find?_range_eq_some] at h
    have hk : k < n := by simpa using h.2.1
    have hj : ∀ j, j < k → P j = false := fun j hj => by simpa using h.2.2 j hj
    exact .inl ⟨k, hk, h.1, hj, first_at hk h.1 hj⟩
  | none =>
    rw [List.find?_eq_none] at h
    have hj : ∀ j, j < n → P j = false := fun j hj => by simpa using h j (by simpa using hj)
    exact .inr ⟨hj, first_none hj⟩
theorem first_congr {P Q : Nat → Bool} {n : Nat} (h : ∀ k, k < n → P k = Q k) : first P n = first Q n := by
  rcases first_cases P n with ⟨k, hk, hp, hj, e⟩ | ⟨hj, e⟩
  · rw [e, first_at hk (by rw [← h k hk]; exact hp) (fun j hjk => by rw [← h j (by omega)]; exact hj j hjk)]
  · rw [e, first_none (fun j hjn => by rw [← h j hjn]; exact hj j hjn)]
theorem first_ge (P : Nat → Bool) (n : Nat) : -1 ≤ first P n ∧ first P n < n := by
  rcases first_cases P n with ⟨k, hk, _, _, e⟩ | ⟨_, e⟩ <;> rw [e] <;> omega

/-- is a at or below b? -/
def rel (up : List Nat) (a b : Nat) : Bool := (up.getD a 0).testBit b
/-- the same of numbers that may be no labels. -/
def leq (up : List Nat) (a b : Int) : Bool := decide (0 ≤ a) && decide (0 ≤ b) && decide (a < up.length) && decide (b < up.length) && rel up a.toNat b.toNat
/-- is all of s in m? -/
def sub (s m : Nat) : Bool := s &&& (18446744073709551615 - m) == 0
theorem testBit_not (m i : Nat) (hm : m < 18446744073709551616) : (18446744073709551615 - m).testBit i = (decide (i < 64) && !m.testBit i) := by
  have := Nat.testBit_two_pow_sub_succ (n := 64) (x := m) (by simpa using hm) i
  rw [← this, show 18446744073709551615 - m = 2 ^ 64 - (m + 1) by omega]
theorem sub_iff (s m : Nat) (hs : s < 18446744073709551616) (hm : m < 18446744073709551616) : sub s m = true ↔ ∀ i, s.testBit i = true → m.testBit i = true := by
  unfold sub
  rw [beq_iff_eq]
  constructor
  · intro h i hi
    have h2 : (s &&& (18446744073709551615 - m)).testBit i = false := by rw [h]; simp
    rw [Nat.testBit_and, hi, testBit_not m i hm] at h2
    have hi64 : i < 64 := by
      apply Classical.byContradiction
      intro hn
      rw [Nat.testBit_lt_two_pow (Nat.lt_of_lt_of_le hs (Nat.pow_le_pow_right (show 0 < 2 by decide) (show 64 ≤ i by omega)))] at hi
      cases hi
    simp [hi64] at h2
    exact h2
  · intro h
    apply Nat.eq_of_testBit_eq
    intro i
    rw [Nat.testBit_and, testBit_not m i hm, Nat.zero_testBit]
    by_cases hi : s.testBit i = true
    · simp [hi, h i hi]
    · simp [Bool.not_eq_true] at hi; simp [hi]
/-- the label of some which reaches all of them. -/
def near (reach : List Nat) (s : Nat) : Int := first (fun a => s.testBit a && sub s (reach.getD a 0)) reach.length
def all (n : Nat) (P : Nat → Bool) : Bool := (List.range n).all P
theorem all_iff {n : Nat} {P : Nat → Bool} : all n P = true ↔ ∀ i, i < n → P i = true := by simp [all]
theorem all_false {n : Nat} {P : Nat → Bool} {i : Nat} (hi : i < n) (h : P i = false) : all n P = false := by
  rw [← Bool.not_eq_true, all_iff]
  intro h2
  rw [h2 i hi] at h
  cases h
theorem all_congr {n : Nat} {P Q : Nat → Bool} (h : ∀ i, i < n → P i = Q i) : all n P = all n Q := by
  rw [Bool.eq_iff_iff, all_iff, all_iff]
  exact ⟨fun k i hi => by rw [← h i hi]; exact k i hi, fun k i hi => by rw [h i hi]; exact k i hi⟩
/-- the document's join and meet. -/
def join (up : List Nat) (a b : Nat) : Int := first (fun c => rel up a c && rel up b c && all up.length fun d => !(rel up a d && rel up b d) || rel up c d) up.length
def meet (up : List Nat) (a b : Nat) : Int := first (fun c => rel up c a && rel up c b && all up.length fun d => !(rel up d a && rel up d b) || rel up d c) up.length
/-- is no bit set of what is no label? -/
def alone (up : List Nat) : Bool := all up.length fun a => (up.getD a 0) / 2 ^ up.length == 0
/-- what stands at or below each. -/
def downOf (up : List Nat) (b : Nat) : Nat := (List.range up.length).foldl (fun m a => if rel up a b then m ||| 2 ^ a else m) 0
def turn (up : List Nat) : List Nat := (List.range up.length).map (downOf up)
theorem turn_length (up : List Nat) : (turn up).length = up.length := by simp [turn]
theorem fold_testBit (up : List Nat) (b k : Nat) (i : Nat) : ((List.range k).foldl (fun m a => if rel up a b then m ||| 2 ^ a else m) 0).testBit i = (decide (i < k) && rel up i b) := by
  induction k with
  | zero => simp
  | succ k ih =>
    rw [List.range_succ, List.foldl_append, List.foldl_cons, List.foldl_nil]
    by_cases h : rel up k b
    · rw [if_pos h, Nat.testBit_or, ih, Nat.testBit_two_pow]
      by_cases hk : k = i
      · subst hk; simp [h]
      · have : (decide (i < k + 1)) = decide (i < k) := by simp; omega
        simp [hk, this]
    · rw [if_neg h, ih]
      simp only [Bool.not_eq_true] at h
      by_cases hk : i = k
      · subst hk; simp [h]
      · have : (decide (i < k + 1)) = decide (i < k) := by simp; omega
        rw [this]
theorem downOf_testBit (up : List Nat) (b i : Nat) : (downOf up b).testBit i = (decide (i < up.length) && rel up i b) := fold_testBit up b _ i
theorem turn_get (up : List Nat) (b : Nat) (hb : b < up.length) : (turn up).getD b 0 = downOf up b := by simp [turn, hb]
theorem turn_rel (up : List Nat) (a b : Nat) (ha : a < up.length) (hb : b < up.length) : rel (turn up) b a = rel up a b := by
  unfold rel
  rw [turn_get up b hb, downOf_testBit]
  simp [ha, rel]
theorem lt_of_bits {m n : Nat} (h : ∀ i, m.testBit i = true → i < n) : m < 2 ^ n := by
  apply Nat.lt_pow_two_of_testBit
  intro i hi
  apply Classical.byContradiction
  intro hb
  have := h i (by simpa using hb)
  omega
theorem downOf_lt (up : List Nat) (b : Nat) : downOf up b < 2 ^ up.length := lt_of_bits fun i hi => by
  rw [downOf_testBit] at hi
  simp at hi
  exact hi.1
/-- the code's look at the order. -/
def ord (up down : List Nat) : Bool := all up.length fun a => ((up.getD a 0) &&& (down.getD a 0)) == 2 ^ a && all up.length fun b => !(rel up a b) || sub (up.getD b 0) (up.getD a 0)
def bnd (reach : List Nat) : Bool := all reach.length fun a => all reach.length fun b => decide (0 ≤ near reach ((reach.getD a 0) &&& (reach.getD b 0)))
/-- the document's look. -/
def okA (up : List Nat) (a : Nat) : Bool := (up.getD a 0) / 2 ^ up.length == 0 && rel up a a && all up.length fun b => !(a != b && rel up a b && rel up b a) && all up.length fun c => !(rel up a b && rel up b c) || rel up a c
def okB (up : List Nat) (a : Nat) : Bool := all up.length fun b => decide (0 ≤ join up a b) && decide (0 ≤ meet up a b)
def ok (up : List Nat) : Bool := (all up.length (okA up)) && (all up.length (okB up))

section
variable {up : List Nat}
theorem bit_lt (h : alone up = true) {a i : Nat} (ha : a < up.length) (hi : rel up a i = true) : i < up.length := by
  unfold alone at h
  rw [all_iff] at h
  have := h a ha
  rw [beq_iff_eq] at this
  apply Classical.byContradiction
  intro hn
  have h2 : up.getD a 0 < 2 ^ up.length := by
    have := Nat.div_eq_zero_iff.1 this
    rcases this with h | h
    · have := Nat.two_pow_pos up.length; omega
    · exact h
  have h3 := Nat.testBit_lt_two_pow (Nat.lt_of_lt_of_le h2 (Nat.pow_le_pow_right (by decide) (show up.length ≤ i by omega)))
  unfold rel at hi
  rw [h3] at hi
  cases hi
theorem near_up (h : alone up = true) (h64 : ∀ x ∈ up, x < 18446744073709551616) (a b : Nat) (ha : a < up.length) : near up ((up.getD a 0) &&& (up.getD b 0)) = join up a b := by
  unfold near join
  have hx : ∀ k, up.getD k 0 < 18446744073709551616 := fun k => by
    by_cases hk : k < up.length
    · rw [List.getD_eq_getElem?_getD, List.getElem?_eq_getElem hk]; exact h64 _ (List.getElem_mem hk)
    · rw [List.getD_eq_getElem?_getD, List.getElem?_eq_none (by omega)]; decide
  refine first_congr fun c hc => ?_
  have hs : (up.getD a 0) &&& (up.getD b 0) < 18446744073709551616 := Nat.lt_of_le_of_lt Nat.and_le_left (hx a)
  rw [Nat.testBit_and]
  congr 1
  rw [Bool.eq_iff_iff, sub_iff _ _ hs (hx c), all_iff]
  constructor
  · intro k d hd
    by_cases h1 : rel up a d = true <;> by_cases h2 : rel up b d = true
    · have h3 : rel up c d = true := k d (by rw [Nat.testBit_and]; exact Bool.and_eq_true_iff.2 ⟨h1, h2⟩)
      rw [h1, h2, h3]; rfl
    all_goals simp_all
  · intro k d hd
    rw [Nat.testBit_and, Bool.and_eq_true] at hd
    have h1 : rel up a d = true := hd.1
    have h2 : rel up b d = true := hd.2
    have := k d (bit_lt h ha h1)
    rw [h1, h2] at this
    simpa [rel] using this
theorem near_down (hn : up.length ≤ 64) (a b : Nat) (ha : a < up.length) (hb : b < up.length) : near (turn up) (((turn up).getD a 0) &&& ((turn up).getD b 0)) = meet up a b := by
  unfold near meet
  rw [turn_length]
  have hx : ∀ k, k < up.length → (turn up).getD k 0 < 18446744073709551616 := fun k hk => by
    rw [turn_get up k hk]
    exact Nat.lt_of_lt_of_le (downOf_lt up k) (by have := Nat.pow_le_pow_right (n := 2) (by decide) hn; simpa using this)
  refine first_congr fun c hc => ?_
  have hs : ((turn up).getD a 0) &&& ((turn up).getD b 0) < 18446744073709551616 := Nat.lt_of_le_of_lt Nat.and_le_left (hx a ha)
  rw [Nat.testBit_and]
  have e1 := turn_rel up c a hc ha
  have e2 := turn_rel up c b hc hb
  unfold rel at e1 e2
  rw [e1, e2]
  congr 1
  rw [Bool.eq_iff_iff, sub_iff _ _ hs (hx c hc), all_iff]
  constructor
  · intro k d hd
    by_cases h1 : rel up d a = true <;> by_cases h2 : rel up d b = true
    · have := k d (by
        rw [Nat.testBit_and]
        have e1 := turn_rel up d a hd ha
        have e2 := turn_rel up d b hd hb
        unfold rel at e1 e2 h1 h2
        rw [e1, e2, h1, h2]; rfl)
      have h3 : rel up d c = true := (turn_rel up d c hd hc).symm.trans this
      rw [h1, h2, h3]; rfl
    all_goals simp_all
  · intro k d hd
    rw [Nat.testBit_and, Bool.and_eq_true] at hd
    have hdn : d < up.length := by
      have := hd.1
      rw [turn_get up a ha, downOf_testBit] at this
      simp at this
      exact this.1
    have e1 := turn_rel up d a hdn ha
    have e2 := turn_rel up d b hdn hb
    have e3 := turn_rel up d c hdn hc
    have h1 : rel up d a = true := by rw [← e1]; exact hd.1
    have h2 : rel up d b = true := by rw [← e2]; exact hd.2
    have := k d hdn
    rw [h1, h2, ← e3] at this
    simpa [rel] using this
end
end Lat
end Go.Proofs.Ytjbkmflbhlnbpaa
