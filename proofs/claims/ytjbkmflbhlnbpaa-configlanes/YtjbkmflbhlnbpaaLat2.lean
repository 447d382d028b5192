/- The code's look at labels finds what the document's look finds. -/
import Derived.Test.YtjbkmflbhlnbpaaLat
namespace Go.Proofs.Ytjbkmflbhlnbpaa
namespace Lat
section
variable {up : List Nat}
theorem getD_lt (h64 : ∀ x ∈ up, x < 18446744073709551616) (k : Nat) : up.getD k 0 < 18446744073709551616 := by
  by_cases hk : k < up.length
  · rw [List.getD_eq_getElem?_getD, List.getElem?_eq_getElem hk]; exact h64 _ (List.getElem_mem hk)
  · rw [List.getD_eq_getElem?_getD, List.getElem?_eq_none (by omega)]; decide
theorem turn_lt (hn : up.length ≤ 64) : ∀ x ∈ turn up, x < 18446744073709551616 := by
  intro x hx
  simp only [turn, List.mem_map] at hx
  obtain ⟨b, _, rfl⟩ := hx
  exact Nat.lt_of_lt_of_le (downOf_lt up b) (by have := Nat.pow_le_pow_right (n := 2) (by decide) hn; simpa using this)
theorem and_pow (up : List Nat) (a : Nat) (ha : a < up.length) : (((up.getD a 0) &&& ((turn up).getD a 0)) == 2 ^ a) = true ↔ ∀ i, (rel up a i = true ∧ i < up.length ∧ rel up i a = true) ↔ i = a := by
  rw [beq_iff_eq, turn_get up a ha]
  have key : ∀ i, ((up.getD a 0) &&& downOf up a).testBit i = true ↔ (rel up a i = true ∧ i < up.length ∧ rel up i a = true) := by
    intro i
    rw [Nat.testBit_and, downOf_testBit, Bool.and_eq_true, Bool.and_eq_true, decide_eq_true_iff]
    rfl
  constructor
  · intro h i
    rw [← key i, h, Nat.testBit_two_pow, decide_eq_true_iff]
    exact eq_comm
  · intro h
    apply Nat.eq_of_testBit_eq
    intro i
    rw [Bool.eq_iff_iff, key i, h i, Nat.testBit_two_pow, decide_eq_true_iff]
    exact eq_comm
theorem not_or {p q : Bool} : (!p || q) = true ↔ (p = true → q = true) := by cases p <;> cases q <;> decide
theorem ok_eq (h64 : ∀ x ∈ up, x < 18446744073709551616) (hn : up.length ≤ 64) : ok up = (alone up && ord up (turn up) && bnd up && bnd (turn up)) := by
  cases hal : alone up with
  | false =>
    simp only [Bool.false_and]
    rw [← Bool.not_eq_true] at hal ⊢
    intro h
    apply hal
    unfold ok at h
    rw [Bool.and_eq_true, all_iff] at h
    unfold alone
    rw [all_iff]
    intro a ha
    have := h.1 a ha
    unfold okA at this
    rw [Bool.and_eq_true, Bool.and_eq_true] at this
    exact this.1.1
  | true =>
    rw [Bool.true_and, Bool.and_assoc]
    unfold ok
    congr 1
    · rw [Bool.eq_iff_iff]
      unfold ord
      rw [all_iff, all_iff]
      have hal' := hal
      unfold alone at hal'
      rw [all_iff] at hal'
      constructor
      · intro h a ha
        have hA : ∀ a, a < up.length → (rel up a a = true ∧ ∀ b, b < up.length → (¬ (a ≠ b ∧ rel up a b = true ∧ rel up b a = true) ∧ ∀ c, c < up.length → rel up a b = true → rel up b c = true → rel up a c = true)) := by
          intro a ha
          have := h a ha
          unfold okA at this
          rw [Bool.and_eq_true, Bool.and_eq_true, all_iff] at this
          refine ⟨this.1.2, fun b hb => ?_⟩
          have h2 := this.2 b hb
          rw [Bool.and_eq_true, all_iff] at h2
          refine ⟨fun h3 => ?_, fun c hc h3 h4 => ?_⟩
          · have := h2.1
            rw [h3.2.1, h3.2.2, show (a != b) = true by simpa using h3.1] at this
            cases this
          · exact not_or.1 (h2.2 c hc) (by rw [h3, h4]; rfl)
        rw [Bool.and_eq_true, and_pow up a ha, all_iff]
        refine ⟨fun i => ⟨fun ⟨h1, h2, h3⟩ => ?_, fun h1 => ?_⟩, fun b hb => not_or.2 fun h1 => ?_⟩
        · apply Classical.byContradiction
          intro hne
          exact ((hA a ha).2 i h2).1 ⟨fun e => hne e.symm, h1, h3⟩
        · subst h1
          exact ⟨(hA i ha).1, ha, (hA i ha).1⟩
        · rw [sub_iff _ _ (getD_lt h64 b) (getD_lt h64 a)]
          intro i hi
          exact ((hA a ha).2 b hb).2 i (bit_lt hal hb hi) h1 hi
      · intro h a ha
        have h1 := h a ha
        rw [Bool.and_eq_true, and_pow up a ha, all_iff] at h1
        have hr := ((h1.1 a).2 rfl).1
        unfold okA
        rw [Bool.and_eq_true, Bool.and_eq_true, all_iff]
        refine ⟨⟨hal' a ha, hr⟩, fun b hb => ?_⟩
        rw [Bool.and_eq_true, all_iff]
        refine ⟨?_, fun c hc => not_or.2 fun h2 => ?_⟩
        · cases hq : (a != b && rel up a b && rel up b a) with
          | false => rfl
          | true =>
            rw [Bool.and_eq_true, Bool.and_eq_true] at hq
            have := (h1.1 b).1 ⟨hq.1.2, hb, hq.2⟩
            subst this
            simp at hq
        · rw [Bool.and_eq_true] at h2
          have h3 := not_or.1 (h1.2 b hb) h2.1
          rw [sub_iff _ _ (getD_lt h64 b) (getD_lt h64 a)] at h3
          exact h3 c h2.2
    · unfold bnd
      rw [turn_length, Bool.eq_iff_iff, Bool.and_eq_true, all_iff, all_iff, all_iff]
      constructor
      · intro h
        constructor
        · intro a ha
          have := h a ha
          unfold okB at this
          rw [all_iff] at this
          rw [all_iff]
          intro b hb
          have := this b hb
          rw [Bool.and_eq_true] at this
          rw [near_up hal h64 a b ha]
          exact this.1
        · intro a ha
          have := h a ha
          unfold okB at this
          rw [all_iff] at this
          rw [all_iff]
          intro b hb
          have := this b hb
          rw [Bool.and_eq_true] at this
          rw [near_down hn a b ha hb]
          exact this.2
      · intro ⟨h1, h2⟩ a ha
        have k1 := h1 a ha
        have k2 := h2 a ha
        unfold okB
        rw [all_iff] at k1 k2 ⊢
        intro b hb
        have k1 := k1 b hb
        have k2 := k2 b hb
        rw [near_up hal h64 a b ha] at k1
        rw [near_down hn a b ha hb] at k2
        rw [Bool.and_eq_true]
        exact ⟨k1, k2⟩
end

/-- how many are at or below. -/
def cnt (up : List Nat) (a : Nat) : Nat := ((List.range up.length).filter fun b => rel up b a).length
/-- the document's order. -/
def order (up : List Nat) : List Nat := (List.range (up.length + 1)).flatMap fun k => (List.range up.length).filter fun a => cnt up a == k
/-- the order's own comparison. -/
def lt (up : List Nat) (a b : Nat) : Bool := decide (cnt up a < cnt up b) || (decide (cnt up a = cnt up b) && decide (a < b))
theorem cnt_le (up : List Nat) (a : Nat) : cnt up a ≤ up.length := by
  unfold cnt
  exact Nat.le_trans (List.length_filter_le _ _) (by simp)
theorem order_pairwise (up : List Nat) : (order up).Pairwise fun a b => lt up a b = true := by
  unfold order
  rw [List.pairwise_flatMap]
  constructor
  · intro k _
    refine (List.Pairwise.and_mem.1 (List.Pairwise.filter _ (List.pairwise_lt_range (n := up.length)))).imp ?_
    intro a b ⟨ha, hb, hab⟩
    have h1 := (List.mem_filter.1 ha).2
    have h2 := (List.mem_filter.1 hb).2
    rw [beq_iff_eq] at h1 h2
    unfold lt
    simp [h1, h2, hab]
  · refine (List.pairwise_lt_range (n := up.length + 1)).imp ?_
    intro k1 k2 hk a ha b hb
    have h1 := (List.mem_filter.1 ha).2
    have h2 := (List.mem_filter.1 hb).2
    rw [beq_iff_eq] at h1 h2
    unfold lt
    simp [h1, h2, hk]
theorem order_mem (up : List Nat) (a : Nat) : a ∈ order up ↔ a < up.length := by
  unfold order
  rw [List.mem_flatMap]
  constructor
  · rintro ⟨k, _, h⟩
    simpa using (List.mem_filter.1 h).1
  · intro h
    exact ⟨cnt up a, by have := cnt_le up a; simp; omega, List.mem_filter.2 ⟨by simpa using h, by simp⟩⟩
theorem lt_irrefl (up : List Nat) (a : Nat) : lt up a a = false := by simp [lt]
theorem lt_trans {up : List Nat} {a b c : Nat} (h1 : lt up a b = true) (h2 : lt up b c = true) : lt up a c = true := by
  unfold lt at *
  simp at *
  omega
theorem lt_total {up : List Nat} {a b : Nat} (h1 : lt up a b = false) (h2 : lt up b a = false) : a = b := by
  unfold lt at *
  simp at *
  omega
theorem order_nodup (up : List Nat) : (order up).Nodup := (order_pairwise up).imp fun {a b} h e => by subst e; rw [lt_irrefl] at h; cases h
theorem order_perm (up : List Nat) : (order up).Perm (List.range up.length) := by
  rw [List.perm_ext_iff_of_nodup (order_nodup up) List.nodup_range]
  intro a
  rw [order_mem]
  simp
theorem order_length (up : List Nat) : (order up).length = up.length := by rw [(order_perm up).length_eq]; simp
end Lat
end Go.Proofs.Ytjbkmflbhlnbpaa
