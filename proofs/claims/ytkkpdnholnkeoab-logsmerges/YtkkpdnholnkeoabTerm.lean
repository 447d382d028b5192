/- The program's log: the terms. -/
import Derived.Test.YtkkpdnholnkeoabLog
namespace Go.Proofs.Ytkkpdnholnkeoab
open Go.RowKit

/-- what Term answers. -/
def termAt (base term : Nat) (es : List En) (i : Nat) : Option Nat := if i = base then some term else if base < i ∧ i ≤ base + es.length then some (es.getD (i - base - 1) default).t else none
def tOf : Option Nat → Value
  | some t => .tuple #[.int .u64 (t : Int), .bool true]
  | none => .tuple #[.int .u64 0, .bool false]
section
variable {w w1 : World} {gb : Nat} {D : Nat → Prop} {base term voters : Nat} {es : List En} {v : Value}
set_option maxHeartbeats 400000 in
theorem term_in (h : Lg w gb D base term voters es v) (hb : base + es.length < 18446744073709551616) (m : Nat) (hm : m < es.length) (i : Nat) (hi : i = base + 1 + m) : Calls Try.prog 29 #[.pointer (some ⟨gb, 0, none⟩), .int .u64 (i : Int)] w fun e w' => e = .returned (.tuple #[.int .u64 (((es.getD m default).t : Nat) : Int), .bool true]) ∧ ∃ n, w' = w.drewN n := by
  have K : Hid (Calls _ _ _ _ _) := place_in h hb m hm i hi
  obtain ⟨ao, cap, rfl, hr, _⟩ := h.own.row
  have hrl := hr.len
  have c3 := h.c3
  obtain ⟨b, off, x, rfl, _, x0, x1, x2, x3, _, Hx⟩ := hr.at hm
  rw [← Hx.out]
  have y3 : ∀ n, (w.drewN n).cell? ⟨gb, 3, none⟩ = some (.slice (some ⟨b, off, none⟩) es.length cap) := fun n => c3
  have y1 : ∀ n, (w.drewN n).cell? ⟨b, off + m * 4 + 1, none⟩ = some (.int .u64 (x.t : Int)) := fun n => x1
  have m1 : (0 : Int) ≤ (m : Int) := by omega
  have m2 : (m : Int) < (es.length : Int) := by omega
  clear h hr hb hi
  go_enter Try.func29, Try.ntmps29
  go_wp2_with fail
  refine K.out.mono ?_
  rintro e w1 ⟨rfl, n, rfl⟩
  have z3 := y3 n
  have z1 := y1 n
  clear y3 y1
  go_wp2
  go_ret2
  exact ⟨rfl, n, rfl⟩
set_option maxHeartbeats 400000 in
theorem term_base (h : Lg w gb D base term voters es v) : Calls Try.prog 29 #[.pointer (some ⟨gb, 0, none⟩), .int .u64 (base : Int)] w fun e w' => e = .returned (.tuple #[.int .u64 (term : Int), .bool true]) ∧ ∃ n, w' = w.drewN n := by
  have K : Hid (Calls _ _ _ _ _) := place_low h base (Nat.le_refl _)
  have c0 := h.c0
  have c1 := h.c1
  have y0 : ∀ n, (w.drewN n).cell? ⟨gb, 0, none⟩ = some (.int .u64 (base : Int)) := fun n => c0
  have y1 : ∀ n, (w.drewN n).cell? ⟨gb, 1, none⟩ = some (.int .u64 (term : Int)) := fun n => c1
  clear h
  go_enter Try.func29, Try.ntmps29
  go_wp2_with fail
  refine K.out.mono ?_
  rintro e w1 ⟨rfl, n, rfl⟩
  have z0 := y0 n
  have z1 := y1 n
  clear y0 y1
  go_wp2
  go_ret2
  exact ⟨rfl, n, rfl⟩
set_option maxHeartbeats 400000 in
theorem term_no (h : Lg w gb D base term voters es v) (hb : base + es.length < 18446744073709551616) (i : Nat) (hi : i < base ∨ base + es.length < i) : Calls Try.prog 29 #[.pointer (some ⟨gb, 0, none⟩), .int .u64 (i : Int)] w fun e w' => e = .returned (.tuple #[.int .u64 0, .bool false]) ∧ ∃ n, w' = w.drewN n := by
  have K : Calls Try.prog 39 #[.pointer (some ⟨gb, 0, none⟩), .int .u64 (i : Int)] w fun e w' => e = .returned (.tuple #[.int .i64 0, .bool false]) ∧ ∃ n, w' = w.drewN n := by
    rcases hi with hi | hi
    · exact place_low h i (by omega)
    · exact place_high h hb i hi
  have HK : Hid (Calls _ _ _ _ _) := K
  have c0 := h.c0
  have y0 : ∀ n, (w.drewN n).cell? ⟨gb, 0, none⟩ = some (.int .u64 (base : Int)) := fun n => c0
  have hne : ¬ (i : Int) = (base : Int) := by omega
  clear h hi K hb
  go_enter Try.func29, Try.ntmps29
  go_wp2_with fail
  refine HK.out.mono ?_
  rintro e w1 ⟨rfl, n, rfl⟩
  have z0 := y0 n
  clear y0
  go_wp2
  go_ret2
  exact ⟨rfl, n, rfl⟩
theorem term_any (h : Lg w gb D base term voters es v) (hb : base + es.length < 18446744073709551616) (i : Nat) : Calls Try.prog 29 #[.pointer (some ⟨gb, 0, none⟩), .int .u64 (i : Int)] w fun e w' => e = .returned (tOf (termAt base term es i)) ∧ ∃ n, w' = w.drewN n := by
  unfold termAt
  by_cases h1 : i = base
  · subst h1
    rw [if_pos rfl]
    exact term_base h
  · rw [if_neg h1]
    by_cases h2 : base < i ∧ i ≤ base + es.length
    · rw [if_pos h2]
      exact term_in h hb (i - base - 1) (by omega) i (by omega)
    · rw [if_neg h2]
      exact term_no h hb i (by omega)
/-- the last one's term. -/
def lastT (term : Nat) (es : List En) : Nat := if es = [] then term else (es.getD (es.length - 1) default).t
theorem termAt_last (base term : Nat) (es : List En) : termAt base term es (base + es.length) = some (lastT term es) := by
  unfold termAt lastT
  by_cases h : es = []
  · subst h; simp
  · have : 0 < es.length := List.length_pos_iff.2 h
    rw [if_neg (by omega), if_pos (by omega), if_neg h, show base + es.length - base - 1 = es.length - 1 by omega]
theorem lastT_lt (h : Lg w gb D base term voters es v) : lastT term es < 18446744073709551616 := by
  unfold lastT
  by_cases he : es = []
  · rw [if_pos he]; exact h.b1
  · rw [if_neg he]
    have : 0 < es.length := List.length_pos_iff.2 he
    have hm : es.getD (es.length - 1) default ∈ es := by rw [List.getD_eq_getElem?_getD, List.getElem?_eq_getElem (by omega)]; exact List.getElem_mem _
    exact (h.own.each _ hm).t
set_option maxHeartbeats 400000 in
theorem lastTerm_any (h : Lg w gb D base term voters es v) (hb : base + es.length < 18446744073709551616) : Calls Try.prog 14 #[.pointer (some ⟨gb, 0, none⟩)] w fun e w' => e = .returned (.int .u64 ((lastT term es : Nat) : Int)) ∧ ∃ n, w' = w.drewN n := by
  have K : Hid (Calls _ _ _ _ _) := last_any h hb
  have K2 : Hid (∀ n, Calls Try.prog 29 #[.pointer (some ⟨gb, 0, none⟩), .int .u64 ((base + es.length : Nat) : Int)] (w.drewN n) fun e w' => e = .returned (.tuple #[.int .u64 ((lastT term es : Nat) : Int), .bool true]) ∧ ∃ m, w' = (w.drewN n).drewN m) := fun n => by
    have := term_any (h.drewN n) hb (base + es.length)
    rw [termAt_last] at this
    exact this
  obtain ⟨z, Hz⟩ : ∃ z, Hid (base + es.length = z) := ⟨_, rfl⟩
  rw [Hz.out] at K K2
  clear h hb
  go_enter Try.func14, Try.ntmps14
  go_wp2_with fail
  refine K.out.mono ?_
  rintro e w1 ⟨rfl, n, rfl⟩
  go_wp2_with fail
  refine (K2.out n).mono ?_
  rintro e w2 ⟨rfl, m, rfl⟩
  go_wp2
  go_ret
  exact ⟨rfl, n + m, by simp⟩
set_option maxHeartbeats 400000 in
theorem fit_any (h : Lg w gb D base term voters es v) (hb : base + es.length < 18446744073709551616) (i t : Nat) : Calls Try.prog 17 #[.pointer (some ⟨gb, 0, none⟩), .int .u64 (i : Int), .int .u64 (t : Int)] w fun e w' => e = .returned (.bool (decide (termAt base term es i = some t))) ∧ ∃ n, w' = w.drewN n := by
  have K := term_any h hb i
  cases ht : termAt base term es i with
  | none =>
    rw [ht] at K
    have K : Hid (Calls _ _ _ _ _) := K
    go_enter Try.func17, Try.ntmps17
    go_wp2_with fail
    refine K.out.mono ?_
    rintro e w1 ⟨rfl, n, rfl⟩
    simp only [tOf]
    go_wp2
    go_ret
    exact ⟨by simp, n, rfl⟩
  | some u =>
    rw [ht] at K
    have K : Hid (Calls _ _ _ _ _) := K
    go_enter Try.func17, Try.ntmps17
    go_wp2_with fail
    refine K.out.mono ?_
    rintro e w1 ⟨rfl, n, rfl⟩
    simp only [tOf]
    go_wp2
    go_ret
    refine ⟨?_, n, rfl⟩
    by_cases hut : u = t
    · subst hut; simp
    · have : ¬ (u : Int) = (t : Int) := by omega
      simp [hut]; omega
set_option maxHeartbeats 400000 in
theorem newer_any (h : Lg w gb D base term voters es v) (hb : base + es.length < 18446744073709551616) (i t : Nat) : Calls Try.prog 18 #[.pointer (some ⟨gb, 0, none⟩), .int .u64 (i : Int), .int .u64 (t : Int)] w fun e w' => e = .returned (.bool (decide (lastT term es < t ∨ (t = lastT term es ∧ base + es.length ≤ i)))) ∧ ∃ n, w' = w.drewN n := by
  have K : Hid (Calls _ _ _ _ _) := lastTerm_any h hb
  have K2 : Hid (∀ n, Calls Try.prog 19 #[.pointer (some ⟨gb, 0, none⟩)] (w.drewN n) fun e w' => e = .returned (.int .u64 ((base + es.length : Nat) : Int)) ∧ ∃ m, w' = (w.drewN n).drewN m) := fun n => last_any (h.drewN n) hb
  obtain ⟨z, Hz⟩ : ∃ z, Hid (base + es.length = z) := ⟨_, rfl⟩
  obtain ⟨y, Hy⟩ : ∃ y, Hid (lastT term es = y) := ⟨_, rfl⟩
  rw [Hz.out] at K2 ⊢
  rw [Hy.out] at K ⊢
  clear h hb
  by_cases h1 : y < t
  · go_enter Try.func18, Try.ntmps18
    go_wp2_with fail
    refine K.out.mono ?_
    rintro e w1 ⟨rfl, n, rfl⟩
    go_wp2
    go_ret
    exact ⟨by simp [h1], n, rfl⟩
  · by_cases h2 : t = y
    · subst h2
      go_enter Try.func18, Try.ntmps18
      go_wp2_with fail
      refine K.out.mono ?_
      rintro e w1 ⟨rfl, n, rfl⟩
      go_wp2_with fail
      refine (K2.out n).mono ?_
      rintro e w2 ⟨rfl, m, rfl⟩
      go_wp2
      go_ret
      exact ⟨by simp, n + m, by simp⟩
    · have h2' : ¬ (t : Int) = (y : Int) := by omega
      go_enter Try.func18, Try.ntmps18
      go_wp2_with fail
      refine K.out.mono ?_
      rintro e w1 ⟨rfl, n, rfl⟩
      go_wp2
      go_ret
      exact ⟨by simp [h1, h2], n, rfl⟩
end
end Go.Proofs.Ytkkpdnholnkeoab
