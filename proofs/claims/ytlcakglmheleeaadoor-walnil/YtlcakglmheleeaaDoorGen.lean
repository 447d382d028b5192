/- The reader's calls, whatever it has: each in one contract. -/
import Derived.Test.YtlcakglmheleeaaDoorEnt
namespace Go.Proofs.YtlcakglmheleeaaDoor
open Go.RowKit

theorem numV_lt (s : Rs) (n : Nat) (h : ∀ x ∈ s.l, x < 256) : numV s n < 256 ^ n := by
  unfold numV
  split
  · rename_i hh
    have := Crc.num_lt (s.l.take n) (fun x hx => h x (List.mem_of_mem_take hx))
    rwa [List.length_take, Nat.min_eq_left hh.2] at this
  · exact Nat.pow_pos (by decide)
theorem rnum_gen {w : World} {rb : Nat} {ao : Option Addr} {cap : Nat} {s : Rs} (n : Nat) (h : Rd w rb ao s.l cap s.bad) (h8 : n ≤ 8) :
    Calls Tryd.prog 49 #[.pointer (some ⟨rb, 0, none⟩), .int .i64 (n : Int)] w fun e w' => ∃ v s1 a1 c1, e = .returned (.int .u64 ((v : Nat) : Int)) ∧ Hid (v = numV s n) ∧ Hid (s1 = numS s n) ∧ v < 256 ^ n ∧ Rd w' rb a1 (s1 : Rs).l c1 s1.bad ∧ Fr (fun k => k = rb) w w' := by
  have hlt := numV_lt s n h.row.2.2.1
  by_cases hh : s.has n
  · obtain ⟨l, bad⟩ := s
    obtain ⟨hb, hn⟩ := hh
    simp only at hb hn h
    subst hb
    refine (rnum_ok w rb ao l cap n h hn h8).mono ?_
    rintro e w' ⟨rfl, a1, h1, f, _⟩
    have e1 : numV ⟨l, false⟩ n = Crc.num (l.take n) := by unfold numV; rw [if_pos ⟨rfl, hn⟩]
    have e2 : numS ⟨l, false⟩ n = ⟨l.drop n, false⟩ := by unfold numS; rw [if_pos ⟨rfl, hn⟩]
    exact ⟨_, _, a1, _, by rw [e1], rfl, rfl, hlt, by rw [e2]; exact h1, f⟩
  · have e1 : numV s n = 0 := by unfold numV; rw [if_neg hh]
    have e2 : numS s n = ⟨[], true⟩ := by unfold numS; rw [if_neg hh]
    obtain ⟨l, bad⟩ := s
    simp only at h
    cases bad with
    | true =>
      refine (rnum_after w rb ao l cap n h).mono ?_
      rintro e w' ⟨rfl, a1, c1, h1, f⟩
      exact ⟨_, _, a1, c1, by rw [e1]; rfl, rfl, rfl, hlt, by rw [e2]; exact h1, f⟩
    | false =>
      have hn : l.length < n := by
        rcases Nat.lt_or_ge l.length n with h' | h'
        · exact h'
        · exact absurd ⟨rfl, h'⟩ hh
      refine (rnum_bad w rb ao l cap false n h (.inr (by omega))).mono ?_
      rintro e w' ⟨rfl, h1, f⟩
      exact ⟨_, _, none, 0, by rw [e1]; rfl, rfl, rfl, hlt, by rw [e2]; exact h1, f⟩
theorem count_gen {w : World} {rb : Nat} {ao : Option Addr} {cap : Nat} {s : Rs} (m : Nat) (h : Rd w rb ao s.l cap s.bad) (hm : m ≤ 9223372036854775807) :
    Calls Tryd.prog 45 #[.pointer (some ⟨rb, 0, none⟩), .int .i64 (m : Int)] w fun e w' => ∃ v s1 a1 c1, e = .returned (.int .i64 ((v : Nat) : Int)) ∧ Hid (v = cntV s m) ∧ Hid (s1 = cntS s m) ∧ v ≤ m ∧ Rd w' rb a1 (s1 : Rs).l c1 s1.bad ∧ Fr (fun k => k = rb) w w' := by
  obtain ⟨l, bad⟩ := s
  simp only at h
  by_cases hh : (⟨l, bad⟩ : Rs).cnt m
  · have e1 : cntV ⟨l, bad⟩ m = Crc.num (l.take 4) := by unfold cntV; rw [if_pos hh]
    have e2 : cntS ⟨l, bad⟩ m = ⟨l.drop 4, false⟩ := by unfold cntS; rw [if_pos hh]
    obtain ⟨⟨hb, h4⟩, hc⟩ := hh
    simp only at hb h4 hc
    subst hb
    refine (count_ok w rb ao l cap m h h4 hm hc).mono ?_
    rintro e w' ⟨rfl, a1, h1, f, _⟩
    exact ⟨_, _, a1, _, by rw [e1], rfl, rfl, by rw [e1]; exact hc, by rw [e2]; exact h1, f⟩
  · have e1 : cntV ⟨l, bad⟩ m = 0 := by unfold cntV; rw [if_neg hh]
    have e2 : cntS ⟨l, bad⟩ m = ⟨[], true⟩ := by unfold cntS; rw [if_neg hh]
    have key : Calls Tryd.prog 45 #[.pointer (some ⟨rb, 0, none⟩), .int .i64 (m : Int)] w fun e w' => e = .returned (.int .i64 0) ∧ Rd w' rb none [] 0 true ∧ Fr (fun k => k = rb) w w' := by
      by_cases h4 : l.length < 4
      · exact count_short w rb ao l cap bad m (by omega) h h4
      · cases bad with
        | true => have := h.none rfl; subst this; simp at h4
        | false =>
          refine count_much w rb ao l cap m h (by omega) (by omega) (.inr ?_)
          have : ¬ Crc.num (l.take 4) ≤ m := fun hc => hh ⟨⟨rfl, by show 4 ≤ l.length; omega⟩, hc⟩
          omega
    refine key.mono ?_
    rintro e w' ⟨rfl, h1, f⟩
    exact ⟨_, _, none, 0, by rw [e1]; rfl, rfl, rfl, by rw [e1]; exact Nat.zero_le _, by rw [e2]; exact h1, f⟩
theorem bytes_gen {w : World} {rb : Nat} {ao : Option Addr} {cap : Nat} {s : Rs} (m : Nat) (h : Rd w rb ao s.l cap s.bad) (hm : m ≤ 140737488355328) :
    Calls Tryd.prog 65 #[.pointer (some ⟨rb, 0, none⟩), .int .i64 (m : Int)] w fun e w' => ∃ a1 q s1 a2 c2, e = .returned (.slice a1 (q : List Nat).length q.length) ∧ Fresh w w' a1 q ∧ Hid (q = bytV s m) ∧ Hid (s1 = bytS s m) ∧ q.length ≤ m ∧ Rd w' rb a2 (s1 : Rs).l c2 s1.bad ∧ Fr (fun k => k = rb) w w' := by
  obtain ⟨l, bad⟩ := s
  simp only at h
  by_cases hh : (⟨l, bad⟩ : Rs).byt m
  · have e1 : bytV ⟨l, bad⟩ m = (l.drop 4).take (Crc.num (l.take 4)) := by unfold bytV; rw [if_pos hh]
    have e2 : bytS ⟨l, bad⟩ m = ⟨(l.drop 4).drop (Crc.num (l.take 4)), false⟩ := by unfold bytS; rw [if_pos hh]
    obtain ⟨⟨⟨hb, h4⟩, hc⟩, hx⟩ := hh
    simp only at hb h4 hc hx
    subst hb
    have hl : ((l.drop 4).take (Crc.num (l.take 4))).length = Crc.num (l.take 4) := by rw [List.length_take, List.length_drop]; exact Nat.min_eq_left hx
    refine (bytes_ok w rb ao l cap m h hm h4 hc hx).mono ?_
    rintro e w' ⟨a1, a2, c2, rfl, hf, h1, f, _⟩
    exact ⟨a1, _, _, a2, c2, by rw [hl], hf, e1.symm, rfl, by rw [hl]; exact hc, by rw [e2]; exact h1, f⟩
  · have e1 : bytV ⟨l, bad⟩ m = [] := by unfold bytV; rw [if_neg hh]
    have e2 : bytS ⟨l, bad⟩ m = ⟨[], true⟩ := by unfold bytS; rw [if_neg hh]
    have key : Calls Tryd.prog 65 #[.pointer (some ⟨rb, 0, none⟩), .int .i64 (m : Int)] w fun e w' => ∃ a1, e = .returned (.slice a1 0 0) ∧ Fresh w w' a1 [] ∧ Rd w' rb none [] 0 true ∧ Fr (fun k => k = rb) w w' := by
      by_cases h4 : l.length < 4
      · exact bytes_bad w rb ao l cap bad m h (by omega) (.inl h4)
      · cases bad with
        | true => have := h.none rfl; subst this; simp at h4
        | false =>
          by_cases hc : Crc.num (l.take 4) ≤ m
          · refine bytes_long w rb ao l cap m h (by omega) (by omega) hc ?_
            have : ¬ Crc.num (l.take 4) ≤ l.length - 4 := fun hx => hh ⟨⟨⟨rfl, by show 4 ≤ l.length; omega⟩, hc⟩, hx⟩
            omega
          · exact bytes_bad w rb ao l cap false m h (by omega) (.inr ⟨rfl, by omega, .inr (by omega)⟩)
    refine key.mono ?_
    rintro e w' ⟨a1, rfl, hf, h1, f⟩
    exact ⟨a1, [], _, none, 0, rfl, hf, e1.symm, rfl, Nat.zero_le _, by rw [e2]; exact h1, f⟩
theorem end_gen {w : World} {rb : Nat} {ao : Option Addr} {cap : Nat} {s : Rs} (h : Rd w rb ao s.l cap s.bad) :
    Calls Tryd.prog 50 #[.pointer (some ⟨rb, 0, none⟩)] w fun e w' => e = .returned (.bool (endV s)) ∧ w' = w := end_any w rb ao s.l cap s.bad h
theorem read_gen (w : World) (ao : Option Addr) (l : List Nat) (cap : Nat) (h : Row w ao l cap) : Calls Tryd.prog 44 #[.slice ao l.length cap] w fun e w' =>
    e = .returned (.pointer (some ⟨w.heap.size, 0, none⟩)) ∧ Rd w' w.heap.size ao (⟨l, false⟩ : Rs).l cap (⟨l, false⟩ : Rs).bad ∧ Fr (fun _ => False) w w' := read_any w ao l cap h
end Go.Proofs.YtlcakglmheleeaaDoor
