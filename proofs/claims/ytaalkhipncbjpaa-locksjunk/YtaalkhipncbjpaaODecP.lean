/- What Decode reads with, and what a rule that was read is. -/
import Derived.Test.YtaalkhipncbjpaaOLayR
namespace Go.Proofs.Ytaalkhipncbjpaa
open Go.RowKit
theorem left_x {w : World} {rb B : Nat} {s : Rs} (h : Rx w rb B s) : Calls Try.prog 73 #[.pointer (some ⟨rb, 0, none⟩)] w fun e w' => e = .returned (.int .i64 ((s.l.length : Nat) : Int)) ∧ w' = w := by
  obtain ⟨ao, cap, h, _⟩ := h
  exact left_any w rb _ ao s.l.length cap h.c0 rfl
theorem bad_x {w : World} {rb B : Nat} {s : Rs} (h : Rx w rb B s) : Calls Try.prog 68 #[.pointer (some ⟨rb, 0, none⟩)] w fun e w' => e = .returned (.bool s.bad) ∧ w' = w := by
  obtain ⟨ao, cap, h, _⟩ := h
  exact bad_any w rb s.bad h.c1
theorem end_x {w : World} {rb B : Nat} {s : Rs} (h : Rx w rb B s) : Calls Try.prog 32 #[.pointer (some ⟨rb, 0, none⟩)] w fun e w' => e = .returned (.bool (endV s)) ∧ w' = w := by
  obtain ⟨ao, cap, h, _⟩ := h
  exact end_gen h
theorem count_x {w : World} {rb B : Nat} {s : Rs} (m : Nat) (h : Rx w rb B s) (hm : m ≤ 9223372036854775807) :
    Calls Try.prog 65 #[.pointer (some ⟨rb, 0, none⟩), .int .i64 (m : Int)] w fun e w' => ∃ v s1, e = .returned (.int .i64 ((v : Nat) : Int)) ∧ Hid (v = cntV s m) ∧ Hid (s1 = cntS s m) ∧ v ≤ m ∧ Rx w' rb B s1 ∧ Fr (fun k => k = rb) w w' := by
  obtain ⟨ao, cap, h, hB⟩ := h
  by_cases hh : s.cnt m
  · obtain ⟨l, bad⟩ := s
    have e1 : cntV ⟨l, bad⟩ m = Crc.num (l.take 4) := by unfold cntV; rw [if_pos hh]
    have e2 : cntS ⟨l, bad⟩ m = ⟨l.drop 4, false⟩ := by unfold cntS; rw [if_pos hh]
    obtain ⟨⟨hb, h4⟩, hc⟩ := hh
    simp only at hb h4 hc h hB
    subst hb
    refine (count_ok w rb ao l cap m h h4 hm hc).mono ?_
    rintro e w' ⟨rfl, a1, h1, f, hbl⟩
    refine ⟨_, _, by rw [e1], rfl, rfl, by rw [e1]; exact hc, ?_, f⟩
    rw [e2]
    refine ⟨a1, _, h1, fun hl a ha => ?_⟩
    obtain ⟨a0, ha0, he⟩ := hbl a ha
    rw [he]
    exact hB (fun e => hl (by simp [e])) a0 ha0
  · have e2 : cntS s m = ⟨[], true⟩ := by unfold cntS; rw [if_neg hh]
    refine (count_gen m h hm).mono ?_
    rintro e w' ⟨v, s1, a1, c1, rfl, Hv, Hs, hv, h1, f⟩
    refine ⟨v, s1, rfl, Hv, Hs, hv, ⟨a1, c1, h1, fun hl => ?_⟩, f⟩
    rw [Hs.out, e2] at hl
    exact absurd rfl hl
theorem numS_byte (s : Rs) (n : Nat) (h : ∀ x ∈ s.l, x < 256) : ∀ x ∈ (numS s n).l, x < 256 := by
  unfold numS
  split
  · exact fun x hx => h x (List.mem_of_mem_drop hx)
  · intro x hx; cases hx
theorem fltS_byte (s : Rs) (h : ∀ x ∈ s.l, x < 256) : ∀ x ∈ (fltS s).l, x < 256 := by
  unfold fltS
  split
  · exact numS_byte s 8 h
  · intro x hx; cases hx
theorem fltV_lt (s : Rs) (h : ∀ x ∈ s.l, x < 256) : fltV s < 18446744073709551616 := by
  unfold fltV
  split
  · exact bkV_lt _ (numV_lt s 8 h)
  · decide
end Go.Proofs.Ytaalkhipncbjpaa
