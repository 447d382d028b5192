/- What Decode reads with, and what a rule that was read is. -/
import Derived.Test.YtlneneacbjkheaaLayR
import Derived.Test.YtlneneacbjkheaaEncW
namespace Go.Proofs.Ytlneneacbjkheaa
open Go.RowKit
theorem left_x {w : World} {rb B : Nat} {s : Rs} (h : Rx w rb B s) : Calls Try.prog 34 #[.pointer (some ⟨rb, 0, none⟩)] w fun e w' => e = .returned (.int .i64 ((s.l.length : Nat) : Int)) ∧ w' = w := by
  obtain ⟨ao, cap, h, _⟩ := h
  exact left_any w rb _ ao s.l.length cap h.c0 rfl
theorem bad_x {w : World} {rb B : Nat} {s : Rs} (h : Rx w rb B s) : Calls Try.prog 38 #[.pointer (some ⟨rb, 0, none⟩)] w fun e w' => e = .returned (.bool s.bad) ∧ w' = w := by
  obtain ⟨ao, cap, h, _⟩ := h
  exact bad_any w rb s.bad h.c1
theorem end_x {w : World} {rb B : Nat} {s : Rs} (h : Rx w rb B s) : Calls Try.prog 39 #[.pointer (some ⟨rb, 0, none⟩)] w fun e w' => e = .returned (.bool (endV s)) ∧ w' = w := by
  obtain ⟨ao, cap, h, _⟩ := h
  exact end_gen h
theorem count_x {w : World} {rb B : Nat} {s : Rs} (m : Nat) (h : Rx w rb B s) (hm : m ≤ 9223372036854775807) :
    Calls Try.prog 33 #[.pointer (some ⟨rb, 0, none⟩), .int .i64 (m : Int)] w fun e w' => ∃ v s1, e = .returned (.int .i64 ((v : Nat) : Int)) ∧ Hid (v = cntV s m) ∧ Hid (s1 = cntS s m) ∧ v ≤ m ∧ Rx w' rb B s1 ∧ Fr (fun k => k = rb) w w' := by
  obtain ⟨ao, cap, h, hB⟩ := h
  by_cases hh : s.cnt m
  · obtain ⟨l, bad⟩ := s
    have e1 : cntV ⟨l, bad⟩ m = Crc.num (l.take 4) := by unfold cntV; rw [if_pos hh]
    have e2 : cntS ⟨l, bad⟩ m = ⟨l.drop 4, false⟩ := by unfold cntS; rw [if_pos hh]
    obtain ⟨⟨hb, h4⟩, hc⟩ := hh
    simp only at hb h4 hc h hB
    subst hb
    refine (count_ok w rb ao l cap m h h4 hm hc).mono ?_
    rintro e w' ⟨rfl, a1, h1, f, hbl⟩
    refine ⟨_, _, by rw [e1], rfl, rfl, by rw [e1]; exact hc, ?_, f⟩
    rw [e2]
    refine ⟨a1, _, h1, fun hl a ha => ?_⟩
    obtain ⟨a0, ha0, he⟩ := hbl a ha
    rw [he]
    exact hB (fun e => hl (by simp [e])) a0 ha0
  · have e2 : cntS s m = ⟨[], true⟩ := by unfold cntS; rw [if_neg hh]
    refine (count_gen m h hm).mono ?_
    rintro e w' ⟨v, s1, a1, c1, rfl, Hv, Hs, hv, h1, f⟩
    refine ⟨v, s1, rfl, Hv, Hs, hv, ⟨a1, c1, h1, fun hl => ?_⟩, f⟩
    rw [Hs.out, e2] at hl
    exact absurd rfl hl
theorem numS_byte (s : Rs) (n : Nat) (h : ∀ x ∈ s.l, x < 256) : ∀ x ∈ (numS s n).l, x < 256 := by
  unfold numS
  split
  · exact fun x hx => h x (List.mem_of_mem_drop hx)
  · intro x hx; cases hx
theorem fltS_byte (s : Rs) (h : ∀ x ∈ s.l, x < 256) : ∀ x ∈ (fltS s).l, x < 256 := by
  unfold fltS
  split
  · exact numS_byte s 8 h
  · intro x hx; cases hx
theorem fltV_lt (s : Rs) (h : ∀ x ∈ s.l, x < 256) : fltV s < 18446744073709551616 := by
  unfold fltV
  split
  · exact bkV_lt _ (numV_lt s 8 h)
  · decide
theorem gr_in (s : Rs) (h : ∀ x ∈ s.l, x < 256) : (grV s).In ∧ (grV s).Ok := by
  have x1 : ∀ x ∈ (s1 s).l, x < 256 := by unfold s1; exact numS_byte s 8 h
  have x2 : ∀ x ∈ (s2 s).l, x < 256 := by unfold s2; exact numS_byte (s1 s) 1 x1
  have x3 : ∀ x ∈ (s3 s).l, x < 256 := by unfold s3; exact numS_byte (s2 s) 1 x2
  have x4 : ∀ x ∈ (s4 s).l, x < 256 := by unfold s4; exact fltS_byte (s3 s) x3
  have x5 : ∀ x ∈ (s5 s).l, x < 256 := by unfold s5; exact fltS_byte (s4 s) x4
  have x6 : ∀ x ∈ (s6 s).l, x < 256 := by unfold s6; exact numS_byte (s5 s) 8 x5
  have x7 : ∀ x ∈ (ruleS s).l, x < 256 := by unfold ruleS; exact numS_byte (s6 s) 4 x6
  have x8 := numS_byte (ruleS s) 8 x7
  have v0 : numV s 8 < 18446744073709551616 := numV_lt s 8 h
  have v1 : numV (s1 s) 1 < 256 := numV_lt (s1 s) 1 x1
  have v2 : numV (s2 s) 1 < 256 := numV_lt (s2 s) 1 x2
  have v5 : numV (s5 s) 8 < 18446744073709551616 := numV_lt (s5 s) 8 x5
  have v6 : numV (s6 s) 4 < 4294967296 := numV_lt (s6 s) 4 x6
  have v7 : numV (ruleS s) 8 < 18446744073709551616 := numV_lt (ruleS s) 8 x7
  have v8 : numV (numS (ruleS s) 8) 8 < 18446744073709551616 := numV_lt (numS (ruleS s) 8) 8 x8
  have v3 := fltV_lt (s3 s) x3
  have v4 := fltV_lt (s4 s) x4
  generalize hr : ruleV s = r at *
  have hR : r.Ok ∧ r.au < 18446744073709551616 ∧ (0 ≤ r.fr ∧ r.fr < 9223372036854775808) ∧ (0 ≤ r.tt ∧ r.tt < 9223372036854775808) ∧ (0 ≤ r.qu ∧ r.qu < 9223372036854775808) := by
    unfold ruleV at hr
    generalize numV s 8 = a0 at *
    generalize numV (s1 s) 1 = a1 at *
    generalize numV (s2 s) 1 = a2 at *
    generalize fltV (s3 s) = a3 at *
    generalize fltV (s4 s) = a4 at *
    generalize numV (s5 s) 8 = a5 at *
    generalize numV (s6 s) 4 = a6 at *
    split at hr
    · subst hr
      exact ⟨⟨by decide, by decide, by decide⟩, by decide, by decide, by decide, by decide⟩
    · subst hr
      exact ⟨⟨v0, v3, v4⟩, v5, ⟨by simp only; omega, by simp only; omega⟩, ⟨by simp only; omega, by simp only; omega⟩, ⟨by simp only; omega, by simp only; omega⟩⟩
  unfold grV
  rw [hr]
  exact ⟨⟨hR.2.1, hR.2.2.1, hR.2.2.2.1, hR.2.2.2.2⟩, ⟨hR.1, v7, v8⟩⟩
theorem any_hit (gs : List Gr) (id n : Nat) (ok : Bool) (hL : LastAt gs (fun x => decide (x.r.id = id) && x.open) n ok) : gs.any (hit id) = ok := by
  have hh : ∀ x : Gr, hit id x = (decide (x.r.id = id) && x.open) := fun x => rfl
  rcases hL with ⟨rfl, hn, hq, _⟩ | ⟨rfl, _, hno⟩
  · rw [List.any_eq_true]
    refine ⟨gr gs n, ?_, by rw [hh]; exact hq⟩
    show gs.getD n Enc.dflt ∈ gs
    rw [List.getD_eq_getElem?_getD, List.getElem?_eq_getElem hn]
    exact List.getElem_mem hn
  · rw [Bool.eq_false_iff]
    intro ht
    obtain ⟨x, hx, hq⟩ := List.any_eq_true.1 ht
    obtain ⟨j, hj, rfl⟩ := List.mem_iff_getElem.1 hx
    have := hno j hj
    rw [hh] at hq
    simp only [List.getD_eq_getElem?_getD, List.getElem?_eq_getElem hj, Option.getD_some] at this
    rw [this] at hq
    cases hq
end Go.Proofs.Ytlneneacbjkheaa
