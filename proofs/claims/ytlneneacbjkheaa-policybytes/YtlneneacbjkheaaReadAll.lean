/- The program's reader: the rest of what its calls answer and leave. -/
import Derived.Test.YtlneneacbjkheaaReadMore
namespace Go.Proofs.Ytlneneacbjkheaa
open Go.RowKit

/-- behind a fault a number is 0. -/
theorem rnum_after (w : World) (rb : Nat) (ao : Option Addr) (l : List Nat) (cap n : Nat) (h : Rd w rb ao l cap true) : Calls Try.prog 36 #[.pointer (some ⟨rb, 0, none⟩), .int .i64 (n : Int)] w fun e w' =>
    e = .returned (.int .u64 0) ∧ ∃ a1 c1, Rd w' rb a1 [] c1 true ∧ Fr (fun k => k = rb) w w' := by
  have hl := h.none rfl
  subst hl
  by_cases hn : n = 0
  · subst hn
    refine (rnum_none w rb ao [] cap h).mono ?_
    rintro e w1 ⟨he, hw⟩
    subst w1
    exact ⟨he, ao, cap, h, Fr.refl _ _⟩
  · refine (rnum_bad w rb ao [] cap true n h (.inr (by simp; omega))).mono ?_
    rintro e w1 ⟨he, h1, h2⟩
    exact ⟨he, none, 0, h1, h2⟩
theorem fresh_fr {w0 w w1 : World} {S : Nat → Prop} {ao : Option Addr} {l : List Nat} (h : Fresh w0 w ao l) (f : Fr S w w1) (hs : ∀ a, ao = some a → ¬ S a.block) : Fresh w0 w1 ao l :=
  ⟨f.row h.1 (fun _ a ha => hs a ha), fun a ha => by
    obtain ⟨h1, h2, h3, h4, cur, h5⟩ := h.2 a ha
    exact ⟨h1, Nat.lt_of_lt_of_le h2 f.size, h3, h4, cur, (f.block _ h2 (hs a ha)).trans h5⟩⟩

theorem rend_any (w : World) (rb : Nat) (ao : Option Addr) (l : List Nat) (cap : Nat) (bad : Bool) (h : Rd w rb ao l cap bad) : Calls Try.prog 39 #[.pointer (some ⟨rb, 0, none⟩)] w fun e w' =>
    e = .returned (.bool (!bad && ((l.length : Int) == 0))) ∧ w' = w := by
  have hc0 := h.c0
  have hc1 := h.c1
  cases bad
  · go_enter Try.func39, Try.ntmps39
    go_wp2_with fail
    refine (bad_any w rb false hc1).mono ?_
    rintro e w1 ⟨rfl, hw1⟩
    subst w1
    go_wp2_with fail
    refine (left_any w rb _ ao l.length cap hc0 rfl).mono ?_
    rintro e w1 ⟨rfl, hw1⟩
    subst w1
    go_wp2
    go_ret
    exact ⟨rfl, rfl⟩
  · go_enter Try.func39, Try.ntmps39
    go_wp2_with fail
    refine (bad_any w rb true hc1).mono ?_
    rintro e w1 ⟨rfl, hw1⟩
    subst w1
    go_wp2
    go_ret
    exact ⟨rfl, rfl⟩
end Go.Proofs.Ytlneneacbjkheaa
