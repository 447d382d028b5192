/- The program's reader: the rest of what its calls answer and leave. -/
import Derived.Test.YtlcakglmheleeaaDoorRef
namespace Go.Proofs.YtlcakglmheleeaaDoor
open Go.RowKit

/-- behind a fault a number is 0. -/
theorem rnum_after (w : World) (rb : Nat) (ao : Option Addr) (l : List Nat) (cap n : Nat) (h : Rd w rb ao l cap true) : Calls Tryd.prog 49 #[.pointer (some ⟨rb, 0, none⟩), .int .i64 (n : Int)] w fun e w' =>
    e = .returned (.int .u64 0) ∧ ∃ a1 c1, Rd w' rb a1 [] c1 true ∧ Fr (fun k => k = rb) w w' := by
  have hl := h.none rfl
  subst hl
  by_cases hn : n = 0
  · subst hn
    refine (rnum_none w rb ao [] cap h).mono ?_
    rintro e w1 ⟨he, hw⟩
    subst w1
    exact ⟨he, ao, cap, h, Fr.refl _ _⟩
  · refine (rnum_bad w rb ao [] cap true n h (.inr (by simp; omega))).mono ?_
    rintro e w1 ⟨he, h1, h2⟩
    exact ⟨he, none, 0, h1, h2⟩
theorem fresh_fr {w0 w w1 : World} {S : Nat → Prop} {ao : Option Addr} {l : List Nat} (h : Fresh w0 w ao l) (f : Fr S w w1) (hs : ∀ a, ao = some a → ¬ S a.block) : Fresh w0 w1 ao l :=
  ⟨f.row h.1 (fun _ a ha => hs a ha), fun a ha => by
    obtain ⟨h1, h2, h3, h4, cur, h5⟩ := h.2 a ha
    exact ⟨h1, Nat.lt_of_lt_of_le h2 f.size, h3, h4, cur, (f.block _ h2 (hs a ha)).trans h5⟩⟩

/-- a length beyond what is left. -/
theorem bytes_long (w : World) (rb : Nat) (ao : Option Addr) (l : List Nat) (cap m : Nat) (h : Rd w rb ao l cap false) (hi : m ≤ 9223372036854775807) (hl : 4 ≤ l.length) (hm : Crc.num (l.take 4) ≤ m) (hx : l.length - 4 < Crc.num (l.take 4)) : Calls Tryd.prog 65 #[.pointer (some ⟨rb, 0, none⟩), .int .i64 (m : Int)] w fun e w' =>
    ∃ a1, e = .returned (.slice a1 0 0) ∧ Fresh w w' a1 [] ∧ Rd w' rb none [] 0 true ∧ Fr (fun k => k = rb) w w' := by
  have hc := count_ok w rb ao l cap m h hl hi hm
  have hld : (l.drop 4).length = l.length - 4 := by simp
  generalize Crc.num (l.take 4) = q at *
  go_enter Tryd.func65, Tryd.ntmps65
  go_wp2_with fail
  refine hc.mono ?_
  rintro e w1 ⟨rfl, a1, h1, h2, _⟩
  go_wp2_with fail
  refine (take_bad w1 rb a1 (l.drop 4) (cap - 4) false q h1 (.inr (by omega))).mono ?_
  rintro e w2 ⟨rfl, h3, h4⟩
  go_wp2_with fail
  refine (own_any none [] 0 w2 (row_nil w2) (by simp)).mono ?_
  rintro e w3 ⟨a3, rfl, h5, h6⟩
  go_wp2
  go_ret
  exact ⟨a3, rfl, ⟨h5.1, fun a ha => by have := h5.2 a ha; have hs := (h2.trans h4).size; exact ⟨by omega, this.2⟩⟩, h3.fr h6 (by simp) (by simp), (h2.trans h4).trans (h6.mono (fun _ _ h => h.elim))⟩
/-- bytes that are there. -/
theorem bytes_ok (w : World) (rb : Nat) (ao : Option Addr) (l : List Nat) (cap m : Nat) (h : Rd w rb ao l cap false) (hi : m ≤ 140737488355328) (hl : 4 ≤ l.length) (hm : Crc.num (l.take 4) ≤ m) (hx : Crc.num (l.take 4) ≤ l.length - 4) : Calls Tryd.prog 65 #[.pointer (some ⟨rb, 0, none⟩), .int .i64 (m : Int)] w fun e w' =>
    ∃ a1 a2 c2, e = .returned (.slice a1 (Crc.num (l.take 4)) (Crc.num (l.take 4))) ∧ Fresh w w' a1 ((l.drop 4).take (Crc.num (l.take 4))) ∧ Rd w' rb a2 ((l.drop 4).drop (Crc.num (l.take 4))) c2 false ∧ Fr (fun k => k = rb) w w' ∧ ∀ a, a2 = some a → ∃ a0, ao = some a0 ∧ a.block = a0.block := by
  have hc := count_ok w rb ao l cap m h hl (by omega) hm
  have hld : (l.drop 4).length = l.length - 4 := by simp
  have hlt : ((l.drop 4).take (Crc.num (l.take 4))).length = Crc.num (l.take 4) := by simp; omega
  generalize Crc.num (l.take 4) = q at *
  go_enter Tryd.func65, Tryd.ntmps65
  go_wp2_with fail
  refine hc.mono ?_
  rintro e w1 ⟨rfl, a1, h1, h2, k1⟩
  go_wp2_with fail
  refine (take_ok w1 rb a1 (l.drop 4) (cap - 4) q h1 (by omega)).mono ?_
  rintro e w2 ⟨rfl, a2, h3, h3r, h4, k2⟩
  have hown := own_any a1 ((l.drop 4).take q) q w2 h3r (by omega)
  rw [hlt] at hown
  go_wp2_with fail
  refine hown.mono ?_
  rintro e w3 ⟨a3, rfl, h5, h6⟩
  go_wp2
  go_ret
  refine ⟨a3, a2, cap - 4 - q, rfl, ⟨h5.1, fun a ha => by have := h5.2 a ha; have hs := (h2.trans h4).size; exact ⟨by omega, this.2⟩⟩, h3.fr h6 (by simp) (by simp), (h2.trans h4).trans (h6.mono (fun _ _ h => h.elim)), fun a ha => ?_⟩
  obtain ⟨x, hx1, hx2⟩ := k2 a ha
  obtain ⟨y, hy1, hy2⟩ := k1 x hx1
  exact ⟨y, hy1, hx2.trans hy2⟩

theorem end_any (w : World) (rb : Nat) (ao : Option Addr) (l : List Nat) (cap : Nat) (bad : Bool) (h : Rd w rb ao l cap bad) : Calls Tryd.prog 50 #[.pointer (some ⟨rb, 0, none⟩)] w fun e w' =>
    e = .returned (.bool (!bad && ((l.length : Int) == 0))) ∧ w' = w := by
  have hc0 := h.c0
  have hc1 := h.c1
  cases bad
  · go_enter Tryd.func50, Tryd.ntmps50
    go_wp2_with fail
    refine (bad_any w rb false hc1).mono ?_
    rintro e w1 ⟨rfl, hw1⟩
    subst w1
    go_wp2_with fail
    refine (left_any w rb _ ao l.length cap hc0 rfl).mono ?_
    rintro e w1 ⟨rfl, hw1⟩
    subst w1
    go_wp2
    go_ret
    exact ⟨rfl, rfl⟩
  · go_enter Tryd.func50, Tryd.ntmps50
    go_wp2_with fail
    refine (bad_any w rb true hc1).mono ?_
    rintro e w1 ⟨rfl, hw1⟩
    subst w1
    go_wp2
    go_ret
    exact ⟨rfl, rfl⟩
end Go.Proofs.YtlcakglmheleeaaDoor
