/- Is a number within two; do two stand at one place: the program's and the document's. -/
import Derived.Test.YtaalkhipncbjpaaNum
namespace Go.Proofs.Ytaalkhipncbjpaa
open Go.RowKit
def Says (f a b : Nat) (t : Bool) : Prop := ∀ W, Calls Try.prog f #[.float .f64 a, .float .f64 b] W fun e w' => e = .returned (.bool t) ∧ w' = W
def Says3 (f x a b : Nat) (t : Bool) : Prop := ∀ W, Calls Try.prog f #[.float .f64 x, .float .f64 a, .float .f64 b] W fun e w' => e = .returned (.bool t) ∧ w' = W
set_option maxHeartbeats 400000 in
theorem within_any (x a b : Nat) (hx : x < 18446744073709551616) (ha : a < 18446744073709551616) (hb : b < 18446744073709551616) : Says3 106 x a b (!decide (Fl.rk x < Fl.rk a) && !decide (Fl.rk b < Fl.rk x)) := by
  intro W
  have h1 : Says 112 x a (decide (Fl.rk x < Fl.rk a)) := fun W => less_any x a W hx ha
  have h2 : Says 112 b x (decide (Fl.rk b < Fl.rk x)) := fun W => less_any b x W hb hx
  generalize decide (Fl.rk x < Fl.rk a) = p at *
  generalize decide (Fl.rk b < Fl.rk x) = q at *
  cases p
  · go_enter Try.func106, Try.ntmps106
    go_wp2_with fail
    refine (h1 _).mono ?_
    rintro e w2 ⟨rfl, hw⟩
    subst w2
    go_wp2_with fail
    refine (h2 _).mono ?_
    rintro e w2 ⟨rfl, hw⟩
    subst w2
    go_wp2
    go_ret
    exact ⟨rfl, rfl⟩
  · go_enter Try.func106, Try.ntmps106
    go_wp2_with fail
    refine (h1 _).mono ?_
    rintro e w2 ⟨rfl, hw⟩
    subst w2
    go_wp2
    go_ret
    exact ⟨rfl, rfl⟩
set_option maxHeartbeats 400000 in
theorem refwithin_any (x a b : Nat) (hx : x < 18446744073709551616) (ha : a < 18446744073709551616) (hb : b < 18446744073709551616) : Says3 85 x a b (!decide (Fl.rk x < Fl.rk a) && !decide (Fl.rk b < Fl.rk x)) := by
  intro W
  have h1 : Says 78 x a (decide (Fl.rk x < Fl.rk a)) := fun W => ahead_any x a W hx ha
  have h2 : Says 78 b x (decide (Fl.rk b < Fl.rk x)) := fun W => ahead_any b x W hb hx
  generalize decide (Fl.rk x < Fl.rk a) = p at *
  generalize decide (Fl.rk b < Fl.rk x) = q at *
  cases p
  · go_enter Try.func85, Try.ntmps85
    go_wp2_with fail
    refine (h1 _).mono ?_
    rintro e w2 ⟨rfl, hw⟩
    subst w2
    go_wp2_with fail
    refine (h2 _).mono ?_
    rintro e w2 ⟨rfl, hw⟩
    subst w2
    go_wp2
    go_ret
    exact ⟨rfl, rfl⟩
  · go_enter Try.func85, Try.ntmps85
    go_wp2_with fail
    refine (h1 _).mono ?_
    rintro e w2 ⟨rfl, hw⟩
    subst w2
    go_wp2
    go_ret
    exact ⟨rfl, rfl⟩


set_option maxHeartbeats 400000 in
/-- the document's Same. -/
theorem refsame_any (a b : Nat) (ha : a < 18446744073709551616) (hb : b < 18446744073709551616) : Says 44 a b (decide (Fl.rk a = Fl.rk b)) := by
  intro W
  have h1 : Says 78 a b (decide (Fl.rk a < Fl.rk b)) := fun W => ahead_any a b W ha hb
  have h2 : Says 78 b a (decide (Fl.rk b < Fl.rk a)) := fun W => ahead_any b a W hb ha
  have hres : decide (Fl.rk a = Fl.rk b) = (!decide (Fl.rk a < Fl.rk b) && !decide (Fl.rk b < Fl.rk a)) := by
    rw [Bool.eq_iff_iff]; simp; omega
  rw [hres]
  clear hres
  generalize decide (Fl.rk a < Fl.rk b) = p at *
  generalize decide (Fl.rk b < Fl.rk a) = q at *
  cases p
  · go_enter Try.func44, Try.ntmps44
    go_wp2_with fail
    refine (h1 _).mono ?_
    rintro e w2 ⟨rfl, hw⟩
    subst w2
    go_wp2_with fail
    refine (h2 _).mono ?_
    rintro e w2 ⟨rfl, hw⟩
    subst w2
    go_wp2
    go_ret
    exact ⟨rfl, rfl⟩
  · go_enter Try.func44, Try.ntmps44
    go_wp2_with fail
    refine (h1 _).mono ?_
    rintro e w2 ⟨rfl, hw⟩
    subst w2
    go_wp2
    go_ret
    exact ⟨rfl, rfl⟩
end Go.Proofs.Ytaalkhipncbjpaa
