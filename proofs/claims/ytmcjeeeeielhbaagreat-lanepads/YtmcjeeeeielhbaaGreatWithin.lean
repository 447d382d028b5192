/- Is a number within two; do two stand at one place: the program's and the document's. -/
import Derived.Test.YtmcjeeeeielhbaaGreatNum
namespace Go.Proofs.YtmcjeeeeielhbaaGreat
open Go.RowKit
def Says (f a b : Nat) (t : Bool) : Prop := ∀ W, Calls Tryz.prog f #[.float .f64 a, .float .f64 b] W fun e w' => e = .returned (.bool t) ∧ w' = W
def Says3 (f x a b : Nat) (t : Bool) : Prop := ∀ W, Calls Tryz.prog f #[.float .f64 x, .float .f64 a, .float .f64 b] W fun e w' => e = .returned (.bool t) ∧ w' = W
set_option maxHeartbeats 400000 in
/-- the document's Same. -/
theorem refsame_any (a b : Nat) (ha : a < 18446744073709551616) (hb : b < 18446744073709551616) : Says 11 a b (decide (Fl.rk a = Fl.rk b)) := by
  intro W
  have h1 : Says 23 a b (decide (Fl.rk a < Fl.rk b)) := fun W => ahead_any a b W ha hb
  have h2 : Says 23 b a (decide (Fl.rk b < Fl.rk a)) := fun W => ahead_any b a W hb ha
  have hres : decide (Fl.rk a = Fl.rk b) = (!decide (Fl.rk a < Fl.rk b) && !decide (Fl.rk b < Fl.rk a)) := by
    rw [Bool.eq_iff_iff]; simp; omega
  rw [hres]
  clear hres
  generalize decide (Fl.rk a < Fl.rk b) = p at *
  generalize decide (Fl.rk b < Fl.rk a) = q at *
  cases p
  · go_enter Tryz.func11, Tryz.ntmps11
    go_wp2_with fail
    refine (h1 _).mono ?_
    rintro e w2 ⟨rfl, hw⟩
    subst w2
    go_wp2_with fail
    refine (h2 _).mono ?_
    rintro e w2 ⟨rfl, hw⟩
    subst w2
    go_wp2
    go_ret
    exact ⟨rfl, rfl⟩
  · go_enter Tryz.func11, Tryz.ntmps11
    go_wp2_with fail
    refine (h1 _).mono ?_
    rintro e w2 ⟨rfl, hw⟩
    subst w2
    go_wp2
    go_ret
    exact ⟨rfl, rfl⟩
end Go.Proofs.YtmcjeeeeielhbaaGreat
