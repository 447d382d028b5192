/- The statement NumberSpans, walked: whatever the numbers, it answers true and writes nothing that was there. -/
import Derived.Test.YtfkjkiobpholjaaDoorLaws
namespace Go.Proofs.YtfkjkiobpholjaaDoor
open Go.RowKit
def Says3 (f x a b : Nat) (t : Bool) : Prop := ∀ W, Calls Tryd.prog f #[.float .f64 x, .float .f64 a, .float .f64 b] W fun e w' => e = .returned (.bool t) ∧ w' = W
def Says4 (a b c d : Nat) (t : Bool) : Prop := ∀ W, Calls Tryd.prog 21 #[.float .f64 a, .float .f64 b, .float .f64 c, .float .f64 d] W fun e w' => e = .returned (.bool t) ∧ w' = W
set_option maxHeartbeats 400000 in
theorem within_any (x a b : Nat) (hx : x < 18446744073709551616) (ha : a < 18446744073709551616) (hb : b < 18446744073709551616) : Says3 19 x a b (!decide (Fl.rk x < Fl.rk a) && !decide (Fl.rk b < Fl.rk x)) := by
  intro W
  have h1 : Says 10 x a (decide (Fl.rk x < Fl.rk a)) := fun W => less_any x a W hx ha
  have h2 : Says 10 b x (decide (Fl.rk b < Fl.rk x)) := fun W => less_any b x W hb hx
  generalize decide (Fl.rk x < Fl.rk a) = p at *
  generalize decide (Fl.rk b < Fl.rk x) = q at *
  cases p
  · go_enter Tryd.func19, Tryd.ntmps19
    go_wp2_with fail
    refine (h1 _).mono ?_
    rintro e w2 ⟨rfl, hw⟩
    subst w2
    go_wp2_with fail
    refine (h2 _).mono ?_
    rintro e w2 ⟨rfl, hw⟩
    subst w2
    go_wp2
    go_ret
    exact ⟨rfl, rfl⟩
  · go_enter Tryd.func19, Tryd.ntmps19
    go_wp2_with fail
    refine (h1 _).mono ?_
    rintro e w2 ⟨rfl, hw⟩
    subst w2
    go_wp2
    go_ret
    exact ⟨rfl, rfl⟩
set_option maxHeartbeats 400000 in
theorem refwithin_any (x a b : Nat) (hx : x < 18446744073709551616) (ha : a < 18446744073709551616) (hb : b < 18446744073709551616) : Says3 20 x a b (!decide (Fl.rk x < Fl.rk a) && !decide (Fl.rk b < Fl.rk x)) := by
  intro W
  have h1 : Says 11 x a (decide (Fl.rk x < Fl.rk a)) := fun W => ahead_any x a W hx ha
  have h2 : Says 11 b x (decide (Fl.rk b < Fl.rk x)) := fun W => ahead_any b x W hb hx
  generalize decide (Fl.rk x < Fl.rk a) = p at *
  generalize decide (Fl.rk b < Fl.rk x) = q at *
  cases p
  · go_enter Tryd.func20, Tryd.ntmps20
    go_wp2_with fail
    refine (h1 _).mono ?_
    rintro e w2 ⟨rfl, hw⟩
    subst w2
    go_wp2_with fail
    refine (h2 _).mono ?_
    rintro e w2 ⟨rfl, hw⟩
    subst w2
    go_wp2
    go_ret
    exact ⟨rfl, rfl⟩
  · go_enter Tryd.func20, Tryd.ntmps20
    go_wp2_with fail
    refine (h1 _).mono ?_
    rintro e w2 ⟨rfl, hw⟩
    subst w2
    go_wp2
    go_ret
    exact ⟨rfl, rfl⟩

set_option maxHeartbeats 400000 in
theorem meet_any (a b c d : Nat) (ha : a < 18446744073709551616) (hb : b < 18446744073709551616) (hc : c < 18446744073709551616) (hd : d < 18446744073709551616) : Says4 a b c d (decide (max (Fl.rk a) (Fl.rk c) ≤ min (Fl.rk b) (Fl.rk d))) := by
  intro W
  have h1 : Ranks 14 a (Fl.rk a) := fun W => rank_any a W ha
  have h2 : Ranks 14 b (Fl.rk b) := fun W => rank_any b W hb
  have h3 : Ranks 14 c (Fl.rk c) := fun W => rank_any c W hc
  have h4 : Ranks 14 d (Fl.rk d) := fun W => rank_any d W hd
  generalize Fl.rk a = p at *
  generalize Fl.rk b = q at *
  generalize Fl.rk c = r at *
  generalize Fl.rk d = s at *
  have hres : ∀ m n : Nat, m = max p r → n = min q s → decide (m ≤ n) = decide (max p r ≤ min q s) := fun m n e1 e2 => by rw [e1, e2]
  by_cases k1 : p < r <;> by_cases k2 : s < q
  · rw [← hres r s (by omega) (by omega)]
    clear hres
    go_enter Tryd.func21, Tryd.ntmps21
    go_wp2_with fail
    refine (h1 _).mono ?_
    rintro e w2 ⟨rfl, hw⟩
    subst w2
    go_wp2_with fail
    refine (h3 _).mono ?_
    rintro e w2 ⟨rfl, hw⟩
    subst w2
    go_wp2_with fail
    refine (h2 _).mono ?_
    rintro e w2 ⟨rfl, hw⟩
    subst w2
    go_wp2_with fail
    refine (h4 _).mono ?_
    rintro e w2 ⟨rfl, hw⟩
    subst w2
    go_wp2
    go_ret
    exact ⟨rfl, rfl⟩
  · rw [← hres r q (by omega) (by omega)]
    clear hres
    go_enter Tryd.func21, Tryd.ntmps21
    go_wp2_with fail
    refine (h1 _).mono ?_
    rintro e w2 ⟨rfl, hw⟩
    subst w2
    go_wp2_with fail
    refine (h3 _).mono ?_
    rintro e w2 ⟨rfl, hw⟩
    subst w2
    go_wp2_with fail
    refine (h2 _).mono ?_
    rintro e w2 ⟨rfl, hw⟩
    subst w2
    go_wp2_with fail
    refine (h4 _).mono ?_
    rintro e w2 ⟨rfl, hw⟩
    subst w2
    go_wp2
    go_ret
    exact ⟨rfl, rfl⟩
  · rw [← hres p s (by omega) (by omega)]
    clear hres
    go_enter Tryd.func21, Tryd.ntmps21
    go_wp2_with fail
    refine (h1 _).mono ?_
    rintro e w2 ⟨rfl, hw⟩
    subst w2
    go_wp2_with fail
    refine (h3 _).mono ?_
    rintro e w2 ⟨rfl, hw⟩
    subst w2
    go_wp2_with fail
    refine (h2 _).mono ?_
    rintro e w2 ⟨rfl, hw⟩
    subst w2
    go_wp2_with fail
    refine (h4 _).mono ?_
    rintro e w2 ⟨rfl, hw⟩
    subst w2
    go_wp2
    go_ret
    exact ⟨rfl, rfl⟩
  · rw [← hres p q (by omega) (by omega)]
    clear hres
    go_enter Tryd.func21, Tryd.ntmps21
    go_wp2_with fail
    refine (h1 _).mono ?_
    rintro e w2 ⟨rfl, hw⟩
    subst w2
    go_wp2_with fail
    refine (h3 _).mono ?_
    rintro e w2 ⟨rfl, hw⟩
    subst w2
    go_wp2_with fail
    refine (h2 _).mono ?_
    rintro e w2 ⟨rfl, hw⟩
    subst w2
    go_wp2_with fail
    refine (h4 _).mono ?_
    rintro e w2 ⟨rfl, hw⟩
    subst w2
    go_wp2
    go_ret
    exact ⟨rfl, rfl⟩
end Go.Proofs.YtfkjkiobpholjaaDoor
