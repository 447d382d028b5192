/- The statement NumberSpans, walked: whatever the numbers, it answers true and writes nothing that was there. -/
import Derived.Test.YtfkjkiobpholjaaDoorSpansWalk
namespace Go.Proofs.YtfkjkiobpholjaaDoor
open Go.RowKit
set_option maxRecDepth 100000 in
set_option maxHeartbeats 4000000 in
theorem spans_core (x a b c d : Nat) (t1 t2 t3 t4 t5 t6 : Bool) (w : World) (ht : Tabs w) (h1 : Says 11 a c t1) (h2 : Says 11 d b t2) (h3 : Says3 19 x a b t3) (h4 : Says3 20 x a b t3) (h5 : Says4 a b c d t4)
    (h6 : Says 11 (if t2 then d else b) (if t1 then c else a) t5) (h45 : t4 = !t5) (h7 : Says3 19 x c d t6) (h8 : t3 = true → t6 = true → t4 = true) : Calls Tryd.prog 6 #[.float .f64 x, .float .f64 a, .float .f64 b, .float .f64 c, .float .f64 d] w fun e w' => e = .returned (.bool true) ∧ Fr (fun _ => False) w w' := by
  subst h45
  cases t1 <;> cases t2 <;> simp only [Bool.false_eq_true, if_true, if_false] at h6
  all_goals
    cases t3
    · clear h8
      go_enter Tryd.func6, Tryd.ntmps6
      go_wp2_with fail
      refine (h1 _).mono ?_
      rintro e w2 ⟨rfl, hw⟩
      subst w2
      go_wp2_with fail
      refine (h2 _).mono ?_
      rintro e w2 ⟨rfl, hw⟩
      subst w2
      go_wp2_with fail
      refine (awake_any w ht).mono ?_
      rintro e w1 ⟨rfl, f1⟩
      go_wp2_with fail
      refine (h3 _).mono ?_
      rintro e w2 ⟨rfl, hw⟩
      subst w2
      go_wp2_with fail
      refine (h4 _).mono ?_
      rintro e w2 ⟨rfl, hw⟩
      subst w2
      go_wp2_with fail
      refine (h5 _).mono ?_
      rintro e w2 ⟨rfl, hw⟩
      subst w2
      go_wp2_with fail
      refine (h6 _).mono ?_
      rintro e w2 ⟨rfl, hw⟩
      subst w2
      go_wp2_with fail
      refine (h3 _).mono ?_
      rintro e w2 ⟨rfl, hw⟩
      subst w2
      go_wp2
      go_ret
      exact ⟨rfl, f1⟩
    · cases t6
      · clear h8
        go_enter Tryd.func6, Tryd.ntmps6
        go_wp2_with fail
        refine (h1 _).mono ?_
        rintro e w2 ⟨rfl, hw⟩
        subst w2
        go_wp2_with fail
        refine (h2 _).mono ?_
        rintro e w2 ⟨rfl, hw⟩
        subst w2
        go_wp2_with fail
        refine (awake_any w ht).mono ?_
        rintro e w1 ⟨rfl, f1⟩
        go_wp2_with fail
        refine (h3 _).mono ?_
        rintro e w2 ⟨rfl, hw⟩
        subst w2
        go_wp2_with fail
        refine (h4 _).mono ?_
        rintro e w2 ⟨rfl, hw⟩
        subst w2
        go_wp2_with fail
        refine (h5 _).mono ?_
        rintro e w2 ⟨rfl, hw⟩
        subst w2
        go_wp2_with fail
        refine (h6 _).mono ?_
        rintro e w2 ⟨rfl, hw⟩
        subst w2
        go_wp2_with fail
        refine (h3 _).mono ?_
        rintro e w2 ⟨rfl, hw⟩
        subst w2
        go_wp2_with fail
        refine (h7 _).mono ?_
        rintro e w2 ⟨rfl, hw⟩
        subst w2
        go_wp2
        go_ret
        exact ⟨rfl, f1⟩
      · have h9 := h8 rfl rfl
        cases t5
        · clear h8 h9
          go_enter Tryd.func6, Tryd.ntmps6
          go_wp2_with fail
          refine (h1 _).mono ?_
          rintro e w2 ⟨rfl, hw⟩
          subst w2
          go_wp2_with fail
          refine (h2 _).mono ?_
          rintro e w2 ⟨rfl, hw⟩
          subst w2
          go_wp2_with fail
          refine (awake_any w ht).mono ?_
          rintro e w1 ⟨rfl, f1⟩
          go_wp2_with fail
          refine (h3 _).mono ?_
          rintro e w2 ⟨rfl, hw⟩
          subst w2
          go_wp2_with fail
          refine (h4 _).mono ?_
          rintro e w2 ⟨rfl, hw⟩
          subst w2
          go_wp2_with fail
          refine (h5 _).mono ?_
          rintro e w2 ⟨rfl, hw⟩
          subst w2
          go_wp2_with fail
          refine (h6 _).mono ?_
          rintro e w2 ⟨rfl, hw⟩
          subst w2
          go_wp2_with fail
          refine (h3 _).mono ?_
          rintro e w2 ⟨rfl, hw⟩
          subst w2
          go_wp2_with fail
          refine (h7 _).mono ?_
          rintro e w2 ⟨rfl, hw⟩
          subst w2
          go_wp2_with fail
          refine (h5 _).mono ?_
          rintro e w2 ⟨rfl, hw⟩
          subst w2
          go_wp2
          go_ret
          exact ⟨rfl, f1⟩
        · cases h9
theorem spans_walk (x a b c d : Nat) (w : World) (ht : Tabs w) (hx : x < 18446744073709551616) (ha : a < 18446744073709551616) (hb : b < 18446744073709551616) (hc : c < 18446744073709551616) (hd : d < 18446744073709551616) : Calls Tryd.prog 6 #[.float .f64 x, .float .f64 a, .float .f64 b, .float .f64 c, .float .f64 d] w fun e w' => e = .returned (.bool true) ∧ Fr (fun _ => False) w w' := by
  have hlo : (if decide (Fl.rk a < Fl.rk c) then c else a) < 18446744073709551616 := by split <;> assumption
  have hhi : (if decide (Fl.rk d < Fl.rk b) then d else b) < 18446744073709551616 := by split <;> assumption
  have elo : Fl.rk (if decide (Fl.rk a < Fl.rk c) then c else a) = max (Fl.rk a) (Fl.rk c) := by split <;> simp_all <;> omega
  have ehi : Fl.rk (if decide (Fl.rk d < Fl.rk b) then d else b) = min (Fl.rk b) (Fl.rk d) := by split <;> simp_all <;> omega
  refine spans_core x a b c d _ _ _ _ _ _ w ht (fun W => ahead_any a c W ha hc) (fun W => ahead_any d b W hd hb) (within_any x a b hx ha hb) (refwithin_any x a b hx ha hb) (meet_any a b c d ha hb hc hd) (fun W => ahead_any _ _ W hhi hlo) ?_ (within_any x c d hx hc hd) ?_
  · rw [elo, ehi, Bool.eq_iff_iff]; simp
  · intro k1 k2
    simp at k1 k2 ⊢
    omega
end Go.Proofs.YtfkjkiobpholjaaDoor
