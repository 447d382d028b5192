/- The statements NumberBits, NumberRanks and NumberOrders, walked: whatever the numbers, they answer true and write nothing that was there. -/
import Derived.Test.YtfkjkiobpholjaaDoorNum3
namespace Go.Proofs.YtfkjkiobpholjaaDoor
open Go.RowKit

theorem bk_rk (b : Nat) (hb : b < 18446744073709551616) (hn : Fl.nanB b = false) : bk (Fl.rk b) = b := by
  have := Fl.nan_le hn
  by_cases h : 9223372036854775808 ≤ b
  · rw [Fl.rk_neg b hn h]; unfold bk; rw [if_neg (by omega)]; omega
  · rw [Fl.rk_pos b hn (by omega)]; unfold bk; rw [if_pos (by omega)]; omega
theorem nan_const : Fl.nanB 9221120237041090561 = true := by decide +kernel
theorem bk_max : Fl.nanB (bk 18446744073709551615) = true := by decide +kernel
set_option maxHeartbeats 1000000 in
theorem bits_walk (b : Nat) (w : World) (ht : Tabs w) (hb : b < 18446744073709551616) : Calls Tryd.prog 5 #[.int .u64 (b : Int)] w fun e w' => e = .returned (.bool true) ∧ Fr (fun _ => False) w w' := by
  have h17 := frombits b
  have h18 := f64bits b
  have s1 := self_ne b
  have hr := rank_any b w hb
  have hk := back_any (Fl.rk b) w (by have := rk_le b hb; omega)
  cases hn : Fl.nanB b
  · rw [hn] at s1
    rw [bk_rk b hb hn, hn] at hk
    generalize Fl.rk b = r at hr hk
    have hk' : Calls Tryd.prog 15 #[.int .u64 (r : Int)] w fun e w' => e = .returned (.float .f64 b) ∧ w' = w := hk
    clear hk hn
    go_enter Tryd.func5, Tryd.ntmps5
    go_wp2_with fail
    refine hr.mono ?_
    rintro e w1 ⟨rfl, hw⟩
    subst w1
    go_wp2_with fail
    refine hk'.mono ?_
    rintro e w1 ⟨rfl, hw⟩
    subst w1
    go_wp2_with fail
    refine (awake_any w ht).mono ?_
    rintro e w1 ⟨rfl, f1⟩
    go_wp2
    go_ret
    exact ⟨rfl, f1⟩
  · rw [hn] at s1
    rw [Fl.rk_nan b hn] at hr hk
    rw [bk_max] at hk
    have hk' : Calls Tryd.prog 15 #[.int .u64 18446744073709551615] w fun e w' => e = .returned (.float .f64 9221120237041090561) ∧ w' = w := hk
    have hr' : Calls Tryd.prog 14 #[.float .f64 b] w fun e w' => e = .returned (.int .u64 18446744073709551615) ∧ w' = w := hr
    have s2 := self_ne 9221120237041090561
    rw [nan_const] at s2
    clear hk hn hr
    go_enter Tryd.func5, Tryd.ntmps5
    go_wp2_with fail
    refine hr'.mono ?_
    rintro e w1 ⟨rfl, hw⟩
    subst w1
    go_wp2_with fail
    refine hk'.mono ?_
    rintro e w1 ⟨rfl, hw⟩
    subst w1
    go_wp2_with fail
    refine (awake_any w ht).mono ?_
    rintro e w1 ⟨rfl, f1⟩
    go_wp2
    go_ret
    exact ⟨rfl, f1⟩
/-- a call that answers a truth and changes nothing. -/
def Says (f a b : Nat) (t : Bool) : Prop := ∀ W, Calls Tryd.prog f #[.float .f64 a, .float .f64 b] W fun e w' => e = .returned (.bool t) ∧ w' = W
def Ranks (f a p : Nat) : Prop := ∀ W, Calls Tryd.prog f #[.float .f64 a] W fun e w' => e = .returned (.int .u64 (p : Int)) ∧ w' = W
set_option maxHeartbeats 1000000 in
theorem orders_core (a b p q : Nat) (t1 t2 t3 : Bool) (w : World) (ht : Tabs w) (h1 : Says 10 a b t1) (h2 : Says 11 a b t1) (h3 : Says 10 b a t2) (h4 : Says 11 b a t2) (h5 : Says 12 a b t3) (h6 : Says 13 a b t3) (h7 : Says 12 a a true) (h8 : Says 10 a a false)
    (h9 : Ranks 14 a p) (h10 : Ranks 14 b q) (hpq : decide (p < q) = t1) : Calls Tryd.prog 3 #[.float .f64 a, .float .f64 b] w fun e w' => e = .returned (.bool true) ∧ Fr (fun _ => False) w w' := by
  go_enter Tryd.func3, Tryd.ntmps3
  go_wp2_with fail
  refine (awake_any w ht).mono ?_
  rintro e w1 ⟨rfl, f1⟩
  go_wp2_with fail
  refine (h1 _).mono ?_
  rintro e w2 ⟨rfl, hw⟩
  subst w2
  go_wp2_with fail
  refine (h2 _).mono ?_
  rintro e w2 ⟨rfl, hw⟩
  subst w2
  go_wp2_with fail
  refine (h3 _).mono ?_
  rintro e w2 ⟨rfl, hw⟩
  subst w2
  go_wp2_with fail
  refine (h4 _).mono ?_
  rintro e w2 ⟨rfl, hw⟩
  subst w2
  go_wp2_with fail
  refine (h5 _).mono ?_
  rintro e w2 ⟨rfl, hw⟩
  subst w2
  go_wp2_with fail
  refine (h6 _).mono ?_
  rintro e w2 ⟨rfl, hw⟩
  subst w2
  go_wp2_with fail
  refine (h7 _).mono ?_
  rintro e w2 ⟨rfl, hw⟩
  subst w2
  go_wp2_with fail
  refine (h8 _).mono ?_
  rintro e w2 ⟨rfl, hw⟩
  subst w2
  go_wp2_with fail
  refine (h9 _).mono ?_
  rintro e w2 ⟨rfl, hw⟩
  subst w2
  go_wp2_with fail
  refine (h10 _).mono ?_
  rintro e w2 ⟨rfl, hw⟩
  subst w2
  go_wp2_with fail
  refine (h2 _).mono ?_
  rintro e w2 ⟨rfl, hw⟩
  subst w2
  go_wp2
  go_ret
  exact ⟨rfl, f1⟩
theorem orders_walk (a b : Nat) (w : World) (ht : Tabs w) (ha : a < 18446744073709551616) (hb : b < 18446744073709551616) : Calls Tryd.prog 3 #[.float .f64 a, .float .f64 b] w fun e w' => e = .returned (.bool true) ∧ Fr (fun _ => False) w w' :=
  orders_core a b (Fl.rk a) (Fl.rk b) (decide (Fl.rk a < Fl.rk b)) (decide (Fl.rk b < Fl.rk a)) (decide (Fl.rk a = Fl.rk b)) w ht (fun W => less_any a b W ha hb) (fun W => ahead_any a b W ha hb) (fun W => less_any b a W hb ha) (fun W => ahead_any b a W hb ha)
    (fun W => same_any a b W ha hb) (fun W => refsame_any a b W ha hb) (fun W => by have := same_any a a W ha ha; rwa [decide_eq_true rfl] at this) (fun W => by have := less_any a a W ha ha; rwa [decide_eq_false (Nat.lt_irrefl _)] at this) (fun W => rank_any a W ha) (fun W => rank_any b W hb)
    rfl
/-- a call that answers a number of a rank. -/
def Backs (n c : Nat) : Prop := ∀ W, Calls Tryd.prog 15 #[.int .u64 (n : Int)] W fun e w' => e = .returned (.float .f64 c) ∧ w' = W
set_option maxHeartbeats 1000000 in
theorem ranks_core (a n p y z r : Nat) (t u : Bool) (w : World) (ht : Tabs w) (h1 : Ranks 14 a p) (h2 : Ranks 16 a p) (h3 : Backs p y) (h4 : Backs n z) (h5 : Says 13 a y true) (h6 : Ranks 14 z r) (h7 : ((r : Int) == (n : Int)) = t) (h8 : (FloatKind.f64.format.order z z != some Ordering.eq) = u) (h9 : (t || u) = true) :
    Calls Tryd.prog 4 #[.float .f64 a, .int .u64 (n : Int)] w fun e w' => e = .returned (.bool true) ∧ Fr (fun _ => False) w w' := by
  have hc : t = true ∨ (t = false ∧ u = true) := by cases t <;> cases u <;> simp_all
  rcases hc with rfl | ⟨rfl, rfl⟩
  all_goals
    go_enter Tryd.func4, Tryd.ntmps4
    go_wp2_with fail
    refine (h1 _).mono ?_
    rintro e w2 ⟨rfl, hw⟩
    subst w2
    go_wp2_with fail
    refine (h3 _).mono ?_
    rintro e w2 ⟨rfl, hw⟩
    subst w2
    go_wp2_with fail
    refine (h4 _).mono ?_
    rintro e w2 ⟨rfl, hw⟩
    subst w2
    go_wp2_with fail
    refine (awake_any w ht).mono ?_
    rintro e w1 ⟨rfl, f1⟩
    go_wp2_with fail
    refine (h1 _).mono ?_
    rintro e w2 ⟨rfl, hw⟩
    subst w2
    go_wp2_with fail
    refine (h2 _).mono ?_
    rintro e w2 ⟨rfl, hw⟩
    subst w2
    go_wp2_with fail
    refine (h5 _).mono ?_
    rintro e w2 ⟨rfl, hw⟩
    subst w2
    go_wp2_with fail
    refine (h6 _).mono ?_
    rintro e w2 ⟨rfl, hw⟩
    subst w2
    go_wp2
    go_ret
    exact ⟨rfl, f1⟩
theorem rk_bk (n : Nat) (hn : n < 18446744073709551616) (h : Fl.nanB (bk n) = false) : Fl.rk (bk n) = n := by
  by_cases hp : 9223372036854775808 ≤ n
  · have e : bk n = n - 9223372036854775808 := by unfold bk; rw [if_pos hp]
    rw [Fl.rk_pos _ h (by omega), e]; omega
  · have e : bk n = 18446744073709551615 - n := by unfold bk; rw [if_neg hp]
    rw [Fl.rk_neg _ h (by omega), e]; omega
theorem bk_lt (n : Nat) (hn : n < 18446744073709551616) : bk n < 18446744073709551616 := by unfold bk; split <;> omega
theorem ranks_walk (a n : Nat) (w : World) (ht : Tabs w) (ha : a < 18446744073709551616) (hn : n < 18446744073709551616) : Calls Tryd.prog 4 #[.float .f64 a, .int .u64 (n : Int)] w fun e w' => e = .returned (.bool true) ∧ Fr (fun _ => False) w w' := by
  have hra := rk_le a ha
  have hy : ∃ y, y < 18446744073709551616 ∧ Backs (Fl.rk a) y ∧ Fl.rk a = Fl.rk y := by
    cases na : Fl.nanB a
    · refine ⟨a, ha, fun W => ?_, rfl⟩
      have := back_any (Fl.rk a) W (by omega)
      rw [bk_rk a ha na, na] at this
      exact this
    · refine ⟨9221120237041090561, by omega, fun W => ?_, ?_⟩
      · have := back_any (Fl.rk a) W (by omega)
        rw [Fl.rk_nan a na, bk_max] at this
        rw [Fl.rk_nan a na]
        exact this
      · rw [Fl.rk_nan a na, Fl.rk_nan _ nan_const]
  obtain ⟨y, hyl, hyb, hyr⟩ := hy
  have hz : ∃ z, z < 18446744073709551616 ∧ Backs n z ∧ (Fl.rk z = n ∨ Fl.nanB z = true) := by
    cases nz : Fl.nanB (bk n)
    · refine ⟨bk n, bk_lt n hn, fun W => ?_, .inl (rk_bk n hn nz)⟩
      have := back_any n W hn
      rw [nz] at this
      exact this
    · refine ⟨9221120237041090561, by omega, fun W => ?_, .inr nan_const⟩
      have := back_any n W hn
      rw [nz] at this
      exact this
  obtain ⟨z, hzl, hzb, hzr⟩ := hz
  refine ranks_core a n (Fl.rk a) y z (Fl.rk z) _ _ w ht (fun W => rank_any a W ha) (fun W => refrank_any a W ha) hyb hzb (fun W => ?_) (fun W => rank_any z W hzl) rfl rfl ?_
  · have := refsame_any a y W ha hyl
    rwa [decide_eq_true hyr] at this
  · rw [self_ne z]
    rcases hzr with h | h
    · rw [h]; simp
    · rw [h]; simp
end Go.Proofs.YtfkjkiobpholjaaDoor
