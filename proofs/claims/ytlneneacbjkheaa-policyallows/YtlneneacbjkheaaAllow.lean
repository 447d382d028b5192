/- Does a rule allow a release: the program's answer. -/
import Derived.Test.YtlneneacbjkheaaAwake
import Derived.Test.YtlneneacbjkheaaFrame
namespace Go.Proofs.Ytlneneacbjkheaa
open Go.RowKit
def winB (x : Rl) (q : Re) : Bool := !decide (Fl.rk q.x < Fl.rk x.lo) && !decide (Fl.rk x.hi < Fl.rk q.x)
def allowB (x : Rl) (q : Re) : Bool := decide (q.ru = x.id) && decide (q.la = x.fr) && decide (q.tt = x.tt) && decide (q.au = x.au) && winB x q
set_option maxRecDepth 100000 in
set_option maxHeartbeats 2000000 in
theorem allows_any (x : Rl) (q : Re) (hx : x.Ok) (hq : q.Ok) (w : World) : Calls Try.prog 17 #[.agg #[.int .u64 (x.id : Int), .int .i64 x.fr, .int .i64 x.tt, .float .f64 x.lo, .float .f64 x.hi, .int .u64 (x.au : Int), .int .i64 x.qu], .agg #[.int .u64 (q.se : Int), .int .u64 (q.sq : Int), .int .i64 q.la, .float .f64 q.x, .int .i64 q.tt, .int .u64 (q.ru : Int), .int .u64 (q.au : Int)]] w fun e w' => e = .returned (.bool (allowB x q)) ∧ Fr (fun _ => False) w w' := by
  have F0 : Hid (Fr (fun _ => False) w _) := ((Fr.refl (fun _ => False) w).alloc (.cells #[.int .u64 (x.id : Int), .int .i64 x.fr, .int .i64 x.tt, .float .f64 x.lo, .float .f64 x.hi, .int .u64 (x.au : Int), .int .i64 x.qu] 34)).alloc (.cells #[.int .u64 (q.se : Int), .int .u64 (q.sq : Int), .int .i64 q.la, .float .f64 q.x, .int .i64 q.tt, .int .u64 (q.ru : Int), .int .u64 (q.au : Int)] 45)
  have hw : Says3 27 q.x x.lo x.hi (winB x q) := within_any q.x x.lo x.hi hq.x hx.lo hx.hi
  have HW : Hid (∀ W, Calls _ _ _ W _) := hw
  have hr : allowB x q = (decide (q.ru = x.id) && decide (q.la = x.fr) && decide (q.tt = x.tt) && decide (q.au = x.au) && winB x q) := rfl
  rw [hr]
  generalize winB x q = wb at *
  clear hx hq hw hr
  by_cases h : q.ru = x.id
  case neg =>
    have hb : ((q.ru : Int) == (x.id : Int)) = false := by simp; omega
    rw [decide_eq_false h]
    clear h
    simp only [Bool.false_and]
    go_enter Try.func17, Try.ntmps17
    go_wp2
    go_ret
    exact ⟨rfl, F0.out⟩
  have hbru : ((q.ru : Int) == (x.id : Int)) = true := by simp [h]
  rw [decide_eq_true h]
  clear h
  by_cases h : q.la = x.fr
  case neg =>
    have hb : (q.la == x.fr) = false := by simp; omega
    rw [decide_eq_false h]
    clear h
    simp only [Bool.and_false, Bool.false_and]
    go_enter Try.func17, Try.ntmps17
    go_wp2
    go_ret
    exact ⟨rfl, F0.out⟩
  have hbla : (q.la == x.fr) = true := by simp [h]
  rw [decide_eq_true h]
  clear h
  by_cases h : q.tt = x.tt
  case neg =>
    have hb : (q.tt == x.tt) = false := by simp; omega
    rw [decide_eq_false h]
    clear h
    simp only [Bool.and_false, Bool.false_and]
    go_enter Try.func17, Try.ntmps17
    go_wp2
    go_ret
    exact ⟨rfl, F0.out⟩
  have hbtt : (q.tt == x.tt) = true := by simp [h]
  rw [decide_eq_true h]
  clear h
  by_cases h : q.au = x.au
  case neg =>
    have hb : ((q.au : Int) == (x.au : Int)) = false := by simp; omega
    rw [decide_eq_false h]
    clear h
    simp only [Bool.and_false, Bool.false_and]
    go_enter Try.func17, Try.ntmps17
    go_wp2
    go_ret
    exact ⟨rfl, F0.out⟩
  have hbau : ((q.au : Int) == (x.au : Int)) = true := by simp [h]
  rw [decide_eq_true h]
  clear h
  simp only [Bool.true_and]
  go_enter Try.func17, Try.ntmps17
  go_wp2_with fail
  refine (HW.out _).mono ?_
  rintro e w1 ⟨rfl, hw⟩
  subst w1
  go_wp2
  go_ret
  exact ⟨rfl, F0.out⟩
end Go.Proofs.Ytlneneacbjkheaa
