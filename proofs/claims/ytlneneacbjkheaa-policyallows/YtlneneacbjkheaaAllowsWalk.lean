/- The statement PolicyAllows, walked. -/
import Derived.Test.YtlneneacbjkheaaAllow
namespace Go.Proofs.Ytlneneacbjkheaa
open Go.RowKit
attribute [local go_sem] run_store_float
set_option maxRecDepth 100000 in
set_option maxHeartbeats 4000000 in
theorem allows_11 (x : Rl) (q : Re) (n : Nat) (hx : x.Ok) (hq : q.Ok) (hn : n < 256) (h2 : ((n : Int) % 2 == 0) = true) (h3 : ((n : Int) % 3 == 0) = true) (w : World) : Calls Try.prog 4 #[.agg #[.int .u64 (x.id : Int), .int .i64 x.fr, .int .i64 x.tt, .float .f64 x.lo, .float .f64 x.hi, .int .u64 (x.au : Int), .int .i64 x.qu], .agg #[.int .u64 (q.se : Int), .int .u64 (q.sq : Int), .int .i64 q.la, .float .f64 q.x, .int .i64 q.tt, .int .u64 (q.ru : Int), .int .u64 (q.au : Int)], .int .u8 (n : Int)] w fun e w' => e = .returned (.bool true) ∧ Fr (fun _ => False) w w' := by
  have _ := hq.x
  have F0 : Hid (Fr (fun _ => False) w ((w.alloc (.cells #[.int .u64 (x.id : Int), .int .i64 x.fr, .int .i64 x.tt, .float .f64 x.lo, .float .f64 x.hi, .int .u64 (x.au : Int), .int .i64 x.qu] 34)).alloc (.cells #[.int .u64 (q.se : Int), .int .u64 (q.sq : Int), .int .i64 x.fr, .float .f64 x.lo, .int .i64 x.tt, .int .u64 (x.id : Int), .int .u64 (x.au : Int)] 45))) := ((Fr.refl (fun _ => False) w).alloc _).alloc _
  have HWR : Hid (∀ W, Calls Try.prog 16 #[.float .f64 x.lo, .float .f64 x.lo, .float .f64 x.hi] W fun e w' => e = .returned (.bool (winB x ⟨q.se, q.sq, x.fr, x.lo, x.tt, x.id, x.au⟩)) ∧ w' = W) := refwithin_any x.lo x.lo x.hi hx.lo hx.lo hx.hi
  have HAL : Hid (∀ W, Calls Try.prog 17 #[.agg #[.int .u64 (x.id : Int), .int .i64 x.fr, .int .i64 x.tt, .float .f64 x.lo, .float .f64 x.hi, .int .u64 (x.au : Int), .int .i64 x.qu], .agg #[.int .u64 (q.se : Int), .int .u64 (q.sq : Int), .int .i64 x.fr, .float .f64 x.lo, .int .i64 x.tt, .int .u64 (x.id : Int), .int .u64 (x.au : Int)]] W fun e w' => e = .returned (.bool (allowB x ⟨q.se, q.sq, x.fr, x.lo, x.tt, x.id, x.au⟩)) ∧ Fr (fun _ => False) W w') := allows_any x ⟨q.se, q.sq, x.fr, x.lo, x.tt, x.id, x.au⟩ hx ⟨hx.lo⟩
  have HB : Hid (((w.alloc (.cells #[.int .u64 (x.id : Int), .int .i64 x.fr, .int .i64 x.tt, .float .f64 x.lo, .float .f64 x.hi, .int .u64 (x.au : Int), .int .i64 x.qu] 34)).alloc (.cells #[.int .u64 (q.se : Int), .int .u64 (q.sq : Int), .int .i64 x.fr, .float .f64 x.lo, .int .i64 x.tt, .int .u64 (x.id : Int), .int .u64 (x.au : Int)] 45)).cell? ⟨w.heap.size, 0, none⟩ = some (.int .u64 (x.id : Int)) ∧ ((w.alloc (.cells #[.int .u64 (x.id : Int), .int .i64 x.fr, .int .i64 x.tt, .float .f64 x.lo, .float .f64 x.hi, .int .u64 (x.au : Int), .int .i64 x.qu] 34)).alloc (.cells #[.int .u64 (q.se : Int), .int .u64 (q.sq : Int), .int .i64 x.fr, .float .f64 x.lo, .int .i64 x.tt, .int .u64 (x.id : Int), .int .u64 (x.au : Int)] 45)).cell? ⟨w.heap.size, 1, none⟩ = some (.int .i64 x.fr) ∧ ((w.alloc (.cells #[.int .u64 (x.id : Int), .int .i64 x.fr, .int .i64 x.tt, .float .f64 x.lo, .float .f64 x.hi, .int .u64 (x.au : Int), .int .i64 x.qu] 34)).alloc (.cells #[.int .u64 (q.se : Int), .int .u64 (q.sq : Int), .int .i64 x.fr, .float .f64 x.lo, .int .i64 x.tt, .int .u64 (x.id : Int), .int .u64 (x.au : Int)] 45)).cell? ⟨w.heap.size, 2, none⟩ = some (.int .i64 x.tt) ∧ ((w.alloc (.cells #[.int .u64 (x.id : Int), .int .i64 x.fr, .int .i64 x.tt, .float .f64 x.lo, .float .f64 x.hi, .int .u64 (x.au : Int), .int .i64 x.qu] 34)).alloc (.cells #[.int .u64 (q.se : Int), .int .u64 (q.sq : Int), .int .i64 x.fr, .float .f64 x.lo, .int .i64 x.tt, .int .u64 (x.id : Int), .int .u64 (x.au : Int)] 45)).cell? ⟨w.heap.size, 3, none⟩ = some (.float .f64 x.lo) ∧ ((w.alloc (.cells #[.int .u64 (x.id : Int), .int .i64 x.fr, .int .i64 x.tt, .float .f64 x.lo, .float .f64 x.hi, .int .u64 (x.au : Int), .int .i64 x.qu] 34)).alloc (.cells #[.int .u64 (q.se : Int), .int .u64 (q.sq : Int), .int .i64 x.fr, .float .f64 x.lo, .int .i64 x.tt, .int .u64 (x.id : Int), .int .u64 (x.au : Int)] 45)).cell? ⟨w.heap.size, 4, none⟩ = some (.float .f64 x.hi) ∧ ((w.alloc (.cells #[.int .u64 (x.id : Int), .int .i64 x.fr, .int .i64 x.tt, .float .f64 x.lo, .float .f64 x.hi, .int .u64 (x.au : Int), .int .i64 x.qu] 34)).alloc (.cells #[.int .u64 (q.se : Int), .int .u64 (q.sq : Int), .int .i64 x.fr, .float .f64 x.lo, .int .i64 x.tt, .int .u64 (x.id : Int), .int .u64 (x.au : Int)] 45)).cell? ⟨w.heap.size, 5, none⟩ = some (.int .u64 (x.au : Int)) ∧ ((w.alloc (.cells #[.int .u64 (x.id : Int), .int .i64 x.fr, .int .i64 x.tt, .float .f64 x.lo, .float .f64 x.hi, .int .u64 (x.au : Int), .int .i64 x.qu] 34)).alloc (.cells #[.int .u64 (q.se : Int), .int .u64 (q.sq : Int), .int .i64 x.fr, .float .f64 x.lo, .int .i64 x.tt, .int .u64 (x.id : Int), .int .u64 (x.au : Int)] 45)).cell? ⟨w.heap.size, 6, none⟩ = some (.int .i64 x.qu) ∧ ((w.alloc (.cells #[.int .u64 (x.id : Int), .int .i64 x.fr, .int .i64 x.tt, .float .f64 x.lo, .float .f64 x.hi, .int .u64 (x.au : Int), .int .i64 x.qu] 34)).alloc (.cells #[.int .u64 (q.se : Int), .int .u64 (q.sq : Int), .int .i64 x.fr, .float .f64 x.lo, .int .i64 x.tt, .int .u64 (x.id : Int), .int .u64 (x.au : Int)] 45)).cell? ⟨w.heap.size + 1, 0, none⟩ = some (.int .u64 (q.se : Int)) ∧ ((w.alloc (.cells #[.int .u64 (x.id : Int), .int .i64 x.fr, .int .i64 x.tt, .float .f64 x.lo, .float .f64 x.hi, .int .u64 (x.au : Int), .int .i64 x.qu] 34)).alloc (.cells #[.int .u64 (q.se : Int), .int .u64 (q.sq : Int), .int .i64 x.fr, .float .f64 x.lo, .int .i64 x.tt, .int .u64 (x.id : Int), .int .u64 (x.au : Int)] 45)).cell? ⟨w.heap.size + 1, 1, none⟩ = some (.int .u64 (q.sq : Int)) ∧ ((w.alloc (.cells #[.int .u64 (x.id : Int), .int .i64 x.fr, .int .i64 x.tt, .float .f64 x.lo, .float .f64 x.hi, .int .u64 (x.au : Int), .int .i64 x.qu] 34)).alloc (.cells #[.int .u64 (q.se : Int), .int .u64 (q.sq : Int), .int .i64 x.fr, .float .f64 x.lo, .int .i64 x.tt, .int .u64 (x.id : Int), .int .u64 (x.au : Int)] 45)).cell? ⟨w.heap.size + 1, 2, none⟩ = some (.int .i64 x.fr) ∧ ((w.alloc (.cells #[.int .u64 (x.id : Int), .int .i64 x.fr, .int .i64 x.tt, .float .f64 x.lo, .float .f64 x.hi, .int .u64 (x.au : Int), .int .i64 x.qu] 34)).alloc (.cells #[.int .u64 (q.se : Int), .int .u64 (q.sq : Int), .int .i64 x.fr, .float .f64 x.lo, .int .i64 x.tt, .int .u64 (x.id : Int), .int .u64 (x.au : Int)] 45)).cell? ⟨w.heap.size + 1, 3, none⟩ = some (.float .f64 x.lo) ∧ ((w.alloc (.cells #[.int .u64 (x.id : Int), .int .i64 x.fr, .int .i64 x.tt, .float .f64 x.lo, .float .f64 x.hi, .int .u64 (x.au : Int), .int .i64 x.qu] 34)).alloc (.cells #[.int .u64 (q.se : Int), .int .u64 (q.sq : Int), .int .i64 x.fr, .float .f64 x.lo, .int .i64 x.tt, .int .u64 (x.id : Int), .int .u64 (x.au : Int)] 45)).cell? ⟨w.heap.size + 1, 4, none⟩ = some (.int .i64 x.tt) ∧ ((w.alloc (.cells #[.int .u64 (x.id : Int), .int .i64 x.fr, .int .i64 x.tt, .float .f64 x.lo, .float .f64 x.hi, .int .u64 (x.au : Int), .int .i64 x.qu] 34)).alloc (.cells #[.int .u64 (q.se : Int), .int .u64 (q.sq : Int), .int .i64 x.fr, .float .f64 x.lo, .int .i64 x.tt, .int .u64 (x.id : Int), .int .u64 (x.au : Int)] 45)).cell? ⟨w.heap.size + 1, 5, none⟩ = some (.int .u64 (x.id : Int)) ∧ ((w.alloc (.cells #[.int .u64 (x.id : Int), .int .i64 x.fr, .int .i64 x.tt, .float .f64 x.lo, .float .f64 x.hi, .int .u64 (x.au : Int), .int .i64 x.qu] 34)).alloc (.cells #[.int .u64 (q.se : Int), .int .u64 (q.sq : Int), .int .i64 x.fr, .float .f64 x.lo, .int .i64 x.tt, .int .u64 (x.id : Int), .int .u64 (x.au : Int)] 45)).cell? ⟨w.heap.size + 1, 6, none⟩ = some (.int .u64 (x.au : Int))) := by
    refine ⟨?_, ?_, ?_, ?_, ?_, ?_, ?_, ?_, ?_, ?_, ?_, ?_, ?_, ?_⟩ <;> simp
  have hal : allowB x ⟨q.se, q.sq, x.fr, x.lo, x.tt, x.id, x.au⟩ = winB x ⟨q.se, q.sq, x.fr, x.lo, x.tt, x.id, x.au⟩ := by simp [allowB]
  rw [hal] at HAL
  generalize winB x ⟨q.se, q.sq, x.fr, x.lo, x.tt, x.id, x.au⟩ = wb at *
  clear hx hq hal 
  go_enter Try.func4, Try.ntmps4
  go_wp2_with fail
  refine (HWR.out _).mono ?_
  rintro e w1 ⟨rfl, hw⟩
  subst w1
  go_wp2_with fail
  refine (awake_any _).mono ?_
  rintro e w2 ⟨rfl, f2⟩
  obtain ⟨a0, a1, a2, a3, a4, a5, a6, a7, a8, a9, a10, a11, a12, a13⟩ := HB.out
  replace a0 := f2.cell a0 (by simp)
  replace a1 := f2.cell a1 (by simp)
  replace a2 := f2.cell a2 (by simp)
  replace a3 := f2.cell a3 (by simp)
  replace a4 := f2.cell a4 (by simp)
  replace a5 := f2.cell a5 (by simp)
  replace a6 := f2.cell a6 (by simp)
  replace a7 := f2.cell a7 (by simp)
  replace a8 := f2.cell a8 (by simp)
  replace a9 := f2.cell a9 (by simp)
  replace a10 := f2.cell a10 (by simp)
  replace a11 := f2.cell a11 (by simp)
  replace a12 := f2.cell a12 (by simp)
  replace a13 := f2.cell a13 (by simp)
  have F2 : Hid (Fr (fun _ => False) w w2) := F0.out.trans f2
  clear f2
  go_wp2_with fail
  refine (HAL.out _).mono ?_
  rintro e w3 ⟨rfl, f3⟩
  go_wp2
  go_ret
  exact ⟨by simp, F2.out.trans f3⟩
set_option maxRecDepth 100000 in
set_option maxHeartbeats 4000000 in
theorem allows_10 (x : Rl) (q : Re) (n : Nat) (hx : x.Ok) (hq : q.Ok) (hn : n < 256) (h2 : ((n : Int) % 2 == 0) = true) (h3 : ((n : Int) % 3 == 0) = false) (w : World) : Calls Try.prog 4 #[.agg #[.int .u64 (x.id : Int), .int .i64 x.fr, .int .i64 x.tt, .float .f64 x.lo, .float .f64 x.hi, .int .u64 (x.au : Int), .int .i64 x.qu], .agg #[.int .u64 (q.se : Int), .int .u64 (q.sq : Int), .int .i64 q.la, .float .f64 q.x, .int .i64 q.tt, .int .u64 (q.ru : Int), .int .u64 (q.au : Int)], .int .u8 (n : Int)] w fun e w' => e = .returned (.bool true) ∧ Fr (fun _ => False) w w' := by
  have F0 : Hid (Fr (fun _ => False) w ((w.alloc (.cells #[.int .u64 (x.id : Int), .int .i64 x.fr, .int .i64 x.tt, .float .f64 x.lo, .float .f64 x.hi, .int .u64 (x.au : Int), .int .i64 x.qu] 34)).alloc (.cells #[.int .u64 (q.se : Int), .int .u64 (q.sq : Int), .int .i64 x.fr, .float .f64 q.x, .int .i64 x.tt, .int .u64 (x.id : Int), .int .u64 (x.au : Int)] 45))) := ((Fr.refl (fun _ => False) w).alloc _).alloc _
  have HWR : Hid (∀ W, Calls Try.prog 16 #[.float .f64 q.x, .float .f64 x.lo, .float .f64 x.hi] W fun e w' => e = .returned (.bool (winB x ⟨q.se, q.sq, x.fr, q.x, x.tt, x.id, x.au⟩)) ∧ w' = W) := refwithin_any q.x x.lo x.hi hq.x hx.lo hx.hi
  have HAL : Hid (∀ W, Calls Try.prog 17 #[.agg #[.int .u64 (x.id : Int), .int .i64 x.fr, .int .i64 x.tt, .float .f64 x.lo, .float .f64 x.hi, .int .u64 (x.au : Int), .int .i64 x.qu], .agg #[.int .u64 (q.se : Int), .int .u64 (q.sq : Int), .int .i64 x.fr, .float .f64 q.x, .int .i64 x.tt, .int .u64 (x.id : Int), .int .u64 (x.au : Int)]] W fun e w' => e = .returned (.bool (allowB x ⟨q.se, q.sq, x.fr, q.x, x.tt, x.id, x.au⟩)) ∧ Fr (fun _ => False) W w') := allows_any x ⟨q.se, q.sq, x.fr, q.x, x.tt, x.id, x.au⟩ hx ⟨hq.x⟩
  have HB : Hid (((w.alloc (.cells #[.int .u64 (x.id : Int), .int .i64 x.fr, .int .i64 x.tt, .float .f64 x.lo, .float .f64 x.hi, .int .u64 (x.au : Int), .int .i64 x.qu] 34)).alloc (.cells #[.int .u64 (q.se : Int), .int .u64 (q.sq : Int), .int .i64 x.fr, .float .f64 q.x, .int .i64 x.tt, .int .u64 (x.id : Int), .int .u64 (x.au : Int)] 45)).cell? ⟨w.heap.size, 0, none⟩ = some (.int .u64 (x.id : Int)) ∧ ((w.alloc (.cells #[.int .u64 (x.id : Int), .int .i64 x.fr, .int .i64 x.tt, .float .f64 x.lo, .float .f64 x.hi, .int .u64 (x.au : Int), .int .i64 x.qu] 34)).alloc (.cells #[.int .u64 (q.se : Int), .int .u64 (q.sq : Int), .int .i64 x.fr, .float .f64 q.x, .int .i64 x.tt, .int .u64 (x.id : Int), .int .u64 (x.au : Int)] 45)).cell? ⟨w.heap.size, 1, none⟩ = some (.int .i64 x.fr) ∧ ((w.alloc (.cells #[.int .u64 (x.id : Int), .int .i64 x.fr, .int .i64 x.tt, .float .f64 x.lo, .float .f64 x.hi, .int .u64 (x.au : Int), .int .i64 x.qu] 34)).alloc (.cells #[.int .u64 (q.se : Int), .int .u64 (q.sq : Int), .int .i64 x.fr, .float .f64 q.x, .int .i64 x.tt, .int .u64 (x.id : Int), .int .u64 (x.au : Int)] 45)).cell? ⟨w.heap.size, 2, none⟩ = some (.int .i64 x.tt) ∧ ((w.alloc (.cells #[.int .u64 (x.id : Int), .int .i64 x.fr, .int .i64 x.tt, .float .f64 x.lo, .float .f64 x.hi, .int .u64 (x.au : Int), .int .i64 x.qu] 34)).alloc (.cells #[.int .u64 (q.se : Int), .int .u64 (q.sq : Int), .int .i64 x.fr, .float .f64 q.x, .int .i64 x.tt, .int .u64 (x.id : Int), .int .u64 (x.au : Int)] 45)).cell? ⟨w.heap.size, 3, none⟩ = some (.float .f64 x.lo) ∧ ((w.alloc (.cells #[.int .u64 (x.id : Int), .int .i64 x.fr, .int .i64 x.tt, .float .f64 x.lo, .float .f64 x.hi, .int .u64 (x.au : Int), .int .i64 x.qu] 34)).alloc (.cells #[.int .u64 (q.se : Int), .int .u64 (q.sq : Int), .int .i64 x.fr, .float .f64 q.x, .int .i64 x.tt, .int .u64 (x.id : Int), .int .u64 (x.au : Int)] 45)).cell? ⟨w.heap.size, 4, none⟩ = some (.float .f64 x.hi) ∧ ((w.alloc (.cells #[.int .u64 (x.id : Int), .int .i64 x.fr, .int .i64 x.tt, .float .f64 x.lo, .float .f64 x.hi, .int .u64 (x.au : Int), .int .i64 x.qu] 34)).alloc (.cells #[.int .u64 (q.se : Int), .int .u64 (q.sq : Int), .int .i64 x.fr, .float .f64 q.x, .int .i64 x.tt, .int .u64 (x.id : Int), .int .u64 (x.au : Int)] 45)).cell? ⟨w.heap.size, 5, none⟩ = some (.int .u64 (x.au : Int)) ∧ ((w.alloc (.cells #[.int .u64 (x.id : Int), .int .i64 x.fr, .int .i64 x.tt, .float .f64 x.lo, .float .f64 x.hi, .int .u64 (x.au : Int), .int .i64 x.qu] 34)).alloc (.cells #[.int .u64 (q.se : Int), .int .u64 (q.sq : Int), .int .i64 x.fr, .float .f64 q.x, .int .i64 x.tt, .int .u64 (x.id : Int), .int .u64 (x.au : Int)] 45)).cell? ⟨w.heap.size, 6, none⟩ = some (.int .i64 x.qu) ∧ ((w.alloc (.cells #[.int .u64 (x.id : Int), .int .i64 x.fr, .int .i64 x.tt, .float .f64 x.lo, .float .f64 x.hi, .int .u64 (x.au : Int), .int .i64 x.qu] 34)).alloc (.cells #[.int .u64 (q.se : Int), .int .u64 (q.sq : Int), .int .i64 x.fr, .float .f64 q.x, .int .i64 x.tt, .int .u64 (x.id : Int), .int .u64 (x.au : Int)] 45)).cell? ⟨w.heap.size + 1, 0, none⟩ = some (.int .u64 (q.se : Int)) ∧ ((w.alloc (.cells #[.int .u64 (x.id : Int), .int .i64 x.fr, .int .i64 x.tt, .float .f64 x.lo, .float .f64 x.hi, .int .u64 (x.au : Int), .int .i64 x.qu] 34)).alloc (.cells #[.int .u64 (q.se : Int), .int .u64 (q.sq : Int), .int .i64 x.fr, .float .f64 q.x, .int .i64 x.tt, .int .u64 (x.id : Int), .int .u64 (x.au : Int)] 45)).cell? ⟨w.heap.size + 1, 1, none⟩ = some (.int .u64 (q.sq : Int)) ∧ ((w.alloc (.cells #[.int .u64 (x.id : Int), .int .i64 x.fr, .int .i64 x.tt, .float .f64 x.lo, .float .f64 x.hi, .int .u64 (x.au : Int), .int .i64 x.qu] 34)).alloc (.cells #[.int .u64 (q.se : Int), .int .u64 (q.sq : Int), .int .i64 x.fr, .float .f64 q.x, .int .i64 x.tt, .int .u64 (x.id : Int), .int .u64 (x.au : Int)] 45)).cell? ⟨w.heap.size + 1, 2, none⟩ = some (.int .i64 x.fr) ∧ ((w.alloc (.cells #[.int .u64 (x.id : Int), .int .i64 x.fr, .int .i64 x.tt, .float .f64 x.lo, .float .f64 x.hi, .int .u64 (x.au : Int), .int .i64 x.qu] 34)).alloc (.cells #[.int .u64 (q.se : Int), .int .u64 (q.sq : Int), .int .i64 x.fr, .float .f64 q.x, .int .i64 x.tt, .int .u64 (x.id : Int), .int .u64 (x.au : Int)] 45)).cell? ⟨w.heap.size + 1, 3, none⟩ = some (.float .f64 q.x) ∧ ((w.alloc (.cells #[.int .u64 (x.id : Int), .int .i64 x.fr, .int .i64 x.tt, .float .f64 x.lo, .float .f64 x.hi, .int .u64 (x.au : Int), .int .i64 x.qu] 34)).alloc (.cells #[.int .u64 (q.se : Int), .int .u64 (q.sq : Int), .int .i64 x.fr, .float .f64 q.x, .int .i64 x.tt, .int .u64 (x.id : Int), .int .u64 (x.au : Int)] 45)).cell? ⟨w.heap.size + 1, 4, none⟩ = some (.int .i64 x.tt) ∧ ((w.alloc (.cells #[.int .u64 (x.id : Int), .int .i64 x.fr, .int .i64 x.tt, .float .f64 x.lo, .float .f64 x.hi, .int .u64 (x.au : Int), .int .i64 x.qu] 34)).alloc (.cells #[.int .u64 (q.se : Int), .int .u64 (q.sq : Int), .int .i64 x.fr, .float .f64 q.x, .int .i64 x.tt, .int .u64 (x.id : Int), .int .u64 (x.au : Int)] 45)).cell? ⟨w.heap.size + 1, 5, none⟩ = some (.int .u64 (x.id : Int)) ∧ ((w.alloc (.cells #[.int .u64 (x.id : Int), .int .i64 x.fr, .int .i64 x.tt, .float .f64 x.lo, .float .f64 x.hi, .int .u64 (x.au : Int), .int .i64 x.qu] 34)).alloc (.cells #[.int .u64 (q.se : Int), .int .u64 (q.sq : Int), .int .i64 x.fr, .float .f64 q.x, .int .i64 x.tt, .int .u64 (x.id : Int), .int .u64 (x.au : Int)] 45)).cell? ⟨w.heap.size + 1, 6, none⟩ = some (.int .u64 (x.au : Int))) := by
    refine ⟨?_, ?_, ?_, ?_, ?_, ?_, ?_, ?_, ?_, ?_, ?_, ?_, ?_, ?_⟩ <;> simp
  have hal : allowB x ⟨q.se, q.sq, x.fr, q.x, x.tt, x.id, x.au⟩ = winB x ⟨q.se, q.sq, x.fr, q.x, x.tt, x.id, x.au⟩ := by simp [allowB]
  rw [hal] at HAL
  generalize winB x ⟨q.se, q.sq, x.fr, q.x, x.tt, x.id, x.au⟩ = wb at *
  clear hx hq hal 
  go_enter Try.func4, Try.ntmps4
  go_wp2_with fail
  refine (HWR.out _).mono ?_
  rintro e w1 ⟨rfl, hw⟩
  subst w1
  go_wp2_with fail
  refine (awake_any _).mono ?_
  rintro e w2 ⟨rfl, f2⟩
  obtain ⟨a0, a1, a2, a3, a4, a5, a6, a7, a8, a9, a10, a11, a12, a13⟩ := HB.out
  replace a0 := f2.cell a0 (by simp)
  replace a1 := f2.cell a1 (by simp)
  replace a2 := f2.cell a2 (by simp)
  replace a3 := f2.cell a3 (by simp)
  replace a4 := f2.cell a4 (by simp)
  replace a5 := f2.cell a5 (by simp)
  replace a6 := f2.cell a6 (by simp)
  replace a7 := f2.cell a7 (by simp)
  replace a8 := f2.cell a8 (by simp)
  replace a9 := f2.cell a9 (by simp)
  replace a10 := f2.cell a10 (by simp)
  replace a11 := f2.cell a11 (by simp)
  replace a12 := f2.cell a12 (by simp)
  replace a13 := f2.cell a13 (by simp)
  have F2 : Hid (Fr (fun _ => False) w w2) := F0.out.trans f2
  clear f2
  go_wp2_with fail
  refine (HAL.out _).mono ?_
  rintro e w3 ⟨rfl, f3⟩
  go_wp2
  go_ret
  exact ⟨by simp, F2.out.trans f3⟩
set_option maxRecDepth 100000 in
set_option maxHeartbeats 4000000 in
theorem allows_01 (x : Rl) (q : Re) (n : Nat) (hx : x.Ok) (hq : q.Ok) (hn : n < 256) (h2 : ((n : Int) % 2 == 0) = false) (h3 : ((n : Int) % 3 == 0) = true) (w : World) : Calls Try.prog 4 #[.agg #[.int .u64 (x.id : Int), .int .i64 x.fr, .int .i64 x.tt, .float .f64 x.lo, .float .f64 x.hi, .int .u64 (x.au : Int), .int .i64 x.qu], .agg #[.int .u64 (q.se : Int), .int .u64 (q.sq : Int), .int .i64 q.la, .float .f64 q.x, .int .i64 q.tt, .int .u64 (q.ru : Int), .int .u64 (q.au : Int)], .int .u8 (n : Int)] w fun e w' => e = .returned (.bool true) ∧ Fr (fun _ => False) w w' := by
  have _ := hq.x
  have F0 : Hid (Fr (fun _ => False) w ((w.alloc (.cells #[.int .u64 (x.id : Int), .int .i64 x.fr, .int .i64 x.tt, .float .f64 x.lo, .float .f64 x.hi, .int .u64 (x.au : Int), .int .i64 x.qu] 34)).alloc (.cells #[.int .u64 (q.se : Int), .int .u64 (q.sq : Int), .int .i64 q.la, .float .f64 x.lo, .int .i64 q.tt, .int .u64 (q.ru : Int), .int .u64 (q.au : Int)] 45))) := ((Fr.refl (fun _ => False) w).alloc _).alloc _
  have HWR : Hid (∀ W, Calls Try.prog 16 #[.float .f64 x.lo, .float .f64 x.lo, .float .f64 x.hi] W fun e w' => e = .returned (.bool (winB x ⟨q.se, q.sq, q.la, x.lo, q.tt, q.ru, q.au⟩)) ∧ w' = W) := refwithin_any x.lo x.lo x.hi hx.lo hx.lo hx.hi
  have HAL : Hid (∀ W, Calls Try.prog 17 #[.agg #[.int .u64 (x.id : Int), .int .i64 x.fr, .int .i64 x.tt, .float .f64 x.lo, .float .f64 x.hi, .int .u64 (x.au : Int), .int .i64 x.qu], .agg #[.int .u64 (q.se : Int), .int .u64 (q.sq : Int), .int .i64 q.la, .float .f64 x.lo, .int .i64 q.tt, .int .u64 (q.ru : Int), .int .u64 (q.au : Int)]] W fun e w' => e = .returned (.bool (allowB x ⟨q.se, q.sq, q.la, x.lo, q.tt, q.ru, q.au⟩)) ∧ Fr (fun _ => False) W w') := allows_any x ⟨q.se, q.sq, q.la, x.lo, q.tt, q.ru, q.au⟩ hx ⟨hx.lo⟩
  have HB : Hid (((w.alloc (.cells #[.int .u64 (x.id : Int), .int .i64 x.fr, .int .i64 x.tt, .float .f64 x.lo, .float .f64 x.hi, .int .u64 (x.au : Int), .int .i64 x.qu] 34)).alloc (.cells #[.int .u64 (q.se : Int), .int .u64 (q.sq : Int), .int .i64 q.la, .float .f64 x.lo, .int .i64 q.tt, .int .u64 (q.ru : Int), .int .u64 (q.au : Int)] 45)).cell? ⟨w.heap.size, 0, none⟩ = some (.int .u64 (x.id : Int)) ∧ ((w.alloc (.cells #[.int .u64 (x.id : Int), .int .i64 x.fr, .int .i64 x.tt, .float .f64 x.lo, .float .f64 x.hi, .int .u64 (x.au : Int), .int .i64 x.qu] 34)).alloc (.cells #[.int .u64 (q.se : Int), .int .u64 (q.sq : Int), .int .i64 q.la, .float .f64 x.lo, .int .i64 q.tt, .int .u64 (q.ru : Int), .int .u64 (q.au : Int)] 45)).cell? ⟨w.heap.size, 1, none⟩ = some (.int .i64 x.fr) ∧ ((w.alloc (.cells #[.int .u64 (x.id : Int), .int .i64 x.fr, .int .i64 x.tt, .float .f64 x.lo, .float .f64 x.hi, .int .u64 (x.au : Int), .int .i64 x.qu] 34)).alloc (.cells #[.int .u64 (q.se : Int), .int .u64 (q.sq : Int), .int .i64 q.la, .float .f64 x.lo, .int .i64 q.tt, .int .u64 (q.ru : Int), .int .u64 (q.au : Int)] 45)).cell? ⟨w.heap.size, 2, none⟩ = some (.int .i64 x.tt) ∧ ((w.alloc (.cells #[.int .u64 (x.id : Int), .int .i64 x.fr, .int .i64 x.tt, .float .f64 x.lo, .float .f64 x.hi, .int .u64 (x.au : Int), .int .i64 x.qu] 34)).alloc (.cells #[.int .u64 (q.se : Int), .int .u64 (q.sq : Int), .int .i64 q.la, .float .f64 x.lo, .int .i64 q.tt, .int .u64 (q.ru : Int), .int .u64 (q.au : Int)] 45)).cell? ⟨w.heap.size, 3, none⟩ = some (.float .f64 x.lo) ∧ ((w.alloc (.cells #[.int .u64 (x.id : Int), .int .i64 x.fr, .int .i64 x.tt, .float .f64 x.lo, .float .f64 x.hi, .int .u64 (x.au : Int), .int .i64 x.qu] 34)).alloc (.cells #[.int .u64 (q.se : Int), .int .u64 (q.sq : Int), .int .i64 q.la, .float .f64 x.lo, .int .i64 q.tt, .int .u64 (q.ru : Int), .int .u64 (q.au : Int)] 45)).cell? ⟨w.heap.size, 4, none⟩ = some (.float .f64 x.hi) ∧ ((w.alloc (.cells #[.int .u64 (x.id : Int), .int .i64 x.fr, .int .i64 x.tt, .float .f64 x.lo, .float .f64 x.hi, .int .u64 (x.au : Int), .int .i64 x.qu] 34)).alloc (.cells #[.int .u64 (q.se : Int), .int .u64 (q.sq : Int), .int .i64 q.la, .float .f64 x.lo, .int .i64 q.tt, .int .u64 (q.ru : Int), .int .u64 (q.au : Int)] 45)).cell? ⟨w.heap.size, 5, none⟩ = some (.int .u64 (x.au : Int)) ∧ ((w.alloc (.cells #[.int .u64 (x.id : Int), .int .i64 x.fr, .int .i64 x.tt, .float .f64 x.lo, .float .f64 x.hi, .int .u64 (x.au : Int), .int .i64 x.qu] 34)).alloc (.cells #[.int .u64 (q.se : Int), .int .u64 (q.sq : Int), .int .i64 q.la, .float .f64 x.lo, .int .i64 q.tt, .int .u64 (q.ru : Int), .int .u64 (q.au : Int)] 45)).cell? ⟨w.heap.size, 6, none⟩ = some (.int .i64 x.qu) ∧ ((w.alloc (.cells #[.int .u64 (x.id : Int), .int .i64 x.fr, .int .i64 x.tt, .float .f64 x.lo, .float .f64 x.hi, .int .u64 (x.au : Int), .int .i64 x.qu] 34)).alloc (.cells #[.int .u64 (q.se : Int), .int .u64 (q.sq : Int), .int .i64 q.la, .float .f64 x.lo, .int .i64 q.tt, .int .u64 (q.ru : Int), .int .u64 (q.au : Int)] 45)).cell? ⟨w.heap.size + 1, 0, none⟩ = some (.int .u64 (q.se : Int)) ∧ ((w.alloc (.cells #[.int .u64 (x.id : Int), .int .i64 x.fr, .int .i64 x.tt, .float .f64 x.lo, .float .f64 x.hi, .int .u64 (x.au : Int), .int .i64 x.qu] 34)).alloc (.cells #[.int .u64 (q.se : Int), .int .u64 (q.sq : Int), .int .i64 q.la, .float .f64 x.lo, .int .i64 q.tt, .int .u64 (q.ru : Int), .int .u64 (q.au : Int)] 45)).cell? ⟨w.heap.size + 1, 1, none⟩ = some (.int .u64 (q.sq : Int)) ∧ ((w.alloc (.cells #[.int .u64 (x.id : Int), .int .i64 x.fr, .int .i64 x.tt, .float .f64 x.lo, .float .f64 x.hi, .int .u64 (x.au : Int), .int .i64 x.qu] 34)).alloc (.cells #[.int .u64 (q.se : Int), .int .u64 (q.sq : Int), .int .i64 q.la, .float .f64 x.lo, .int .i64 q.tt, .int .u64 (q.ru : Int), .int .u64 (q.au : Int)] 45)).cell? ⟨w.heap.size + 1, 2, none⟩ = some (.int .i64 q.la) ∧ ((w.alloc (.cells #[.int .u64 (x.id : Int), .int .i64 x.fr, .int .i64 x.tt, .float .f64 x.lo, .float .f64 x.hi, .int .u64 (x.au : Int), .int .i64 x.qu] 34)).alloc (.cells #[.int .u64 (q.se : Int), .int .u64 (q.sq : Int), .int .i64 q.la, .float .f64 x.lo, .int .i64 q.tt, .int .u64 (q.ru : Int), .int .u64 (q.au : Int)] 45)).cell? ⟨w.heap.size + 1, 3, none⟩ = some (.float .f64 x.lo) ∧ ((w.alloc (.cells #[.int .u64 (x.id : Int), .int .i64 x.fr, .int .i64 x.tt, .float .f64 x.lo, .float .f64 x.hi, .int .u64 (x.au : Int), .int .i64 x.qu] 34)).alloc (.cells #[.int .u64 (q.se : Int), .int .u64 (q.sq : Int), .int .i64 q.la, .float .f64 x.lo, .int .i64 q.tt, .int .u64 (q.ru : Int), .int .u64 (q.au : Int)] 45)).cell? ⟨w.heap.size + 1, 4, none⟩ = some (.int .i64 q.tt) ∧ ((w.alloc (.cells #[.int .u64 (x.id : Int), .int .i64 x.fr, .int .i64 x.tt, .float .f64 x.lo, .float .f64 x.hi, .int .u64 (x.au : Int), .int .i64 x.qu] 34)).alloc (.cells #[.int .u64 (q.se : Int), .int .u64 (q.sq : Int), .int .i64 q.la, .float .f64 x.lo, .int .i64 q.tt, .int .u64 (q.ru : Int), .int .u64 (q.au : Int)] 45)).cell? ⟨w.heap.size + 1, 5, none⟩ = some (.int .u64 (q.ru : Int)) ∧ ((w.alloc (.cells #[.int .u64 (x.id : Int), .int .i64 x.fr, .int .i64 x.tt, .float .f64 x.lo, .float .f64 x.hi, .int .u64 (x.au : Int), .int .i64 x.qu] 34)).alloc (.cells #[.int .u64 (q.se : Int), .int .u64 (q.sq : Int), .int .i64 q.la, .float .f64 x.lo, .int .i64 q.tt, .int .u64 (q.ru : Int), .int .u64 (q.au : Int)] 45)).cell? ⟨w.heap.size + 1, 6, none⟩ = some (.int .u64 (q.au : Int))) := by
    refine ⟨?_, ?_, ?_, ?_, ?_, ?_, ?_, ?_, ?_, ?_, ?_, ?_, ?_, ?_⟩ <;> simp
  by_cases e0 : q.ru = x.id
  case neg =>
    have hb0 : ((x.id : Int) == (q.ru : Int)) = false := by simp; omega
    have hal : allowB x ⟨q.se, q.sq, q.la, x.lo, q.tt, q.ru, q.au⟩ = false := by simp [allowB, e0]
    rw [hal] at HAL
    clear hx hq hal e0
    go_enter Try.func4, Try.ntmps4
    go_wp2_with fail
    refine (awake_any _).mono ?_
    rintro e w2 ⟨rfl, f2⟩
    obtain ⟨a0, a1, a2, a3, a4, a5, a6, a7, a8, a9, a10, a11, a12, a13⟩ := HB.out
    replace a0 := f2.cell a0 (by simp)
    replace a1 := f2.cell a1 (by simp)
    replace a2 := f2.cell a2 (by simp)
    replace a3 := f2.cell a3 (by simp)
    replace a4 := f2.cell a4 (by simp)
    replace a5 := f2.cell a5 (by simp)
    replace a6 := f2.cell a6 (by simp)
    replace a7 := f2.cell a7 (by simp)
    replace a8 := f2.cell a8 (by simp)
    replace a9 := f2.cell a9 (by simp)
    replace a10 := f2.cell a10 (by simp)
    replace a11 := f2.cell a11 (by simp)
    replace a12 := f2.cell a12 (by simp)
    replace a13 := f2.cell a13 (by simp)
    have F2 : Hid (Fr (fun _ => False) w w2) := F0.out.trans f2
    clear f2
    go_wp2_with fail
    refine (HAL.out _).mono ?_
    rintro e w3 ⟨rfl, f3⟩
    go_wp2
    go_ret
    exact ⟨by simp, F2.out.trans f3⟩
  have hb0 : ((x.id : Int) == (q.ru : Int)) = true := by simp; omega
  by_cases e1 : q.la = x.fr
  case neg =>
    have hb1 : (x.fr == q.la) = false := by simp; omega
    have hal : allowB x ⟨q.se, q.sq, q.la, x.lo, q.tt, q.ru, q.au⟩ = false := by simp [allowB, e1]
    rw [hal] at HAL
    clear hx hq hal e0 e1
    go_enter Try.func4, Try.ntmps4
    go_wp2_with fail
    refine (awake_any _).mono ?_
    rintro e w2 ⟨rfl, f2⟩
    obtain ⟨a0, a1, a2, a3, a4, a5, a6, a7, a8, a9, a10, a11, a12, a13⟩ := HB.out
    replace a0 := f2.cell a0 (by simp)
    replace a1 := f2.cell a1 (by simp)
    replace a2 := f2.cell a2 (by simp)
    replace a3 := f2.cell a3 (by simp)
    replace a4 := f2.cell a4 (by simp)
    replace a5 := f2.cell a5 (by simp)
    replace a6 := f2.cell a6 (by simp)
    replace a7 := f2.cell a7 (by simp)
    replace a8 := f2.cell a8 (by simp)
    replace a9 := f2.cell a9 (by simp)
    replace a10 := f2.cell a10 (by simp)
    replace a11 := f2.cell a11 (by simp)
    replace a12 := f2.cell a12 (by simp)
    replace a13 := f2.cell a13 (by simp)
    have F2 : Hid (Fr (fun _ => False) w w2) := F0.out.trans f2
    clear f2
    go_wp2_with fail
    refine (HAL.out _).mono ?_
    rintro e w3 ⟨rfl, f3⟩
    go_wp2
    go_ret
    exact ⟨by simp, F2.out.trans f3⟩
  have hb1 : (x.fr == q.la) = true := by simp; omega
  by_cases e2 : q.tt = x.tt
  case neg =>
    have hb2 : (x.tt == q.tt) = false := by simp; omega
    have hal : allowB x ⟨q.se, q.sq, q.la, x.lo, q.tt, q.ru, q.au⟩ = false := by simp [allowB, e2]
    rw [hal] at HAL
    clear hx hq hal e0 e1 e2
    go_enter Try.func4, Try.ntmps4
    go_wp2_with fail
    refine (awake_any _).mono ?_
    rintro e w2 ⟨rfl, f2⟩
    obtain ⟨a0, a1, a2, a3, a4, a5, a6, a7, a8, a9, a10, a11, a12, a13⟩ := HB.out
    replace a0 := f2.cell a0 (by simp)
    replace a1 := f2.cell a1 (by simp)
    replace a2 := f2.cell a2 (by simp)
    replace a3 := f2.cell a3 (by simp)
    replace a4 := f2.cell a4 (by simp)
    replace a5 := f2.cell a5 (by simp)
    replace a6 := f2.cell a6 (by simp)
    replace a7 := f2.cell a7 (by simp)
    replace a8 := f2.cell a8 (by simp)
    replace a9 := f2.cell a9 (by simp)
    replace a10 := f2.cell a10 (by simp)
    replace a11 := f2.cell a11 (by simp)
    replace a12 := f2.cell a12 (by simp)
    replace a13 := f2.cell a13 (by simp)
    have F2 : Hid (Fr (fun _ => False) w w2) := F0.out.trans f2
    clear f2
    go_wp2_with fail
    refine (HAL.out _).mono ?_
    rintro e w3 ⟨rfl, f3⟩
    go_wp2
    go_ret
    exact ⟨by simp, F2.out.trans f3⟩
  have hb2 : (x.tt == q.tt) = true := by simp; omega
  by_cases e3 : q.au = x.au
  case neg =>
    have hb3 : ((x.au : Int) == (q.au : Int)) = false := by simp; omega
    have hal : allowB x ⟨q.se, q.sq, q.la, x.lo, q.tt, q.ru, q.au⟩ = false := by simp [allowB, e3]
    rw [hal] at HAL
    clear hx hq hal e0 e1 e2 e3
    go_enter Try.func4, Try.ntmps4
    go_wp2_with fail
    refine (awake_any _).mono ?_
    rintro e w2 ⟨rfl, f2⟩
    obtain ⟨a0, a1, a2, a3, a4, a5, a6, a7, a8, a9, a10, a11, a12, a13⟩ := HB.out
    replace a0 := f2.cell a0 (by simp)
    replace a1 := f2.cell a1 (by simp)
    replace a2 := f2.cell a2 (by simp)
    replace a3 := f2.cell a3 (by simp)
    replace a4 := f2.cell a4 (by simp)
    replace a5 := f2.cell a5 (by simp)
    replace a6 := f2.cell a6 (by simp)
    replace a7 := f2.cell a7 (by simp)
    replace a8 := f2.cell a8 (by simp)
    replace a9 := f2.cell a9 (by simp)
    replace a10 := f2.cell a10 (by simp)
    replace a11 := f2.cell a11 (by simp)
    replace a12 := f2.cell a12 (by simp)
    replace a13 := f2.cell a13 (by simp)
    have F2 : Hid (Fr (fun _ => False) w w2) := F0.out.trans f2
    clear f2
    go_wp2_with fail
    refine (HAL.out _).mono ?_
    rintro e w3 ⟨rfl, f3⟩
    go_wp2
    go_ret
    exact ⟨by simp, F2.out.trans f3⟩
  have hb3 : ((x.au : Int) == (q.au : Int)) = true := by simp; omega
  have hal : allowB x ⟨q.se, q.sq, q.la, x.lo, q.tt, q.ru, q.au⟩ = winB x ⟨q.se, q.sq, q.la, x.lo, q.tt, q.ru, q.au⟩ := by simp [allowB, e0, e1, e2, e3]
  rw [hal] at HAL
  generalize winB x ⟨q.se, q.sq, q.la, x.lo, q.tt, q.ru, q.au⟩ = wb at *
  clear hx hq hal e0 e1 e2 e3
  go_enter Try.func4, Try.ntmps4
  go_wp2_with fail
  refine (HWR.out _).mono ?_
  rintro e w1 ⟨rfl, hw⟩
  subst w1
  go_wp2_with fail
  refine (awake_any _).mono ?_
  rintro e w2 ⟨rfl, f2⟩
  obtain ⟨a0, a1, a2, a3, a4, a5, a6, a7, a8, a9, a10, a11, a12, a13⟩ := HB.out
  replace a0 := f2.cell a0 (by simp)
  replace a1 := f2.cell a1 (by simp)
  replace a2 := f2.cell a2 (by simp)
  replace a3 := f2.cell a3 (by simp)
  replace a4 := f2.cell a4 (by simp)
  replace a5 := f2.cell a5 (by simp)
  replace a6 := f2.cell a6 (by simp)
  replace a7 := f2.cell a7 (by simp)
  replace a8 := f2.cell a8 (by simp)
  replace a9 := f2.cell a9 (by simp)
  replace a10 := f2.cell a10 (by simp)
  replace a11 := f2.cell a11 (by simp)
  replace a12 := f2.cell a12 (by simp)
  replace a13 := f2.cell a13 (by simp)
  have F2 : Hid (Fr (fun _ => False) w w2) := F0.out.trans f2
  clear f2
  go_wp2_with fail
  refine (HAL.out _).mono ?_
  rintro e w3 ⟨rfl, f3⟩
  go_wp2
  go_ret
  exact ⟨by simp, F2.out.trans f3⟩
set_option maxRecDepth 100000 in
set_option maxHeartbeats 4000000 in
theorem allows_00 (x : Rl) (q : Re) (n : Nat) (hx : x.Ok) (hq : q.Ok) (hn : n < 256) (h2 : ((n : Int) % 2 == 0) = false) (h3 : ((n : Int) % 3 == 0) = false) (w : World) : Calls Try.prog 4 #[.agg #[.int .u64 (x.id : Int), .int .i64 x.fr, .int .i64 x.tt, .float .f64 x.lo, .float .f64 x.hi, .int .u64 (x.au : Int), .int .i64 x.qu], .agg #[.int .u64 (q.se : Int), .int .u64 (q.sq : Int), .int .i64 q.la, .float .f64 q.x, .int .i64 q.tt, .int .u64 (q.ru : Int), .int .u64 (q.au : Int)], .int .u8 (n : Int)] w fun e w' => e = .returned (.bool true) ∧ Fr (fun _ => False) w w' := by
  have F0 : Hid (Fr (fun _ => False) w ((w.alloc (.cells #[.int .u64 (x.id : Int), .int .i64 x.fr, .int .i64 x.tt, .float .f64 x.lo, .float .f64 x.hi, .int .u64 (x.au : Int), .int .i64 x.qu] 34)).alloc (.cells #[.int .u64 (q.se : Int), .int .u64 (q.sq : Int), .int .i64 q.la, .float .f64 q.x, .int .i64 q.tt, .int .u64 (q.ru : Int), .int .u64 (q.au : Int)] 45))) := ((Fr.refl (fun _ => False) w).alloc _).alloc _
  have HWR : Hid (∀ W, Calls Try.prog 16 #[.float .f64 q.x, .float .f64 x.lo, .float .f64 x.hi] W fun e w' => e = .returned (.bool (winB x ⟨q.se, q.sq, q.la, q.x, q.tt, q.ru, q.au⟩)) ∧ w' = W) := refwithin_any q.x x.lo x.hi hq.x hx.lo hx.hi
  have HAL : Hid (∀ W, Calls Try.prog 17 #[.agg #[.int .u64 (x.id : Int), .int .i64 x.fr, .int .i64 x.tt, .float .f64 x.lo, .float .f64 x.hi, .int .u64 (x.au : Int), .int .i64 x.qu], .agg #[.int .u64 (q.se : Int), .int .u64 (q.sq : Int), .int .i64 q.la, .float .f64 q.x, .int .i64 q.tt, .int .u64 (q.ru : Int), .int .u64 (q.au : Int)]] W fun e w' => e = .returned (.bool (allowB x ⟨q.se, q.sq, q.la, q.x, q.tt, q.ru, q.au⟩)) ∧ Fr (fun _ => False) W w') := allows_any x ⟨q.se, q.sq, q.la, q.x, q.tt, q.ru, q.au⟩ hx ⟨hq.x⟩
  have HB : Hid (((w.alloc (.cells #[.int .u64 (x.id : Int), .int .i64 x.fr, .int .i64 x.tt, .float .f64 x.lo, .float .f64 x.hi, .int .u64 (x.au : Int), .int .i64 x.qu] 34)).alloc (.cells #[.int .u64 (q.se : Int), .int .u64 (q.sq : Int), .int .i64 q.la, .float .f64 q.x, .int .i64 q.tt, .int .u64 (q.ru : Int), .int .u64 (q.au : Int)] 45)).cell? ⟨w.heap.size, 0, none⟩ = some (.int .u64 (x.id : Int)) ∧ ((w.alloc (.cells #[.int .u64 (x.id : Int), .int .i64 x.fr, .int .i64 x.tt, .float .f64 x.lo, .float .f64 x.hi, .int .u64 (x.au : Int), .int .i64 x.qu] 34)).alloc (.cells #[.int .u64 (q.se : Int), .int .u64 (q.sq : Int), .int .i64 q.la, .float .f64 q.x, .int .i64 q.tt, .int .u64 (q.ru : Int), .int .u64 (q.au : Int)] 45)).cell? ⟨w.heap.size, 1, none⟩ = some (.int .i64 x.fr) ∧ ((w.alloc (.cells #[.int .u64 (x.id : Int), .int .i64 x.fr, .int .i64 x.tt, .float .f64 x.lo, .float .f64 x.hi, .int .u64 (x.au : Int), .int .i64 x.qu] 34)).alloc (.cells #[.int .u64 (q.se : Int), .int .u64 (q.sq : Int), .int .i64 q.la, .float .f64 q.x, .int .i64 q.tt, .int .u64 (q.ru : Int), .int .u64 (q.au : Int)] 45)).cell? ⟨w.heap.size, 2, none⟩ = some (.int .i64 x.tt) ∧ ((w.alloc (.cells #[.int .u64 (x.id : Int), .int .i64 x.fr, .int .i64 x.tt, .float .f64 x.lo, .float .f64 x.hi, .int .u64 (x.au : Int), .int .i64 x.qu] 34)).alloc (.cells #[.int .u64 (q.se : Int), .int .u64 (q.sq : Int), .int .i64 q.la, .float .f64 q.x, .int .i64 q.tt, .int .u64 (q.ru : Int), .int .u64 (q.au : Int)] 45)).cell? ⟨w.heap.size, 3, none⟩ = some (.float .f64 x.lo) ∧ ((w.alloc (.cells #[.int .u64 (x.id : Int), .int .i64 x.fr, .int .i64 x.tt, .float .f64 x.lo, .float .f64 x.hi, .int .u64 (x.au : Int), .int .i64 x.qu] 34)).alloc (.cells #[.int .u64 (q.se : Int), .int .u64 (q.sq : Int), .int .i64 q.la, .float .f64 q.x, .int .i64 q.tt, .int .u64 (q.ru : Int), .int .u64 (q.au : Int)] 45)).cell? ⟨w.heap.size, 4, none⟩ = some (.float .f64 x.hi) ∧ ((w.alloc (.cells #[.int .u64 (x.id : Int), .int .i64 x.fr, .int .i64 x.tt, .float .f64 x.lo, .float .f64 x.hi, .int .u64 (x.au : Int), .int .i64 x.qu] 34)).alloc (.cells #[.int .u64 (q.se : Int), .int .u64 (q.sq : Int), .int .i64 q.la, .float .f64 q.x, .int .i64 q.tt, .int .u64 (q.ru : Int), .int .u64 (q.au : Int)] 45)).cell? ⟨w.heap.size, 5, none⟩ = some (.int .u64 (x.au : Int)) ∧ ((w.alloc (.cells #[.int .u64 (x.id : Int), .int .i64 x.fr, .int .i64 x.tt, .float .f64 x.lo, .float .f64 x.hi, .int .u64 (x.au : Int), .int .i64 x.qu] 34)).alloc (.cells #[.int .u64 (q.se : Int), .int .u64 (q.sq : Int), .int .i64 q.la, .float .f64 q.x, .int .i64 q.tt, .int .u64 (q.ru : Int), .int .u64 (q.au : Int)] 45)).cell? ⟨w.heap.size, 6, none⟩ = some (.int .i64 x.qu) ∧ ((w.alloc (.cells #[.int .u64 (x.id : Int), .int .i64 x.fr, .int .i64 x.tt, .float .f64 x.lo, .float .f64 x.hi, .int .u64 (x.au : Int), .int .i64 x.qu] 34)).alloc (.cells #[.int .u64 (q.se : Int), .int .u64 (q.sq : Int), .int .i64 q.la, .float .f64 q.x, .int .i64 q.tt, .int .u64 (q.ru : Int), .int .u64 (q.au : Int)] 45)).cell? ⟨w.heap.size + 1, 0, none⟩ = some (.int .u64 (q.se : Int)) ∧ ((w.alloc (.cells #[.int .u64 (x.id : Int), .int .i64 x.fr, .int .i64 x.tt, .float .f64 x.lo, .float .f64 x.hi, .int .u64 (x.au : Int), .int .i64 x.qu] 34)).alloc (.cells #[.int .u64 (q.se : Int), .int .u64 (q.sq : Int), .int .i64 q.la, .float .f64 q.x, .int .i64 q.tt, .int .u64 (q.ru : Int), .int .u64 (q.au : Int)] 45)).cell? ⟨w.heap.size + 1, 1, none⟩ = some (.int .u64 (q.sq : Int)) ∧ ((w.alloc (.cells #[.int .u64 (x.id : Int), .int .i64 x.fr, .int .i64 x.tt, .float .f64 x.lo, .float .f64 x.hi, .int .u64 (x.au : Int), .int .i64 x.qu] 34)).alloc (.cells #[.int .u64 (q.se : Int), .int .u64 (q.sq : Int), .int .i64 q.la, .float .f64 q.x, .int .i64 q.tt, .int .u64 (q.ru : Int), .int .u64 (q.au : Int)] 45)).cell? ⟨w.heap.size + 1, 2, none⟩ = some (.int .i64 q.la) ∧ ((w.alloc (.cells #[.int .u64 (x.id : Int), .int .i64 x.fr, .int .i64 x.tt, .float .f64 x.lo, .float .f64 x.hi, .int .u64 (x.au : Int), .int .i64 x.qu] 34)).alloc (.cells #[.int .u64 (q.se : Int), .int .u64 (q.sq : Int), .int .i64 q.la, .float .f64 q.x, .int .i64 q.tt, .int .u64 (q.ru : Int), .int .u64 (q.au : Int)] 45)).cell? ⟨w.heap.size + 1, 3, none⟩ = some (.float .f64 q.x) ∧ ((w.alloc (.cells #[.int .u64 (x.id : Int), .int .i64 x.fr, .int .i64 x.tt, .float .f64 x.lo, .float .f64 x.hi, .int .u64 (x.au : Int), .int .i64 x.qu] 34)).alloc (.cells #[.int .u64 (q.se : Int), .int .u64 (q.sq : Int), .int .i64 q.la, .float .f64 q.x, .int .i64 q.tt, .int .u64 (q.ru : Int), .int .u64 (q.au : Int)] 45)).cell? ⟨w.heap.size + 1, 4, none⟩ = some (.int .i64 q.tt) ∧ ((w.alloc (.cells #[.int .u64 (x.id : Int), .int .i64 x.fr, .int .i64 x.tt, .float .f64 x.lo, .float .f64 x.hi, .int .u64 (x.au : Int), .int .i64 x.qu] 34)).alloc (.cells #[.int .u64 (q.se : Int), .int .u64 (q.sq : Int), .int .i64 q.la, .float .f64 q.x, .int .i64 q.tt, .int .u64 (q.ru : Int), .int .u64 (q.au : Int)] 45)).cell? ⟨w.heap.size + 1, 5, none⟩ = some (.int .u64 (q.ru : Int)) ∧ ((w.alloc (.cells #[.int .u64 (x.id : Int), .int .i64 x.fr, .int .i64 x.tt, .float .f64 x.lo, .float .f64 x.hi, .int .u64 (x.au : Int), .int .i64 x.qu] 34)).alloc (.cells #[.int .u64 (q.se : Int), .int .u64 (q.sq : Int), .int .i64 q.la, .float .f64 q.x, .int .i64 q.tt, .int .u64 (q.ru : Int), .int .u64 (q.au : Int)] 45)).cell? ⟨w.heap.size + 1, 6, none⟩ = some (.int .u64 (q.au : Int))) := by
    refine ⟨?_, ?_, ?_, ?_, ?_, ?_, ?_, ?_, ?_, ?_, ?_, ?_, ?_, ?_⟩ <;> simp
  by_cases e0 : q.ru = x.id
  case neg =>
    have hb0 : ((x.id : Int) == (q.ru : Int)) = false := by simp; omega
    have hal : allowB x ⟨q.se, q.sq, q.la, q.x, q.tt, q.ru, q.au⟩ = false := by simp [allowB, e0]
    rw [hal] at HAL
    clear hx hq hal e0
    go_enter Try.func4, Try.ntmps4
    go_wp2_with fail
    refine (awake_any _).mono ?_
    rintro e w2 ⟨rfl, f2⟩
    obtain ⟨a0, a1, a2, a3, a4, a5, a6, a7, a8, a9, a10, a11, a12, a13⟩ := HB.out
    replace a0 := f2.cell a0 (by simp)
    replace a1 := f2.cell a1 (by simp)
    replace a2 := f2.cell a2 (by simp)
    replace a3 := f2.cell a3 (by simp)
    replace a4 := f2.cell a4 (by simp)
    replace a5 := f2.cell a5 (by simp)
    replace a6 := f2.cell a6 (by simp)
    replace a7 := f2.cell a7 (by simp)
    replace a8 := f2.cell a8 (by simp)
    replace a9 := f2.cell a9 (by simp)
    replace a10 := f2.cell a10 (by simp)
    replace a11 := f2.cell a11 (by simp)
    replace a12 := f2.cell a12 (by simp)
    replace a13 := f2.cell a13 (by simp)
    have F2 : Hid (Fr (fun _ => False) w w2) := F0.out.trans f2
    clear f2
    go_wp2_with fail
    refine (HAL.out _).mono ?_
    rintro e w3 ⟨rfl, f3⟩
    go_wp2
    go_ret
    exact ⟨by simp, F2.out.trans f3⟩
  have hb0 : ((x.id : Int) == (q.ru : Int)) = true := by simp; omega
  by_cases e1 : q.la = x.fr
  case neg =>
    have hb1 : (x.fr == q.la) = false := by simp; omega
    have hal : allowB x ⟨q.se, q.sq, q.la, q.x, q.tt, q.ru, q.au⟩ = false := by simp [allowB, e1]
    rw [hal] at HAL
    clear hx hq hal e0 e1
    go_enter Try.func4, Try.ntmps4
    go_wp2_with fail
    refine (awake_any _).mono ?_
    rintro e w2 ⟨rfl, f2⟩
    obtain ⟨a0, a1, a2, a3, a4, a5, a6, a7, a8, a9, a10, a11, a12, a13⟩ := HB.out
    replace a0 := f2.cell a0 (by simp)
    replace a1 := f2.cell a1 (by simp)
    replace a2 := f2.cell a2 (by simp)
    replace a3 := f2.cell a3 (by simp)
    replace a4 := f2.cell a4 (by simp)
    replace a5 := f2.cell a5 (by simp)
    replace a6 := f2.cell a6 (by simp)
    replace a7 := f2.cell a7 (by simp)
    replace a8 := f2.cell a8 (by simp)
    replace a9 := f2.cell a9 (by simp)
    replace a10 := f2.cell a10 (by simp)
    replace a11 := f2.cell a11 (by simp)
    replace a12 := f2.cell a12 (by simp)
    replace a13 := f2.cell a13 (by simp)
    have F2 : Hid (Fr (fun _ => False) w w2) := F0.out.trans f2
    clear f2
    go_wp2_with fail
    refine (HAL.out _).mono ?_
    rintro e w3 ⟨rfl, f3⟩
    go_wp2
    go_ret
    exact ⟨by simp, F2.out.trans f3⟩
  have hb1 : (x.fr == q.la) = true := by simp; omega
  by_cases e2 : q.tt = x.tt
  case neg =>
    have hb2 : (x.tt == q.tt) = false := by simp; omega
    have hal : allowB x ⟨q.se, q.sq, q.la, q.x, q.tt, q.ru, q.au⟩ = false := by simp [allowB, e2]
    rw [hal] at HAL
    clear hx hq hal e0 e1 e2
    go_enter Try.func4, Try.ntmps4
    go_wp2_with fail
    refine (awake_any _).mono ?_
    rintro e w2 ⟨rfl, f2⟩
    obtain ⟨a0, a1, a2, a3, a4, a5, a6, a7, a8, a9, a10, a11, a12, a13⟩ := HB.out
    replace a0 := f2.cell a0 (by simp)
    replace a1 := f2.cell a1 (by simp)
    replace a2 := f2.cell a2 (by simp)
    replace a3 := f2.cell a3 (by simp)
    replace a4 := f2.cell a4 (by simp)
    replace a5 := f2.cell a5 (by simp)
    replace a6 := f2.cell a6 (by simp)
    replace a7 := f2.cell a7 (by simp)
    replace a8 := f2.cell a8 (by simp)
    replace a9 := f2.cell a9 (by simp)
    replace a10 := f2.cell a10 (by simp)
    replace a11 := f2.cell a11 (by simp)
    replace a12 := f2.cell a12 (by simp)
    replace a13 := f2.cell a13 (by simp)
    have F2 : Hid (Fr (fun _ => False) w w2) := F0.out.trans f2
    clear f2
    go_wp2_with fail
    refine (HAL.out _).mono ?_
    rintro e w3 ⟨rfl, f3⟩
    go_wp2
    go_ret
    exact ⟨by simp, F2.out.trans f3⟩
  have hb2 : (x.tt == q.tt) = true := by simp; omega
  by_cases e3 : q.au = x.au
  case neg =>
    have hb3 : ((x.au : Int) == (q.au : Int)) = false := by simp; omega
    have hal : allowB x ⟨q.se, q.sq, q.la, q.x, q.tt, q.ru, q.au⟩ = false := by simp [allowB, e3]
    rw [hal] at HAL
    clear hx hq hal e0 e1 e2 e3
    go_enter Try.func4, Try.ntmps4
    go_wp2_with fail
    refine (awake_any _).mono ?_
    rintro e w2 ⟨rfl, f2⟩
    obtain ⟨a0, a1, a2, a3, a4, a5, a6, a7, a8, a9, a10, a11, a12, a13⟩ := HB.out
    replace a0 := f2.cell a0 (by simp)
    replace a1 := f2.cell a1 (by simp)
    replace a2 := f2.cell a2 (by simp)
    replace a3 := f2.cell a3 (by simp)
    replace a4 := f2.cell a4 (by simp)
    replace a5 := f2.cell a5 (by simp)
    replace a6 := f2.cell a6 (by simp)
    replace a7 := f2.cell a7 (by simp)
    replace a8 := f2.cell a8 (by simp)
    replace a9 := f2.cell a9 (by simp)
    replace a10 := f2.cell a10 (by simp)
    replace a11 := f2.cell a11 (by simp)
    replace a12 := f2.cell a12 (by simp)
    replace a13 := f2.cell a13 (by simp)
    have F2 : Hid (Fr (fun _ => False) w w2) := F0.out.trans f2
    clear f2
    go_wp2_with fail
    refine (HAL.out _).mono ?_
    rintro e w3 ⟨rfl, f3⟩
    go_wp2
    go_ret
    exact ⟨by simp, F2.out.trans f3⟩
  have hb3 : ((x.au : Int) == (q.au : Int)) = true := by simp; omega
  have hal : allowB x ⟨q.se, q.sq, q.la, q.x, q.tt, q.ru, q.au⟩ = winB x ⟨q.se, q.sq, q.la, q.x, q.tt, q.ru, q.au⟩ := by simp [allowB, e0, e1, e2, e3]
  rw [hal] at HAL
  generalize winB x ⟨q.se, q.sq, q.la, q.x, q.tt, q.ru, q.au⟩ = wb at *
  clear hx hq hal e0 e1 e2 e3
  go_enter Try.func4, Try.ntmps4
  go_wp2_with fail
  refine (HWR.out _).mono ?_
  rintro e w1 ⟨rfl, hw⟩
  subst w1
  go_wp2_with fail
  refine (awake_any _).mono ?_
  rintro e w2 ⟨rfl, f2⟩
  obtain ⟨a0, a1, a2, a3, a4, a5, a6, a7, a8, a9, a10, a11, a12, a13⟩ := HB.out
  replace a0 := f2.cell a0 (by simp)
  replace a1 := f2.cell a1 (by simp)
  replace a2 := f2.cell a2 (by simp)
  replace a3 := f2.cell a3 (by simp)
  replace a4 := f2.cell a4 (by simp)
  replace a5 := f2.cell a5 (by simp)
  replace a6 := f2.cell a6 (by simp)
  replace a7 := f2.cell a7 (by simp)
  replace a8 := f2.cell a8 (by simp)
  replace a9 := f2.cell a9 (by simp)
  replace a10 := f2.cell a10 (by simp)
  replace a11 := f2.cell a11 (by simp)
  replace a12 := f2.cell a12 (by simp)
  replace a13 := f2.cell a13 (by simp)
  have F2 : Hid (Fr (fun _ => False) w w2) := F0.out.trans f2
  clear f2
  go_wp2_with fail
  refine (HAL.out _).mono ?_
  rintro e w3 ⟨rfl, f3⟩
  go_wp2
  go_ret
  exact ⟨by simp, F2.out.trans f3⟩
theorem allows_walk (x : Rl) (q : Re) (n : Nat) (hx : x.Ok) (hq : q.Ok) (hn : n < 256) (w : World) : Calls Try.prog 4 #[.agg #[.int .u64 (x.id : Int), .int .i64 x.fr, .int .i64 x.tt, .float .f64 x.lo, .float .f64 x.hi, .int .u64 (x.au : Int), .int .i64 x.qu], .agg #[.int .u64 (q.se : Int), .int .u64 (q.sq : Int), .int .i64 q.la, .float .f64 q.x, .int .i64 q.tt, .int .u64 (q.ru : Int), .int .u64 (q.au : Int)], .int .u8 (n : Int)] w fun e w' => e = .returned (.bool true) ∧ Fr (fun _ => False) w w' := by
  cases h2 : ((n : Int) % 2 == 0) <;> cases h3 : ((n : Int) % 3 == 0)
  · exact allows_00 x q n hx hq hn h2 h3 w
  · exact allows_01 x q n hx hq hn h2 h3 w
  · exact allows_10 x q n hx hq hn h2 h3 w
  · exact allows_11 x q n hx hq hn h2 h3 w
end Go.Proofs.Ytlneneacbjkheaa
