/- The order of transactions, and the search for one. -/
import Derived.Test.YtaalkhipncbjpaaWithin
import Derived.Test.YtaalkhipncbjpaaGrow
import Derived.Deep.RegionHeld3
namespace Go.Proofs.Ytaalkhipncbjpaa
open Go.RowKit
set_option maxRecDepth 100000 in
set_option maxHeartbeats 1000000 in
theorem cmp_same (a : Nat) (w : World) : Calls Try.prog 108 #[.int .u64 (a : Int), .int .u64 (a : Int)] w fun e w' => e = .returned (.int .i64 0) ∧ w' = w := by
  go_enter Try.func108, Try.ntmps108
  go_wp2_with (go_at_call 113; go_in)
  go_ret
  exact ⟨rfl, rfl⟩
set_option maxRecDepth 100000 in
set_option maxHeartbeats 1000000 in
theorem or_zero (b c : Nat) (w : World) (h0 : w.cell? ⟨b, 0, none⟩ = some (.int .i64 0)) (h1 : w.cell? ⟨b, 1, none⟩ = some (.int .i64 0)) : Calls Try.prog 107 #[.slice (some ⟨b, 0, none⟩) 2 c] w fun e w' => e = .returned (.int .i64 0) ∧ w' = w := by
  go_enter Try.func107, Try.ntmps107
  go_wp2
  go_loopw [8] (fun iv wr => ∃ k : Nat, k ≤ 2 ∧ iv = .int .i64 (k : Int) ∧ wr = w) (fun iv _ => 2 - (intOf iv).toNat)
  case atStart => exact ⟨0, by omega, rfl, rfl⟩
  case round =>
    obtain ⟨k, hk, rfl, rfl⟩ := hrel
    match k, hk with
    | 0, _ =>
      go_wp2
      go_roundw
      case rel => exact ⟨1, by omega, by go_num, trivial⟩
      case measure => simp [intOf]
    | 1, _ =>
      go_wp2
      go_roundw
      case rel => exact ⟨2, by omega, by go_num, trivial⟩
      case measure => simp [intOf]
    | 2, _ =>
      go_wp2
      go_ret
      exact ⟨rfl, rfl⟩
set_option maxRecDepth 100000 in
set_option maxHeartbeats 2000000 in
theorem order_same (s q : Nat) (w : World) : Calls Try.prog 88 #[.agg #[.int .u64 (s : Int), .int .u64 (q : Int)], .agg #[.int .u64 (s : Int), .int .u64 (q : Int)]] w fun e w' => e = .returned (.int .i64 0) ∧ Fr (fun _ => False) w w' := by
  obtain ⟨W, HW⟩ : ∃ W, Hid (W = (w.alloc (.cells #[.int .u64 (s : Int), .int .u64 (q : Int)] 24)).alloc (.cells #[.int .u64 (s : Int), .int .u64 (q : Int)] 24)) := ⟨_, rfl⟩
  have hf : Fr (fun _ => False) w W := by rw [HW.out]; exact ((Fr.refl _ _).alloc _).alloc _
  have HF : Hid (Fr (fun _ => False) w W) := hf
  have a0 : W.cell? ⟨w.heap.size, 0, none⟩ = some (.int .u64 (s : Int)) := by rw [HW.out]; simp
  have a1 : W.cell? ⟨w.heap.size, 1, none⟩ = some (.int .u64 (q : Int)) := by rw [HW.out]; simp
  have b0 : W.cell? ⟨w.heap.size + 1, 0, none⟩ = some (.int .u64 (s : Int)) := by rw [HW.out]; simp
  have b1 : W.cell? ⟨w.heap.size + 1, 1, none⟩ = some (.int .u64 (q : Int)) := by rw [HW.out]; simp
  clear hf
  go_enter Try.func88, Try.ntmps88
  go_wp2_with fail
  rw [← HW.out]
  go_region_held3 (fun W' => W'.cell? ⟨w.heap.size, 0, none⟩ = some (.int .u64 (s : Int)) ∧ W'.cell? ⟨w.heap.size, 1, none⟩ = some (.int .u64 (q : Int)) ∧ W'.cell? ⟨w.heap.size + 1, 0, none⟩ = some (.int .u64 (s : Int)) ∧ W'.cell? ⟨w.heap.size + 1, 1, none⟩ = some (.int .u64 (q : Int))) (go_keep) (first | (go_at_call 108; refine (cmp_same _ _).mono ?_; rintro e w1 ⟨rfl, rfl⟩) | (go_at_call 107; refine (or_zero _ _ _ (by simp) (by simp)).mono ?_; rintro e w2 ⟨rfl, rfl⟩))
  all_goals
    go_wp2
    go_ret
    exact ⟨rfl, HF.out.trans ((Fr.refl _ W).drew.alloc _)⟩
end Go.Proofs.Ytaalkhipncbjpaa
