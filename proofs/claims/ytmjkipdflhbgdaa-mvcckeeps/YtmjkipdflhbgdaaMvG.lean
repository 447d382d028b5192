/- Size, and what a nil store answers; New. -/
import Derived.Test.YtmjkipdflhbgdaaMvF
namespace Go.Proofs.Ytmjkipdflhbgdaa
open Go.RowKit
set_option maxRecDepth 100000 in
set_option maxHeartbeats 1000000 in
theorem size_nil (w : World) : Calls Try.prog 29 #[.pointer none] w fun e w' => e = .returned (.int .i64 0) ∧ w' = w := by
  go_enter Try.func29, Try.ntmps29
  go_wp2
  go_ret
  exact ⟨rfl, rfl⟩
set_option maxRecDepth 100000 in
set_option maxHeartbeats 1000000 in
theorem len_nil (w : World) : Calls Try.prog 28 #[.pointer none] w fun e w' => e = .returned (.int .i64 0) ∧ w' = w := by
  go_enter Try.func28, Try.ntmps28
  go_wp2
  go_ret
  exact ⟨rfl, rfl⟩
set_option maxRecDepth 100000 in
set_option maxHeartbeats 1000000 in
theorem trim_nil (ep : Nat) (w : World) : Calls Try.prog 19 #[.pointer none, .int .u64 (ep : Int)] w fun e w' => e = .returned (.tuple #[]) ∧ w' = w := by
  go_enter Try.func19, Try.ntmps19
  go_wp2
  refine bodyPost_ret (results_none rfl _ _ _) rfl ?_
  exact ⟨rfl, rfl⟩
set_option maxRecDepth 100000 in
set_option maxHeartbeats 1000000 in
theorem scan_nil (x y ep : Nat) (w : World) : Calls Try.prog 16 #[.pointer none, .float .f64 x, .float .f64 y, .int .u64 (ep : Int), .int .i64 5] w fun e w' => e = .returned (.slice none 0 0) ∧ w' = w := by
  go_enter Try.func16, Try.ntmps16
  go_wp2
  go_ret
  exact ⟨rfl, rfl⟩
set_option maxRecDepth 100000 in
set_option maxHeartbeats 1000000 in
theorem cloneV_nil (w : World) : Calls Try.prog 58 #[.slice none 0 0] w fun e w' => e = .returned (.slice none 0 0) ∧ w' = w := by
  have q := fun (w : World) (a : Option Addr) (n c n' c' : Nat) => Lib.run_eql_slice_nil (P := Try.prog) w 66 _ a n c n' c' Try.underlying66
  go_enter Try.func58, Try.ntmps58
  go_wp2
  go_ret
  exact ⟨rfl, rfl⟩
set_option maxRecDepth 100000 in
set_option maxHeartbeats 1000000 in
theorem versions_nil (x : Nat) (w : World) : Calls Try.prog 27 #[.pointer none, .float .f64 x] w fun e w' => e = .returned (.slice none 0 0) ∧ w' = w := by
  go_enter Try.func27, Try.ntmps27
  go_wp2_with fail
  refine (list_nil x _).mono ?_
  rintro e w5 ⟨rfl, hw5⟩
  subst hw5
  go_wp2_with fail
  refine (cloneV_nil _).mono ?_
  rintro e w6 ⟨rfl, hw6⟩
  subst hw6
  go_wp2
  refine wp_loop_rounds 1 ?_
  rw [rounds_succ]
  go_wp2
  go_ret
  exact ⟨rfl, rfl⟩
set_option maxRecDepth 100000 in
set_option maxHeartbeats 1000000 in
theorem new_w (w : World) : Calls Try.prog 26 #[] w fun e w' => e = .returned (.pointer (some ⟨w.heap.size, 0, none⟩)) ∧ w'.cell? ⟨w.heap.size, 0, none⟩ = some (.slice none 0 0) ∧ w'.frozen? ⟨w.heap.size, 0, none⟩ = false ∧ Fr (fun _ => False) w w' := by
  go_enter Try.func26, Try.ntmps26
  go_wp2
  go_ret
  exact ⟨rfl, by simp, by simp, (Fr.refl (fun _ => False) w).alloc _⟩
set_option maxRecDepth 100000 in
set_option maxHeartbeats 4000000 in
theorem size_2 (sb cb cc r c : Nat) (ga : Option Addr) (w : World) (hc : w.cell? ⟨sb, 0, none⟩ = some (.slice (some ⟨cb, 0, none⟩) 1 cc)) (h2 : C2 w cb (.int .u64 (r : Int)) (.slice ga 2 c)) : Calls Try.prog 29 #[.pointer (some ⟨sb, 0, none⟩)] w fun e w' => e = .returned (.int .i64 2) ∧ Fr (fun _ => False) w w' := by
  have H2 : Hid (C2 w cb (.int .u64 (r : Int)) (.slice ga 2 c)) := h2
  clear h2
  go_enter Try.func29, Try.ntmps29
  go_wp2
  clear hc
  go_loopw [3, 13] (fun nv iv wr => ((nv = .int .i64 0 ∧ iv = .int .i64 0) ∨ (nv = .int .i64 2 ∧ iv = .int .i64 1)) ∧ Hid (Fr (fun _ => False) w wr)) (fun _ iv _ => ((1 : Int) - (intOf iv)).toNat)
  case atStart => exact ⟨.inl ⟨rfl, rfl⟩, Fr.refl _ _⟩
  case round =>
    obtain ⟨hi, HF⟩ := hrel
    rcases hi with ⟨rfl, rfl⟩ | ⟨rfl, rfl⟩
    · obtain ⟨k0, k1, _⟩ := H2.out.fr HF.out (by simp)
      go_wp2
      go_roundw
      case rel => exact ⟨.inr ⟨rfl, rfl⟩, HF.out.alloc _⟩
      case measure => simp [intOf]
    · go_wp2
      go_ret
      exact ⟨rfl, HF.out⟩
end Go.Proofs.Ytmjkipdflhbgdaa
