/- The message that has begun is found. -/
import Derived.Test.YtpnjcpamhelaeaaDoorPlace
namespace Go.Proofs.YtpnjcpamhelaeaaDoor
open Go.RowKit

set_option maxRecDepth 100000 in
set_option maxHeartbeats 1000000 in
theorem named_yes (mb n id of : Nat) (w : World) (n0 : w.cell? ⟨n, 0, none⟩ = some (.int .u64 (id : Int))) (n1 : w.cell? ⟨n, 1, none⟩ = some (.int .i64 (of : Int))) :
    Calls Tryd.prog 52 #[.agg #[.int .u64 (id : Int), .int .i64 (of : Int), .map (some mb)], .pointer (some ⟨n, 0, none⟩)] w fun e w' => e = .returned (.bool true) ∧ Fr (fun _ => False) w w' := by
  have f0 := (Fr.refl (fun _ => False) w).alloc (.cells #[.int .u64 (id : Int), .int .i64 (of : Int), .map (some mb)] 76)
  have n0' := f0.cell n0 (by simp)
  have n1' := f0.cell n1 (by simp)
  go_enter Tryd.func52, Tryd.ntmps52
  go_wp2
  go_ret
  exact ⟨rfl, f0⟩
set_option maxRecDepth 100000 in
set_option maxHeartbeats 1000000 in
theorem index_one (g cp mb n id of : Nat) (w : World) (m0 : w.cell? ⟨g, 0, none⟩ = some (.int .u64 (id : Int))) (m1 : w.cell? ⟨g, 1, none⟩ = some (.int .i64 (of : Int))) (m2 : w.cell? ⟨g, 2, none⟩ = some (.map (some mb)))
    (n0 : w.cell? ⟨n, 0, none⟩ = some (.int .u64 (id : Int))) (n1 : w.cell? ⟨n, 1, none⟩ = some (.int .i64 (of : Int))) :
    Calls Tryd.prog 51 #[.slice (some ⟨g, 0, none⟩) 1 cp, .func (.func 52) #[] #[.pointer (some ⟨n, 0, none⟩)]] w fun e w' => e = .returned (.int .i64 0) ∧ Fr (fun _ => False) w w' := by
  have K : Hid (Calls _ _ _ _ _) := named_yes mb n id of w n0 n1
  clear n0 n1
  go_enter Tryd.func51, Tryd.ntmps51
  go_wp2
  refine wp_loop_rounds 1 ?_
  rw [rounds_succ]
  go_wp2_with fail
  refine K.out.mono ?_
  rintro e w1 ⟨rfl, f1⟩
  clear m0 m1 m2
  go_wp2
  go_ret
  exact ⟨rfl, f1⟩
set_option maxRecDepth 100000 in
set_option maxHeartbeats 2000000 in
theorem place_one {w : World} {jb g cp mb id of : Nat} {es : List (Nat × Value)} (h : Jo w jb g cp mb id of es) :
    Calls Tryd.prog 36 #[.pointer (some ⟨jb, 0, none⟩), .agg #[.int .u64 (id : Int), .int .i64 (of : Int)]] w fun e w' => e = .returned (.int .i64 0) ∧ Fr (fun _ => False) w w' := by
  have f0 := (Fr.refl (fun _ => False) w).alloc (.cells #[.int .u64 (id : Int), .int .i64 (of : Int)] 73)
  have h0 := h.fr f0 (by simp) (by simp) (by simp)
  have hc := h0.c
  have K : Hid (Calls _ _ _ _ _) := index_one g cp mb w.heap.size id of _ h0.m0 h0.m1 h0.m2 (by simp) (by simp)
  clear h h0
  go_enter Tryd.func36, Tryd.ntmps36
  go_wp2_with fail
  refine K.out.mono ?_
  rintro e w1 ⟨rfl, f1⟩
  clear hc
  go_wp2
  go_ret
  exact ⟨rfl, f0.trans f1⟩
end Go.Proofs.YtpnjcpamhelaeaaDoor
