/- The one message that has begun is taken out. -/
import Derived.Test.YtpnjcpamhelaeaaDoorIdx
import Derived.Lib.SliceRun
namespace Go.Proofs.YtpnjcpamhelaeaaDoor
open Go.RowKit

theorem run_clear_one (g cp : Nat) (x0 x1 x2 : Value) (w : World) (m0 : w.cell? ⟨g, 0, none⟩ = some x0) (m1 : w.cell? ⟨g, 1, none⟩ = some x1) (m2 : w.cell? ⟨g, 2, none⟩ = some x2) (zg : ∀ j, w.frozen? ⟨g, j, none⟩ = false) :
    (Builtin.clear_ #[45] 0 #[.slice (some ⟨g, 0, none⟩) 1 cp]).run Tryd.prog w = .ok (.tuple #[]) (w.setCells g 0 [.int .u64 0, .int .i64 0, .map none]) := by
  obtain ⟨i, hi, hz0, hz1, hz2⟩ := info_parts Tryd.info76
  have hv : ∀ w, (zeroValue 76).run Tryd.prog w = .ok (.agg #[.int .u64 0, .int .i64 0, .map none]) w := fun w => by simp [zeroValue, typeInfo, hi, hz0]
  have hzc : (Builtin.zeroCells (Value.agg #[.int .u64 0, .int .i64 0, .map none]).cells 1).toList = [.int .u64 0, .int .i64 0, .map none] := by kernel_rfl
  have hst := run_storeCells_cells (P := Tryd.prog) g 0 [.int .u64 0, .int .i64 0, .map none] 0 w (by
    intro j hj
    match j, hj with
    | 0, _ => simp [m0]
    | 1, _ => simp [m1]
    | 2, _ => simp [m2]) (by intro j hj; simpa using zg j) (by simp; exact ⟨rfl, rfl, rfl⟩)
  simp only [Nat.add_zero] at hst
  simp [Builtin.clear_, run_underlying Tryd.underlying45, hv, hzc, hst]
set_option maxRecDepth 100000 in
set_option maxHeartbeats 1000000 in
theorem delete_one (g cp mb id of : Nat) (w : World) (m0 : w.cell? ⟨g, 0, none⟩ = some (.int .u64 (id : Int))) (m1 : w.cell? ⟨g, 1, none⟩ = some (.int .i64 (of : Int))) (m2 : w.cell? ⟨g, 2, none⟩ = some (.map (some mb)))
    (zg : ∀ j, w.frozen? ⟨g, j, none⟩ = false) (hcp : 1 ≤ cp ∧ cp ≤ 9223372036854775807) :
    Calls Tryd.prog 37 #[.slice (some ⟨g, 0, none⟩) 1 cp, .int .i64 0, .int .i64 1] w fun e w' => e = .returned (.slice (some ⟨g, 0, none⟩) 0 cp) ∧ Fr (fun k => k = g) w w' := by
  obtain ⟨W, HW⟩ : ∃ W, Hid (W = w.drew.setCells g 0 [.int .u64 0, .int .i64 0, .map none]) := ⟨_, rfl⟩
  have kc : (Builtin.clear_ #[45] 0 #[.slice (some ⟨g, 0, none⟩) 1 cp]).run Tryd.prog w.drew = .ok (.tuple #[]) W := by rw [HW.out]; exact run_clear_one g cp _ _ _ w.drew m0 m1 m2 zg
  have F : Hid (Fr (fun k => k = g) w W) := by show Fr _ _ _; rw [HW.out]; exact ((Fr.refl (fun k => k = g) w).drew).setCells (Or.inl rfl) _ _
  clear m0 m1 m2 zg HW
  by_cases hcp1 : cp = 1
  · subst hcp1
    go_enter Tryd.func37, Tryd.ntmps37
    go_wp2_with fail
    go_region
    go_wp2
    go_ret
    exact ⟨rfl, F.out⟩
  · go_enter Tryd.func37, Tryd.ntmps37
    go_wp2_with fail
    go_region
    go_wp2
    go_ret
    exact ⟨rfl, F.out⟩
end Go.Proofs.YtpnjcpamhelaeaaDoor
