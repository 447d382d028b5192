/- Where a message stands among those that have begun. -/
import Derived.Test.YtpnjcpamhelaeaaDoorJoin
import Derived.Carry
import Derived.BigRegion
import Derived.Deep.RegionHeld3
import Derived.Deep.RegionLaw
namespace Go.Proofs.YtpnjcpamhelaeaaDoor
open Go.RowKit

/-- append, as one step of a region that draws, by its run. -/
theorem step_append_eq {P : Program} {ops : Array Oper} {o : Oper} {a : Act} {w w' : World} {K : Act → World → Prop} {Q : Exit → Act → World → Prop} {E : Prop}
    (hg : o.guard = none) (s x : Operand) (t : TypeId) (hop : o.op = Op.call { callee := Callee.builtin Builtin.append, args := #[s, x], argTypes := #[t, t] })
    {vs vx v' : Value} (hrun : (Builtin.append_ #[t, t] o.type #[vs, vx]).run P w = .ok v' w') (hs : a.eval s = vs) (hx : a.eval x = vx)
    (hK : K (a.put o.dst v') w') :
    if Region.wanted o (yielded ops a.tmps) = true then Oper.wp P o a w K Q else E := by
  have hw : Region.wanted o (yielded ops a.tmps) = true := by simp [Region.wanted, hg]
  rw [if_pos hw]
  unfold Oper.wp
  simp [execOp, hop, resolve, invoke, builtin, hs, hx, hrun, Result.andThen]
  exact hK
set_option maxRecDepth 100000 in
set_option maxHeartbeats 2000000 in
theorem place_new (jb id of : Nat) (w : World) (hc : w.cell? ⟨jb, 0, none⟩ = some (.slice none 0 0)) (hz : w.frozen? ⟨jb, 0, none⟩ = false) :
    Calls Tryd.prog 36 #[.pointer (some ⟨jb, 0, none⟩), .agg #[.int .u64 (id : Int), .int .i64 (of : Int)]] w fun e w' => e = .returned (.int .i64 0) ∧ (∃ g cp mb, w.heap.size ≤ g ∧ w.heap.size ≤ mb ∧ Jo w' jb g cp mb id of []) ∧ Fr (fun k => k = jb) w w' := by
  have hjl : jb < w.heap.size := World.block_lt_of_cell? _ _ hc
  obtain ⟨W0, HW0⟩ : ∃ W0, Hid (W0 = w.alloc (.cells #[.int .u64 (id : Int), .int .i64 (of : Int)] 73)) := ⟨_, rfl⟩
  have f0 : Fr (fun _ => False) w W0 := by rw [HW0.out]; exact (Fr.refl (fun _ => False) w).alloc _
  have s0 : w.heap.size < W0.heap.size := by rw [HW0.out]; simp
  have n0 : W0.cell? ⟨w.heap.size, 0, none⟩ = some (.int .u64 (id : Int)) := by rw [HW0.out]; simp
  have n1 : W0.cell? ⟨w.heap.size, 1, none⟩ = some (.int .i64 (of : Int)) := by rw [HW0.out]; simp
  have hc0 := f0.cell hc (by simp)
  have hz0 : W0.frozen? ⟨jb, 0, none⟩ = false := (f0.frozenEq (a := ⟨jb, 0, none⟩) hjl (by simp)).trans hz
  obtain ⟨W2, HW2⟩ : ∃ W2, Hid (W2 = W0.drew.alloc (.map #[] 0)) := ⟨_, rfl⟩
  have km : (Instr.makeMap 74 none).run Tryd.prog W0.drew = .ok (.map (some W0.heap.size)) W2 := by rw [HW2.out]; exact run_makeMap 74 W0.drew
  have f2 : Fr (fun _ => False) W0 W2 := by rw [HW2.out]; exact ((Fr.refl (fun _ => False) W0).drew).alloc _
  have s2 : W0.heap.size < W2.heap.size := by rw [HW2.out]; simp
  have hm2 : Hid (MapAt W2 W0.heap.size []) := by show MapAt _ _ _; rw [HW2.out]; exact MapAt.made W0.drew
  obtain ⟨cp, W4, ka, g0, g1, g2, gz, hcp, f4⟩ := begin_run W2 (.int .u64 (id : Int)) (.int .i64 (of : Int)) (.map (some W0.heap.size)) 45 (by simp; exact ⟨rfl, rfl, rfl⟩)
  obtain ⟨W3, HW3⟩ : ∃ W3, Hid (W3 = W2.alloc (.cells #[.int .u64 (id : Int), .int .i64 (of : Int), .map (some W0.heap.size)] 76)) := ⟨_, rfl⟩
  have f3 : Fr (fun _ => False) W2 (W2.alloc (.cells #[.int .u64 (id : Int), .int .i64 (of : Int), .map (some W0.heap.size)] 76)) := (Fr.refl (fun _ => False) W2).alloc _
  have hc1 : W0.drew.cell? ⟨jb, 0, none⟩ = some (.slice none 0 0) := hc0
  have n01 : W0.drew.cell? ⟨w.heap.size, 0, none⟩ = some (.int .u64 (id : Int)) := n0
  have n11 : W0.drew.cell? ⟨w.heap.size, 1, none⟩ = some (.int .i64 (of : Int)) := n1
  have hc2 := f2.cell hc0 (by simp)
  have n02 := f2.cell n0 (by simp)
  have n12 := f2.cell n1 (by simp)
  have hc3 := f3.cell hc2 (by simp)
  have hc4 := f4.cell hc2 (by simp)
  have hz4 : W4.frozen? ⟨jb, 0, none⟩ = false := (f4.frozenEq (a := ⟨jb, 0, none⟩) (show jb < _ by omega) (by simp)).trans ((f2.frozenEq (a := ⟨jb, 0, none⟩) (show jb < _ by omega) (by simp)).trans hz0)
  have F4 : Hid (Fr (fun _ => False) w W4) := (f0.trans f2).trans f4
  have hm4 : Hid (MapAt W4 W0.heap.size []) := hm2.out.fr f4 (by simp)
  have HJ : Hid (∀ W, W = (W4.setCell ⟨jb, 0, none⟩ (.slice (some ⟨W2.heap.size + 1, 0, none⟩) 1 cp)) → (∃ g cp mb, w.heap.size ≤ g ∧ w.heap.size ≤ mb ∧ Jo W jb g cp mb id of []) ∧ Fr (fun k => k = jb) w W) := by
    rintro W rfl
    have fs := (Fr.refl (fun k => k = jb) W4).setCell (p := ⟨jb, 0, none⟩) (Or.inl rfl) (.slice (some ⟨W2.heap.size + 1, 0, none⟩) 1 cp)
    refine ⟨⟨W2.heap.size + 1, cp, W0.heap.size, by omega, by omega, ⟨World.cell?_setCell_same _ _ _ hc4, by simpa using hz4, fs.cell g0 (show ¬ _ = _ by simp; omega), fs.cell g1 (show ¬ _ = _ by simp; omega), fs.cell g2 (show ¬ _ = _ by simp; omega), fun j => by simpa using gz j, hm4.out.fr fs (show ¬ _ = _ by omega), by omega, by omega, by omega, hcp⟩⟩, F4.out.mono (fun _ _ h => h.elim) |>.trans fs⟩
  clear f0 f2 f3 f4 hm2 hm4 g0 g1 g2 gz F4 HW2 HW3 hz hc hcp
  go_enter Tryd.func36, Tryd.ntmps36
  have hA : (w.alloc (.cells #[.int .u64 (id : Int), .int .i64 (of : Int)] 73)).cell? ⟨jb, 0, none⟩ = some (.slice none 0 0) := by rw [← HW0.out]; exact hc0
  go_wp2_with fail
  rw [← HW0.out]
  clear hA
  refine (index_nil _ _).mono ?_
  rintro e w1 ⟨rfl, rfl⟩
  go_wp2_with fail
  go_region_law (refine step_append_eq rfl (.tmp 33) (.tmp 37) 45 rfl ka rfl rfl ?_)
  all_goals
    go_wp2
    go_ret
    exact ⟨ret_int (by omega), HJ.out _ rfl⟩
end Go.Proofs.YtpnjcpamhelaeaaDoor
