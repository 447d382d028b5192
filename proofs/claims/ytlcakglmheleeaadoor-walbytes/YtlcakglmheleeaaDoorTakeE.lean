/- An image takes an entry. -/
import Derived.Test.YtlcakglmheleeaaDoorIm
namespace Go.Proofs.YtlcakglmheleeaaDoor
open Go.RowKit

theorem step_append_eq {P : Program} {ops : Array Oper} {o : Oper} {a : Act} {w w' : World} {K : Act → World → Prop} {Q : Exit → Act → World → Prop} {E : Prop}
    (hg : o.guard = none) (s x : Operand) (t : TypeId) (hop : o.op = Op.call { callee := Callee.builtin Builtin.append, args := #[s, x], argTypes := #[t, t] })
    {vs vx v' : Value} (hrun : (Builtin.append_ #[t, t] o.type #[vs, vx]).run P w = .ok v' w') (hs : a.eval s = vs) (hx : a.eval x = vx)
    (hK : K (a.put o.dst v') w') :
    if Region.wanted o (yielded ops a.tmps) = true then Oper.wp P o a w K Q else E := by
  have hw : Region.wanted o (yielded ops a.tmps) = true := by simp [Region.wanted, hg]
  rw [if_pos hw]
  unfold Oper.wp
  simp [execOp, hop, resolve, invoke, builtin, hs, hx, hrun, Result.andThen]
  exact hK
section
variable {w w1 : World} {mb : Nat} {D : Nat → Prop} {m : Img} {sa : Option Addr} {sc : Nat} {v : Value} {es : List En}
set_option maxRecDepth 100000 in
set_option maxHeartbeats 800000 in
theorem takeE_low (h : Im w mb D m sa sc v es) (x : En) (hx : x.i ≤ m.si) :
    Calls Tryd.prog 53 #[.pointer (some ⟨mb, 0, none⟩), .agg #[.int .u64 (x.i : Int), .int .u64 (x.t : Int), .int .u8 (x.k : Int), .slice x.a x.d.length x.c]] w fun e w' => e = .returned (.bool false) ∧ Fr (fun _ => False) w w' := by
  obtain ⟨W, HW⟩ : ∃ W, Hid (W = w.alloc (.cells #[.int .u64 (x.i : Int), .int .u64 (x.t : Int), .int .u8 (x.k : Int), .slice x.a x.d.length x.c] 50)) := ⟨_, rfl⟩
  have F0 : Hid (Fr (fun _ => False) w W) := by show Fr _ _ _; rw [HW.out]; exact (Fr.refl _ _).alloc _
  have c2 := F0.out.cell h.c2 (by simp)
  have x0 : W.cell? ⟨w.heap.size, 0, none⟩ = some (.int .u64 (x.i : Int)) := by rw [HW.out]; simp
  have hb : (x.i : Int) ≤ (m.si : Int) := by omega
  obtain ⟨si, Hsi⟩ : ∃ si, Hid (m.si = si) := ⟨_, rfl⟩
  rw [Hsi.out] at c2 hb hx
  clear h
  go_enter Tryd.func53, Tryd.ntmps53
  go_wp2_with fail
  rw [← HW.out]
  go_quiet (fail)
  go_wp2
  go_ret
  exact ⟨rfl, F0.out.drewN _⟩
set_option maxRecDepth 100000 in
set_option maxHeartbeats 800000 in
theorem takeE_high (h : Im w mb D m sa sc v es) (x : En) (hx1 : m.si < x.i) (hx : es.length < x.i - m.si - 1) (hxl : x.i < 18446744073709551616) :
    Calls Tryd.prog 53 #[.pointer (some ⟨mb, 0, none⟩), .agg #[.int .u64 (x.i : Int), .int .u64 (x.t : Int), .int .u8 (x.k : Int), .slice x.a x.d.length x.c]] w fun e w' => e = .returned (.bool false) ∧ Fr (fun _ => False) w w' := by
  obtain ⟨W, HW⟩ : ∃ W, Hid (W = w.alloc (.cells #[.int .u64 (x.i : Int), .int .u64 (x.t : Int), .int .u8 (x.k : Int), .slice x.a x.d.length x.c] 50)) := ⟨_, rfl⟩
  have F0 : Hid (Fr (fun _ => False) w W) := by show Fr _ _ _; rw [HW.out]; exact (Fr.refl _ _).alloc _
  have c2 := F0.out.cell h.c2 (by simp)
  obtain ⟨av, cv, hv, hvl⟩ := h.own.form
  have c6 := F0.out.cell h.c6 (by simp)
  rw [hv] at c6
  have x0 : W.cell? ⟨w.heap.size, 0, none⟩ = some (.int .u64 (x.i : Int)) := by rw [HW.out]; simp
  have hb : ¬ (x.i : Int) ≤ (m.si : Int) := by omega
  obtain ⟨si, Hsi⟩ : ∃ si, Hid (m.si = si) := ⟨_, rfl⟩
  rw [Hsi.out] at c2 hb hx hx1
  obtain ⟨a, Ha⟩ : ∃ a, Hid (x.i - si - 1 = a) := ⟨_, rfl⟩
  obtain ⟨d, Hd⟩ : ∃ d, Hid (x.i - si = d) := ⟨_, rfl⟩
  rw [Ha.out] at hx
  have e1 : (x.i : Int) - (si : Int) = (d : Int) := by rw [← Hd.out]; omega
  have e2 : (d : Int) - 1 = (a : Int) := by rw [← Ha.out, ← Hd.out]; omega
  have ed : IntKind.u64.wrap (d : Int) = (d : Int) := wrap_u64_small _ (by omega) (by rw [← Hd.out]; omega)
  have ea : IntKind.u64.wrap (a : Int) = (a : Int) := wrap_u64_small _ (by omega) (by rw [← Ha.out]; omega)
  have hgt : (es.length : Int) < (a : Int) := by omega
  clear h hx1 hx
  go_enter Tryd.func53, Tryd.ntmps53
  go_wp2_with fail
  rw [← HW.out]
  go_quiet (fail)
  have c2a : (W.drewN nq).cell? ⟨mb, 2, none⟩ = some (.int .u64 (si : Int)) := by simpa using c2
  go_wp2_with fail
  go_quiet (fail)
  go_wp2
  go_ret
  exact ⟨rfl, F0.out.drewN _⟩
end
end Go.Proofs.YtlcakglmheleeaaDoor
