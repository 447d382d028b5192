/- The program's Put. -/
import Derived.Test.YtkkpdnholnkeoabNew
namespace Go.Proofs.Ytkkpdnholnkeoab
open Go.RowKit

/-- append, as one step of a region that draws, by its run. -/
theorem step_append_eq {P : Program} {ops : Array Oper} {o : Oper} {a : Act} {w w' : World} {K : Act → World → Prop} {Q : Exit → Act → World → Prop} {E : Prop}
    (hg : o.guard = none) (s x : Operand) (t : TypeId) (hop : o.op = Op.call { callee := Callee.builtin Builtin.append, args := #[s, x], argTypes := #[t, t] })
    {vs vx v' : Value} (hrun : (Builtin.append_ #[t, t] o.type #[vs, vx]).run P w = .ok v' w') (hs : a.eval s = vs) (hx : a.eval x = vx)
    (hK : K (a.put o.dst v') w') :
    if Region.wanted o (yielded ops a.tmps) = true then Oper.wp P o a w K Q else E := by
  have hw : Region.wanted o (yielded ops a.tmps) = true := by simp [Region.wanted, hg]
  rw [if_pos hw]
  unfold Oper.wp
  simp [execOp, hop, resolve, invoke, builtin, hs, hx, hrun, Result.andThen]
  exact hK
section
variable {w w1 : World} {gb : Nat} {D : Nat → Prop} {base term voters : Nat} {es : List En} {v : Value}
set_option maxRecDepth 100000 in
set_option maxHeartbeats 4000000 in
theorem put_any (h : Lg w gb D base term voters es v) (hb : base + es.length + 1 < 18446744073709551616) (hlen : es.length ≤ 100000) (hnew : ∀ k, w.heap.size ≤ k → D k) (t kd : Nat) (ao : Option Addr) (l : List Nat) (cap : Nat) (hr : Row w ao l cap) (hll : l.length ≤ 1000000) (ht : t < 18446744073709551616) (hkd : kd < 256) :
    Calls Try.prog 15 #[.pointer (some ⟨gb, 0, none⟩), .int .u64 (t : Int), .int .u8 (kd : Int), .slice ao l.length cap] w fun e w' => e = .returned (.int .u64 ((base + es.length + 1 : Nat) : Int)) ∧
      (∃ v' x, Lg w' gb D base term voters (es ++ [x]) v' ∧ x.p = (base + es.length + 1, t, kd, l)) ∧ Fr (fun k => k = gb ∨ v.ownBlock = some k) w w' := by
  have K : Hid (Calls _ _ _ _ _) := last_any h (by omega)
  have HL : Hid (Lg w gb D base term voters es v) := h
  have HN : Hid (∀ k, w.heap.size ≤ k → D k) := hnew
  have HR : Hid (Row w ao l cap) := hr
  obtain ⟨z, Hz⟩ : ∃ z, Hid (base + es.length = z) := ⟨_, rfl⟩
  rw [Hz.out] at K hb ⊢
  obtain ⟨av, cv, hv, hvl⟩ := h.own.form
  have c3 := h.c3
  have z3 := h.z3
  rw [hv] at c3
  have hgl := h.lt
  clear h hnew hr
  go_enter Try.func15, Try.ntmps15
  go_wp2_with fail
  refine K.out.mono ?_
  rintro e wa ⟨rfl, n, rfl⟩
  have f0 : Fr (fun _ => False) w (w.drewN n) := (Fr.refl _ w).drewN n
  obtain ⟨W0, HW0⟩ : ∃ W0, Hid (W0 = w.drewN n) := ⟨_, rfl⟩
  rw [← HW0.out] at f0 ⊢
  have c30 : W0.cell? ⟨gb, 3, none⟩ = some (.slice av es.length cv) := f0.cell c3 (by simp)
  have z30 : W0.frozen? ⟨gb, 3, none⟩ = false := (f0.frozenEq (a := ⟨gb, 3, none⟩) hgl (by simp)).trans z3
  have F0 : Hid (Fr (fun _ => False) w W0) := f0
  have KC : Hid (∀ W, Fr (fun _ => False) w W → Calls Try.prog 33 #[.slice ao l.length cap] W fun e w' => ∃ a1 c1, e = .returned (.slice a1 l.length c1) ∧ Row w' a1 l c1 ∧ (∀ a, a1 = some a → W.heap.size ≤ a.block) ∧ Fr (fun _ => False) W w') := fun W f => clone_any ao l cap W (f.row HR.out (by simp)) hll
  clear c3 z3 f0 K
  have hz1 : ¬ (z : Int) + 1 = 0 := by omega
  have HApp : Hid (∀ W a1 c1, Fr (fun _ => False) w W → Row W a1 l c1 → (∀ a, a1 = some a → w.heap.size ≤ a.block) → ∃ v' w', (Builtin.append_ #[28, 28] 28 #[.slice av es.length cv, .slice (some ⟨W.heap.size, 0, none⟩) 1 1]).run Try.prog (W.alloc (.cells #[.int .u64 ((z : Int) + 1), .int .u64 (t : Int), .int .u8 (kd : Int), .slice a1 l.length c1] 36)) = .ok v' w' ∧ OwnE w' D v' (es ++ [⟨z + 1, t, kd, l, a1, c1⟩]) ∧ Fr (fun k => v.ownBlock = some k) W w' ∧ (v'.ownBlock = v.ownBlock ∨ v'.ownBlock = some (W.heap.size + 1))) := by
    intro W a1 c1 f hrw hab
    have fa := f.alloc (.cells #[.int .u64 ((z : Int) + 1), .int .u64 (t : Int), .int .u8 (kd : Int), .slice a1 l.length c1] 36)
    have fW := (Fr.refl (fun k => v.ownBlock = some k) W).alloc (.cells #[.int .u64 ((z : Int) + 1), .int .u64 (t : Int), .int .u8 (kd : Int), .slice a1 l.length c1] 36)
    have ho := HL.out.own.fr fa (by simp)
    have hlt := HL.out.own.lt
    obtain ⟨v', w', hrun, h1, h2, h3⟩ := run_append_ents _ 28 D v es ho ⟨W.heap.size, 0, none⟩ [⟨z + 1, t, kd, l, a1, c1⟩] 1 (one_cells W ⟨z + 1, t, kd, l, a1, c1⟩) (fun x hx => by
      simp at hx
      subst hx
      exact ⟨by omega, ht, hkd, ((Fr.refl (fun _ => False) W).alloc _).row hrw (by simp), fun hne a ha => ⟨HN.out _ (hab a ha), fun e => by have := hlt _ e; have := hab a ha; omega⟩⟩) (fun k hk => HN.out k (by have := fa.size; omega)) (by simp; omega)
    rw [hv] at hrun
    refine ⟨v', w', hrun, h1, fW.grown h2 (fun k hk => .inl hk), ?_⟩
    simpa using h3
  have hapt : ¬ (v.ownBlock = some gb) := fun e => HL.out.apart (HL.out.own.blk _ e)
  have HJ : Hid (∀ w1 w2 a1 c1 av2 cv2, Fr (fun _ => False) w w1 → OwnE w2 D (.slice av2 (es ++ [(⟨z + 1, t, kd, l, a1, c1⟩ : En)]).length cv2) (es ++ [⟨z + 1, t, kd, l, a1, c1⟩]) → Fr (fun k => v.ownBlock = some k) w1 w2 →
      (∃ v' x, Lg (w2.setCell ⟨gb, 3, none⟩ (.slice av2 (es.length + 1) cv2)) gb D base term voters (es ++ [x]) v' ∧ x.p = (z + 1, t, kd, l)) ∧ Fr (fun k => k = gb ∨ v.ownBlock = some k) w (w2.setCell ⟨gb, 3, none⟩ (.slice av2 (es.length + 1) cv2))) := by
    intro w1 w2 a1 c1 av2 cv2 f1 ho f2
    rw [show (es ++ [(⟨z + 1, t, kd, l, a1, c1⟩ : En)]).length = es.length + 1 by simp] at ho
    have g1 := HL.out.fr f1 (by simp) (by simp)
    have fs := (Fr.refl (fun b => b = gb) w2).setCell (p := ⟨gb, 3, none⟩) (Or.inl rfl) (.slice av2 (es.length + 1) cv2)
    refine ⟨⟨.slice av2 (es.length + 1) cv2, ⟨z + 1, t, kd, l, a1, c1⟩, ⟨?_, ?_, ?_, ?_, ?_, ?_, ?_, ?_, ?_, g1.apart, g1.b0, g1.b1, g1.b2⟩, rfl⟩, ((f1.mono (fun _ _ h => h.elim)).trans (f2.mono (fun _ _ h => .inr h))).setCell (p := ⟨gb, 3, none⟩) (Or.inl (.inl rfl)) _⟩
    · exact (World.cell?_setCell_other _ _ _ _ (by simp)).trans (f2.cell g1.c0 hapt)
    · exact (World.cell?_setCell_other _ _ _ _ (by simp)).trans (f2.cell g1.c1 hapt)
    · exact (World.cell?_setCell_other _ _ _ _ (by simp)).trans (f2.cell g1.c2 hapt)
    · exact World.cell?_setCell_same _ _ _ (f2.cell g1.c3 hapt)
    · simpa using (f2.frozenEq (a := ⟨gb, 0, none⟩) g1.lt hapt).trans g1.z0
    · simpa using (f2.frozenEq (a := ⟨gb, 1, none⟩) g1.lt hapt).trans g1.z1
    · simpa using (f2.frozenEq (a := ⟨gb, 2, none⟩) g1.lt hapt).trans g1.z2
    · simpa using (f2.frozenEq (a := ⟨gb, 3, none⟩) g1.lt hapt).trans g1.z3
    · exact ho.fr fs (fun b hb e => g1.apart (e ▸ hb))
  clear hlen
  go_wp2_with fail
  go_region_law (first
    | (obtain ⟨v2, w2, hrun, ho2, hf2, hat2⟩ := HApp.out w1 a1 c1 F1.out hr1.out hb1.out; refine step_append_eq rfl (.tmp 23) (.tmp 30) 28 rfl hrun rfl rfl ?_; have c32 : w2.cell? ⟨gb, 3, none⟩ = some (.slice av es.length cv) := hf2.cell c31 hapt; have z32 : w2.frozen? ⟨gb, 3, none⟩ = false := (hf2.frozenEq (a := ⟨gb, 3, none⟩) hgl1 hapt).trans z31; have HO2 : Hid (OwnE w2 D v2 (es ++ [⟨z + 1, t, kd, l, a1, c1⟩])) := ho2; have HF2 : Hid (Fr (fun k => v.ownBlock = some k) w1 w2) := hf2; have HAT : Hid (v2.ownBlock = v.ownBlock ∨ v2.ownBlock = some (w1.heap.size + 1)) := hat2; obtain ⟨av2, cv2, hv2, _⟩ := ho2.form; subst hv2; clear hrun ho2 hf2 hat2)
    | (go_simp; go_at_call 33; refine (KC.out W0.drew F0.out.drew).mono ?_; rintro e w1 ⟨a1, c1, rfl, hr1', hb1', f1⟩; have F1 : Hid (Fr (fun _ => False) w w1) := F0.out.drew.trans f1; have hr1 : Hid (Row w1 a1 l c1) := hr1'; have hb1 : Hid (∀ a, a1 = some a → w.heap.size ≤ a.block) := fun a ha => Nat.le_trans F0.out.size (hb1' a ha); have c31 : w1.cell? ⟨gb, 3, none⟩ = some (.slice av es.length cv) := f1.cell (w := W0.drew) c30 (by simp); have z31 : w1.frozen? ⟨gb, 3, none⟩ = false := (f1.frozenEq (w := W0.drew) (a := ⟨gb, 3, none⟩) (Nat.lt_of_lt_of_le hgl F0.out.size) (by simp)).trans z30; have hgl1 : gb < w1.heap.size := World.block_lt_of_cell? _ _ c31; have ca : (w1.alloc (.cells #[.int .u64 ((z : Int) + 1), .int .u64 (t : Int), .int .u8 (kd : Int), .slice a1 l.length c1] 36)).cell? ⟨gb, 3, none⟩ = some (.slice av es.length cv) := ((Fr.refl (fun _ => False) w1).alloc _).cell c31 (by simp); have za : (w1.alloc (.cells #[.int .u64 ((z : Int) + 1), .int .u64 (t : Int), .int .u8 (kd : Int), .slice a1 l.length c1] 36)).frozen? ⟨gb, 3, none⟩ = false := (((Fr.refl (fun _ => False) w1).alloc _).frozenEq (a := ⟨gb, 3, none⟩) hgl1 (by simp)).trans z31; clear hr1' hb1' f1))
  all_goals
    go_wp2
    go_ret
    exact ⟨ret_int (by omega), HJ.out _ _ _ _ _ _ F1.out HO2.out HF2.out⟩
end
end Go.Proofs.Ytkkpdnholnkeoab
