/- An image takes an entry that can stand there. -/
import Derived.Test.YtlcakglmheleeaaDoorTakeE
import Derived.Deep.RegionLaw
namespace Go.Proofs.YtlcakglmheleeaaDoor
open Go.RowKit

section
variable {w w1 : World} {mb : Nat} {D : Nat → Prop} {m : Img} {sa : Option Addr} {sc : Nat} {v : Value} {es : List En}
set_option maxRecDepth 100000 in
set_option maxHeartbeats 1600000 in
theorem takeE_ok (h : Im w mb D m sa sc v es) (x : En) (hx1 : m.si < x.i) (hx : x.i - m.si - 1 ≤ es.length) (hxl : x.i < 18446744073709551616) (hlen : es.length < 1000000) (hnew : ∀ k, w.heap.size ≤ k → D k) (hg : EG w D x) (hgv : x.d ≠ [] → ∀ a, x.a = some a → v.ownBlock ≠ some a.block) :
    Calls Tryd.prog 53 #[.pointer (some ⟨mb, 0, none⟩), .agg #[.int .u64 (x.i : Int), .int .u64 (x.t : Int), .int .u8 (x.k : Int), .slice x.a x.d.length x.c]] w fun e w' => e = .returned (.bool true) ∧ (∃ v', Im w' mb D { m with es := m.es.take (x.i - m.si - 1) ++ [x.p] } sa sc v' (es.take (x.i - m.si - 1) ++ [x])) ∧ Fr (fun k => k = mb ∨ v.ownBlock = some k) w w' := by
  obtain ⟨W, HW⟩ : ∃ W, Hid (W = w.alloc (.cells #[.int .u64 (x.i : Int), .int .u64 (x.t : Int), .int .u8 (x.k : Int), .slice x.a x.d.length x.c] 50)) := ⟨_, rfl⟩
  have F0 : Hid (Fr (fun _ => False) w W) := by show Fr _ _ _; rw [HW.out]; exact (Fr.refl _ _).alloc _
  have hIM := h
  have c2 := F0.out.cell h.c2 (by simp)
  obtain ⟨av, cv, hv, hvl⟩ := h.own.form
  have c6 := F0.out.cell h.c6 (by simp)
  have z6 := (F0.out.frozenEq (a := ⟨mb, 6, none⟩) h.lt (by simp)).trans (h.z 6 (by omega))
  rw [hv] at c6
  have x0 : W.cell? ⟨w.heap.size, 0, none⟩ = some (.int .u64 (x.i : Int)) := by rw [HW.out]; simp
  have x1 : W.cell? ⟨w.heap.size, 1, none⟩ = some (.int .u64 (x.t : Int)) := by rw [HW.out]; simp
  have x2 : W.cell? ⟨w.heap.size, 2, none⟩ = some (.int .u8 (x.k : Int)) := by rw [HW.out]; simp
  have x3 : W.cell? ⟨w.heap.size, 3, none⟩ = some (.slice x.a x.d.length x.c) := by rw [HW.out]; simp
  have hb : ¬ (x.i : Int) ≤ (m.si : Int) := by omega
  obtain ⟨si, Hsi⟩ : ∃ si, Hid (m.si = si) := ⟨_, rfl⟩
  rw [Hsi.out] at c2 hb hx hx1 ⊢
  obtain ⟨a, Ha⟩ : ∃ a, Hid (x.i - si - 1 = a) := ⟨_, rfl⟩
  obtain ⟨d, Hd⟩ : ∃ d, Hid (x.i - si = d) := ⟨_, rfl⟩
  rw [Ha.out] at hx ⊢
  have e1 : (x.i : Int) - (si : Int) = (d : Int) := by rw [← Hd.out]; omega
  have e2 : (d : Int) - 1 = (a : Int) := by rw [← Ha.out, ← Hd.out]; omega
  have ed : IntKind.u64.wrap (d : Int) = (d : Int) := wrap_u64_small _ (by omega) (by rw [← Hd.out]; omega)
  have ea : IntKind.u64.wrap (a : Int) = (a : Int) := wrap_u64_small _ (by omega) (by rw [← Ha.out]; omega)
  have hgt : ¬ (es.length : Int) < (a : Int) := by omega
  have a0 : (0 : Int) ≤ (a : Int) := by omega
  have ac : (a : Int) ≤ (cv : Int) := by omega
  have HX : Hid (a ≤ es.length) := hx
  have HG : Hid (EG w D x) := hg
  have HN : Hid (∀ k, w.heap.size ≤ k → D k) := hnew
  have HI : Hid (Im w mb D m sa sc v es) := hIM
  have HLN : Hid (es.length < 1000000) := hlen
  have HV : Hid (v = .slice av es.length cv) := hv
  have hmb := h.lt
  have HGV : Hid (x.d ≠ [] → ∀ a, x.a = some a → v.ownBlock ≠ some a.block) := hgv
  have HAP : Hid (¬ (v.ownBlock = some mb)) := fun e => h.apart (h.own.blk _ e)
  have HApp : Hid (∀ W3, Fr (fun _ => False) w W3 → ∃ v' w', (Builtin.append_ #[32, 32] 32 #[.slice av a cv, .slice (some ⟨W3.heap.size, 0, none⟩) 1 1]).run Tryd.prog (W3.alloc (.cells #[.int .u64 (x.i : Int), .int .u64 (x.t : Int), .int .u8 (x.k : Int), .slice x.a x.d.length x.c] 50)) = .ok v' w' ∧ OwnE w' D v' (es.take a ++ [x]) ∧ Fr (fun k => v.ownBlock = some k) W3 w' ∧ (v'.ownBlock = v.ownBlock ∨ ∀ k, v'.ownBlock = some k → w.heap.size ≤ k)) := by
    intro W3 f
    have fa := f.alloc (.cells #[.int .u64 (x.i : Int), .int .u64 (x.t : Int), .int .u8 (x.k : Int), .slice x.a x.d.length x.c] 50)
    have fW := (Fr.refl (fun k => v.ownBlock = some k) W3).alloc (.cells #[.int .u64 (x.i : Int), .int .u64 (x.t : Int), .int .u8 (x.k : Int), .slice x.a x.d.length x.c] 50)
    have ho : OwnE w D (.slice av es.length cv) es := by rw [← HV.out]; exact HI.out.own
    have ho := (ho.take a HX.out).fr fa (by simp)
    have hob : (Value.slice av a cv).ownBlock = v.ownBlock := by rw [HV.out]; cases av <;> rfl
    have hln : (es.take a).length = a := by rw [List.length_take]; exact Nat.min_eq_left HX.out
    obtain ⟨v', w', hrun, h1, h2, h3⟩ := run_append_ents _ 32 D (.slice av a cv) (es.take a) ho ⟨W3.heap.size, 0, none⟩ [x] 1 (one_cells W3 x) (fun y hy => by
      simp at hy
      subst hy
      have hg := HG.out.fr fa (by simp)
      exact ⟨hg.i, hg.t, hg.k, hg.row, fun hne b hb => ⟨hg.blk hne b hb, by rw [hob]; exact HGV.out hne b hb⟩⟩) (fun k hk => HN.out k (by have := fa.size; omega)) (by rw [hln]; have := HX.out; have := HLN.out; simp; omega)
    refine ⟨v', w', hrun, h1, fW.grown h2 (fun k hk => .inl (by rw [hob] at hk; exact hk)), ?_⟩
    rcases h3 with h3 | h3
    · exact .inl (h3.trans hob)
    · exact .inr (fun k hk => by rw [h3] at hk; cases hk; exact fa.size)
  have HJ : Hid (∀ W3 w2 av2 cv2, Fr (fun _ => False) w W3 → OwnE w2 D (.slice av2 (es.take a ++ [x]).length cv2) (es.take a ++ [x]) → Fr (fun k => v.ownBlock = some k) W3 w2 → ((Value.slice av2 (a + 1) cv2).ownBlock = v.ownBlock ∨ ∀ k, (Value.slice av2 (a + 1) cv2).ownBlock = some k → w.heap.size ≤ k) →
      (∃ v', Im (w2.setCell ⟨mb, 6, none⟩ (.slice av2 (a + 1) cv2)) mb D { m with si := si, es := m.es.take a ++ [x.p] } sa sc v' (es.take a ++ [x])) ∧ Fr (fun k => k = mb ∨ v.ownBlock = some k) w (w2.setCell ⟨mb, 6, none⟩ (.slice av2 (a + 1) cv2))) := by
    intro W3 w2 av2 cv2 f1 ho f2 hat
    have hln : (es.take a ++ [x]).length = a + 1 := by rw [List.length_append, List.length_take, Nat.min_eq_left HX.out]; rfl
    rw [hln] at ho
    have g := HI.out.fr f1 (by simp) (by simp)
    have fs := (Fr.refl (fun b => b = mb) w2).setCell (p := ⟨mb, 6, none⟩) (Or.inl rfl) (.slice av2 (a + 1) cv2)
    have o : ∀ {W : World} {i j : Nat} {u y : Value}, i ≠ j → W.cell? ⟨mb, j, none⟩ = some y → (W.setCell ⟨mb, i, none⟩ u).cell? ⟨mb, j, none⟩ = some y := fun _hij hc => (World.cell?_setCell_other _ _ _ _ (by simp)).trans hc
    refine ⟨⟨.slice av2 (a + 1) cv2, ⟨o (by omega) (f2.cell g.c0 HAP.out), o (by omega) (f2.cell g.c1 HAP.out), by rw [← Hsi.out]; exact o (by omega) (f2.cell g.c2 HAP.out), o (by omega) (f2.cell g.c3 HAP.out), o (by omega) (f2.cell g.c4 HAP.out), o (by omega) (f2.cell g.c5 HAP.out), World.cell?_setCell_same _ _ _ (f2.cell g.c6 HAP.out), fun i hi => ?_, ?_, g.sblk, ?_, ho.fr fs (fun b hb e => g.apart (e ▸ hb)), ?_, g.apart, g.b0, g.b1, by rw [← Hsi.out]; exact g.b2, g.b3, g.b4⟩⟩, ((f1.mono (fun _ _ h => h.elim)).trans (f2.mono (fun _ _ h => .inr h))).setCell (p := ⟨mb, 6, none⟩) (Or.inl (.inl rfl)) _⟩
    · have := (f2.frozenEq (a := ⟨mb, i, none⟩) g.lt HAP.out).trans (g.z i hi)
      simpa using this
    · exact fs.row (f2.row g.srow (fun hne a ha => g.sap hne a ha)) (fun hne a ha e => g.apart (e ▸ g.sblk hne a ha))
    · intro hne b hb
      rcases hat with e | e
      · rw [e]; exact g.sap hne b hb
      · intro e2
        have := e _ e2
        have := row_blk HI.out.srow hne b hb
        omega
    · rw [List.map_append, List.map_take, g.eq]; rfl
  clear h hIM hx1 hx hg hnew hlen hv hgv
  go_enter Tryd.func53, Tryd.ntmps53
  go_wp2_with fail
  rw [← HW.out]
  go_quiet (fail)
  go_wp2_with fail
  go_quiet (fail)
  go_wp2_with fail
  generalize hE : W.drewN (_ + _) = W2
  have F2 : Hid (Fr (fun _ => False) W W2) := by show Fr _ _ _; rw [← hE]; exact (Fr.refl _ W).drewN _
  have HF2 : Hid (Fr (fun _ => False) w W2) := F0.out.trans F2.out
  have d6 := F2.out.cell c6 (by simp)
  have dz := (F2.out.frozenEq (a := ⟨mb, 6, none⟩) (Nat.lt_of_lt_of_le hmb F0.out.size) (by simp)).trans z6
  have d0 := F2.out.cell x0 (by simp)
  have d1 := F2.out.cell x1 (by simp)
  have d2 := F2.out.cell x2 (by simp)
  have d3 := F2.out.cell x3 (by simp)
  have ca6 : (W2.alloc (.cells #[.int .u64 (x.i : Int), .int .u64 (x.t : Int), .int .u8 (x.k : Int), .slice x.a x.d.length x.c] 50)).cell? ⟨mb, 6, none⟩ = some (.slice av es.length cv) := ((Fr.refl (fun _ => False) W2).alloc _).cell d6 (by simp)
  obtain ⟨v2, w2, hrun, ho2, hf2, hat2⟩ := HApp.out W2.drew HF2.out.drew
  have HRUN : Hid (_ = Result.ok v2 w2) := hrun
  have e6 : w2.cell? ⟨mb, 6, none⟩ = some (.slice av es.length cv) := hf2.cell (w := W2.drew) d6 HAP.out
  have ez : w2.frozen? ⟨mb, 6, none⟩ = false := (hf2.frozenEq (w := W2.drew) (a := ⟨mb, 6, none⟩) (Nat.lt_of_lt_of_le hmb HF2.out.size) HAP.out).trans dz
  have HO2 : Hid (OwnE w2 D v2 (es.take a ++ [x])) := ho2
  have HF3 : Hid (Fr (fun k => v.ownBlock = some k) W2.drew w2) := hf2
  obtain ⟨av2, cv2, hv2, _⟩ := ho2.form
  have hln : (es.take a ++ [x]).length = a + 1 := by rw [List.length_append, List.length_take, Nat.min_eq_left HX.out]; rfl
  have HLE : Hid _ := hln
  rw [hln] at hv2
  subst hv2
  have HAT : Hid _ := hat2
  clear hat2
  clear hE c6 z6 x0 x1 x2 x3 c2 hrun ho2 hf2 hln
  go_region_law (refine step_append_eq rfl (.tmp 37) (.tmp 39) 32 rfl HRUN.out rfl rfl ?_)
  all_goals
    go_wp2
    go_ret
    have HOX : OwnE w2 D (.slice av2 (es.take a ++ [x]).length cv2) (es.take a ++ [x]) := by rw [HLE.out]; exact HO2.out
    exact ⟨rfl, HJ.out W2.drew w2 av2 cv2 HF2.out.drew HOX HF3.out HAT.out⟩
end
end Go.Proofs.YtlcakglmheleeaaDoor
