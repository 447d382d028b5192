/- The program's Merge. -/
import Derived.Test.YtkkpdnholnkeoabMgA
import Derived.Test.YtkkpdnholnkeoabMgI
namespace Go.Proofs.Ytkkpdnholnkeoab
open Go.RowKit
theorem ERow.drop' {w : World} {R D : Nat → Prop} {b off : Nat} {es : List En} {cap : Nat} (h : ERow w R D (some ⟨b, off, none⟩) es cap) (k : Nat) (hk : k ≤ es.length) : ERow w R D (some ⟨b, off + k * 4, none⟩) (es.drop k) (cap - k) := by
  obtain ⟨h1, h2, h3, h4, h5⟩ := h
  refine ⟨by simp; omega, by omega, fun e => (by cases e), fun x hx => h4 x (List.mem_of_mem_drop hx), fun hne => ?_⟩
  obtain ⟨b', o', he, hR, hc⟩ := h5 (fun e => by rw [e] at hne; simp at hne)
  cases he
  refine ⟨b, off + k * 4, rfl, hR, fun i hi f hf => ?_⟩
  have hi2 : k + i < es.length := by simp at hi; omega
  have := hc (k + i) hi2 f hf
  rw [show off + k * 4 + (i * 4 + f) = off + ((k + i) * 4 + f) by omega, this]
  simp [List.getD_eq_getElem?_getD, List.getElem?_drop]
section
variable {w w1 w2 : World} {gb : Nat} {D : Nat → Prop} {base term voters : Nat} {es es2 : List En} {v v2 : Value}
theorem lg_put (g1 : Lg w1 gb D base term voters es v) (ho : OwnE w2 D v2 es2) (f2 : Fr (fun k => v.ownBlock = some k) w1 w2) : Lg (w2.setCell ⟨gb, 3, none⟩ v2) gb D base term voters es2 v2 := by
  have hapt : ¬ (v.ownBlock = some gb) := fun e => g1.apart (g1.own.blk _ e)
  have fs := (Fr.refl (fun b => b = gb) w2).setCell (p := ⟨gb, 3, none⟩) (Or.inl rfl) v2
  refine ⟨?_, ?_, ?_, ?_, ?_, ?_, ?_, ?_, ?_, g1.apart, g1.b0, g1.b1, g1.b2⟩
  · exact (World.cell?_setCell_other _ _ _ _ (by simp)).trans (f2.cell g1.c0 hapt)
  · exact (World.cell?_setCell_other _ _ _ _ (by simp)).trans (f2.cell g1.c1 hapt)
  · exact (World.cell?_setCell_other _ _ _ _ (by simp)).trans (f2.cell g1.c2 hapt)
  · exact World.cell?_setCell_same _ _ _ (f2.cell g1.c3 hapt)
  · simpa using (f2.frozenEq (a := ⟨gb, 0, none⟩) g1.lt hapt).trans g1.z0
  · simpa using (f2.frozenEq (a := ⟨gb, 1, none⟩) g1.lt hapt).trans g1.z1
  · simpa using (f2.frozenEq (a := ⟨gb, 2, none⟩) g1.lt hapt).trans g1.z2
  · simpa using (f2.frozenEq (a := ⟨gb, 3, none⟩) g1.lt hapt).trans g1.z3
  · exact ho.fr fs (fun b hb e => g1.apart (e ▸ hb))
set_option maxRecDepth 100000 in
set_option maxHeartbeats 16000000 in
theorem merge_any (h : Lg w gb D base term voters es v) (hb : base + es.length + 2 < 18446744073709551616) (hlen : es.length ≤ 100000) (hnew : ∀ k, w.heap.size ≤ k → D k) (R2 D2 : Nat → Prop) (ao : Option Addr) (cs : List En) (cap : Nat) (hr : ERow w R2 D2 ao cs cap) (hD2 : ∀ k, D2 k → k < w.heap.size) (hcl : cs.length ≤ 100000)
    (hin : ∀ k, k + 1 < cs.length → (cs.getD k default).i + 1 = (cs.getD (k + 1) default).i) (hd : ∀ x ∈ cs, x.d.length ≤ 1000000) :
    Calls Try.prog 16 #[.pointer (some ⟨gb, 0, none⟩), .slice ao cs.length cap] w fun e w' =>
      ((∀ j, j < cs.length → lkB base term es (cs.getD j default) = false) ∧ e = .returned (.int .u64 0) ∧ Fr (fun _ => False) w w') ∨
      ∃ n : Nat, n < cs.length ∧ lkB base term es (cs.getD n default) = true ∧ (∀ j, j < n → lkB base term es (cs.getD j default) = false) ∧
        ((base + es.length + 1 < (cs.getD n default).i ∧ e = .returned (.int .u64 0) ∧ Fr (fun _ => False) w w') ∨
         ((cs.getD n default).i ≤ base + es.length + 1 ∧ e = .returned (.int .u64 (((cs.getD n default).i : Nat) : Int)) ∧ (∃ v' ys, Lg w' gb D base term voters (es.take ((cs.getD n default).i - base - 1) ++ ys) v' ∧ ys.map En.p = (cs.drop n).map En.p) ∧ Fr (fun k => k = gb ∨ v.ownBlock = some k) w w')) := by
  have HL : Hid (Lg w gb D base term voters es v) := h
  have HR : Hid (ERow w R2 D2 ao cs cap) := hr
  have HN : Hid (∀ k, w.heap.size ≤ k → D k) := hnew
  have HD2 : Hid (∀ k, D2 k → k < w.heap.size) := hD2
  have HIN : Hid (∀ k, k + 1 < cs.length → (cs.getD k default).i + 1 = (cs.getD (k + 1) default).i) := hin
  have HDD : Hid (∀ x ∈ cs, x.d.length ≤ 1000000) := hd
  obtain ⟨av, cv, HVL⟩ : ∃ av cv, Hid (v = .slice av es.length cv ∧ es.length ≤ cv ∧ cv ≤ 9223372036854775807) := by
    obtain ⟨av, cv, h1, h2, h3, h4⟩ := h.own.form
    exact ⟨av, cv, h1, h4, h3⟩
  have K0 : Hid (Calls _ _ _ _ _) := index_any h (by omega) R2 D2 ao cs cap hr
  clear h hr hnew hD2 hin hd
  go_enter Try.func16, Try.ntmps16
  go_wp2_with fail
  refine K0.out.mono ?_
  rintro e w1 ⟨r, rfl, hc, f1⟩
  have F1 : Hid (Fr (fun _ => False) w w1) := f1
  clear f1 K0
  rcases hc with ⟨rfl, hno⟩ | ⟨n, rfl, hn, hyes, hlow⟩
  · have HNO : Hid (∀ j, j < cs.length → lkB base term es (cs.getD j default) = false) := hno
    clear hno
    go_wp2
    go_ret
    exact Or.inl ⟨HNO.out, rfl, F1.out⟩
  · have HY : Hid (lkB base term es (cs.getD n default) = true) := hyes
    have HLOW : Hid (∀ j, j < n → lkB base term es (cs.getD j default) = false) := hlow
    have HNL : Hid (n < cs.length) := hn
    obtain ⟨b, off, x, hao, _, l0, l1, l2, l3, gx, Hx⟩ := (HR.out.fr F1.out (by simp) (by simp)).at hn
    have hbx : base < x.i := by
      have := HY.out
      rw [← Hx.out] at this
      unfold lkB at this
      simp at this
      exact this.1
    have hxi := gx.i
    obtain ⟨i, Hi⟩ : ∃ i, Hid (x.i = i) := ⟨_, rfl⟩
    have HXI : Hid ((cs.getD n default).i = i) := (show _ = _ by rw [← Hx.out]; exact Hi.out)
    rw [Hi.out] at l0 hbx hxi
    subst hao
    obtain ⟨p, Hp⟩ : ∃ p, Hid (i = p + 1) := ⟨i - 1, by show _ = _; omega⟩
    have hp := Hp.out
    have e1 : (i : Int) - 1 = (p : Int) := by omega
    have z0 : ¬ ((n : Int) < 0) := by omega
    have z1 : (0 : Int) ≤ (n : Int) := by omega
    have z2 : (n : Int) < (cs.length : Int) := by omega
    have KI : Hid (Calls _ _ _ _ _) := inrow_any w1 R2 D2 _ cs cap (HR.out.fr F1.out (by simp) (by simp)) HIN.out
    clear gx l1 l2 l3 hyes hlow
    go_wp2_with fail
    refine KI.out.mono ?_
    rintro e w2 ⟨rfl, f2⟩
    have F2 : Hid (Fr (fun _ => False) w w2) := F1.out.trans f2
    have KL : Hid (Calls _ _ _ _ _) := last_any (HL.out.fr F2.out (by simp) (by simp)) (by omega)
    clear f2 l0 KI
    go_wp2_with fail
    refine KL.out.mono ?_
    rintro e w3 ⟨rfl, q, hw3⟩
    have F3 : Hid (Fr (fun _ => False) w w3) := (show Fr _ _ _ by rw [hw3]; exact F2.out.drewN q)
    clear hw3 KL
    by_cases hgt : base + es.length < p
    · have g1 : decide (base + es.length < p) = true := by simpa using hgt
      have g2 : decide (((base + es.length : Nat) : Int) < (p : Int)) = true := by simp; omega
      go_wp2
      go_ret
      exact Or.inr ⟨n, HNL.out, HY.out, HLOW.out, Or.inl ⟨by rw [HXI.out]; omega, rfl, F3.out⟩⟩
    · have g1 : decide (base + es.length < p) = false := by simpa using hgt
      have g2 : decide (((base + es.length : Nat) : Int) < (p : Int)) = false := by simp; omega
      obtain ⟨m, Hm⟩ : ∃ m, Hid (p = base + m) := ⟨p - base, by show _ = _; omega⟩
      have hml : m ≤ es.length := by have := Hm.out; omega
      have HL3 : Hid (Lg w3 gb D base term voters es v) := HL.out.fr F3.out (by simp) (by simp)
      have HV : Hid (v = .slice av es.length cv) := HVL.out.1
      have hcv1 := HVL.out.2.1
      have hcv2 := HVL.out.2.2
      have hcap1 := HR.out.len.2.1
      have hcap2 := HR.out.len.2.2
      have HAT : Hid (¬ (v.ownBlock = some gb)) := fun e => HL3.out.apart (HL3.out.own.blk _ e)
      have HAPP : Hid True := trivial
      have HApp : Hid (∀ W ys yb yo cy, Fr (fun _ => False) w3 W → OwnE W (fun k => w3.heap.size ≤ k) (.slice (some ⟨yb, yo, none⟩) ys.length cy) ys → (∀ j u, (flat ys)[j]? = some u → W.cell? ((⟨yb, yo, none⟩ : Addr).add j) = some u) → ys.length ≤ 100000 → ∃ v' w', (Builtin.append_ #[28, 28] 28 #[.slice av m cv, .slice (some ⟨yb, yo, none⟩) ys.length cy]).run Try.prog W = .ok v' w' ∧ OwnE w' D v' (es.take m ++ ys) ∧ Fr (fun k => v.ownBlock = some k) W w') := by
        intro W ys yb yo cy f hoy hcell hyl
        have hoe := (HL3.out.fr f (by simp) (by simp)).own
        rw [HV.out] at hoe
        have hot := hoe.take m hml
        have hblk : (Value.slice av m cv).ownBlock = v.ownBlock := by rw [HV.out]; cases av <;> rfl
        have hlt := HL3.out.own.lt
        obtain ⟨v', w', hrun, h1, h2, h3⟩ := run_append_ents W 28 D (.slice av m cv) (es.take m) hot ⟨yb, yo, none⟩ ys cy hcell (fun x hx => (hoy.each x hx).mono (fun k _ hk => ⟨HN.out k (by have := F3.out.size; omega), fun e => by rw [hblk] at e; have := hlt k e; omega⟩)) (fun k hk => HN.out k (by have := F3.out.size; have := f.size; omega)) (by simp; omega)
        exact ⟨v', w', hrun, h1, (Fr.refl (fun k => v.ownBlock = some k) W).grown h2 (fun k hk => .inl (by rw [hblk] at hk; exact hk))⟩
      have hdl : (cs.drop n).length = cs.length - n := by simp
      have HR3 : Hid (ERow w3 R2 D2 (some ⟨b, off, none⟩) cs cap) := HR.out.fr F3.out (by simp) (by simp)
      have KC : Hid (∀ W, Fr (fun _ => False) w3 W → Calls Try.prog 26 #[.slice (some ⟨b, off + n * 4, none⟩) (cs.length - n) (cap - n)] W fun e w' => ∃ v ys, e = .returned v ∧ OwnE w' (fun k => w3.heap.size ≤ k) v ys ∧ ys.map En.p = (cs.drop n).map En.p ∧ Fr (fun _ => False) W w') := fun W f => by
        have := copies_any (some ⟨b, off + n * 4, none⟩) (cs.drop n) (cap - n) W R2 D2 ((HR3.out.fr f (by simp) (by simp)).drop' n (by have := HNL.out; omega)) (fun k hk => by have := HD2.out k hk; have := F3.out.size; have := f.size; omega) (by omega) (fun x hx => HDD.out x (List.mem_of_mem_drop hx))
        rw [hdl] at this
        exact this.mono (fun e w' ⟨v, ys, h1, h2, h3, h4⟩ => ⟨v, ys, h1, h2.mono (fun k _ hk => by have := f.size; omega), h3, h4⟩)
      obtain ⟨q1, Hq1⟩ : ∃ q1 : Nat, Hid ((p : Int) + 1 - (base : Int) = (q1 : Int) ∧ (q1 : Int) - 1 = (m : Int) ∧ q1 < 9223372036854775807) := ⟨m + 1, by have := Hm.out; omega, by omega, by omega⟩
      have e2 := Hq1.out.1
      have e3 := Hq1.out.2.1
      have hq1 := Hq1.out.2.2
      have hwq : IntKind.u64.wrap (q1 : Int) = (q1 : Int) := by unfold IntKind.wrap; simp [IntKind.bits, IntKind.signed]; omega
      have hwm : IntKind.u64.wrap (m : Int) = (m : Int) := by unfold IntKind.wrap; simp [IntKind.bits, IntKind.signed]; omega
      have hcapn : ¬ cap = n := by have := HNL.out; omega
      have z5 : (0 : Int) ≤ (m : Int) := by omega
      have z6 : (m : Int) ≤ (cv : Int) := by omega
      have z7 : (n : Int) ≤ (cs.length : Int) := by omega
      have z8 : (cs.length : Int) ≤ (cap : Int) := by omega
      have HMI : Hid (i - base - 1 = m) := (show _ = _ by have := Hm.out; omega)
      have HFI : Hid (∀ (e : Ending) (w' : World), e = .returned (.int .u64 ((p : Int) + 1)) ∧ (∃ v' ys, Lg w' gb D base term voters (es.take m ++ ys) v' ∧ ys.map En.p = (cs.drop n).map En.p) ∧ Fr (fun k => k = gb ∨ v.ownBlock = some k) w w' → ((∀ j, j < cs.length → lkB base term es (cs.getD j default) = false) ∧ e = .returned (.int .u64 0) ∧ Fr (fun _ => False) w w') ∨ ∃ n : Nat, n < cs.length ∧ lkB base term es (cs.getD n default) = true ∧ (∀ j, j < n → lkB base term es (cs.getD j default) = false) ∧ ((base + es.length + 1 < (cs.getD n default).i ∧ e = .returned (.int .u64 0) ∧ Fr (fun _ => False) w w') ∨ ((cs.getD n default).i ≤ base + es.length + 1 ∧ e = .returned (.int .u64 (((cs.getD n default).i : Nat) : Int)) ∧ (∃ v' ys, Lg w' gb D base term voters (es.take ((cs.getD n default).i - base - 1) ++ ys) v' ∧ ys.map En.p = (cs.drop n).map En.p) ∧ Fr (fun k => k = gb ∨ v.ownBlock = some k) w w'))) := fun e w' ⟨h1, h2, h3⟩ => Or.inr ⟨n, HNL.out, HY.out, HLOW.out, Or.inr ⟨by rw [HXI.out]; have := Hm.out; omega, by rw [h1, HXI.out, Hp.out]; push_cast; rfl, by rw [HXI.out, HMI.out]; exact h2, h3⟩⟩
      go_wp2_with fail
      refine wp_region_held_drew (S := (fun W : World => W.cell? ⟨gb, 0, none⟩ = some (.int .u64 (base : Int)))) (by kernel_rfl) (HL3.out.fr ((Fr.refl (fun _ => False) w3).drew) (by simp) (by simp)).c0 (fun hHeld => ?_)
      refine wpAnyH_take (i := 0) (oi := _) (v := ?_) (by rw [List.getElem?_toArray]; rfl) (by kernel_rfl) (by kernel_rfl) (by kernel_rfl) (fun _ _ _ h => by exact h) (Or.inl ⟨by rfl, ?_⟩) (by assumption) ?_
      rotate_left
      · (intro w hSw; (try dsimp only at hSw); go_simp; (try with_reducible rfl))
      try simp only [Act.put, List.setIfInBounds_toArray, List.set_cons_zero, List.set_cons_succ]
      refine wpAnyH_take (i := 1) (oi := _) (v := ?_) (by rw [List.getElem?_toArray]; rfl) (by kernel_rfl) (by kernel_rfl) (by kernel_rfl) (fun _ _ _ h => by exact h) (Or.inl ⟨by rfl, ?_⟩) (by assumption) ?_
      rotate_left
      · (intro w hSw; (try dsimp only at hSw); go_simp; (try with_reducible rfl))
      try simp only [Act.put, List.setIfInBounds_toArray, List.set_cons_zero, List.set_cons_succ]
      refine wpAnyH_take (i := 2) (oi := _) (v := ?_) (by rw [List.getElem?_toArray]; rfl) (by kernel_rfl) (by kernel_rfl) (by kernel_rfl) (fun _ _ _ h => by exact h) (Or.inl ⟨by rfl, ?_⟩) (by assumption) ?_
      rotate_left
      · (intro w hSw; (try dsimp only at hSw); go_simp; (try with_reducible rfl))
      try simp only [Act.put, List.setIfInBounds_toArray, List.set_cons_zero, List.set_cons_succ]
      refine wpAnyH_take (i := 3) (oi := _) (v := ?_) (by rw [List.getElem?_toArray]; rfl) (by kernel_rfl) (by kernel_rfl) (by kernel_rfl) (fun _ _ _ h => by exact h) (Or.inl ⟨by rfl, ?_⟩) (by assumption) ?_
      rotate_left
      · (intro w hSw; (try dsimp only at hSw); go_simp; (try with_reducible rfl))
      try simp only [Act.put, List.setIfInBounds_toArray, List.set_cons_zero, List.set_cons_succ]
      refine wpAnyH_take (i := 5) (oi := _) (v := ?_) (by rw [List.getElem?_toArray]; rfl) (by kernel_rfl) (by kernel_rfl) (by kernel_rfl) (fun _ _ _ h => by exact h) (Or.inl ⟨by rfl, ?_⟩) (by assumption) ?_
      rotate_left
      · (intro w hSw; (try dsimp only at hSw); go_simp; (try with_reducible rfl))
      try simp only [Act.put, List.setIfInBounds_toArray, List.set_cons_zero, List.set_cons_succ]
      refine wpAnyH_take (i := 6) (oi := _) (v := ?_) (by rw [List.getElem?_toArray]; rfl) (by kernel_rfl) (by kernel_rfl) (by kernel_rfl) (fun _ _ _ h => by exact h) (Or.inl ⟨by rfl, ?_⟩) (by assumption) ?_
      rotate_left
      · (intro w hSw; (try dsimp only at hSw); go_simp; (try with_reducible rfl))
      try simp only [Act.put, List.setIfInBounds_toArray, List.set_cons_zero, List.set_cons_succ]
      refine wpAnyH_take (i := 7) (oi := _) (v := ?_) (by rw [List.getElem?_toArray]; rfl) (by kernel_rfl) (by kernel_rfl) (by kernel_rfl) (fun _ _ _ h => by exact h) (Or.inl ⟨by rfl, ?_⟩) (by assumption) ?_
      rotate_left
      · (intro w hSw; (try dsimp only at hSw); go_simp; (try with_reducible rfl))
      try simp only [Act.put, List.setIfInBounds_toArray, List.set_cons_zero, List.set_cons_succ]
      refine wpAnyH_take (i := 8) (oi := _) (v := ?_) (by rw [List.getElem?_toArray]; rfl) (by kernel_rfl) (by kernel_rfl) (by kernel_rfl) (fun _ _ _ h => by exact h) (Or.inl ⟨by rfl, ?_⟩) (by assumption) ?_
      rotate_left
      · (intro w hSw; (try dsimp only at hSw); go_simp; (try with_reducible rfl))
      try simp only [Act.put, List.setIfInBounds_toArray, List.set_cons_zero, List.set_cons_succ]
      refine wpAnyH_take (i := 9) (oi := _) (v := ?_) (by rw [List.getElem?_toArray]; rfl) (by kernel_rfl) (by kernel_rfl) (by kernel_rfl) (fun _ _ _ h => by exact h) (Or.inl ⟨by rfl, ?_⟩) (by assumption) ?_
      rotate_left
      · (intro w hSw; (try dsimp only at hSw); have q0 := hSw; go_simp; (try with_reducible rfl))
      try simp only [Act.put, List.setIfInBounds_toArray, List.set_cons_zero, List.set_cons_succ]
      refine wpAnyH_take (i := 10) (oi := _) (v := ?_) (by rw [List.getElem?_toArray]; rfl) (by kernel_rfl) (by kernel_rfl) (by kernel_rfl) (fun _ _ _ h => by exact h) (Or.inl ⟨by rfl, ?_⟩) (by assumption) ?_
      rotate_left
      · (intro w hSw; (try dsimp only at hSw); go_simp; (try with_reducible rfl))
      try simp only [Act.put, List.setIfInBounds_toArray, List.set_cons_zero, List.set_cons_succ]
      refine wpAnyH_take (i := 11) (oi := _) (v := ?_) (by rw [List.getElem?_toArray]; rfl) (by kernel_rfl) (by kernel_rfl) (by kernel_rfl) (fun _ _ _ h => by exact h) (Or.inl ⟨by rfl, ?_⟩) (by assumption) ?_
      rotate_left
      · (intro w hSw; (try dsimp only at hSw); go_simp; (try with_reducible rfl))
      try simp only [Act.put, List.setIfInBounds_toArray, List.set_cons_zero, List.set_cons_succ]
      refine wpAnyH_take (i := 13) (oi := _) (v := ?_) (by rw [List.getElem?_toArray]; rfl) (by kernel_rfl) (by kernel_rfl) (by kernel_rfl) (fun _ _ _ h => by exact h) (Or.inl ⟨by rfl, ?_⟩) (by assumption) ?_
      rotate_left
      · (intro w hSw; (try dsimp only at hSw); go_simp; (try with_reducible rfl))
      try simp only [Act.put, List.setIfInBounds_toArray, List.set_cons_zero, List.set_cons_succ]
      refine wpAnyH_take (i := 14) (oi := _) (v := ?_) (by rw [List.getElem?_toArray]; rfl) (by kernel_rfl) (by kernel_rfl) (by kernel_rfl) (fun _ _ _ h => by exact h) (Or.inl ⟨by rfl, ?_⟩) (by assumption) ?_
      rotate_left
      · (intro w hSw; (try dsimp only at hSw); go_simp; (try with_reducible rfl))
      try simp only [Act.put, List.setIfInBounds_toArray, List.set_cons_zero, List.set_cons_succ]
      refine wpAnyH_take (i := 15) (oi := _) (v := ?_) (by rw [List.getElem?_toArray]; rfl) (by kernel_rfl) (by kernel_rfl) (by kernel_rfl) (fun _ _ _ h => by exact h) (Or.inl ⟨by rfl, ?_⟩) (by assumption) ?_
      rotate_left
      · (intro w hSw; (try dsimp only at hSw); go_simp; (try with_reducible rfl))
      try simp only [Act.put, List.setIfInBounds_toArray, List.set_cons_zero, List.set_cons_succ]
      refine wpAnyH_ready (rs := [4, 16]) (by kernel_rfl) (by simp) ?_
      refine AllReadyH.cons (o := _) (by rw [List.getElem?_toArray]; rfl) (fun K hK => ?_) ?_
      · have lc := (HL3.out.fr ((Fr.refl (fun _ => False) w3).drew) (by simp) (by simp)).c3
        rw [HV.out] at lc
        go_simp
        clear lc
        refine hK.out _ _ (HL3.out.fr ((Fr.refl (fun _ => False) w3).drew) (by simp) (by simp)).c0 (fun hHeld => ?_)
        clear hK K
        try simp only [Act.put, List.setIfInBounds_toArray, List.set_cons_zero, List.set_cons_succ]
        refine wpAnyH_take (i := 12) (oi := _) (v := ?_) (by rw [List.getElem?_toArray]; rfl) (by kernel_rfl) (by kernel_rfl) (by kernel_rfl) (fun _ _ _ h => by exact h) (Or.inl ⟨by rfl, ?_⟩) (by assumption) ?_
        rotate_left
        · (intro w hSw; (try dsimp only at hSw); go_simp; (try with_reducible rfl))
        try simp only [Act.put, List.setIfInBounds_toArray, List.set_cons_zero, List.set_cons_succ]
        refine wpAnyH_ready (rs := [16]) (by kernel_rfl) (by simp) ?_
        refine AllReadyH.cons (o := _) (by rw [List.getElem?_toArray]; rfl) (fun K hK => ?_) ?_
        · go_simp
          go_wp2_with (go_at_call 26; refine (KC.out _ ((Fr.refl (fun _ => False) w3).drew)).mono ?_; rintro e w5 ⟨vy, ys, rfl, hoy, hpy, f5⟩)
          obtain ⟨ay, cy, hvy, hry, hay⟩ := hoy.row
          subst hvy
          have HYL : Hid (ys.length = cs.length - n) := (show _ = _ by have := congrArg List.length hpy; simpa using this)
          obtain ⟨yb, yo, hay2, _, _⟩ := hry.2.2.2.2 (fun e => by rw [e] at HYL; have := HYL.out; simp at this; omega)
          subst hay2
          have HOY : Hid (OwnE w5 _ (.slice (some ⟨yb, yo, none⟩) ys.length cy) ys) := hoy
          have HRY : Hid (∀ j u, (flat ys)[j]? = some u → w5.cell? ((⟨yb, yo, none⟩ : Addr).add j) = some u) := hry.cells
          have HPY : Hid (ys.map En.p = (cs.drop n).map En.p) := hpy
          have G5 : Hid (Fr (fun _ => False) w3 w5) := (((Fr.refl (fun _ => False) w3).drew)).trans f5
          clear hoy hpy hry hay f5
          refine hK.out _ _ (HL3.out.fr G5.out (by simp) (by simp)).c0 (fun hHeld => ?_)
          clear hK K
          try simp only [Act.put, List.setIfInBounds_toArray, List.set_cons_zero, List.set_cons_succ]
          refine wpAnyH_ready (rs := [17]) (by kernel_rfl) (by simp) ?_
          refine AllReadyH.cons (o := _) (by rw [List.getElem?_toArray]; rfl) (fun K hK => ?_) ?_
          · obtain ⟨v7, w7, hrun, ho7, hf7⟩ := HApp.out w5 ys yb yo cy G5.out HOY.out HRY.out (by have := HYL.out; omega)
            refine step_append_eq rfl (.tmp 44) (.tmp 48) 28 rfl hrun rfl rfl ?_
            obtain ⟨a7, c7, hv7, _⟩ := ho7.form
            subst hv7
            obtain ⟨zs, Hzs⟩ : ∃ zs, Hid (es.take m ++ ys = zs) := ⟨_, rfl⟩
            rw [Hzs.out] at ho7
            have HO7 : Hid (OwnE w7 D (.slice a7 zs.length c7) zs) := ho7
            have HF7 : Hid (Fr (fun k => v.ownBlock = some k) w5 w7) := hf7
            rw [Hzs.out]
            have HL5 : Hid (Lg w5 gb D base term voters es v) := HL3.out.fr G5.out (by simp) (by simp)
            clear hrun ho7 hf7
            refine hK.out _ _ (HF7.out.cell HL5.out.c0 HAT.out) (fun hHeld => ?_)
            clear hK K
            try simp only [Act.put, List.setIfInBounds_toArray, List.set_cons_zero, List.set_cons_succ]
            refine wpAnyH_take (i := 18) (oi := _) (v := ?_) (by rw [List.getElem?_toArray]; rfl) (by kernel_rfl) (by kernel_rfl) (by kernel_rfl) (fun _ _ _ h => by exact h) (Or.inl ⟨by rfl, ?_⟩) (by assumption) ?_
            rotate_left
            · (intro w hSw; (try dsimp only at hSw); go_simp; (try with_reducible rfl))
            try simp only [Act.put, List.setIfInBounds_toArray, List.set_cons_zero, List.set_cons_succ]
            refine wpAnyH_take (i := 19) (oi := _) (v := ?_) (by rw [List.getElem?_toArray]; rfl) (by kernel_rfl) (by kernel_rfl) (by kernel_rfl) (fun _ _ _ h => by exact h) (Or.inl ⟨by rfl, ?_⟩) (by assumption) ?_
            rotate_left
            · (intro w hSw; (try dsimp only at hSw); go_simp; (try with_reducible rfl))
            try simp only [Act.put, List.setIfInBounds_toArray, List.set_cons_zero, List.set_cons_succ]
            refine wpAnyH_ready (rs := [20]) (by kernel_rfl) (by simp) ?_
            refine AllReadyH.cons (o := _) (by rw [List.getElem?_toArray]; rfl) (fun K hK => ?_) ?_
            · have lc := HF7.out.cell HL5.out.c3 HAT.out
              have lz := (HF7.out.frozenEq (a := ⟨gb, 3, none⟩) HL5.out.lt HAT.out).trans HL5.out.z3
              rw [HV.out] at lc
              go_simp
              clear lc lz
              refine hK.out _ _ ((World.cell?_setCell_other _ _ _ _ (by simp)).trans (HF7.out.cell HL5.out.c0 HAT.out)) (fun hHeld => ?_)
              clear hK K
              try simp only [Act.put, List.setIfInBounds_toArray, List.set_cons_zero, List.set_cons_succ]
              refine wpAnyH_done (by kernel_rfl) ?_ _
              go_wp2
              go_ret
              refine HFI.out _ _ ⟨rfl, ⟨.slice a7 zs.length c7, ys, ?_, HPY.out⟩, ?_⟩
              · rw [Hzs.out]; exact lg_put HL5.out HO7.out HF7.out
              · exact (Fr.trans (Fr.mono (T := fun k => k = gb ∨ v.ownBlock = some k) (F3.out.trans G5.out) (fun _ _ h => h.elim)) (HF7.out.mono (fun _ _ h => Or.inr h))).setCell (p := ⟨gb, 3, none⟩) (Or.inl (Or.inl rfl)) _
            exact AllReadyH.nil
          exact AllReadyH.nil
        exact AllReadyH.nil
      refine AllReadyH.cons (o := _) (by rw [List.getElem?_toArray]; rfl) (fun K hK => ?_) ?_
      · go_simp
        go_wp2_with (go_at_call 26; refine (KC.out _ ((Fr.refl (fun _ => False) w3).drew)).mono ?_; rintro e w5 ⟨vy, ys, rfl, hoy, hpy, f5⟩)
        obtain ⟨ay, cy, hvy, hry, hay⟩ := hoy.row
        subst hvy
        have HYL : Hid (ys.length = cs.length - n) := (show _ = _ by have := congrArg List.length hpy; simpa using this)
        obtain ⟨yb, yo, hay2, _, _⟩ := hry.2.2.2.2 (fun e => by rw [e] at HYL; have := HYL.out; simp at this; omega)
        subst hay2
        have HOY : Hid (OwnE w5 _ (.slice (some ⟨yb, yo, none⟩) ys.length cy) ys) := hoy
        have HRY : Hid (∀ j u, (flat ys)[j]? = some u → w5.cell? ((⟨yb, yo, none⟩ : Addr).add j) = some u) := hry.cells
        have HPY : Hid (ys.map En.p = (cs.drop n).map En.p) := hpy
        have G5 : Hid (Fr (fun _ => False) w3 w5) := (((Fr.refl (fun _ => False) w3).drew)).trans f5
        clear hoy hpy hry hay f5
        refine hK.out _ _ (HL3.out.fr G5.out (by simp) (by simp)).c0 (fun hHeld => ?_)
        clear hK K
        try simp only [Act.put, List.setIfInBounds_toArray, List.set_cons_zero, List.set_cons_succ]
        refine wpAnyH_ready (rs := [4]) (by kernel_rfl) (by simp) ?_
        refine AllReadyH.cons (o := _) (by rw [List.getElem?_toArray]; rfl) (fun K hK => ?_) ?_
        · have lc := (HL3.out.fr G5.out (by simp) (by simp)).c3
          rw [HV.out] at lc
          go_simp
          clear lc
          refine hK.out _ _ (HL3.out.fr G5.out (by simp) (by simp)).c0 (fun hHeld => ?_)
          clear hK K
          try simp only [Act.put, List.setIfInBounds_toArray, List.set_cons_zero, List.set_cons_succ]
          refine wpAnyH_take (i := 12) (oi := _) (v := ?_) (by rw [List.getElem?_toArray]; rfl) (by kernel_rfl) (by kernel_rfl) (by kernel_rfl) (fun _ _ _ h => by exact h) (Or.inl ⟨by rfl, ?_⟩) (by assumption) ?_
          rotate_left
          · (intro w hSw; (try dsimp only at hSw); go_simp; (try with_reducible rfl))
          try simp only [Act.put, List.setIfInBounds_toArray, List.set_cons_zero, List.set_cons_succ]
          refine wpAnyH_ready (rs := [17]) (by kernel_rfl) (by simp) ?_
          refine AllReadyH.cons (o := _) (by rw [List.getElem?_toArray]; rfl) (fun K hK => ?_) ?_
          · obtain ⟨v7, w7, hrun, ho7, hf7⟩ := HApp.out w5 ys yb yo cy G5.out HOY.out HRY.out (by have := HYL.out; omega)
            refine step_append_eq rfl (.tmp 44) (.tmp 48) 28 rfl hrun rfl rfl ?_
            obtain ⟨a7, c7, hv7, _⟩ := ho7.form
            subst hv7
            obtain ⟨zs, Hzs⟩ : ∃ zs, Hid (es.take m ++ ys = zs) := ⟨_, rfl⟩
            rw [Hzs.out] at ho7
            have HO7 : Hid (OwnE w7 D (.slice a7 zs.length c7) zs) := ho7
            have HF7 : Hid (Fr (fun k => v.ownBlock = some k) w5 w7) := hf7
            rw [Hzs.out]
            have HL5 : Hid (Lg w5 gb D base term voters es v) := HL3.out.fr G5.out (by simp) (by simp)
            clear hrun ho7 hf7
            refine hK.out _ _ (HF7.out.cell HL5.out.c0 HAT.out) (fun hHeld => ?_)
            clear hK K
            try simp only [Act.put, List.setIfInBounds_toArray, List.set_cons_zero, List.set_cons_succ]
            refine wpAnyH_take (i := 18) (oi := _) (v := ?_) (by rw [List.getElem?_toArray]; rfl) (by kernel_rfl) (by kernel_rfl) (by kernel_rfl) (fun _ _ _ h => by exact h) (Or.inl ⟨by rfl, ?_⟩) (by assumption) ?_
            rotate_left
            · (intro w hSw; (try dsimp only at hSw); go_simp; (try with_reducible rfl))
            try simp only [Act.put, List.setIfInBounds_toArray, List.set_cons_zero, List.set_cons_succ]
            refine wpAnyH_take (i := 19) (oi := _) (v := ?_) (by rw [List.getElem?_toArray]; rfl) (by kernel_rfl) (by kernel_rfl) (by kernel_rfl) (fun _ _ _ h => by exact h) (Or.inl ⟨by rfl, ?_⟩) (by assumption) ?_
            rotate_left
            · (intro w hSw; (try dsimp only at hSw); go_simp; (try with_reducible rfl))
            try simp only [Act.put, List.setIfInBounds_toArray, List.set_cons_zero, List.set_cons_succ]
            refine wpAnyH_ready (rs := [20]) (by kernel_rfl) (by simp) ?_
            refine AllReadyH.cons (o := _) (by rw [List.getElem?_toArray]; rfl) (fun K hK => ?_) ?_
            · have lc := HF7.out.cell HL5.out.c3 HAT.out
              have lz := (HF7.out.frozenEq (a := ⟨gb, 3, none⟩) HL5.out.lt HAT.out).trans HL5.out.z3
              rw [HV.out] at lc
              go_simp
              clear lc lz
              refine hK.out _ _ ((World.cell?_setCell_other _ _ _ _ (by simp)).trans (HF7.out.cell HL5.out.c0 HAT.out)) (fun hHeld => ?_)
              clear hK K
              try simp only [Act.put, List.setIfInBounds_toArray, List.set_cons_zero, List.set_cons_succ]
              refine wpAnyH_done (by kernel_rfl) ?_ _
              go_wp2
              go_ret
              refine HFI.out _ _ ⟨rfl, ⟨.slice a7 zs.length c7, ys, ?_, HPY.out⟩, ?_⟩
              · rw [Hzs.out]; exact lg_put HL5.out HO7.out HF7.out
              · exact (Fr.trans (Fr.mono (T := fun k => k = gb ∨ v.ownBlock = some k) (F3.out.trans G5.out) (fun _ _ h => h.elim)) (HF7.out.mono (fun _ _ h => Or.inr h))).setCell (p := ⟨gb, 3, none⟩) (Or.inl (Or.inl rfl)) _
            exact AllReadyH.nil
          exact AllReadyH.nil
        exact AllReadyH.nil
      exact AllReadyH.nil
end
end Go.Proofs.Ytkkpdnholnkeoab
