/- The program's Compact. -/
import Derived.Test.YtkkpdnholnkeoabVf
namespace Go.Proofs.Ytkkpdnholnkeoab
open Go.RowKit

theorem vtold_lt (base voters : Nat) (es : List En) (upTo : Nat) (hv : voters < 18446744073709551616) (hes : ∀ x ∈ es, ∀ y ∈ x.d, y < 256) : (vtold base voters es upTo).1 < 18446744073709551616 := by
  unfold vtold
  split
  · rename_i x hx
    exact mask_lt _ (hes x (by have := List.mem_of_find?_eq_some hx; simpa using this))
  · exact hv
theorem termAt_take (base term : Nat) (es : List En) (m : Nat) (hm : m ≤ es.length) : termAt base term es (base + m) = some (lastT term (es.take m)) := by
  cases m with
  | zero => simp [termAt, lastT]
  | succ m =>
    unfold termAt
    rw [if_neg (by omega), if_pos (by omega), show base + (m + 1) - base - 1 = m by omega, lastT_take _ _ _ (by omega)]
section
variable {w w1 : World} {gb : Nat} {D : Nat → Prop} {base term voters : Nat} {es : List En} {v : Value}
set_option maxHeartbeats 400000 in
theorem compact_no (h : Lg w gb D base term voters es v) (hb : base + es.length < 18446744073709551616) (i : Nat) (hi : i < base ∨ base + es.length < i) :
    Calls Try.prog 20 #[.pointer (some ⟨gb, 0, none⟩), .int .u64 (i : Int)] w fun e w' => e = .returned (.int .i64 1) ∧ ∃ n, w' = w.drewN n := by
  have K : Hid (Calls _ _ _ _ _) := term_no h hb i hi
  clear h hb hi
  go_enter Try.func20, Try.ntmps20
  go_wp2_with fail
  refine K.out.mono ?_
  rintro e w1 ⟨rfl, n, rfl⟩
  go_wp2
  go_ret
  exact ⟨rfl, n, rfl⟩
theorem ERow.all {w : World} {R D : Nat → Prop} {ao : Option Addr} {es : List En} {cap : Nat} (h : ERow w R D ao es cap) (hR : ∀ k, R k → k < w.heap.size ∧ D k) : ERow w (fun k => k < w.heap.size ∧ D k) (fun k => k < w.heap.size ∧ D k) ao es cap := by
  refine ⟨h.1, h.2.1, h.2.2.1, fun x hx => (h.2.2.2.1 x hx).mono (fun k hk hd => ⟨hk, hd⟩), fun hne => ?_⟩
  obtain ⟨b, off, he, hb, hc⟩ := h.2.2.2.2 hne
  exact ⟨b, off, he, hR b hb, hc⟩
/-- what is left of a row, cut at its front. -/
def restA (ao : Option Addr) (cap m : Nat) : Option Addr := ao.map fun a => if cap = m then a else a.add (m * 4)
set_option maxRecDepth 100000 in
set_option maxHeartbeats 2000000 in
theorem compact_ok (h : Lg w gb D base term voters es v) (hb : base + es.length < 18446744073709551616) (hlen : es.length ≤ 100000) (hnew : ∀ k, w.heap.size ≤ k → D k) (m : Nat) (hm : m ≤ es.length) (i : Nat) (hi : i = base + m) :
    Calls Try.prog 20 #[.pointer (some ⟨gb, 0, none⟩), .int .u64 (i : Int)] w fun e w' => e = .returned (.int .i64 0) ∧ (∃ v', Lg w' gb D i (lastT term (es.take m)) (vtold base voters es i).1 (es.drop m) v') ∧ Fr (fun k => k = gb) w w' := by
  have K := term_any h hb i
  rw [hi, termAt_take _ _ _ _ hm, ← hi] at K
  have K : Hid (Calls _ _ _ _ _) := K
  obtain ⟨ao, cap, hv, hr, hao⟩ := h.own.row
  subst hv
  have hrl := hr.len
  have HL : Hid (Lg w gb D base term voters es (.slice ao es.length cap)) := h
  have c0 := h.c0
  have c3 := h.c3
  have ht : lastT term (es.take m) < 18446744073709551616 := by
    have hx : ∀ x ∈ es.take m, x.t < 18446744073709551616 := fun x hx => (h.own.each x (List.mem_of_mem_take hx)).t
    unfold lastT
    by_cases he : es.take m = []
    · rw [if_pos he]; exact h.b1
    · rw [if_neg he]
      have : 0 < (es.take m).length := List.length_pos_iff.2 he
      exact hx _ (getD_mem (by omega))
  have hvt : (vtold base voters es i).1 < 18446744073709551616 := vtold_lt _ _ _ _ h.b2 (fun x hx => (h.own.each x hx).row.2.2.1)
  obtain ⟨t, Ht⟩ : ∃ t, Hid (lastT term (es.take m) = t) := ⟨_, rfl⟩
  obtain ⟨vt, Hvt⟩ : ∃ vt, Hid ((vtold base voters es i).1 = vt) := ⟨_, rfl⟩
  have KV : Hid (∀ n, Calls Try.prog 32 #[.pointer (some ⟨gb, 0, none⟩), .int .u64 (i : Int)] (w.drewN n) fun e w' => e = .returned (.int .u64 (vt : Int)) ∧ Fr (fun _ => False) (w.drewN n) w') := fun n => by
    have := votersAt_any (h.drewN n) i
    rw [Hvt.out] at this
    exact this
  rw [Ht.out] at K ht ⊢
  rw [Hvt.out] at hvt ⊢
  have hRlt : ∀ k, (Value.slice ao es.length cap).ownBlock = some k → k < w.heap.size := h.own.lt
  have e1 : (i : Int) - (base : Int) = (m : Int) := by omega
  have e2 : (0 : Int) ≤ (m : Int) := by omega
  have e3 : (m : Int) ≤ (es.length : Int) := by omega
  have e4 : (es.length : Int) ≤ (cap : Int) := by omega
  have e5 : (m : Int) ≤ (cap : Int) := by omega
  have hrest : ERow w (fun k => k < w.heap.size ∧ D k) (fun k => k < w.heap.size ∧ D k) (restA ao cap m) (es.drop m) (cap - m) := by
    have hr2 : ERow w (fun k => (Value.slice ao es.length cap).ownBlock = some k) D ao es cap := ⟨hr.1, hr.2.1, hr.2.2.1, fun x hx => (hr.2.2.2.1 x hx).mono (fun k _ hd => hd.1), hr.2.2.2.2⟩
    have ha := hr2.all (fun k hk => ⟨hRlt k hk, HL.out.own.blk k hk⟩)
    by_cases hml : m < es.length
    · obtain ⟨b, off, x, he, _⟩ := hr.at hml
      subst he
      have := ha.drop m hm
      rw [show restA (some ⟨b, off, none⟩) cap m = some ⟨b, off + m * 4, none⟩ by simp [restA, show ¬ cap = m by omega]; unfold Addr.add; split <;> simp_all]
      exact this
    · have : es.drop m = [] := List.drop_eq_nil_of_le (by omega)
      rw [this]
      refine ⟨Nat.zero_le _, Nat.le_trans (Nat.sub_le _ _) hr.2.1, fun h => ?_, by simp, fun h => absurd rfl h⟩
      have : ao = none := by cases ao; rfl; simp [restA] at h
      have := hr.2.2.1 this
      omega
  have HRS : Hid (ERow w (fun k => k < w.heap.size ∧ D k) (fun k => k < w.heap.size ∧ D k) (restA ao cap m) (es.drop m) (cap - m)) := hrest
  have hdl : (es.drop m).length = es.length - m := by simp
  have HDL : Hid ((es.drop m).length = es.length - m) := hdl
  have HN : Hid (∀ k, w.heap.size ≤ k → D k) := hnew
  have hi64 : i < 18446744073709551616 := by omega
  have hgl := h.lt
  clear h hr hb hi hao hrest hnew hdl
  go_enter Try.func20, Try.ntmps20
  go_wp2_with fail
  refine K.out.mono ?_
  rintro e w1 ⟨rfl, n, rfl⟩
  simp only [tOf]
  have y0 : (w.drewN n).cell? ⟨gb, 0, none⟩ = some (.int .u64 (base : Int)) := c0
  have y3 : (w.drewN n).cell? ⟨gb, 3, none⟩ = some (.slice ao es.length cap) := c3
  cases ao with
  | none =>
    go_wp2_with fail
    go_quiet (fail)
    go_wp2_with fail
    refine (KV.out _).mono ?_
    rintro e w2 ⟨rfl, f2⟩
    have f02 : Fr (fun _ => False) w w2 := ((Fr.refl _ w).drewN _).trans f2
    have g2 := HL.out.fr f02 (by simp) (by simp)
    have KR : Hid (Calls _ _ _ _ _) := reset_any g2 i t vt (.slice none 0 0) hi64 ht hvt
    have HF02 : Hid (Fr (fun _ => False) w w2) := f02
    have hgl2 : gb < w2.heap.size := g2.lt
    clear f2 f02 g2
    go_wp2_with fail
    refine KR.out.mono ?_
    rintro e w3 ⟨rfl, g3, f3⟩
    have HF3 : Hid (Fr (fun k => k = gb) w w3) := (HF02.out.mono (fun _ _ h => h.elim)).trans f3
    have hgl3 : gb < w3.heap.size := g3.lt
    have HAP : Hid (¬ D gb) := g3.apart
    have hr3 : ERow w3 (fun _ => True) (fun k => k < w.heap.size ∧ D k) (none) (es.drop m) (cap - m) := by
      have h1 := HRS.out
      rw [show restA none cap m = none from rfl] at h1
      have h3 := h1.fr HF3.out (fun k hk e => HAP.out (e ▸ hk.2)) (fun k hk e => HAP.out (e ▸ hk.2))
      exact ⟨h3.1, h3.2.1, h3.2.2.1, h3.2.2.2.1, fun hne => by obtain ⟨b, off, he, _, hc⟩ := h3.2.2.2.2 hne; exact ⟨b, off, he, trivial, hc⟩⟩
    have KC : Hid (Calls Try.prog 37 #[.slice (none) (es.length - m) (cap - m)] w3 fun e w' => ∃ v, e = .returned v ∧ OwnE w' (fun k => (k < w.heap.size ∧ D k) ∨ w3.heap.size ≤ k) v (es.drop m) ∧ (∀ k, v.ownBlock = some k → w3.heap.size ≤ k) ∧ Fr (fun _ => False) w3 w') := by
      have := cloneE_any (none) (es.drop m) (cap - m) w3 _ _ hr3 (fun k hk => by have := HF3.out.size; omega) (by have := HDL.out; omega)
      rwa [HDL.out] at this
    have HG3 : Hid (Lg w3 gb D i t vt [] (.slice none 0 0)) := g3
    clear g3 f3 hr3 KR
    go_wp2_with fail
    refine KC.out.mono ?_
    rintro e w4 ⟨v4, rfl, ho4, hb4, f4⟩
    obtain ⟨a4, c4, hv4, _⟩ := ho4.form
    subst hv4
    have g4 := HG3.out.fr f4 (by simp) (by simp)
    have d3 := g4.c3
    have z3 := g4.z3
    have HG4 : Hid (Lg w4 gb D i t vt [] (.slice none 0 0)) := g4
    have HO4 : Hid _ := ho4
    have HF4 : Hid (Fr (fun k => k = gb) w w4) := HF3.out.trans (f4.mono (fun _ _ h => h.elim))
    have hs3 := HF3.out.size
    have HS3 : Hid (w.heap.size ≤ w3.heap.size) := hs3
    clear g4 f4 ho4 hb4 hs3
    go_wp2
    go_ret
    have fs := (Fr.refl (fun b => b = gb) w4).setCell (p := ⟨gb, 3, none⟩) (Or.inl rfl) (.slice a4 (es.drop m).length c4)
    have hlen4 : (es.drop m).length = es.length - m := HDL.out
    refine ⟨rfl, ⟨.slice a4 (es.drop m).length c4, ⟨?_, ?_, ?_, ?_, ?_, ?_, ?_, ?_, ?_, HG4.out.apart, hi64, ht, hvt⟩⟩, ?_⟩
    · rw [← hlen4]; exact (World.cell?_setCell_other _ _ _ _ (by simp)).trans HG4.out.c0
    · rw [← hlen4]; exact (World.cell?_setCell_other _ _ _ _ (by simp)).trans HG4.out.c1
    · rw [← hlen4]; exact (World.cell?_setCell_other _ _ _ _ (by simp)).trans HG4.out.c2
    · rw [← hlen4]; exact World.cell?_setCell_same _ _ _ d3
    · rw [← hlen4]; simpa using HG4.out.z0
    · rw [← hlen4]; simpa using HG4.out.z1
    · rw [← hlen4]; simpa using HG4.out.z2
    · rw [← hlen4]; simpa using z3
    · rw [← hlen4]; exact (HO4.out.mono (E := D) (fun k hk hd => by rcases hd with h | h; exact h.2; exact HN.out k (by have := HS3.out; omega))).fr fs (fun k hk e => HAP.out (e ▸ hk))
    · rw [← hlen4]; exact HF4.out.setCell (p := ⟨gb, 3, none⟩) (Or.inl rfl) _
  | some a =>
    by_cases hcm : cap = m
    · go_wp2_with fail
      go_quiet (fail)
      go_wp2_with fail
      refine (KV.out _).mono ?_
      rintro e w2 ⟨rfl, f2⟩
      have f02 : Fr (fun _ => False) w w2 := ((Fr.refl _ w).drewN _).trans f2
      have g2 := HL.out.fr f02 (by simp) (by simp)
      have KR : Hid (Calls _ _ _ _ _) := reset_any g2 i t vt (.slice none 0 0) hi64 ht hvt
      have HF02 : Hid (Fr (fun _ => False) w w2) := f02
      have hgl2 : gb < w2.heap.size := g2.lt
      clear f2 f02 g2
      go_wp2_with fail
      refine KR.out.mono ?_
      rintro e w3 ⟨rfl, g3, f3⟩
      have HF3 : Hid (Fr (fun k => k = gb) w w3) := (HF02.out.mono (fun _ _ h => h.elim)).trans f3
      have hgl3 : gb < w3.heap.size := g3.lt
      have HAP : Hid (¬ D gb) := g3.apart
      have hr3 : ERow w3 (fun _ => True) (fun k => k < w.heap.size ∧ D k) (some a) (es.drop m) (0) := by
        have h1 := HRS.out
        rw [show restA (some a) cap m = some a by simp [restA, hcm], show cap - m = 0 by omega] at h1
        have h3 := h1.fr HF3.out (fun k hk e => HAP.out (e ▸ hk.2)) (fun k hk e => HAP.out (e ▸ hk.2))
        exact ⟨h3.1, h3.2.1, h3.2.2.1, h3.2.2.2.1, fun hne => by obtain ⟨b, off, he, _, hc⟩ := h3.2.2.2.2 hne; exact ⟨b, off, he, trivial, hc⟩⟩
      have KC : Hid (Calls Try.prog 37 #[.slice (some a) (es.length - m) (0)] w3 fun e w' => ∃ v, e = .returned v ∧ OwnE w' (fun k => (k < w.heap.size ∧ D k) ∨ w3.heap.size ≤ k) v (es.drop m) ∧ (∀ k, v.ownBlock = some k → w3.heap.size ≤ k) ∧ Fr (fun _ => False) w3 w') := by
        have := cloneE_any (some a) (es.drop m) (0) w3 _ _ hr3 (fun k hk => by have := HF3.out.size; omega) (by have := HDL.out; omega)
        rwa [HDL.out] at this
      have HG3 : Hid (Lg w3 gb D i t vt [] (.slice none 0 0)) := g3
      clear g3 f3 hr3 KR
      go_wp2_with fail
      refine KC.out.mono ?_
      rintro e w4 ⟨v4, rfl, ho4, hb4, f4⟩
      obtain ⟨a4, c4, hv4, _⟩ := ho4.form
      subst hv4
      have g4 := HG3.out.fr f4 (by simp) (by simp)
      have d3 := g4.c3
      have z3 := g4.z3
      have HG4 : Hid (Lg w4 gb D i t vt [] (.slice none 0 0)) := g4
      have HO4 : Hid _ := ho4
      have HF4 : Hid (Fr (fun k => k = gb) w w4) := HF3.out.trans (f4.mono (fun _ _ h => h.elim))
      have hs3 := HF3.out.size
      have HS3 : Hid (w.heap.size ≤ w3.heap.size) := hs3
      clear g4 f4 ho4 hb4 hs3
      go_wp2
      go_ret
      have fs := (Fr.refl (fun b => b = gb) w4).setCell (p := ⟨gb, 3, none⟩) (Or.inl rfl) (.slice a4 (es.drop m).length c4)
      have hlen4 : (es.drop m).length = es.length - m := HDL.out
      refine ⟨rfl, ⟨.slice a4 (es.drop m).length c4, ⟨?_, ?_, ?_, ?_, ?_, ?_, ?_, ?_, ?_, HG4.out.apart, hi64, ht, hvt⟩⟩, ?_⟩
      · rw [← hlen4]; exact (World.cell?_setCell_other _ _ _ _ (by simp)).trans HG4.out.c0
      · rw [← hlen4]; exact (World.cell?_setCell_other _ _ _ _ (by simp)).trans HG4.out.c1
      · rw [← hlen4]; exact (World.cell?_setCell_other _ _ _ _ (by simp)).trans HG4.out.c2
      · rw [← hlen4]; exact World.cell?_setCell_same _ _ _ d3
      · rw [← hlen4]; simpa using HG4.out.z0
      · rw [← hlen4]; simpa using HG4.out.z1
      · rw [← hlen4]; simpa using HG4.out.z2
      · rw [← hlen4]; simpa using z3
      · rw [← hlen4]; exact (HO4.out.mono (E := D) (fun k hk hd => by rcases hd with h | h; exact h.2; exact HN.out k (by have := HS3.out; omega))).fr fs (fun k hk e => HAP.out (e ▸ hk))
      · rw [← hlen4]; exact HF4.out.setCell (p := ⟨gb, 3, none⟩) (Or.inl rfl) _
    · go_wp2_with fail
      go_quiet (fail)
      go_wp2_with fail
      refine (KV.out _).mono ?_
      rintro e w2 ⟨rfl, f2⟩
      have f02 : Fr (fun _ => False) w w2 := ((Fr.refl _ w).drewN _).trans f2
      have g2 := HL.out.fr f02 (by simp) (by simp)
      have KR : Hid (Calls _ _ _ _ _) := reset_any g2 i t vt (.slice none 0 0) hi64 ht hvt
      have HF02 : Hid (Fr (fun _ => False) w w2) := f02
      have hgl2 : gb < w2.heap.size := g2.lt
      clear f2 f02 g2
      go_wp2_with fail
      refine KR.out.mono ?_
      rintro e w3 ⟨rfl, g3, f3⟩
      have HF3 : Hid (Fr (fun k => k = gb) w w3) := (HF02.out.mono (fun _ _ h => h.elim)).trans f3
      have hgl3 : gb < w3.heap.size := g3.lt
      have HAP : Hid (¬ D gb) := g3.apart
      have hr3 : ERow w3 (fun _ => True) (fun k => k < w.heap.size ∧ D k) (some (a.add (m * 4))) (es.drop m) (cap - m) := by
        have h1 := HRS.out
        rw [show restA (some a) cap m = some (a.add (m * 4)) by simp [restA, hcm]] at h1
        have h3 := h1.fr HF3.out (fun k hk e => HAP.out (e ▸ hk.2)) (fun k hk e => HAP.out (e ▸ hk.2))
        exact ⟨h3.1, h3.2.1, h3.2.2.1, h3.2.2.2.1, fun hne => by obtain ⟨b, off, he, _, hc⟩ := h3.2.2.2.2 hne; exact ⟨b, off, he, trivial, hc⟩⟩
      have KC : Hid (Calls Try.prog 37 #[.slice (some (a.add (m * 4))) (es.length - m) (cap - m)] w3 fun e w' => ∃ v, e = .returned v ∧ OwnE w' (fun k => (k < w.heap.size ∧ D k) ∨ w3.heap.size ≤ k) v (es.drop m) ∧ (∀ k, v.ownBlock = some k → w3.heap.size ≤ k) ∧ Fr (fun _ => False) w3 w') := by
        have := cloneE_any (some (a.add (m * 4))) (es.drop m) (cap - m) w3 _ _ hr3 (fun k hk => by have := HF3.out.size; omega) (by have := HDL.out; omega)
        rwa [HDL.out] at this
      have HG3 : Hid (Lg w3 gb D i t vt [] (.slice none 0 0)) := g3
      clear g3 f3 hr3 KR
      go_wp2_with fail
      refine KC.out.mono ?_
      rintro e w4 ⟨v4, rfl, ho4, hb4, f4⟩
      obtain ⟨a4, c4, hv4, _⟩ := ho4.form
      subst hv4
      have g4 := HG3.out.fr f4 (by simp) (by simp)
      have d3 := g4.c3
      have z3 := g4.z3
      have HG4 : Hid (Lg w4 gb D i t vt [] (.slice none 0 0)) := g4
      have HO4 : Hid _ := ho4
      have HF4 : Hid (Fr (fun k => k = gb) w w4) := HF3.out.trans (f4.mono (fun _ _ h => h.elim))
      have hs3 := HF3.out.size
      have HS3 : Hid (w.heap.size ≤ w3.heap.size) := hs3
      clear g4 f4 ho4 hb4 hs3
      go_wp2
      go_ret
      have fs := (Fr.refl (fun b => b = gb) w4).setCell (p := ⟨gb, 3, none⟩) (Or.inl rfl) (.slice a4 (es.drop m).length c4)
      have hlen4 : (es.drop m).length = es.length - m := HDL.out
      refine ⟨rfl, ⟨.slice a4 (es.drop m).length c4, ⟨?_, ?_, ?_, ?_, ?_, ?_, ?_, ?_, ?_, HG4.out.apart, hi64, ht, hvt⟩⟩, ?_⟩
      · rw [← hlen4]; exact (World.cell?_setCell_other _ _ _ _ (by simp)).trans HG4.out.c0
      · rw [← hlen4]; exact (World.cell?_setCell_other _ _ _ _ (by simp)).trans HG4.out.c1
      · rw [← hlen4]; exact (World.cell?_setCell_other _ _ _ _ (by simp)).trans HG4.out.c2
      · rw [← hlen4]; exact World.cell?_setCell_same _ _ _ d3
      · rw [← hlen4]; simpa using HG4.out.z0
      · rw [← hlen4]; simpa using HG4.out.z1
      · rw [← hlen4]; simpa using HG4.out.z2
      · rw [← hlen4]; simpa using z3
      · rw [← hlen4]; exact (HO4.out.mono (E := D) (fun k hk hd => by rcases hd with h | h; exact h.2; exact HN.out k (by have := HS3.out; omega))).fr fs (fun k hk e => HAP.out (e ▸ hk))
      · rw [← hlen4]; exact HF4.out.setCell (p := ⟨gb, 3, none⟩) (Or.inl rfl) _
end
end Go.Proofs.Ytkkpdnholnkeoab
