/- The program's queue: the frame that goes. -/
import Derived.Test.YtpnjcpamhelaeabDoorQueue
namespace Go.Proofs.YtpnjcpamhelaeabDoor
open Go.RowKit

section
variable {w : World} {qb : Nat} {S : Nat → Prop} {size depth next : Nat} {v : Value}
set_option maxHeartbeats 400000 in
theorem qslot_dummy (h : Qu w qb S size depth next [] v) (ht : Tab w) (hs : 64 ≤ size ∧ size ≤ 4096) : Calls Tryd.prog 9 #[.pointer (some ⟨qb, 0, none⟩)] w fun e w' => ∃ a1, e = .returned (.slice a1 size size) ∧ Fresh w w' a1 (dum size) ∧ Fr (fun _ => False) w w' := by
  have c0 := h.c0
  have c3 := h.c3
  obtain ⟨ao, cap, rfl, _⟩ := h.off.form
  simp only [List.length_nil] at c3
  have kd := dummy_any size w ht hs
  have HK : Hid (Calls _ _ _ _ _) := kd
  clear h kd ht
  go_enter Tryd.func9, Tryd.ntmps9
  go_wp2_with fail
  refine HK.out.mono ?_
  rintro e w1 ⟨a1, rfl, h1, f1⟩
  go_wp2
  go_ret
  exact ⟨a1, rfl, h1, f1⟩
set_option maxRecDepth 100000 in
set_option maxHeartbeats 1000000 in
theorem qslot_some {x : List Nat} {ps : List (List Nat)} (h : Qu w qb S size depth next (x :: ps) v) (hb : ps.length ≤ 100000) : Calls Tryd.prog 9 #[.pointer (some ⟨qb, 0, none⟩)] w fun e w' => ∃ a1 c1, e = .returned (.slice a1 x.length c1) ∧ Row w' a1 x c1 ∧ (x ≠ [] → ∀ a, a1 = some a → S a.block) ∧ (∃ v', Qu w' qb S size depth next ps v') ∧ Fr (fun k => k = qb ∨ S k) w w' := by
  have c3 := h.c3
  have z3 := h.z3
  have hqa := h.apart
  have HQ : Hid (Qu w qb S size depth next (x :: ps) v) := h
  rcases h.off with ⟨_, e⟩ | ⟨g, off, cap, N, f, rfl, hg, hri, h1, h2, h3, h4⟩
  · cases e
  · obtain ⟨ai, ci, e1, e2, e3⟩ := h4 0 (by simp)
    have hgq : g ≠ qb := fun e => hqa (e ▸ hg)
    simp only [List.length_cons] at h1 c3
    have hx : (x :: ps).getD 0 [] = x := rfl
    rw [hx] at e1 e2 e3
    rw [Nat.add_zero] at e1
    have g0 : w.cell? ⟨g, off, none⟩ = some (.slice ai x.length ci) := by rw [hri.cell (by omega), e1]
    have y0 : w.frozen? ⟨g, off, none⟩ = false := hri.frozen off
    unfold maxLen at h3
    have fA : Fr (fun k => k = qb ∨ S k) w (w.setCell ⟨g, off, none⟩ (.slice none 0 0)) := (Fr.refl _ w).setCell (p := ⟨g, off, none⟩) (Or.inl (.inr hg)) _
    have hriA := hri.set off (.slice none 0 0)
    have elemA : ∀ i, i < ps.length → Elem (w.setCell ⟨g, off, none⟩ (.slice none 0 0)) S g (f (off + (i + 1))) (ps.getD i []) := fun i hi => by
      have := (h4 (i + 1) (by simp; omega)).fr ((Fr.refl (fun k => k = g) w).setCell (p := ⟨g, off, none⟩) (Or.inl rfl) (.slice none 0 0)) (fun k _ hk => hk)
      exact this
    have rowA : Row (w.setCell ⟨g, off, none⟩ (.slice none 0 0)) ai x ci := ((Fr.refl (fun k => k = g) w).setCell (p := ⟨g, off, none⟩) (Or.inl rfl) (.slice none 0 0)).row e2 (fun hne a ha => (e3 hne a ha).2)
    have HE3 : Hid (x ≠ [] → ∀ a, ai = some a → S a.block ∧ a.block ≠ g) := e3
    have fin : ∀ (off' cap' : Nat), (off' + cap' ≤ N ∧ ps.length ≤ cap' ∧ cap' ≤ cap ∧ (0 < ps.length → off' = off + 1)) →
        (∃ v', Qu ((w.setCell ⟨g, off, none⟩ (.slice none 0 0)).setCell ⟨qb, 3, none⟩ (.slice (some ⟨g, off', none⟩) ps.length cap')) qb S size depth next ps v') ∧ Row ((w.setCell ⟨g, off, none⟩ (.slice none 0 0)).setCell ⟨qb, 3, none⟩ (.slice (some ⟨g, off', none⟩) ps.length cap')) ai x ci ∧
          Fr (fun k => k = qb ∨ S k) w ((w.setCell ⟨g, off, none⟩ (.slice none 0 0)).setCell ⟨qb, 3, none⟩ (.slice (some ⟨g, off', none⟩) ps.length cap')) := fun off' cap' hh => by
      have fB := (Fr.refl (fun k => k = qb) (w.setCell ⟨g, off, none⟩ (.slice none 0 0))).setCell (p := ⟨qb, 3, none⟩) (Or.inl rfl) (.slice (some ⟨g, off', none⟩) ps.length cap')
      have hne : ∀ i : Nat, (⟨g, off, none⟩ : Addr) ≠ ⟨qb, i, none⟩ := fun i e => hgq (by cases e; rfl)
      have q := HQ.out
      refine ⟨⟨_, ?_, ?_, ?_, World.cell?_setCell_same _ _ _ ((World.cell?_setCell_other _ _ _ _ (hne 3)).trans q.c3), ?_, ?_, ?_, hqa⟩, fB.row rowA (fun hn a ha e => hqa (e ▸ (HE3.out hn a ha).1)), fA.setCell (p := ⟨qb, 3, none⟩) (Or.inl (.inl rfl)) _⟩
      · exact (World.cell?_setCell_other _ _ _ _ (by simp)).trans ((World.cell?_setCell_other _ _ _ _ (hne 0)).trans q.c0)
      · exact (World.cell?_setCell_other _ _ _ _ (by simp)).trans ((World.cell?_setCell_other _ _ _ _ (hne 1)).trans q.c1)
      · exact (World.cell?_setCell_other _ _ _ _ (by simp)).trans ((World.cell?_setCell_other _ _ _ _ (hne 2)).trans q.c2)
      · simpa using q.z2
      · simpa using q.z3
      · refine .inr ⟨g, off', cap', N, _, rfl, hg, fB.rowIs hriA (fun e => hgq e), hh.2.1, hh.1, by unfold maxLen; omega, fun i hi => ?_⟩
        have ho := hh.2.2.2 (by omega)
        subst ho
        have : Elem (w.setCell ⟨g, off, none⟩ (.slice none 0 0)) S g (if off + 1 + i = off then .slice none 0 0 else f (off + 1 + i)) (ps.getD i []) := by
          rw [if_neg (by omega), show off + 1 + i = off + (i + 1) by omega]
          exact elemA i hi
        exact this.fr fB (fun k hk _ e => hqa (e ▸ hk))
    have FIN : Hid (∀ (off' cap' : Nat), _) := fin
    clear h elemA rowA hriA fA fin h4 e2 e3 hri
    by_cases hcap : cap = 1
    · subst hcap
      have hps : ps = [] := List.eq_nil_of_length_eq_zero (by omega)
      subst hps
      simp only [List.length_nil] at c3 FIN
      go_enter Tryd.func9, Tryd.ntmps9
      go_wp2
      go_ret
      obtain ⟨q1, q2, q3⟩ := FIN.out off 0 ⟨by omega, by omega, by omega, by omega⟩
      exact ⟨ai, ci, rfl, q2, fun hn a ha => (HE3.out hn a ha).1, q1, q3⟩
    · go_enter Tryd.func9, Tryd.ntmps9
      go_wp2
      go_ret
      obtain ⟨q1, q2, q3⟩ := FIN.out (off + 1) (cap - 1) ⟨by omega, by omega, by omega, fun _ => rfl⟩
      exact ⟨ai, ci, rfl, q2, fun hn a ha => (HE3.out hn a ha).1, q1, q3⟩
end
end Go.Proofs.YtpnjcpamhelaeabDoor
