/- What a hold reads, the document's. -/
import Derived.Test.YtaalkhipncbjpaaMeetD
namespace Go.Proofs.Ytaalkhipncbjpaa
open Go.RowKit
theorem any_flip (l : List Nat) (x : Nat) : (l.any fun y => decide (Fl.rk x = Fl.rk y)) = l.any fun y => decide (Fl.rk y = Fl.rk x) := by
  congr 1
  funext y
  rw [Bool.eq_iff_iff]
  simp [eq_comm]
set_option maxRecDepth 100000 in
set_option maxHeartbeats 4000000 in
theorem refreads_any (b : Hd) (x : Nat) (hx : x < 18446744073709551616) (w : World) (hb : b.ok w) : Calls Try.prog 49 #[.agg #[.int .u64 (b.a0 : Int), .int .u64 (b.a1 : Int), .int .u64 (b.a2 : Int), .slice b.ga b.g.length b.gc, .slice b.sa b.s.length b.sc, .slice b.pa b.p.length b.pc, .slice b.da b.dl.length b.dc], .float .f64 x] w fun e w' => e = .returned (.bool (b.rd x)) ∧ Fr (fun _ => False) w w' := by
  have hrd : b.rd x = ((b.s.any fun y => !decide (Fl.rk x < Fl.rk y.1) && !decide (Fl.rk y.2 < Fl.rk x)) || b.g.any fun y => decide (Fl.rk y = Fl.rk x)) := by
    unfold Hd.rd
    rw [any_flip, Bool.or_comm]
  rw [hrd]
  clear hrd
  obtain ⟨a0, a1, a2, ga, g, gc, sa, s, sc, pa, p, pc, da, dl, dc⟩ := b
  obtain ⟨hg0, hs0, _, _⟩ := hb
  dsimp only at *
  obtain ⟨f, Hf⟩ : ∃ f : Nat × Nat → Bool, Hid ((fun y : Nat × Nat => !decide (Fl.rk x < Fl.rk y.1) && !decide (Fl.rk y.2 < Fl.rk x)) = f) := ⟨_, rfl⟩
  rw [Hf.out]
  obtain ⟨u, Hu⟩ : ∃ u, Hid ((g.any fun y => decide (Fl.rk y = Fl.rk x)) = u) := ⟨_, rfl⟩
  rw [Hu.out]
  obtain ⟨W, HW⟩ : ∃ W, Hid (W = w.alloc (.cells #[.int .u64 (a0 : Int), .int .u64 (a1 : Int), .int .u64 (a2 : Int), .slice ga g.length gc, .slice sa s.length sc, .slice pa p.length pc, .slice da dl.length dc] 29)) := ⟨_, rfl⟩
  have F0 : Hid (Fr (fun _ => False) w W) := (show Fr _ _ _ by rw [HW.out]; exact (Fr.refl (fun _ => False) w).alloc _)
  have HB : Hid (C7 W w.heap.size (.int .u64 (a0 : Int)) (.int .u64 (a1 : Int)) (.int .u64 (a2 : Int)) (.slice ga g.length gc) (.slice sa s.length sc) (.slice pa p.length pc) (.slice da dl.length dc)) := (show C7 _ _ _ _ _ _ _ _ _ by rw [HW.out]; exact C7.new w 29 _ _ _ _ _ _ _)
  have HG : Hid (FRow W ga g gc) := hg0.fr F0.out (by simp)
  have HS : Hid (GRow W sa s sc) := hs0.fr F0.out (by simp)
  have hl1 : s.length ≤ 9223372036854775807 := by have := hs0.1; have := hs0.2.1; unfold maxLen at this; omega
  obtain ⟨bx, Hbx⟩ : ∃ bx, Hid (w.heap.size = bx) := ⟨_, rfl⟩
  rw [Hbx.out] at HB
  clear hg0 hs0
  go_enter Try.func49, Try.ntmps49
  go_wp2
  rw [← HW.out, Hbx.out]
  go_loopw [5] (fun iv wr => ∃ k : Nat, k ≤ s.length ∧ iv = .int .i64 (k : Int) ∧ Hid ((s.take k).any f = false) ∧ Hid (Fr (fun _ => False) W wr)) (fun iv _ => s.length - (intOf iv).toNat)
  case atStart => exact ⟨0, Nat.zero_le _, rfl, (by show (List.take 0 s).any f = false; simp), Fr.refl _ _⟩
  case round =>
    obtain ⟨k, hk, rfl, HA, HF⟩ := hrel
    by_cases hlt : k < s.length
    · have hne : s ≠ [] := fun e => by rw [e] at hlt; simp at hlt
      obtain ⟨sb, off, hao, hc⟩ := (HS.out.fr HF.out (by simp)).2.2.2 hne
      obtain ⟨hy, hy2⟩ := hc k hlt
      have hmem : s.getD k (0, 0) ∈ s := by rw [List.getD_eq_getElem?_getD, List.getElem?_eq_getElem hlt]; exact List.getElem_mem _
      have HM : Hid ((s.getD k (0, 0)).1 < 18446744073709551616 ∧ (s.getD k (0, 0)).2 < 18446744073709551616) := HS.out.2.2.1 _ hmem
      have HN : Hid (f (s.getD k (0, 0)) = false → (s.take (k + 1)).any f = false) := any_take_succ s f (0, 0) k hlt HA.out
      have HT : Hid (f (s.getD k (0, 0)) = true → s.any f = true) := any_at s f (0, 0) k hlt
      obtain ⟨y, Hy⟩ : ∃ y, Hid (s.getD k (0, 0) = y) := ⟨_, rfl⟩
      rw [Hy.out] at hy hy2 HM HN HT
      obtain ⟨y1, y2⟩ := y
      dsimp only at hy hy2
      have HY : Hid (wr.cell? ⟨sb, off + k * 2, none⟩ = some (.float .f64 y1) ∧ wr.cell? ⟨sb, off + k * 2 + 1, none⟩ = some (.float .f64 y2)) := ⟨hy, hy2⟩
      have KW : Hid (Says3 85 x y1 y2 (f (y1, y2))) := by rw [← Hf.out]; exact refwithin_any x y1 y2 hx HM.out.1 HM.out.2
      obtain ⟨t, Ht⟩ : ∃ t, Hid (f (y1, y2) = t) := ⟨_, rfl⟩
      rw [Ht.out] at KW
      subst hao
      have HD : Hid (C7 wr bx (.int .u64 (a0 : Int)) (.int .u64 (a1 : Int)) (.int .u64 (a2 : Int)) (.slice ga g.length gc) (.slice (some ⟨sb, off, none⟩) s.length sc) (.slice pa p.length pc) (.slice da dl.length dc)) := HB.out.fr HF.out (by simp)
      obtain ⟨d0, d1, d2, d3, d4, d5, d6⟩ := HD.out
      have z1 : (0 : Int) ≤ (k : Int) := by omega
      have z2 : (k : Int) < (s.length : Int) := by omega
      clear hc hmem hy hy2
      go_wp2_with fail
      clear d0 d1 d2 d3 d4 d5 d6
      refine wp_region_held_drew (S := (fun W : World => C7 W bx (.int .u64 (a0 : Int)) (.int .u64 (a1 : Int)) (.int .u64 (a2 : Int)) (.slice ga g.length gc) (.slice (some ⟨sb, off, none⟩) s.length sc) (.slice pa p.length pc) (.slice da dl.length dc) ∧ W.cell? ⟨sb, off + k * 2, none⟩ = some (.float .f64 y1) ∧ W.cell? ⟨sb, off + k * 2 + 1, none⟩ = some (.float .f64 y2))) (by kernel_rfl) ⟨HD.out.fr ((Fr.refl (fun _ => False) _).drew) (by simp), Fr.cell ((Fr.refl (fun _ => False) _).drew) HY.out.1 (by simp), Fr.cell ((Fr.refl (fun _ => False) _).drew) HY.out.2 (by simp)⟩ (fun hHeld => ?_)
      refine wpAnyH_take (i := 0) (oi := _) (v := ?_) (by rw [List.getElem?_toArray]; rfl) (by kernel_rfl) (by kernel_rfl) (by kernel_rfl) (fun _ _ _ h => by exact h) (Or.inl ⟨by rfl, ?_⟩) (by assumption) ?_
      rotate_left
      · (intro w hSw; (try dsimp only at hSw); obtain ⟨⟨e0, e1, e2, e3, e4, e5, e6⟩, g1, g2⟩ := hSw; go_simp; (try with_reducible rfl))
      try simp only [Act.put, List.setIfInBounds_toArray, List.set_cons_zero, List.set_cons_succ]
      refine wpAnyH_take (i := 1) (oi := _) (v := ?_) (by rw [List.getElem?_toArray]; rfl) (by kernel_rfl) (by kernel_rfl) (by kernel_rfl) (fun _ _ _ h => by exact h) (Or.inl ⟨by rfl, ?_⟩) (by assumption) ?_
      rotate_left
      · (intro w hSw; (try dsimp only at hSw); obtain ⟨⟨e0, e1, e2, e3, e4, e5, e6⟩, g1, g2⟩ := hSw; go_simp; (try with_reducible rfl))
      try simp only [Act.put, List.setIfInBounds_toArray, List.set_cons_zero, List.set_cons_succ]
      refine wpAnyH_take (i := 2) (oi := _) (v := ?_) (by rw [List.getElem?_toArray]; rfl) (by kernel_rfl) (by kernel_rfl) (by kernel_rfl) (fun _ _ _ h => by exact h) (Or.inl ⟨by rfl, ?_⟩) (by assumption) ?_
      rotate_left
      · (intro w hSw; (try dsimp only at hSw); obtain ⟨⟨e0, e1, e2, e3, e4, e5, e6⟩, g1, g2⟩ := hSw; go_simp; (try with_reducible rfl))
      try simp only [Act.put, List.setIfInBounds_toArray, List.set_cons_zero, List.set_cons_succ]
      refine wpAnyH_take (i := 3) (oi := _) (v := ?_) (by rw [List.getElem?_toArray]; rfl) (by kernel_rfl) (by kernel_rfl) (by kernel_rfl) (fun _ _ _ h => by exact h) (Or.inl ⟨by rfl, ?_⟩) (by assumption) ?_
      rotate_left
      · (intro w hSw; (try dsimp only at hSw); obtain ⟨⟨e0, e1, e2, e3, e4, e5, e6⟩, g1, g2⟩ := hSw; go_simp; (try with_reducible rfl))
      try simp only [Act.put, List.setIfInBounds_toArray, List.set_cons_zero, List.set_cons_succ]
      refine wpAnyH_take (i := 4) (oi := _) (v := ?_) (by rw [List.getElem?_toArray]; rfl) (by kernel_rfl) (by kernel_rfl) (by kernel_rfl) (fun _ _ _ h => by exact h) (Or.inl ⟨by rfl, ?_⟩) (by assumption) ?_
      rotate_left
      · (intro w hSw; (try dsimp only at hSw); obtain ⟨⟨e0, e1, e2, e3, e4, e5, e6⟩, g1, g2⟩ := hSw; go_simp; (try with_reducible rfl))
      try simp only [Act.put, List.setIfInBounds_toArray, List.set_cons_zero, List.set_cons_succ]
      refine wpAnyH_take (i := 5) (oi := _) (v := ?_) (by rw [List.getElem?_toArray]; rfl) (by kernel_rfl) (by kernel_rfl) (by kernel_rfl) (fun _ _ _ h => by exact h) (Or.inl ⟨by rfl, ?_⟩) (by assumption) ?_
      rotate_left
      · (intro w hSw; (try dsimp only at hSw); obtain ⟨⟨e0, e1, e2, e3, e4, e5, e6⟩, g1, g2⟩ := hSw; go_simp; (try with_reducible rfl))
      try simp only [Act.put, List.setIfInBounds_toArray, List.set_cons_zero, List.set_cons_succ]
      refine wpAnyH_take (i := 6) (oi := _) (v := ?_) (by rw [List.getElem?_toArray]; rfl) (by kernel_rfl) (by kernel_rfl) (by kernel_rfl) (fun _ _ _ h => by exact h) (Or.inl ⟨by rfl, ?_⟩) (by assumption) ?_
      rotate_left
      · (intro w hSw; (try dsimp only at hSw); obtain ⟨⟨e0, e1, e2, e3, e4, e5, e6⟩, g1, g2⟩ := hSw; go_simp; (try with_reducible rfl))
      try simp only [Act.put, List.setIfInBounds_toArray, List.set_cons_zero, List.set_cons_succ]
      refine wpAnyH_take (i := 7) (oi := _) (v := ?_) (by rw [List.getElem?_toArray]; rfl) (by kernel_rfl) (by kernel_rfl) (by kernel_rfl) (fun _ _ _ h => by exact h) (Or.inl ⟨by rfl, ?_⟩) (by assumption) ?_
      rotate_left
      · (intro w hSw; (try dsimp only at hSw); obtain ⟨⟨e0, e1, e2, e3, e4, e5, e6⟩, g1, g2⟩ := hSw; go_simp; (try with_reducible rfl))
      try simp only [Act.put, List.setIfInBounds_toArray, List.set_cons_zero, List.set_cons_succ]
      refine wpAnyH_take (i := 8) (oi := _) (v := ?_) (by rw [List.getElem?_toArray]; rfl) (by kernel_rfl) (by kernel_rfl) (by kernel_rfl) (fun _ _ _ h => by exact h) (Or.inl ⟨by rfl, ?_⟩) (by assumption) ?_
      rotate_left
      · (intro w hSw; (try dsimp only at hSw); obtain ⟨⟨e0, e1, e2, e3, e4, e5, e6⟩, g1, g2⟩ := hSw; go_simp; (try with_reducible rfl))
      try simp only [Act.put, List.setIfInBounds_toArray, List.set_cons_zero, List.set_cons_succ]
      refine wpAnyH_take (i := 9) (oi := _) (v := ?_) (by rw [List.getElem?_toArray]; rfl) (by kernel_rfl) (by kernel_rfl) (by kernel_rfl) (fun _ _ _ h => by exact h) (Or.inl ⟨by rfl, ?_⟩) (by assumption) ?_
      rotate_left
      · (intro w hSw; (try dsimp only at hSw); obtain ⟨⟨e0, e1, e2, e3, e4, e5, e6⟩, g1, g2⟩ := hSw; go_simp; (try with_reducible rfl))
      try simp only [Act.put, List.setIfInBounds_toArray, List.set_cons_zero, List.set_cons_succ]
      refine wpAnyH_take (i := 10) (oi := _) (v := ?_) (by rw [List.getElem?_toArray]; rfl) (by kernel_rfl) (by kernel_rfl) (by kernel_rfl) (fun _ _ _ h => by exact h) (Or.inl ⟨by rfl, ?_⟩) (by assumption) ?_
      rotate_left
      · (intro w hSw; (try dsimp only at hSw); obtain ⟨⟨e0, e1, e2, e3, e4, e5, e6⟩, g1, g2⟩ := hSw; go_simp; (try with_reducible rfl))
      try simp only [Act.put, List.setIfInBounds_toArray, List.set_cons_zero, List.set_cons_succ]
      refine wpAnyH_take (i := 11) (oi := _) (v := ?_) (by rw [List.getElem?_toArray]; rfl) (by kernel_rfl) (by kernel_rfl) (by kernel_rfl) (fun _ _ _ h => by exact h) (Or.inl ⟨by rfl, ?_⟩) (by assumption) ?_
      rotate_left
      · (intro w hSw; (try dsimp only at hSw); obtain ⟨⟨e0, e1, e2, e3, e4, e5, e6⟩, g1, g2⟩ := hSw; go_simp; (try with_reducible rfl))
      try simp only [Act.put, List.setIfInBounds_toArray, List.set_cons_zero, List.set_cons_succ]
      refine wpAnyH_take (i := 12) (oi := _) (v := ?_) (by rw [List.getElem?_toArray]; rfl) (by kernel_rfl) (by kernel_rfl) (by kernel_rfl) (fun _ _ _ h => by exact h) (Or.inl ⟨by rfl, ?_⟩) (by assumption) ?_
      rotate_left
      · (intro w hSw; (try dsimp only at hSw); obtain ⟨⟨e0, e1, e2, e3, e4, e5, e6⟩, g1, g2⟩ := hSw; go_simp; (try with_reducible rfl))
      try simp only [Act.put, List.setIfInBounds_toArray, List.set_cons_zero, List.set_cons_succ]
      refine wpAnyH_ready (rs := [13]) (by kernel_rfl) (by simp) ?_
      refine AllReadyH.cons (o := _) (by rw [List.getElem?_toArray]; rfl) (fun K hK => ?_) ?_
      · go_simp
        go_wp2_with (go_at_call 85; refine (KW.out _).mono ?_; rintro e w5 ⟨rfl, hw5⟩; subst hw5)
        refine hK.out _ _ ⟨HD.out.fr ((Fr.refl (fun _ => False) _).drew) (by simp), Fr.cell ((Fr.refl (fun _ => False) _).drew) HY.out.1 (by simp), Fr.cell ((Fr.refl (fun _ => False) _).drew) HY.out.2 (by simp)⟩ (fun hHeld => ?_)
        clear hK K
        try simp only [Act.put, List.setIfInBounds_toArray, List.set_cons_zero, List.set_cons_succ]
        refine wpAnyH_done (by kernel_rfl) ?_ _
        cases t with
        | true =>
          go_wp2
          go_ret
          exact ⟨by rw [HT.out Ht.out, Bool.true_or]; rfl, F0.out.trans (HF.out.trans ((Fr.refl (fun _ => False) _).drew))⟩
        | false =>
          go_wp2
          go_roundw
          case rel => exact ⟨k + 1, by omega, by go_num, HN.out Ht.out, HF.out.trans ((Fr.refl (fun _ => False) _).drew)⟩
          case measure => simp [intOf]; omega
      exact AllReadyH.nil
    · have hlt' : ¬ (k : Int) < (s.length : Int) := by omega
      have hall : s.any f = false := by have := HA.out; rwa [List.take_of_length_le (by omega)] at this
      obtain ⟨d0, d1, d2, d3, d4, d5, d6⟩ := HB.out.fr HF.out (by simp)
      have KH : Hid (Calls _ _ _ _ _) := has_any x hx ga g gc wr (HG.out.fr HF.out (by simp))
      rw [Hu.out] at KH
      go_wp2_with fail
      refine KH.out.mono ?_
      rintro e w5 ⟨rfl, hw5⟩
      subst hw5
      clear d0 d1 d2 d3 d4 d5 d6
      go_wp2
      go_ret
      exact ⟨by rw [hall]; rfl, F0.out.trans HF.out⟩
end Go.Proofs.Ytaalkhipncbjpaa
