/- Do two holds meet: the document's Meet, for any two. -/
import Derived.Test.YtaalkhipncbjpaaMeetE
namespace Go.Proofs.Ytaalkhipncbjpaa
open Go.RowKit
theorem any_or (l : List Nat) (f g : Nat → Bool) : (l.any f || l.any g) = l.any fun x => f x || g x := by
  induction l with
  | nil => rfl
  | cons x l ih =>
    rw [List.any_cons, List.any_cons, List.any_cons, ← ih]
    cases f x <;> cases g x <;> cases l.any f <;> cases l.any g <;> rfl
set_option maxRecDepth 100000 in
set_option maxHeartbeats 8000000 in
theorem refmeet_any (a b : Hd) (w : World) (ha : a.ok w) (hb : b.ok w) : Calls Try.prog 15 #[.agg #[.int .u64 (a.a0 : Int), .int .u64 (a.a1 : Int), .int .u64 (a.a2 : Int), .slice a.ga a.g.length a.gc, .slice a.sa a.s.length a.sc, .slice a.pa a.p.length a.pc, .slice a.da a.dl.length a.dc], .agg #[.int .u64 (b.a0 : Int), .int .u64 (b.a1 : Int), .int .u64 (b.a2 : Int), .slice b.ga b.g.length b.gc, .slice b.sa b.s.length b.sc, .slice b.pa b.p.length b.pc, .slice b.da b.dl.length b.dc]] w fun e w' => e = .returned (.bool (a.meets b)) ∧ Fr (fun _ => False) w w' := by
  have hm : a.meets b = ((a.p.any fun x => (b.p.any fun z => decide (Fl.rk z = Fl.rk x)) || b.rd x) || b.p.any a.rd) := by
    unfold Hd.meets
    rw [any_or]
    congr 2
    funext x
    unfold Hd.wr
    rw [any_flip]
  rw [hm]
  clear hm
  have hl1 : a.p.length ≤ 9223372036854775807 := by have := ha.2.2.1.1; have := ha.2.2.1.2.1; unfold maxLen at this; omega
  have hl2 : b.p.length ≤ 9223372036854775807 := by have := hb.2.2.1.1; have := hb.2.2.1.2.1; unfold maxLen at this; omega
  obtain ⟨f, Hf⟩ : ∃ f : Nat → Bool, Hid ((fun x => (b.p.any fun z => decide (Fl.rk z = Fl.rk x)) || b.rd x) = f) := ⟨_, rfl⟩
  rw [Hf.out]
  obtain ⟨W, HW⟩ : ∃ W, Hid (W = (w.alloc (.cells #[.int .u64 (a.a0 : Int), .int .u64 (a.a1 : Int), .int .u64 (a.a2 : Int), .slice a.ga a.g.length a.gc, .slice a.sa a.s.length a.sc, .slice a.pa a.p.length a.pc, .slice a.da a.dl.length a.dc] 29)).alloc (.cells #[.int .u64 (b.a0 : Int), .int .u64 (b.a1 : Int), .int .u64 (b.a2 : Int), .slice b.ga b.g.length b.gc, .slice b.sa b.s.length b.sc, .slice b.pa b.p.length b.pc, .slice b.da b.dl.length b.dc] 29)) := ⟨_, rfl⟩
  have F0 : Hid (Fr (fun _ => False) w W) := (show Fr _ _ _ by rw [HW.out]; exact ((Fr.refl (fun _ => False) w).alloc _).alloc _)
  have HB1 : Hid (C7 W w.heap.size (.int .u64 (a.a0 : Int)) (.int .u64 (a.a1 : Int)) (.int .u64 (a.a2 : Int)) (.slice a.ga a.g.length a.gc) (.slice a.sa a.s.length a.sc) (.slice a.pa a.p.length a.pc) (.slice a.da a.dl.length a.dc)) := (show C7 _ _ _ _ _ _ _ _ _ by rw [HW.out]; exact (C7.new w 29 _ _ _ _ _ _ _).fr ((Fr.refl (fun _ => False) _).alloc (.cells #[.int .u64 (b.a0 : Int), .int .u64 (b.a1 : Int), .int .u64 (b.a2 : Int), .slice b.ga b.g.length b.gc, .slice b.sa b.s.length b.sc, .slice b.pa b.p.length b.pc, .slice b.da b.dl.length b.dc] 29)) (by simp))
  have HB2 : Hid (C7 W (w.heap.size + 1) (.int .u64 (b.a0 : Int)) (.int .u64 (b.a1 : Int)) (.int .u64 (b.a2 : Int)) (.slice b.ga b.g.length b.gc) (.slice b.sa b.s.length b.sc) (.slice b.pa b.p.length b.pc) (.slice b.da b.dl.length b.dc)) := (show C7 _ _ _ _ _ _ _ _ _ by rw [HW.out]; have := C7.new (w.alloc (.cells #[.int .u64 (a.a0 : Int), .int .u64 (a.a1 : Int), .int .u64 (a.a2 : Int), .slice a.ga a.g.length a.gc, .slice a.sa a.s.length a.sc, .slice a.pa a.p.length a.pc, .slice a.da a.dl.length a.dc] 29)) 29 (.int .u64 (b.a0 : Int)) (.int .u64 (b.a1 : Int)) (.int .u64 (b.a2 : Int)) (.slice b.ga b.g.length b.gc) (.slice b.sa b.s.length b.sc) (.slice b.pa b.p.length b.pc) (.slice b.da b.dl.length b.dc); simpa using this)
  have Oa : Hid (a.ok W) := ha.fr F0.out
  have Ob : Hid (b.ok W) := hb.fr F0.out
  obtain ⟨b1, Hb1⟩ : ∃ b1, Hid (w.heap.size = b1) := ⟨_, rfl⟩
  obtain ⟨b2, Hb2⟩ : ∃ b2, Hid (w.heap.size + 1 = b2) := ⟨_, rfl⟩
  rw [Hb1.out] at HB1
  rw [Hb2.out] at HB2
  clear ha hb
  go_enter Try.func15, Try.ntmps15
  go_wp2
  rw [← HW.out, Hb2.out, Hb1.out]
  go_loopw [5] (fun iv wr => ∃ k : Nat, k ≤ a.p.length ∧ iv = .int .i64 (k : Int) ∧ Hid ((a.p.take k).any f = false) ∧ Hid (Fr (fun _ => False) W wr)) (fun iv _ => a.p.length - (intOf iv).toNat)
  case atStart => exact ⟨0, Nat.zero_le _, rfl, (by show (List.take 0 a.p).any f = false; simp), Fr.refl _ _⟩
  case round =>
    obtain ⟨k, hk, rfl, HA, HF⟩ := hrel
    by_cases hlt : k < a.p.length
    · have hne : a.p ≠ [] := fun e => by rw [e] at hlt; simp at hlt
      obtain ⟨rb, off, hao, hc⟩ := (Oa.out.fr HF.out).2.2.1.2.2.2 hne
      have hy := hc k hlt
      have hmem : a.p.getD k 0 ∈ a.p := by rw [List.getD_eq_getElem?_getD, List.getElem?_eq_getElem hlt]; exact List.getElem_mem _
      have HYL : Hid (a.p.getD k 0 < 18446744073709551616) := Oa.out.2.2.1.2.2.1 _ hmem
      have HN : Hid (f (a.p.getD k 0) = false → (a.p.take (k + 1)).any f = false) := any_take_succ a.p f 0 k hlt HA.out
      have HT : Hid (f (a.p.getD k 0) = true → a.p.any f = true) := any_at a.p f 0 k hlt
      obtain ⟨y, Hy⟩ : ∃ y, Hid (a.p.getD k 0 = y) := ⟨_, rfl⟩
      rw [Hy.out] at hy HYL HN HT
      have HY : Hid (wr.cell? ⟨rb, off + k, none⟩ = some (.float .f64 y)) := hy
      have HD1 : Hid (C7 wr b1 (.int .u64 (a.a0 : Int)) (.int .u64 (a.a1 : Int)) (.int .u64 (a.a2 : Int)) (.slice a.ga a.g.length a.gc) (.slice a.sa a.s.length a.sc) (.slice (some ⟨rb, off, none⟩) a.p.length a.pc) (.slice a.da a.dl.length a.dc)) := (show C7 _ _ _ _ _ _ _ _ _ by have h := HB1.out.fr HF.out (by simp); rw [hao] at h; exact h)
      have HD2 : Hid (C7 wr b2 (.int .u64 (b.a0 : Int)) (.int .u64 (b.a1 : Int)) (.int .u64 (b.a2 : Int)) (.slice b.ga b.g.length b.gc) (.slice b.sa b.s.length b.sc) (.slice b.pa b.p.length b.pc) (.slice b.da b.dl.length b.dc)) := (show C7 _ _ _ _ _ _ _ _ _ by have h := HB2.out.fr HF.out (by simp); exact h)
      have z1 : (0 : Int) ≤ (k : Int) := by omega
      have z2 : (k : Int) < (a.p.length : Int) := by omega
      obtain ⟨d0, d1, d2, d3, d4, d5, d6⟩ := HD1.out
      obtain ⟨k0, k1, k2, k3, k4, k5, k6⟩ := HD2.out
      clear hc hmem hy hao
      go_wp2_with fail
      clear d0 d1 d2 d3 d4 d5 d6 k0 k1 k2 k3 k4 k5 k6
      refine wp_region_held_drew (S := (fun W : World => C7 W b1 (.int .u64 (a.a0 : Int)) (.int .u64 (a.a1 : Int)) (.int .u64 (a.a2 : Int)) (.slice a.ga a.g.length a.gc) (.slice a.sa a.s.length a.sc) (.slice (some ⟨rb, off, none⟩) a.p.length a.pc) (.slice a.da a.dl.length a.dc) ∧ C7 W b2 (.int .u64 (b.a0 : Int)) (.int .u64 (b.a1 : Int)) (.int .u64 (b.a2 : Int)) (.slice b.ga b.g.length b.gc) (.slice b.sa b.s.length b.sc) (.slice b.pa b.p.length b.pc) (.slice b.da b.dl.length b.dc) ∧ W.cell? ⟨rb, off + k, none⟩ = some (.float .f64 y))) (by kernel_rfl) ⟨HD1.out.fr ((Fr.refl (fun _ => False) _).drew) (by simp), HD2.out.fr ((Fr.refl (fun _ => False) _).drew) (by simp), Fr.cell ((Fr.refl (fun _ => False) _).drew) HY.out (by simp)⟩ (fun hHeld => ?_)
      refine wpAnyH_take (i := 0) (oi := _) (v := ?_) (by rw [List.getElem?_toArray]; rfl) (by kernel_rfl) (by kernel_rfl) (by kernel_rfl) (fun _ _ _ h => by exact h) (Or.inl ⟨by rfl, ?_⟩) (by assumption) ?_
      rotate_left
      · (intro w hSw; (try dsimp only at hSw); obtain ⟨⟨e0, e1, e2, e3, e4, e5, e6⟩, ⟨f0, f1, f2, f3, f4, f5, f6⟩, g1⟩ := hSw; go_simp; (try with_reducible rfl))
      try simp only [Act.put, List.setIfInBounds_toArray, List.set_cons_zero, List.set_cons_succ]
      refine wpAnyH_take (i := 1) (oi := _) (v := ?_) (by rw [List.getElem?_toArray]; rfl) (by kernel_rfl) (by kernel_rfl) (by kernel_rfl) (fun _ _ _ h => by exact h) (Or.inl ⟨by rfl, ?_⟩) (by assumption) ?_
      rotate_left
      · (intro w hSw; (try dsimp only at hSw); obtain ⟨⟨e0, e1, e2, e3, e4, e5, e6⟩, ⟨f0, f1, f2, f3, f4, f5, f6⟩, g1⟩ := hSw; go_simp; (try with_reducible rfl))
      try simp only [Act.put, List.setIfInBounds_toArray, List.set_cons_zero, List.set_cons_succ]
      refine wpAnyH_take (i := 2) (oi := _) (v := ?_) (by rw [List.getElem?_toArray]; rfl) (by kernel_rfl) (by kernel_rfl) (by kernel_rfl) (fun _ _ _ h => by exact h) (Or.inl ⟨by rfl, ?_⟩) (by assumption) ?_
      rotate_left
      · (intro w hSw; (try dsimp only at hSw); obtain ⟨⟨e0, e1, e2, e3, e4, e5, e6⟩, ⟨f0, f1, f2, f3, f4, f5, f6⟩, g1⟩ := hSw; go_simp; (try with_reducible rfl))
      try simp only [Act.put, List.setIfInBounds_toArray, List.set_cons_zero, List.set_cons_succ]
      refine wpAnyH_take (i := 3) (oi := _) (v := ?_) (by rw [List.getElem?_toArray]; rfl) (by kernel_rfl) (by kernel_rfl) (by kernel_rfl) (fun _ _ _ h => by exact h) (Or.inl ⟨by rfl, ?_⟩) (by assumption) ?_
      rotate_left
      · (intro w hSw; (try dsimp only at hSw); obtain ⟨⟨e0, e1, e2, e3, e4, e5, e6⟩, ⟨f0, f1, f2, f3, f4, f5, f6⟩, g1⟩ := hSw; go_simp; (try with_reducible rfl))
      try simp only [Act.put, List.setIfInBounds_toArray, List.set_cons_zero, List.set_cons_succ]
      refine wpAnyH_take (i := 4) (oi := _) (v := ?_) (by rw [List.getElem?_toArray]; rfl) (by kernel_rfl) (by kernel_rfl) (by kernel_rfl) (fun _ _ _ h => by exact h) (Or.inl ⟨by rfl, ?_⟩) (by assumption) ?_
      rotate_left
      · (intro w hSw; (try dsimp only at hSw); obtain ⟨⟨e0, e1, e2, e3, e4, e5, e6⟩, ⟨f0, f1, f2, f3, f4, f5, f6⟩, g1⟩ := hSw; go_simp; (try with_reducible rfl))
      try simp only [Act.put, List.setIfInBounds_toArray, List.set_cons_zero, List.set_cons_succ]
      refine wpAnyH_take (i := 5) (oi := _) (v := ?_) (by rw [List.getElem?_toArray]; rfl) (by kernel_rfl) (by kernel_rfl) (by kernel_rfl) (fun _ _ _ h => by exact h) (Or.inl ⟨by rfl, ?_⟩) (by assumption) ?_
      rotate_left
      · (intro w hSw; (try dsimp only at hSw); obtain ⟨⟨e0, e1, e2, e3, e4, e5, e6⟩, ⟨f0, f1, f2, f3, f4, f5, f6⟩, g1⟩ := hSw; go_simp; (try with_reducible rfl))
      try simp only [Act.put, List.setIfInBounds_toArray, List.set_cons_zero, List.set_cons_succ]
      refine wpAnyH_take (i := 6) (oi := _) (v := ?_) (by rw [List.getElem?_toArray]; rfl) (by kernel_rfl) (by kernel_rfl) (by kernel_rfl) (fun _ _ _ h => by exact h) (Or.inl ⟨by rfl, ?_⟩) (by assumption) ?_
      rotate_left
      · (intro w hSw; (try dsimp only at hSw); obtain ⟨⟨e0, e1, e2, e3, e4, e5, e6⟩, ⟨f0, f1, f2, f3, f4, f5, f6⟩, g1⟩ := hSw; go_simp; (try with_reducible rfl))
      try simp only [Act.put, List.setIfInBounds_toArray, List.set_cons_zero, List.set_cons_succ]
      refine wpAnyH_ready (rs := [7]) (by kernel_rfl) (by simp) ?_
      refine AllReadyH.cons (o := _) (by rw [List.getElem?_toArray]; rfl) (fun K hK => ?_) ?_
      · go_simp
        go_wp2_with (go_at_call 48; refine (has_any y HYL.out b.pa b.p b.pc _ (Ob.out.fr (HF.out.trans ((Fr.refl (fun _ => False) _).drew))).2.2.1).mono ?_; rintro e w5 ⟨rfl, hw5⟩; subst hw5)
        refine hK.out _ _ ⟨HD1.out.fr ((Fr.refl (fun _ => False) _).drew) (by simp), HD2.out.fr ((Fr.refl (fun _ => False) _).drew) (by simp), Fr.cell ((Fr.refl (fun _ => False) _).drew) HY.out (by simp)⟩ (fun hHeld => ?_)
        clear hK K
        try simp only [Act.put, List.setIfInBounds_toArray, List.set_cons_zero, List.set_cons_succ]
        cases h1 : b.p.any (fun z => decide (Fl.rk z = Fl.rk y))
        · have H1 : Hid ((b.p.any fun z => decide (Fl.rk z = Fl.rk y)) = false) := h1
          refine wpAnyH_take (i := 8) (oi := _) (v := ?_) (by rw [List.getElem?_toArray]; rfl) (by kernel_rfl) (by kernel_rfl) (by kernel_rfl) (fun _ _ _ h => by exact h) (Or.inl ⟨by rfl, ?_⟩) (by assumption) ?_
          rotate_left
          · (intro w hSw; (try dsimp only at hSw); go_simp; (try with_reducible rfl))
          try simp only [Act.put, List.setIfInBounds_toArray, List.set_cons_zero, List.set_cons_succ]
          refine wpAnyH_take (i := 9) (oi := _) (v := ?_) (by rw [List.getElem?_toArray]; rfl) (by kernel_rfl) (by kernel_rfl) (by kernel_rfl) (fun _ _ _ h => by exact h) (Or.inl ⟨by rfl, ?_⟩) (by assumption) ?_
          rotate_left
          · (intro w hSw; (try dsimp only at hSw); obtain ⟨⟨e0, e1, e2, e3, e4, e5, e6⟩, ⟨f0, f1, f2, f3, f4, f5, f6⟩, g1⟩ := hSw; go_simp; (try with_reducible rfl))
          try simp only [Act.put, List.setIfInBounds_toArray, List.set_cons_zero, List.set_cons_succ]
          refine wpAnyH_take (i := 10) (oi := _) (v := ?_) (by rw [List.getElem?_toArray]; rfl) (by kernel_rfl) (by kernel_rfl) (by kernel_rfl) (fun _ _ _ h => by exact h) (Or.inl ⟨by rfl, ?_⟩) (by assumption) ?_
          rotate_left
          · (intro w hSw; (try dsimp only at hSw); obtain ⟨⟨e0, e1, e2, e3, e4, e5, e6⟩, ⟨f0, f1, f2, f3, f4, f5, f6⟩, g1⟩ := hSw; go_simp; (try with_reducible rfl))
          try simp only [Act.put, List.setIfInBounds_toArray, List.set_cons_zero, List.set_cons_succ]
          refine wpAnyH_take (i := 11) (oi := _) (v := ?_) (by rw [List.getElem?_toArray]; rfl) (by kernel_rfl) (by kernel_rfl) (by kernel_rfl) (fun _ _ _ h => by exact h) (Or.inl ⟨by rfl, ?_⟩) (by assumption) ?_
          rotate_left
          · (intro w hSw; (try dsimp only at hSw); obtain ⟨⟨e0, e1, e2, e3, e4, e5, e6⟩, ⟨f0, f1, f2, f3, f4, f5, f6⟩, g1⟩ := hSw; go_simp; (try with_reducible rfl))
          try simp only [Act.put, List.setIfInBounds_toArray, List.set_cons_zero, List.set_cons_succ]
          refine wpAnyH_take (i := 12) (oi := _) (v := ?_) (by rw [List.getElem?_toArray]; rfl) (by kernel_rfl) (by kernel_rfl) (by kernel_rfl) (fun _ _ _ h => by exact h) (Or.inl ⟨by rfl, ?_⟩) (by assumption) ?_
          rotate_left
          · (intro w hSw; (try dsimp only at hSw); obtain ⟨⟨e0, e1, e2, e3, e4, e5, e6⟩, ⟨f0, f1, f2, f3, f4, f5, f6⟩, g1⟩ := hSw; go_simp; (try with_reducible rfl))
          try simp only [Act.put, List.setIfInBounds_toArray, List.set_cons_zero, List.set_cons_succ]
          refine wpAnyH_take (i := 13) (oi := _) (v := ?_) (by rw [List.getElem?_toArray]; rfl) (by kernel_rfl) (by kernel_rfl) (by kernel_rfl) (fun _ _ _ h => by exact h) (Or.inl ⟨by rfl, ?_⟩) (by assumption) ?_
          rotate_left
          · (intro w hSw; (try dsimp only at hSw); obtain ⟨⟨e0, e1, e2, e3, e4, e5, e6⟩, ⟨f0, f1, f2, f3, f4, f5, f6⟩, g1⟩ := hSw; go_simp; (try with_reducible rfl))
          try simp only [Act.put, List.setIfInBounds_toArray, List.set_cons_zero, List.set_cons_succ]
          refine wpAnyH_take (i := 14) (oi := _) (v := ?_) (by rw [List.getElem?_toArray]; rfl) (by kernel_rfl) (by kernel_rfl) (by kernel_rfl) (fun _ _ _ h => by exact h) (Or.inl ⟨by rfl, ?_⟩) (by assumption) ?_
          rotate_left
          · (intro w hSw; (try dsimp only at hSw); obtain ⟨⟨e0, e1, e2, e3, e4, e5, e6⟩, ⟨f0, f1, f2, f3, f4, f5, f6⟩, g1⟩ := hSw; go_simp; (try with_reducible rfl))
          try simp only [Act.put, List.setIfInBounds_toArray, List.set_cons_zero, List.set_cons_succ]
          refine wpAnyH_ready (rs := [15]) (by kernel_rfl) (by simp) ?_
          refine AllReadyH.cons (o := _) (by rw [List.getElem?_toArray]; rfl) (fun K hK => ?_) ?_
          · go_simp
            go_wp2_with (go_at_call 49; refine (refreads_any b y HYL.out _ (Ob.out.fr (HF.out.trans ((Fr.refl (fun _ => False) _).drew)))).mono ?_; rintro e w6 ⟨rfl, f6⟩)
            have G6 : Hid (Fr (fun _ => False) wr w6) := ((Fr.refl (fun _ => False) _).drew).trans f6
            clear f6
            refine hK.out _ _ ⟨HD1.out.fr G6.out (by simp), HD2.out.fr G6.out (by simp), Fr.cell G6.out HY.out (by simp)⟩ (fun hHeld => ?_)
            clear hK K
            try simp only [Act.put, List.setIfInBounds_toArray, List.set_cons_zero, List.set_cons_succ]
            refine wpAnyH_take (i := 16) (oi := _) (v := ?_) (by rw [List.getElem?_toArray]; rfl) (by kernel_rfl) (by kernel_rfl) (by kernel_rfl) (fun _ _ _ h => by exact h) (Or.inl ⟨by rfl, ?_⟩) (by assumption) ?_
            rotate_left
            · (intro w hSw; (try dsimp only at hSw); go_simp; (try with_reducible rfl))
            try simp only [Act.put, List.setIfInBounds_toArray, List.set_cons_zero, List.set_cons_succ]
            refine wpAnyH_done (by kernel_rfl) ?_ _
            cases h2 : b.rd y with
            | true =>
              have H2 : Hid (b.rd y = true) := h2
              clear h2
              go_wp2
              go_ret
              exact ⟨by rw [HT.out (by rw [← Hf.out]; show (_ || _) = true; rw [H2.out, Bool.or_true]), Bool.true_or]; rfl, F0.out.trans (HF.out.trans G6.out)⟩
            | false =>
              have H2 : Hid (b.rd y = false) := h2
              clear h2
              go_wp2
              go_roundw
              case rel => exact ⟨k + 1, by omega, by go_num, HN.out (by rw [← Hf.out]; show (_ || _) = false; rw [H1.out, H2.out]; rfl), HF.out.trans G6.out⟩
              case measure => simp [intOf]; omega
          exact AllReadyH.nil
        · have H1 : Hid ((b.p.any fun z => decide (Fl.rk z = Fl.rk y)) = true) := h1
          refine wpAnyH_take (i := 8) (oi := _) (v := ?_) (by rw [List.getElem?_toArray]; rfl) (by kernel_rfl) (by kernel_rfl) (by kernel_rfl) (fun _ _ _ h => by exact h) (Or.inl ⟨by rfl, ?_⟩) (by assumption) ?_
          rotate_left
          · (intro w hSw; (try dsimp only at hSw); go_simp; (try with_reducible rfl))
          try simp only [Act.put, List.setIfInBounds_toArray, List.set_cons_zero, List.set_cons_succ]
          refine wpAnyH_take (i := 9) (oi := _) (v := undef) (by rw [List.getElem?_toArray]; rfl) (by kernel_rfl) (by kernel_rfl) (by kernel_rfl) (fun _ _ _ h => by exact h) (Or.inr ⟨by rfl, rfl⟩) (by assumption) ?_
          try simp only [Act.put, List.setIfInBounds_toArray, List.set_cons_zero, List.set_cons_succ]
          refine wpAnyH_take (i := 10) (oi := _) (v := undef) (by rw [List.getElem?_toArray]; rfl) (by kernel_rfl) (by kernel_rfl) (by kernel_rfl) (fun _ _ _ h => by exact h) (Or.inr ⟨by rfl, rfl⟩) (by assumption) ?_
          try simp only [Act.put, List.setIfInBounds_toArray, List.set_cons_zero, List.set_cons_succ]
          refine wpAnyH_take (i := 11) (oi := _) (v := undef) (by rw [List.getElem?_toArray]; rfl) (by kernel_rfl) (by kernel_rfl) (by kernel_rfl) (fun _ _ _ h => by exact h) (Or.inr ⟨by rfl, rfl⟩) (by assumption) ?_
          try simp only [Act.put, List.setIfInBounds_toArray, List.set_cons_zero, List.set_cons_succ]
          refine wpAnyH_take (i := 12) (oi := _) (v := undef) (by rw [List.getElem?_toArray]; rfl) (by kernel_rfl) (by kernel_rfl) (by kernel_rfl) (fun _ _ _ h => by exact h) (Or.inr ⟨by rfl, rfl⟩) (by assumption) ?_
          try simp only [Act.put, List.setIfInBounds_toArray, List.set_cons_zero, List.set_cons_succ]
          refine wpAnyH_take (i := 13) (oi := _) (v := undef) (by rw [List.getElem?_toArray]; rfl) (by kernel_rfl) (by kernel_rfl) (by kernel_rfl) (fun _ _ _ h => by exact h) (Or.inr ⟨by rfl, rfl⟩) (by assumption) ?_
          try simp only [Act.put, List.setIfInBounds_toArray, List.set_cons_zero, List.set_cons_succ]
          refine wpAnyH_take (i := 14) (oi := _) (v := undef) (by rw [List.getElem?_toArray]; rfl) (by kernel_rfl) (by kernel_rfl) (by kernel_rfl) (fun _ _ _ h => by exact h) (Or.inr ⟨by rfl, rfl⟩) (by assumption) ?_
          try simp only [Act.put, List.setIfInBounds_toArray, List.set_cons_zero, List.set_cons_succ]
          refine wpAnyH_take (i := 15) (oi := _) (v := undef) (by rw [List.getElem?_toArray]; rfl) (by kernel_rfl) (by kernel_rfl) (by kernel_rfl) (fun _ _ _ h => by exact h) (Or.inr ⟨by rfl, rfl⟩) (by assumption) ?_
          try simp only [Act.put, List.setIfInBounds_toArray, List.set_cons_zero, List.set_cons_succ]
          refine wpAnyH_take (i := 16) (oi := _) (v := ?_) (by rw [List.getElem?_toArray]; rfl) (by kernel_rfl) (by kernel_rfl) (by kernel_rfl) (fun _ _ _ h => by exact h) (Or.inl ⟨by rfl, ?_⟩) (by assumption) ?_
          rotate_left
          · (intro w hSw; (try dsimp only at hSw); go_simp; (try with_reducible rfl))
          try simp only [Act.put, List.setIfInBounds_toArray, List.set_cons_zero, List.set_cons_succ]
          refine wpAnyH_done (by kernel_rfl) ?_ _
          go_wp2
          go_ret
          exact ⟨by rw [HT.out (by rw [← Hf.out]; show (_ || _) = true; rw [H1.out, Bool.true_or]), Bool.true_or]; rfl, F0.out.trans (HF.out.trans ((Fr.refl (fun _ => False) _).drew))⟩
      exact AllReadyH.nil
    · have hlt' : ¬ (k : Int) < (a.p.length : Int) := by omega
      have Hall : Hid (a.p.any f = false) := by have := HA.out; rwa [List.take_of_length_le (by omega)] at this
      obtain ⟨d0, d1, d2, d3, d4, d5, d6⟩ := HB1.out.fr HF.out (by simp)
      rename World => w5
      have HF5 : Hid (Fr (fun _ => False) W w5) := HF.out
      go_wp2
      clear d0 d1 d2 d3 d4 d5 d6 HA HF hlt hlt' hk
      go_loopw [6] (fun iv wr => ∃ k : Nat, k ≤ b.p.length ∧ iv = .int .i64 (k : Int) ∧ Hid ((b.p.take k).any a.rd = false) ∧ Hid (Fr (fun _ => False) W wr)) (fun iv _ => b.p.length - (intOf iv).toNat)
      case atStart => exact ⟨0, Nat.zero_le _, rfl, (by show (List.take 0 b.p).any a.rd = false; simp), HF5.out⟩
      case round =>
        obtain ⟨k, hk, rfl, HA, HF⟩ := hrel
        by_cases hlt : k < b.p.length
        · have hne : b.p ≠ [] := fun e => by rw [e] at hlt; simp at hlt
          obtain ⟨rb, off, hao, hc⟩ := (Ob.out.fr HF.out).2.2.1.2.2.2 hne
          have hy := hc k hlt
          have hmem : b.p.getD k 0 ∈ b.p := by rw [List.getD_eq_getElem?_getD, List.getElem?_eq_getElem hlt]; exact List.getElem_mem _
          have HYL : Hid (b.p.getD k 0 < 18446744073709551616) := Ob.out.2.2.1.2.2.1 _ hmem
          have HN : Hid (a.rd (b.p.getD k 0) = false → (b.p.take (k + 1)).any a.rd = false) := any_take_succ b.p a.rd 0 k hlt HA.out
          have HT : Hid (a.rd (b.p.getD k 0) = true → b.p.any a.rd = true) := any_at b.p a.rd 0 k hlt
          obtain ⟨y, Hy⟩ : ∃ y, Hid (b.p.getD k 0 = y) := ⟨_, rfl⟩
          rw [Hy.out] at hy HYL HN HT
          have HY : Hid (wr.cell? ⟨rb, off + k, none⟩ = some (.float .f64 y)) := hy
          have HD1 : Hid (C7 wr b1 (.int .u64 (a.a0 : Int)) (.int .u64 (a.a1 : Int)) (.int .u64 (a.a2 : Int)) (.slice a.ga a.g.length a.gc) (.slice a.sa a.s.length a.sc) (.slice a.pa a.p.length a.pc) (.slice a.da a.dl.length a.dc)) := (show C7 _ _ _ _ _ _ _ _ _ by have h := HB1.out.fr HF.out (by simp); exact h)
          have HD2 : Hid (C7 wr b2 (.int .u64 (b.a0 : Int)) (.int .u64 (b.a1 : Int)) (.int .u64 (b.a2 : Int)) (.slice b.ga b.g.length b.gc) (.slice b.sa b.s.length b.sc) (.slice (some ⟨rb, off, none⟩) b.p.length b.pc) (.slice b.da b.dl.length b.dc)) := (show C7 _ _ _ _ _ _ _ _ _ by have h := HB2.out.fr HF.out (by simp); rw [hao] at h; exact h)
          have z1 : (0 : Int) ≤ (k : Int) := by omega
          have z2 : (k : Int) < (b.p.length : Int) := by omega
          obtain ⟨d0, d1, d2, d3, d4, d5, d6⟩ := HD1.out
          obtain ⟨k0, k1, k2, k3, k4, k5, k6⟩ := HD2.out
          clear hc hmem hy hao
          go_wp2_with fail
          clear d0 d1 d2 d3 d4 d5 d6 k0 k1 k2 k3 k4 k5 k6
          refine wp_region_held_drew (S := (fun W : World => C7 W b1 (.int .u64 (a.a0 : Int)) (.int .u64 (a.a1 : Int)) (.int .u64 (a.a2 : Int)) (.slice a.ga a.g.length a.gc) (.slice a.sa a.s.length a.sc) (.slice a.pa a.p.length a.pc) (.slice a.da a.dl.length a.dc) ∧ C7 W b2 (.int .u64 (b.a0 : Int)) (.int .u64 (b.a1 : Int)) (.int .u64 (b.a2 : Int)) (.slice b.ga b.g.length b.gc) (.slice b.sa b.s.length b.sc) (.slice (some ⟨rb, off, none⟩) b.p.length b.pc) (.slice b.da b.dl.length b.dc) ∧ W.cell? ⟨rb, off + k, none⟩ = some (.float .f64 y))) (by kernel_rfl) ⟨HD1.out.fr ((Fr.refl (fun _ => False) _).drew) (by simp), HD2.out.fr ((Fr.refl (fun _ => False) _).drew) (by simp), Fr.cell ((Fr.refl (fun _ => False) _).drew) HY.out (by simp)⟩ (fun hHeld => ?_)
          refine wpAnyH_take (i := 0) (oi := _) (v := ?_) (by rw [List.getElem?_toArray]; rfl) (by kernel_rfl) (by kernel_rfl) (by kernel_rfl) (fun _ _ _ h => by exact h) (Or.inl ⟨by rfl, ?_⟩) (by assumption) ?_
          rotate_left
          · (intro w hSw; (try dsimp only at hSw); obtain ⟨⟨e0, e1, e2, e3, e4, e5, e6⟩, ⟨f0, f1, f2, f3, f4, f5, f6⟩, g1⟩ := hSw; go_simp; (try with_reducible rfl))
          try simp only [Act.put, List.setIfInBounds_toArray, List.set_cons_zero, List.set_cons_succ]
          refine wpAnyH_take (i := 1) (oi := _) (v := ?_) (by rw [List.getElem?_toArray]; rfl) (by kernel_rfl) (by kernel_rfl) (by kernel_rfl) (fun _ _ _ h => by exact h) (Or.inl ⟨by rfl, ?_⟩) (by assumption) ?_
          rotate_left
          · (intro w hSw; (try dsimp only at hSw); obtain ⟨⟨e0, e1, e2, e3, e4, e5, e6⟩, ⟨f0, f1, f2, f3, f4, f5, f6⟩, g1⟩ := hSw; go_simp; (try with_reducible rfl))
          try simp only [Act.put, List.setIfInBounds_toArray, List.set_cons_zero, List.set_cons_succ]
          refine wpAnyH_take (i := 2) (oi := _) (v := ?_) (by rw [List.getElem?_toArray]; rfl) (by kernel_rfl) (by kernel_rfl) (by kernel_rfl) (fun _ _ _ h => by exact h) (Or.inl ⟨by rfl, ?_⟩) (by assumption) ?_
          rotate_left
          · (intro w hSw; (try dsimp only at hSw); obtain ⟨⟨e0, e1, e2, e3, e4, e5, e6⟩, ⟨f0, f1, f2, f3, f4, f5, f6⟩, g1⟩ := hSw; go_simp; (try with_reducible rfl))
          try simp only [Act.put, List.setIfInBounds_toArray, List.set_cons_zero, List.set_cons_succ]
          refine wpAnyH_take (i := 3) (oi := _) (v := ?_) (by rw [List.getElem?_toArray]; rfl) (by kernel_rfl) (by kernel_rfl) (by kernel_rfl) (fun _ _ _ h => by exact h) (Or.inl ⟨by rfl, ?_⟩) (by assumption) ?_
          rotate_left
          · (intro w hSw; (try dsimp only at hSw); obtain ⟨⟨e0, e1, e2, e3, e4, e5, e6⟩, ⟨f0, f1, f2, f3, f4, f5, f6⟩, g1⟩ := hSw; go_simp; (try with_reducible rfl))
          try simp only [Act.put, List.setIfInBounds_toArray, List.set_cons_zero, List.set_cons_succ]
          refine wpAnyH_take (i := 4) (oi := _) (v := ?_) (by rw [List.getElem?_toArray]; rfl) (by kernel_rfl) (by kernel_rfl) (by kernel_rfl) (fun _ _ _ h => by exact h) (Or.inl ⟨by rfl, ?_⟩) (by assumption) ?_
          rotate_left
          · (intro w hSw; (try dsimp only at hSw); obtain ⟨⟨e0, e1, e2, e3, e4, e5, e6⟩, ⟨f0, f1, f2, f3, f4, f5, f6⟩, g1⟩ := hSw; go_simp; (try with_reducible rfl))
          try simp only [Act.put, List.setIfInBounds_toArray, List.set_cons_zero, List.set_cons_succ]
          refine wpAnyH_take (i := 5) (oi := _) (v := ?_) (by rw [List.getElem?_toArray]; rfl) (by kernel_rfl) (by kernel_rfl) (by kernel_rfl) (fun _ _ _ h => by exact h) (Or.inl ⟨by rfl, ?_⟩) (by assumption) ?_
          rotate_left
          · (intro w hSw; (try dsimp only at hSw); obtain ⟨⟨e0, e1, e2, e3, e4, e5, e6⟩, ⟨f0, f1, f2, f3, f4, f5, f6⟩, g1⟩ := hSw; go_simp; (try with_reducible rfl))
          try simp only [Act.put, List.setIfInBounds_toArray, List.set_cons_zero, List.set_cons_succ]
          refine wpAnyH_ready (rs := [6]) (by kernel_rfl) (by simp) ?_
          refine AllReadyH.cons (o := _) (by rw [List.getElem?_toArray]; rfl) (fun K hK => ?_) ?_
          · go_simp
            go_wp2_with (go_at_call 49; refine (refreads_any a y HYL.out _ (Oa.out.fr (HF.out.trans ((Fr.refl (fun _ => False) _).drew)))).mono ?_; rintro e w6 ⟨rfl, f6⟩)
            have G6 : Hid (Fr (fun _ => False) wr w6) := ((Fr.refl (fun _ => False) _).drew).trans f6
            clear f6
            refine hK.out _ _ ⟨HD1.out.fr G6.out (by simp), HD2.out.fr G6.out (by simp), Fr.cell G6.out HY.out (by simp)⟩ (fun hHeld => ?_)
            clear hK K
            try simp only [Act.put, List.setIfInBounds_toArray, List.set_cons_zero, List.set_cons_succ]
            refine wpAnyH_done (by kernel_rfl) ?_ _
            cases h2 : a.rd y with
            | true =>
              have H2 : Hid (a.rd y = true) := h2
              clear h2
              go_wp2
              go_ret
              exact ⟨by rw [HT.out H2.out, Bool.or_true]; rfl, F0.out.trans (HF.out.trans G6.out)⟩
            | false =>
              have H2 : Hid (a.rd y = false) := h2
              clear h2
              go_wp2
              go_roundw
              case rel => exact ⟨k + 1, by omega, by go_num, HN.out H2.out, HF.out.trans G6.out⟩
              case measure => simp [intOf]; omega
          exact AllReadyH.nil
        · have hlt' : ¬ (k : Int) < (b.p.length : Int) := by omega
          have HB9 : Hid (b.p.any a.rd = false) := by have := HA.out; rwa [List.take_of_length_le (by omega)] at this
          obtain ⟨d0, d1, d2, d3, d4, d5, d6⟩ := HB2.out.fr HF.out (by simp)
          go_wp2
          go_ret
          exact ⟨by first | (rw [Hall.out, HB9.out]; rfl) | rfl, F0.out.trans HF.out⟩
end Go.Proofs.Ytaalkhipncbjpaa
