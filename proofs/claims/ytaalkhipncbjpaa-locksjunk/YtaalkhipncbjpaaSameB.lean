/- Are two holds one: the document's SameHold, for any two. -/
import Derived.Test.YtaalkhipncbjpaaSameA
import Derived.Test.YtaalkhipncbjpaaMeetF
namespace Go.Proofs.Ytaalkhipncbjpaa
open Go.RowKit
set_option maxRecDepth 100000 in
set_option maxHeartbeats 16000000 in
theorem samehold_any (a b : Hd) (w : World) (ha : a.ok w) (hb : b.ok w) : Calls Try.prog 13 #[.agg #[.int .u64 (a.a0 : Int), .int .u64 (a.a1 : Int), .int .u64 (a.a2 : Int), .slice a.ga a.g.length a.gc, .slice a.sa a.s.length a.sc, .slice a.pa a.p.length a.pc, .slice a.da a.dl.length a.dc], .agg #[.int .u64 (b.a0 : Int), .int .u64 (b.a1 : Int), .int .u64 (b.a2 : Int), .slice b.ga b.g.length b.gc, .slice b.sa b.s.length b.sc, .slice b.pa b.p.length b.pc, .slice b.da b.dl.length b.dc]] w fun e w' => e = .returned (.bool (a.same b)) ∧ Fr (fun _ => False) w w' := by
  have hl1 : a.g.length ≤ 9223372036854775807 := by have := ha.1.1; have := ha.1.2.1; unfold maxLen at this; omega
  have hl2 : a.s.length ≤ 9223372036854775807 := by have := ha.2.1.1; have := ha.2.1.2.1; unfold maxLen at this; omega
  have hl3 : a.p.length ≤ 9223372036854775807 := by have := ha.2.2.1.1; have := ha.2.2.1.2.1; unfold maxLen at this; omega
  obtain ⟨W, HW⟩ : ∃ W, Hid (W = (w.alloc (.cells #[.int .u64 (a.a0 : Int), .int .u64 (a.a1 : Int), .int .u64 (a.a2 : Int), .slice a.ga a.g.length a.gc, .slice a.sa a.s.length a.sc, .slice a.pa a.p.length a.pc, .slice a.da a.dl.length a.dc] 29)).alloc (.cells #[.int .u64 (b.a0 : Int), .int .u64 (b.a1 : Int), .int .u64 (b.a2 : Int), .slice b.ga b.g.length b.gc, .slice b.sa b.s.length b.sc, .slice b.pa b.p.length b.pc, .slice b.da b.dl.length b.dc] 29)) := ⟨_, rfl⟩
  have F0 : Hid (Fr (fun _ => False) w W) := (show Fr _ _ _ by rw [HW.out]; exact ((Fr.refl (fun _ => False) w).alloc _).alloc _)
  have HB1 : Hid (C7 W w.heap.size (.int .u64 (a.a0 : Int)) (.int .u64 (a.a1 : Int)) (.int .u64 (a.a2 : Int)) (.slice a.ga a.g.length a.gc) (.slice a.sa a.s.length a.sc) (.slice a.pa a.p.length a.pc) (.slice a.da a.dl.length a.dc)) := (show C7 _ _ _ _ _ _ _ _ _ by rw [HW.out]; exact (C7.new w 29 _ _ _ _ _ _ _).fr ((Fr.refl (fun _ => False) _).alloc (.cells #[.int .u64 (b.a0 : Int), .int .u64 (b.a1 : Int), .int .u64 (b.a2 : Int), .slice b.ga b.g.length b.gc, .slice b.sa b.s.length b.sc, .slice b.pa b.p.length b.pc, .slice b.da b.dl.length b.dc] 29)) (by simp))
  have HB2 : Hid (C7 W (w.heap.size + 1) (.int .u64 (b.a0 : Int)) (.int .u64 (b.a1 : Int)) (.int .u64 (b.a2 : Int)) (.slice b.ga b.g.length b.gc) (.slice b.sa b.s.length b.sc) (.slice b.pa b.p.length b.pc) (.slice b.da b.dl.length b.dc)) := (show C7 _ _ _ _ _ _ _ _ _ by rw [HW.out]; have := C7.new (w.alloc (.cells #[.int .u64 (a.a0 : Int), .int .u64 (a.a1 : Int), .int .u64 (a.a2 : Int), .slice a.ga a.g.length a.gc, .slice a.sa a.s.length a.sc, .slice a.pa a.p.length a.pc, .slice a.da a.dl.length a.dc] 29)) 29 (.int .u64 (b.a0 : Int)) (.int .u64 (b.a1 : Int)) (.int .u64 (b.a2 : Int)) (.slice b.ga b.g.length b.gc) (.slice b.sa b.s.length b.sc) (.slice b.pa b.p.length b.pc) (.slice b.da b.dl.length b.dc); simpa using this)
  have Oa : Hid (a.ok W) := ha.fr F0.out
  have Ob : Hid (b.ok W) := hb.fr F0.out
  have hs1 := run_str' W a.da a.dl a.dl.length a.dc rfl Oa.out.2.2.2
  have hs2 := run_str' W b.da b.dl b.dl.length b.dc rfl Ob.out.2.2.2
  have hi0 : ((a.a0 : Int) == (b.a0 : Int)) = decide (a.a0 = b.a0) := by rw [Bool.eq_iff_iff]; simp; omega
  have hi1 : ((a.a1 : Int) == (b.a1 : Int)) = decide (a.a1 = b.a1) := by rw [Bool.eq_iff_iff]; simp; omega
  have hi2 : ((a.a2 : Int) == (b.a2 : Int)) = decide (a.a2 = b.a2) := by rw [Bool.eq_iff_iff]; simp; omega
  have hi3 : decide (a.a0 = b.a0 ∧ a.a1 = b.a1) = (decide (a.a0 = b.a0) && decide (a.a1 = b.a1)) := by rw [Bool.eq_iff_iff]; simp
  have hn0 : ((a.g.length : Int) == (b.g.length : Int)) = decide (a.g.length = b.g.length) := by rw [Bool.eq_iff_iff]; simp; omega
  have hn1 : ((a.s.length : Int) == (b.s.length : Int)) = decide (a.s.length = b.s.length) := by rw [Bool.eq_iff_iff]; simp; omega
  have hn2 : ((a.p.length : Int) == (b.p.length : Int)) = decide (a.p.length = b.p.length) := by rw [Bool.eq_iff_iff]; simp; omega
  have hd : ((strOf a.dl).toList == (strOf b.dl).toList) = decide (a.dl = b.dl) := by
    by_cases h : a.dl = b.dl
    · rw [h]; simp
    · have h2 : ¬ (strOf a.dl).toList = (strOf b.dl).toList := fun e => h (strOf_inj a.dl b.dl ha.2.2.2.2.2.1 hb.2.2.2.2.2.1 (toList_inj e))
      simp [h, h2]
  have HE0 : Hid (¬ a.g.length = b.g.length → decide (a.g.map Fl.rk = b.g.map Fl.rk) = false) := fun h => by
    simp only [decide_eq_false_iff_not]; intro e; have := congrArg List.length e; simp at this; exact h this
  have HE1 : Hid (¬ a.s.length = b.s.length → decide (a.s.map rkp = b.s.map rkp) = false) := fun h => by
    simp only [decide_eq_false_iff_not]; intro e; have := congrArg List.length e; simp at this; exact h this
  have HE2 : Hid (¬ a.p.length = b.p.length → decide (a.p.map Fl.rk = b.p.map Fl.rk) = false) := fun h => by
    simp only [decide_eq_false_iff_not]; intro e; have := congrArg List.length e; simp at this; exact h this
  obtain ⟨b1, Hb1⟩ : ∃ b1, Hid (w.heap.size = b1) := ⟨_, rfl⟩
  obtain ⟨b2, Hb2⟩ : ∃ b2, Hid (w.heap.size + 1 = b2) := ⟨_, rfl⟩
  rw [Hb1.out] at HB1
  rw [Hb2.out] at HB2
  clear ha hb
  unfold Hd.same Hd.id
  rw [hi3]
  clear hi3
  generalize decide (a.a0 = b.a0) = p0 at *
  generalize decide (a.a1 = b.a1) = p1 at *
  generalize decide (a.a2 = b.a2) = p2 at *
  generalize decide (a.dl = b.dl) = p3 at *
  have hcv1 : (convert 27 9 (.slice a.da a.dl.length a.dc)).run Try.prog ((w.alloc (.cells #[.int .u64 (a.a0 : Int), .int .u64 (a.a1 : Int), .int .u64 (a.a2 : Int), .slice a.ga a.g.length a.gc, .slice a.sa a.s.length a.sc, .slice a.pa a.p.length a.pc, .slice a.da a.dl.length a.dc] 29)).alloc (.cells #[.int .u64 (b.a0 : Int), .int .u64 (b.a1 : Int), .int .u64 (b.a2 : Int), .slice b.ga b.g.length b.gc, .slice b.sa b.s.length b.sc, .slice b.pa b.p.length b.pc, .slice b.da b.dl.length b.dc] 29)) = .ok (.string (strOf a.dl)) ((w.alloc (.cells #[.int .u64 (a.a0 : Int), .int .u64 (a.a1 : Int), .int .u64 (a.a2 : Int), .slice a.ga a.g.length a.gc, .slice a.sa a.s.length a.sc, .slice a.pa a.p.length a.pc, .slice a.da a.dl.length a.dc] 29)).alloc (.cells #[.int .u64 (b.a0 : Int), .int .u64 (b.a1 : Int), .int .u64 (b.a2 : Int), .slice b.ga b.g.length b.gc, .slice b.sa b.s.length b.sc, .slice b.pa b.p.length b.pc, .slice b.da b.dl.length b.dc] 29)) := by rw [← HW.out]; exact hs1
  have hcv2 : (convert 27 9 (.slice b.da b.dl.length b.dc)).run Try.prog ((w.alloc (.cells #[.int .u64 (a.a0 : Int), .int .u64 (a.a1 : Int), .int .u64 (a.a2 : Int), .slice a.ga a.g.length a.gc, .slice a.sa a.s.length a.sc, .slice a.pa a.p.length a.pc, .slice a.da a.dl.length a.dc] 29)).alloc (.cells #[.int .u64 (b.a0 : Int), .int .u64 (b.a1 : Int), .int .u64 (b.a2 : Int), .slice b.ga b.g.length b.gc, .slice b.sa b.s.length b.sc, .slice b.pa b.p.length b.pc, .slice b.da b.dl.length b.dc] 29)) = .ok (.string (strOf b.dl)) ((w.alloc (.cells #[.int .u64 (a.a0 : Int), .int .u64 (a.a1 : Int), .int .u64 (a.a2 : Int), .slice a.ga a.g.length a.gc, .slice a.sa a.s.length a.sc, .slice a.pa a.p.length a.pc, .slice a.da a.dl.length a.dc] 29)).alloc (.cells #[.int .u64 (b.a0 : Int), .int .u64 (b.a1 : Int), .int .u64 (b.a2 : Int), .slice b.ga b.g.length b.gc, .slice b.sa b.s.length b.sc, .slice b.pa b.p.length b.pc, .slice b.da b.dl.length b.dc] 29)) := by rw [← HW.out]; exact hs2
  clear hs1 hs2
  cases p0
  · go_enter Try.func13, Try.ntmps13
    go_wp2
    go_ret
    exact ⟨by simp, ((Fr.refl (fun _ => False) w).alloc _).alloc _⟩
  have e0 : a.a0 = b.a0 := by have : (a.a0 : Int) = (b.a0 : Int) := by simpa using hi0
                              omega
  rw [e0] at HW HB1 hcv1 hcv2 ⊢
  clear hi0 e0
  cases p1
  · go_enter Try.func13, Try.ntmps13
    go_wp2
    go_ret
    exact ⟨by simp, ((Fr.refl (fun _ => False) w).alloc _).alloc _⟩
  have e1 : a.a1 = b.a1 := by have : (a.a1 : Int) = (b.a1 : Int) := by simpa using hi1
                              omega
  rw [e1] at HW HB1 hcv1 hcv2 ⊢
  clear hi1 e1
  cases p2
  · have hj2 : ((a.a2 : Int) != (b.a2 : Int)) = true := by rw [bne, hi2]; rfl
    go_enter Try.func13, Try.ntmps13
    go_wp2
    go_ret
    exact ⟨by simp, ((Fr.refl (fun _ => False) w).alloc _).alloc _⟩
  have e2 : a.a2 = b.a2 := by have : (a.a2 : Int) = (b.a2 : Int) := by simpa using hi2
                              omega
  rw [e2] at HW HB1 hcv1 hcv2 ⊢
  clear hi2 e2
  by_cases h0 : a.g.length = b.g.length
  case neg =>
    have hx := HE0.out h0
    simp only [h0, decide_false] at hn0
    rw [hx]
    go_enter Try.func13, Try.ntmps13
    go_wp2
    go_ret
    exact ⟨by simp, ((Fr.refl (fun _ => False) w).alloc _).alloc _⟩
  have HLg : Hid (a.g.length = b.g.length) := h0
  rw [h0] at HW HB1 hcv1 hcv2 ⊢
  clear hn0 h0 HE0 hl1
  by_cases h1 : a.s.length = b.s.length
  case neg =>
    have hx := HE1.out h1
    simp only [h1, decide_false] at hn1
    rw [hx]
    go_enter Try.func13, Try.ntmps13
    go_wp2
    go_ret
    exact ⟨by simp, ((Fr.refl (fun _ => False) w).alloc _).alloc _⟩
  have HLs : Hid (a.s.length = b.s.length) := h1
  rw [h1] at HW HB1 hcv1 hcv2 ⊢
  clear hn1 h1 HE1 hl2
  by_cases h2 : a.p.length = b.p.length
  case neg =>
    have hx := HE2.out h2
    simp only [h2, decide_false] at hn2
    rw [hx]
    go_enter Try.func13, Try.ntmps13
    go_wp2
    go_ret
    exact ⟨by simp, ((Fr.refl (fun _ => False) w).alloc _).alloc _⟩
  have HLp : Hid (a.p.length = b.p.length) := h2
  rw [h2] at HW HB1 hcv1 hcv2 ⊢
  clear hn2 h2 HE2 hl3
  cases p3
  · go_enter Try.func13, Try.ntmps13
    go_wp2
    go_ret
    exact ⟨by simp, ((Fr.refl (fun _ => False) w).alloc _).alloc _⟩
  have hl1 : b.g.length ≤ 9223372036854775807 := by have := Ob.out.1.1; have := Ob.out.1.2.1; unfold maxLen at this; omega
  have hl2 : b.s.length ≤ 9223372036854775807 := by have := Ob.out.2.1.1; have := Ob.out.2.1.2.1; unfold maxLen at this; omega
  have hl3 : b.p.length ≤ 9223372036854775807 := by have := Ob.out.2.2.1.1; have := Ob.out.2.2.1.2.1; unfold maxLen at this; omega
  go_enter Try.func13, Try.ntmps13
  go_wp2
  rw [← HW.out, Hb2.out, Hb1.out]
  clear hcv1 hcv2 hd
  go_loopw [5] (fun iv wr => ∃ k : Nat, k ≤ b.g.length ∧ iv = .int .i64 (k : Int) ∧ Hid ((a.g.take k).map Fl.rk = (b.g.take k).map Fl.rk) ∧ Hid (Fr (fun _ => False) W wr)) (fun iv _ => b.g.length - (intOf iv).toNat)
  case atStart => exact ⟨0, Nat.zero_le _, rfl, (by show (List.take 0 a.g).map Fl.rk = (List.take 0 b.g).map Fl.rk; simp), Fr.refl _ _⟩
  case round =>
    obtain ⟨k, hk, rfl, HA, HF⟩ := hrel
    by_cases hlt2 : k < b.g.length
    · have hlt : k < a.g.length := by have := HLg.out; omega
      obtain ⟨ra, oa, hao, hc⟩ := (Oa.out.fr HF.out).1.2.2.2 (fun e => by rw [e] at hlt; simp at hlt)
      obtain ⟨rb, ob, hbo, hc2⟩ := (Ob.out.fr HF.out).1.2.2.2 (fun e => by rw [e] at hlt2; simp at hlt2)
      have hy := hc k hlt
      have hz := hc2 k hlt2
      have hm1 := Oa.out.1.2.2.1 (a.g.getD k 0) (by rw [List.getD_eq_getElem?_getD, List.getElem?_eq_getElem hlt]; exact List.getElem_mem _)
      have hm2 := Ob.out.1.2.2.1 (b.g.getD k 0) (by rw [List.getD_eq_getElem?_getD, List.getElem?_eq_getElem hlt2]; exact List.getElem_mem _)
      have HN0 : Hid (Fl.rk (a.g.getD k 0) = Fl.rk (b.g.getD k 0) → (a.g.take (k + 1)).map Fl.rk = (b.g.take (k + 1)).map Fl.rk) := map_take_succ Fl.rk 0 a.g b.g k hlt hlt2 HA.out
      have HT0 : Hid (a.g.map Fl.rk = b.g.map Fl.rk → Fl.rk (a.g.getD k 0) = Fl.rk (b.g.getD k 0)) := map_at Fl.rk 0 a.g b.g k hlt hlt2
      have HD1 : Hid (C7 wr b1 (.int .u64 (b.a0 : Int)) (.int .u64 (b.a1 : Int)) (.int .u64 (b.a2 : Int)) (.slice (some ⟨ra, oa, none⟩) b.g.length a.gc) (.slice a.sa b.s.length a.sc) (.slice a.pa b.p.length a.pc) (.slice a.da a.dl.length a.dc)) := (show C7 _ _ _ _ _ _ _ _ _ by have h := HB1.out.fr HF.out (by simp); rw [hao] at h; exact h)
      have HD2 : Hid (C7 wr b2 (.int .u64 (b.a0 : Int)) (.int .u64 (b.a1 : Int)) (.int .u64 (b.a2 : Int)) (.slice (some ⟨rb, ob, none⟩) b.g.length b.gc) (.slice b.sa b.s.length b.sc) (.slice b.pa b.p.length b.pc) (.slice b.da b.dl.length b.dc)) := (show C7 _ _ _ _ _ _ _ _ _ by have h := HB2.out.fr HF.out (by simp); rw [hbo] at h; exact h)
      obtain ⟨y, Hy⟩ : ∃ y, Hid (a.g.getD k 0 = y) := ⟨_, rfl⟩
      obtain ⟨z, Hz⟩ : ∃ z, Hid (b.g.getD k 0 = z) := ⟨_, rfl⟩
      rw [Hy.out] at hy hm1 HN0 HT0
      rw [Hz.out] at hz hm2 HN0 HT0
      have HY : Hid (wr.cell? ⟨ra, oa + k, none⟩ = some (.float .f64 y)) := hy
      have HZ : Hid (wr.cell? ⟨rb, ob + k, none⟩ = some (.float .f64 z)) := hz
      have KW : Hid (∀ W, Calls _ _ _ W _) := fun W => refsame_any y z hm1 hm2 W
      obtain ⟨t, Ht⟩ : ∃ t, Hid (decide (Fl.rk y = Fl.rk z) = t) := ⟨_, rfl⟩
      rw [Ht.out] at KW
      have HN : Hid (t = true → (a.g.take (k + 1)).map Fl.rk = (b.g.take (k + 1)).map Fl.rk) := fun e => HN0.out (by have h := Ht.out; rw [e] at h; simpa using h)
      have HT : Hid (t = false → decide (a.g.map Fl.rk = b.g.map Fl.rk) = false) := fun e => by
        have h2 := Ht.out
        rw [e] at h2
        simp only [decide_eq_false_iff_not] at h2 ⊢
        exact fun e => h2 (HT0.out e)
      clear Ht HN0 HT0 Hy Hz
      have i0 : (0 : Int) ≤ (k : Int) := by omega
      have i2 : (k : Int) < (b.g.length : Int) := by omega
      obtain ⟨d0, d1, d2, d3, d4, d5, d6⟩ := HD1.out
      clear hc hc2 hy hz hao hbo hm1 hm2
      go_wp2_with fail
      clear d0 d1 d2 d3 d4 d5 d6
      refine wp_region_held_drew (S := (fun W : World => C7 W b1 (.int .u64 (b.a0 : Int)) (.int .u64 (b.a1 : Int)) (.int .u64 (b.a2 : Int)) (.slice (some ⟨ra, oa, none⟩) b.g.length a.gc) (.slice a.sa b.s.length a.sc) (.slice a.pa b.p.length a.pc) (.slice a.da a.dl.length a.dc) ∧ C7 W b2 (.int .u64 (b.a0 : Int)) (.int .u64 (b.a1 : Int)) (.int .u64 (b.a2 : Int)) (.slice (some ⟨rb, ob, none⟩) b.g.length b.gc) (.slice b.sa b.s.length b.sc) (.slice b.pa b.p.length b.pc) (.slice b.da b.dl.length b.dc) ∧ W.cell? ⟨ra, oa + k, none⟩ = some (.float .f64 y) ∧ W.cell? ⟨rb, ob + k, none⟩ = some (.float .f64 z))) (by kernel_rfl) ⟨HD1.out.fr ((Fr.refl (fun _ => False) _).drew) (by simp), HD2.out.fr ((Fr.refl (fun _ => False) _).drew) (by simp), Fr.cell ((Fr.refl (fun _ => False) _).drew) HY.out (by simp), Fr.cell ((Fr.refl (fun _ => False) _).drew) HZ.out (by simp)⟩ (fun hHeld => ?_)
      refine wpAnyH_take (i := 0) (oi := _) (v := ?_) (by rw [List.getElem?_toArray]; rfl) (by kernel_rfl) (by kernel_rfl) (by kernel_rfl) (fun _ _ _ h => by exact h) (Or.inl ⟨by rfl, ?_⟩) (by assumption) ?_
      rotate_left
      · (intro w hSw; (try dsimp only at hSw); obtain ⟨⟨e0, e1, e2, e3, e4, e5, e6⟩, ⟨f0, f1, f2, f3, f4, f5, f6⟩, g1, g2⟩ := hSw; go_simp; (try with_reducible rfl))
      try simp only [Act.put, List.setIfInBounds_toArray, List.set_cons_zero, List.set_cons_succ]
      refine wpAnyH_take (i := 1) (oi := _) (v := ?_) (by rw [List.getElem?_toArray]; rfl) (by kernel_rfl) (by kernel_rfl) (by kernel_rfl) (fun _ _ _ h => by exact h) (Or.inl ⟨by rfl, ?_⟩) (by assumption) ?_
      rotate_left
      · (intro w hSw; (try dsimp only at hSw); obtain ⟨⟨e0, e1, e2, e3, e4, e5, e6⟩, ⟨f0, f1, f2, f3, f4, f5, f6⟩, g1, g2⟩ := hSw; go_simp; (try with_reducible rfl))
      try simp only [Act.put, List.setIfInBounds_toArray, List.set_cons_zero, List.set_cons_succ]
      refine wpAnyH_take (i := 2) (oi := _) (v := ?_) (by rw [List.getElem?_toArray]; rfl) (by kernel_rfl) (by kernel_rfl) (by kernel_rfl) (fun _ _ _ h => by exact h) (Or.inl ⟨by rfl, ?_⟩) (by assumption) ?_
      rotate_left
      · (intro w hSw; (try dsimp only at hSw); obtain ⟨⟨e0, e1, e2, e3, e4, e5, e6⟩, ⟨f0, f1, f2, f3, f4, f5, f6⟩, g1, g2⟩ := hSw; go_simp; (try with_reducible rfl))
      try simp only [Act.put, List.setIfInBounds_toArray, List.set_cons_zero, List.set_cons_succ]
      refine wpAnyH_take (i := 3) (oi := _) (v := ?_) (by rw [List.getElem?_toArray]; rfl) (by kernel_rfl) (by kernel_rfl) (by kernel_rfl) (fun _ _ _ h => by exact h) (Or.inl ⟨by rfl, ?_⟩) (by assumption) ?_
      rotate_left
      · (intro w hSw; (try dsimp only at hSw); obtain ⟨⟨e0, e1, e2, e3, e4, e5, e6⟩, ⟨f0, f1, f2, f3, f4, f5, f6⟩, g1, g2⟩ := hSw; go_simp; (try with_reducible rfl))
      try simp only [Act.put, List.setIfInBounds_toArray, List.set_cons_zero, List.set_cons_succ]
      refine wpAnyH_take (i := 4) (oi := _) (v := ?_) (by rw [List.getElem?_toArray]; rfl) (by kernel_rfl) (by kernel_rfl) (by kernel_rfl) (fun _ _ _ h => by exact h) (Or.inl ⟨by rfl, ?_⟩) (by assumption) ?_
      rotate_left
      · (intro w hSw; (try dsimp only at hSw); obtain ⟨⟨e0, e1, e2, e3, e4, e5, e6⟩, ⟨f0, f1, f2, f3, f4, f5, f6⟩, g1, g2⟩ := hSw; go_simp; (try with_reducible rfl))
      try simp only [Act.put, List.setIfInBounds_toArray, List.set_cons_zero, List.set_cons_succ]
      refine wpAnyH_take (i := 5) (oi := _) (v := ?_) (by rw [List.getElem?_toArray]; rfl) (by kernel_rfl) (by kernel_rfl) (by kernel_rfl) (fun _ _ _ h => by exact h) (Or.inl ⟨by rfl, ?_⟩) (by assumption) ?_
      rotate_left
      · (intro w hSw; (try dsimp only at hSw); obtain ⟨⟨e0, e1, e2, e3, e4, e5, e6⟩, ⟨f0, f1, f2, f3, f4, f5, f6⟩, g1, g2⟩ := hSw; go_simp; (try with_reducible rfl))
      try simp only [Act.put, List.setIfInBounds_toArray, List.set_cons_zero, List.set_cons_succ]
      refine wpAnyH_take (i := 6) (oi := _) (v := ?_) (by rw [List.getElem?_toArray]; rfl) (by kernel_rfl) (by kernel_rfl) (by kernel_rfl) (fun _ _ _ h => by exact h) (Or.inl ⟨by rfl, ?_⟩) (by assumption) ?_
      rotate_left
      · (intro w hSw; (try dsimp only at hSw); obtain ⟨⟨e0, e1, e2, e3, e4, e5, e6⟩, ⟨f0, f1, f2, f3, f4, f5, f6⟩, g1, g2⟩ := hSw; go_simp; (try with_reducible rfl))
      try simp only [Act.put, List.setIfInBounds_toArray, List.set_cons_zero, List.set_cons_succ]
      refine wpAnyH_take (i := 7) (oi := _) (v := ?_) (by rw [List.getElem?_toArray]; rfl) (by kernel_rfl) (by kernel_rfl) (by kernel_rfl) (fun _ _ _ h => by exact h) (Or.inl ⟨by rfl, ?_⟩) (by assumption) ?_
      rotate_left
      · (intro w hSw; (try dsimp only at hSw); obtain ⟨⟨e0, e1, e2, e3, e4, e5, e6⟩, ⟨f0, f1, f2, f3, f4, f5, f6⟩, g1, g2⟩ := hSw; go_simp; (try with_reducible rfl))
      try simp only [Act.put, List.setIfInBounds_toArray, List.set_cons_zero, List.set_cons_succ]
      refine wpAnyH_take (i := 8) (oi := _) (v := ?_) (by rw [List.getElem?_toArray]; rfl) (by kernel_rfl) (by kernel_rfl) (by kernel_rfl) (fun _ _ _ h => by exact h) (Or.inl ⟨by rfl, ?_⟩) (by assumption) ?_
      rotate_left
      · (intro w hSw; (try dsimp only at hSw); obtain ⟨⟨e0, e1, e2, e3, e4, e5, e6⟩, ⟨f0, f1, f2, f3, f4, f5, f6⟩, g1, g2⟩ := hSw; go_simp; (try with_reducible rfl))
      try simp only [Act.put, List.setIfInBounds_toArray, List.set_cons_zero, List.set_cons_succ]
      refine wpAnyH_take (i := 9) (oi := _) (v := ?_) (by rw [List.getElem?_toArray]; rfl) (by kernel_rfl) (by kernel_rfl) (by kernel_rfl) (fun _ _ _ h => by exact h) (Or.inl ⟨by rfl, ?_⟩) (by assumption) ?_
      rotate_left
      · (intro w hSw; (try dsimp only at hSw); obtain ⟨⟨e0, e1, e2, e3, e4, e5, e6⟩, ⟨f0, f1, f2, f3, f4, f5, f6⟩, g1, g2⟩ := hSw; go_simp; (try with_reducible rfl))
      try simp only [Act.put, List.setIfInBounds_toArray, List.set_cons_zero, List.set_cons_succ]
      refine wpAnyH_ready (rs := [10]) (by kernel_rfl) (by simp) ?_
      refine AllReadyH.cons (o := _) (by rw [List.getElem?_toArray]; rfl) (fun K hK => ?_) ?_
      · go_simp
        go_wp2_with (go_at_call 44; refine (KW.out _).mono ?_; rintro e w5 ⟨rfl, hw5⟩; subst hw5)
        refine hK.out _ _ ⟨HD1.out.fr ((Fr.refl (fun _ => False) _).drew) (by simp), HD2.out.fr ((Fr.refl (fun _ => False) _).drew) (by simp), Fr.cell ((Fr.refl (fun _ => False) _).drew) HY.out (by simp), Fr.cell ((Fr.refl (fun _ => False) _).drew) HZ.out (by simp)⟩ (fun hHeld => ?_)
        clear hK K
        try simp only [Act.put, List.setIfInBounds_toArray, List.set_cons_zero, List.set_cons_succ]
        refine wpAnyH_take (i := 11) (oi := _) (v := ?_) (by rw [List.getElem?_toArray]; rfl) (by kernel_rfl) (by kernel_rfl) (by kernel_rfl) (fun _ _ _ h => by exact h) (Or.inl ⟨by rfl, ?_⟩) (by assumption) ?_
        rotate_left
        · (intro w hSw; (try dsimp only at hSw); go_simp; (try with_reducible rfl))
        try simp only [Act.put, List.setIfInBounds_toArray, List.set_cons_zero, List.set_cons_succ]
        refine wpAnyH_done (by kernel_rfl) ?_ _
        cases t with
        | false =>
          go_wp2
          go_ret
          exact ⟨by rw [HT.out (by simp)]; simp, F0.out.trans (HF.out.trans ((Fr.refl (fun _ => False) _).drew))⟩
        | true =>
          go_wp2
          go_roundw
          case rel => exact ⟨k + 1, by omega, by go_num, HN.out (by simp), HF.out.trans ((Fr.refl (fun _ => False) _).drew)⟩
          case measure => simp [intOf]; omega
      exact AllReadyH.nil
    · have hlt' : ¬ (k : Int) < (b.g.length : Int) := by omega
      have HQg : Hid (decide (a.g.map Fl.rk = b.g.map Fl.rk) = true) := by
        have h := HA.out
        rw [List.take_of_length_le (by have := HLg.out; omega), List.take_of_length_le (by omega)] at h
        show _ = _
        simpa using h
      obtain ⟨d0, d1, d2, d3, d4, d5, d6⟩ := HB1.out.fr HF.out (by simp)
      rename World => w5
      have HF5 : Hid (Fr (fun _ => False) W w5) := HF.out
      go_wp2
      clear d0 d1 d2 d3 d4 d5 d6 HA HF hlt2 hlt' hk
      go_loopw [6] (fun iv wr => ∃ k : Nat, k ≤ b.s.length ∧ iv = .int .i64 (k : Int) ∧ Hid ((a.s.take k).map rkp = (b.s.take k).map rkp) ∧ Hid (Fr (fun _ => False) W wr)) (fun iv _ => b.s.length - (intOf iv).toNat)
      case atStart => exact ⟨0, Nat.zero_le _, rfl, (by show (List.take 0 a.s).map rkp = (List.take 0 b.s).map rkp; simp), HF5.out⟩
      case round =>
        obtain ⟨k, hk, rfl, HA, HF⟩ := hrel
        by_cases hlt2 : k < b.s.length
        · have hlt : k < a.s.length := by have := HLs.out; omega
          obtain ⟨ra, oa, hao, hc⟩ := (Oa.out.fr HF.out).2.1.2.2.2 (fun e => by rw [e] at hlt; simp at hlt)
          obtain ⟨rb, ob, hbo, hc2⟩ := (Ob.out.fr HF.out).2.1.2.2.2 (fun e => by rw [e] at hlt2; simp at hlt2)
          have hy := hc k hlt
          have hz := hc2 k hlt2
          have hm1 := Oa.out.2.1.2.2.1 (a.s.getD k (0, 0)) (by rw [List.getD_eq_getElem?_getD, List.getElem?_eq_getElem hlt]; exact List.getElem_mem _)
          have hm2 := Ob.out.2.1.2.2.1 (b.s.getD k (0, 0)) (by rw [List.getD_eq_getElem?_getD, List.getElem?_eq_getElem hlt2]; exact List.getElem_mem _)
          have HN0 : Hid (rkp (a.s.getD k (0, 0)) = rkp (b.s.getD k (0, 0)) → (a.s.take (k + 1)).map rkp = (b.s.take (k + 1)).map rkp) := map_take_succ rkp (0, 0) a.s b.s k hlt hlt2 HA.out
          have HT0 : Hid (a.s.map rkp = b.s.map rkp → rkp (a.s.getD k (0, 0)) = rkp (b.s.getD k (0, 0))) := map_at rkp (0, 0) a.s b.s k hlt hlt2
          have HD1 : Hid (C7 wr b1 (.int .u64 (b.a0 : Int)) (.int .u64 (b.a1 : Int)) (.int .u64 (b.a2 : Int)) (.slice a.ga b.g.length a.gc) (.slice (some ⟨ra, oa, none⟩) b.s.length a.sc) (.slice a.pa b.p.length a.pc) (.slice a.da a.dl.length a.dc)) := (show C7 _ _ _ _ _ _ _ _ _ by have h := HB1.out.fr HF.out (by simp); rw [hao] at h; exact h)
          have HD2 : Hid (C7 wr b2 (.int .u64 (b.a0 : Int)) (.int .u64 (b.a1 : Int)) (.int .u64 (b.a2 : Int)) (.slice b.ga b.g.length b.gc) (.slice (some ⟨rb, ob, none⟩) b.s.length b.sc) (.slice b.pa b.p.length b.pc) (.slice b.da b.dl.length b.dc)) := (show C7 _ _ _ _ _ _ _ _ _ by have h := HB2.out.fr HF.out (by simp); rw [hbo] at h; exact h)
          obtain ⟨y, Hy⟩ : ∃ y, Hid (a.s.getD k (0, 0) = y) := ⟨_, rfl⟩
          obtain ⟨z, Hz⟩ : ∃ z, Hid (b.s.getD k (0, 0) = z) := ⟨_, rfl⟩
          rw [Hy.out] at hy hm1 HN0 HT0
          rw [Hz.out] at hz hm2 HN0 HT0
          obtain ⟨y1, y2⟩ := y
          obtain ⟨z1, z2⟩ := z
          dsimp only at hy hz hm1 hm2
          have HY : Hid (wr.cell? ⟨ra, oa + k * 2, none⟩ = some (.float .f64 y1) ∧ wr.cell? ⟨ra, oa + k * 2 + 1, none⟩ = some (.float .f64 y2)) := hy
          have HZ : Hid (wr.cell? ⟨rb, ob + k * 2, none⟩ = some (.float .f64 z1) ∧ wr.cell? ⟨rb, ob + k * 2 + 1, none⟩ = some (.float .f64 z2)) := hz
          have KW1 : Hid (∀ W, Calls _ _ _ W _) := fun W => refsame_any y1 z1 hm1.1 hm2.1 W
          have KW2 : Hid (∀ W, Calls _ _ _ W _) := fun W => refsame_any y2 z2 hm1.2 hm2.2 W
          obtain ⟨t1, Ht1⟩ : ∃ t, Hid (decide (Fl.rk y1 = Fl.rk z1) = t) := ⟨_, rfl⟩
          obtain ⟨t2, Ht2⟩ : ∃ t, Hid (decide (Fl.rk y2 = Fl.rk z2) = t) := ⟨_, rfl⟩
          rw [Ht1.out] at KW1
          rw [Ht2.out] at KW2
          have Ht : Hid ((t1 && t2) = decide (rkp (y1, y2) = rkp (z1, z2))) := (show _ = _ by rw [← Ht1.out, ← Ht2.out, Bool.eq_iff_iff]; simp [rkp])
          have HN : Hid ((t1 && t2) = true → (a.s.take (k + 1)).map rkp = (b.s.take (k + 1)).map rkp) := fun e => HN0.out (by have h := Ht.out; rw [e] at h; simpa using h.symm)
          have HT : Hid ((t1 && t2) = false → decide (a.s.map rkp = b.s.map rkp) = false) := fun e => by
            have h := Ht.out
            rw [e] at h
            have h2 := h.symm
            simp only [decide_eq_false_iff_not] at h2 ⊢
            exact fun e => h2 (HT0.out e)
          clear Ht1 Ht2 Ht HN0 HT0 Hy Hz
          have i0 : (0 : Int) ≤ (k : Int) := by omega
          have i2 : (k : Int) < (b.s.length : Int) := by omega
          obtain ⟨d0, d1, d2, d3, d4, d5, d6⟩ := HD1.out
          clear hc hc2 hy hz hao hbo hm1 hm2
          go_wp2_with fail
          clear d0 d1 d2 d3 d4 d5 d6
          refine wp_region_held_drew (S := (fun W : World => C7 W b1 (.int .u64 (b.a0 : Int)) (.int .u64 (b.a1 : Int)) (.int .u64 (b.a2 : Int)) (.slice a.ga b.g.length a.gc) (.slice (some ⟨ra, oa, none⟩) b.s.length a.sc) (.slice a.pa b.p.length a.pc) (.slice a.da a.dl.length a.dc) ∧ C7 W b2 (.int .u64 (b.a0 : Int)) (.int .u64 (b.a1 : Int)) (.int .u64 (b.a2 : Int)) (.slice b.ga b.g.length b.gc) (.slice (some ⟨rb, ob, none⟩) b.s.length b.sc) (.slice b.pa b.p.length b.pc) (.slice b.da b.dl.length b.dc) ∧ W.cell? ⟨ra, oa + k * 2, none⟩ = some (.float .f64 y1) ∧ W.cell? ⟨rb, ob + k * 2, none⟩ = some (.float .f64 z1) ∧ W.cell? ⟨ra, oa + k * 2 + 1, none⟩ = some (.float .f64 y2) ∧ W.cell? ⟨rb, ob + k * 2 + 1, none⟩ = some (.float .f64 z2))) (by kernel_rfl) ⟨HD1.out.fr ((Fr.refl (fun _ => False) _).drew) (by simp), HD2.out.fr ((Fr.refl (fun _ => False) _).drew) (by simp), Fr.cell ((Fr.refl (fun _ => False) _).drew) HY.out.1 (by simp), Fr.cell ((Fr.refl (fun _ => False) _).drew) HZ.out.1 (by simp), Fr.cell ((Fr.refl (fun _ => False) _).drew) HY.out.2 (by simp), Fr.cell ((Fr.refl (fun _ => False) _).drew) HZ.out.2 (by simp)⟩ (fun hHeld => ?_)
          refine wpAnyH_take (i := 0) (oi := _) (v := ?_) (by rw [List.getElem?_toArray]; rfl) (by kernel_rfl) (by kernel_rfl) (by kernel_rfl) (fun _ _ _ h => by exact h) (Or.inl ⟨by rfl, ?_⟩) (by assumption) ?_
          rotate_left
          · (intro w hSw; (try dsimp only at hSw); obtain ⟨⟨e0, e1, e2, e3, e4, e5, e6⟩, ⟨f0, f1, f2, f3, f4, f5, f6⟩, g1, g2, g3, g4⟩ := hSw; go_simp; (try with_reducible rfl))
          try simp only [Act.put, List.setIfInBounds_toArray, List.set_cons_zero, List.set_cons_succ]
          refine wpAnyH_take (i := 1) (oi := _) (v := ?_) (by rw [List.getElem?_toArray]; rfl) (by kernel_rfl) (by kernel_rfl) (by kernel_rfl) (fun _ _ _ h => by exact h) (Or.inl ⟨by rfl, ?_⟩) (by assumption) ?_
          rotate_left
          · (intro w hSw; (try dsimp only at hSw); obtain ⟨⟨e0, e1, e2, e3, e4, e5, e6⟩, ⟨f0, f1, f2, f3, f4, f5, f6⟩, g1, g2, g3, g4⟩ := hSw; go_simp; (try with_reducible rfl))
          try simp only [Act.put, List.setIfInBounds_toArray, List.set_cons_zero, List.set_cons_succ]
          refine wpAnyH_take (i := 2) (oi := _) (v := ?_) (by rw [List.getElem?_toArray]; rfl) (by kernel_rfl) (by kernel_rfl) (by kernel_rfl) (fun _ _ _ h => by exact h) (Or.inl ⟨by rfl, ?_⟩) (by assumption) ?_
          rotate_left
          · (intro w hSw; (try dsimp only at hSw); obtain ⟨⟨e0, e1, e2, e3, e4, e5, e6⟩, ⟨f0, f1, f2, f3, f4, f5, f6⟩, g1, g2, g3, g4⟩ := hSw; go_simp; (try with_reducible rfl))
          try simp only [Act.put, List.setIfInBounds_toArray, List.set_cons_zero, List.set_cons_succ]
          refine wpAnyH_take (i := 3) (oi := _) (v := ?_) (by rw [List.getElem?_toArray]; rfl) (by kernel_rfl) (by kernel_rfl) (by kernel_rfl) (fun _ _ _ h => by exact h) (Or.inl ⟨by rfl, ?_⟩) (by assumption) ?_
          rotate_left
          · (intro w hSw; (try dsimp only at hSw); obtain ⟨⟨e0, e1, e2, e3, e4, e5, e6⟩, ⟨f0, f1, f2, f3, f4, f5, f6⟩, g1, g2, g3, g4⟩ := hSw; go_simp; (try with_reducible rfl))
          try simp only [Act.put, List.setIfInBounds_toArray, List.set_cons_zero, List.set_cons_succ]
          refine wpAnyH_take (i := 4) (oi := _) (v := ?_) (by rw [List.getElem?_toArray]; rfl) (by kernel_rfl) (by kernel_rfl) (by kernel_rfl) (fun _ _ _ h => by exact h) (Or.inl ⟨by rfl, ?_⟩) (by assumption) ?_
          rotate_left
          · (intro w hSw; (try dsimp only at hSw); obtain ⟨⟨e0, e1, e2, e3, e4, e5, e6⟩, ⟨f0, f1, f2, f3, f4, f5, f6⟩, g1, g2, g3, g4⟩ := hSw; go_simp; (try with_reducible rfl))
          try simp only [Act.put, List.setIfInBounds_toArray, List.set_cons_zero, List.set_cons_succ]
          refine wpAnyH_take (i := 5) (oi := _) (v := ?_) (by rw [List.getElem?_toArray]; rfl) (by kernel_rfl) (by kernel_rfl) (by kernel_rfl) (fun _ _ _ h => by exact h) (Or.inl ⟨by rfl, ?_⟩) (by assumption) ?_
          rotate_left
          · (intro w hSw; (try dsimp only at hSw); obtain ⟨⟨e0, e1, e2, e3, e4, e5, e6⟩, ⟨f0, f1, f2, f3, f4, f5, f6⟩, g1, g2, g3, g4⟩ := hSw; go_simp; (try with_reducible rfl))
          try simp only [Act.put, List.setIfInBounds_toArray, List.set_cons_zero, List.set_cons_succ]
          refine wpAnyH_take (i := 6) (oi := _) (v := ?_) (by rw [List.getElem?_toArray]; rfl) (by kernel_rfl) (by kernel_rfl) (by kernel_rfl) (fun _ _ _ h => by exact h) (Or.inl ⟨by rfl, ?_⟩) (by assumption) ?_
          rotate_left
          · (intro w hSw; (try dsimp only at hSw); obtain ⟨⟨e0, e1, e2, e3, e4, e5, e6⟩, ⟨f0, f1, f2, f3, f4, f5, f6⟩, g1, g2, g3, g4⟩ := hSw; go_simp; (try with_reducible rfl))
          try simp only [Act.put, List.setIfInBounds_toArray, List.set_cons_zero, List.set_cons_succ]
          refine wpAnyH_take (i := 7) (oi := _) (v := ?_) (by rw [List.getElem?_toArray]; rfl) (by kernel_rfl) (by kernel_rfl) (by kernel_rfl) (fun _ _ _ h => by exact h) (Or.inl ⟨by rfl, ?_⟩) (by assumption) ?_
          rotate_left
          · (intro w hSw; (try dsimp only at hSw); obtain ⟨⟨e0, e1, e2, e3, e4, e5, e6⟩, ⟨f0, f1, f2, f3, f4, f5, f6⟩, g1, g2, g3, g4⟩ := hSw; go_simp; (try with_reducible rfl))
          try simp only [Act.put, List.setIfInBounds_toArray, List.set_cons_zero, List.set_cons_succ]
          refine wpAnyH_take (i := 8) (oi := _) (v := ?_) (by rw [List.getElem?_toArray]; rfl) (by kernel_rfl) (by kernel_rfl) (by kernel_rfl) (fun _ _ _ h => by exact h) (Or.inl ⟨by rfl, ?_⟩) (by assumption) ?_
          rotate_left
          · (intro w hSw; (try dsimp only at hSw); obtain ⟨⟨e0, e1, e2, e3, e4, e5, e6⟩, ⟨f0, f1, f2, f3, f4, f5, f6⟩, g1, g2, g3, g4⟩ := hSw; go_simp; (try with_reducible rfl))
          try simp only [Act.put, List.setIfInBounds_toArray, List.set_cons_zero, List.set_cons_succ]
          refine wpAnyH_take (i := 9) (oi := _) (v := ?_) (by rw [List.getElem?_toArray]; rfl) (by kernel_rfl) (by kernel_rfl) (by kernel_rfl) (fun _ _ _ h => by exact h) (Or.inl ⟨by rfl, ?_⟩) (by assumption) ?_
          rotate_left
          · (intro w hSw; (try dsimp only at hSw); obtain ⟨⟨e0, e1, e2, e3, e4, e5, e6⟩, ⟨f0, f1, f2, f3, f4, f5, f6⟩, g1, g2, g3, g4⟩ := hSw; go_simp; (try with_reducible rfl))
          try simp only [Act.put, List.setIfInBounds_toArray, List.set_cons_zero, List.set_cons_succ]
          refine wpAnyH_take (i := 10) (oi := _) (v := ?_) (by rw [List.getElem?_toArray]; rfl) (by kernel_rfl) (by kernel_rfl) (by kernel_rfl) (fun _ _ _ h => by exact h) (Or.inl ⟨by rfl, ?_⟩) (by assumption) ?_
          rotate_left
          · (intro w hSw; (try dsimp only at hSw); obtain ⟨⟨e0, e1, e2, e3, e4, e5, e6⟩, ⟨f0, f1, f2, f3, f4, f5, f6⟩, g1, g2, g3, g4⟩ := hSw; go_simp; (try with_reducible rfl))
          try simp only [Act.put, List.setIfInBounds_toArray, List.set_cons_zero, List.set_cons_succ]
          refine wpAnyH_take (i := 11) (oi := _) (v := ?_) (by rw [List.getElem?_toArray]; rfl) (by kernel_rfl) (by kernel_rfl) (by kernel_rfl) (fun _ _ _ h => by exact h) (Or.inl ⟨by rfl, ?_⟩) (by assumption) ?_
          rotate_left
          · (intro w hSw; (try dsimp only at hSw); obtain ⟨⟨e0, e1, e2, e3, e4, e5, e6⟩, ⟨f0, f1, f2, f3, f4, f5, f6⟩, g1, g2, g3, g4⟩ := hSw; go_simp; (try with_reducible rfl))
          try simp only [Act.put, List.setIfInBounds_toArray, List.set_cons_zero, List.set_cons_succ]
          refine wpAnyH_ready (rs := [12]) (by kernel_rfl) (by simp) ?_
          refine AllReadyH.cons (o := _) (by rw [List.getElem?_toArray]; rfl) (fun K hK => ?_) ?_
          · go_simp
            go_wp2_with (go_at_call 44; refine (KW1.out _).mono ?_; rintro e w5 ⟨rfl, hw5⟩; subst hw5)
            refine hK.out _ _ ⟨HD1.out.fr ((Fr.refl (fun _ => False) _).drew) (by simp), HD2.out.fr ((Fr.refl (fun _ => False) _).drew) (by simp), Fr.cell ((Fr.refl (fun _ => False) _).drew) HY.out.1 (by simp), Fr.cell ((Fr.refl (fun _ => False) _).drew) HZ.out.1 (by simp), Fr.cell ((Fr.refl (fun _ => False) _).drew) HY.out.2 (by simp), Fr.cell ((Fr.refl (fun _ => False) _).drew) HZ.out.2 (by simp)⟩ (fun hHeld => ?_)
            clear hK K
            try simp only [Act.put, List.setIfInBounds_toArray, List.set_cons_zero, List.set_cons_succ]
            cases t1 with
            | false =>
              refine wpAnyH_take (i := 13) (oi := _) (v := ?_) (by rw [List.getElem?_toArray]; rfl) (by kernel_rfl) (by kernel_rfl) (by kernel_rfl) (fun _ _ _ h => by exact h) (Or.inl ⟨by rfl, ?_⟩) (by assumption) ?_
              rotate_left
              · (intro w hSw; (try dsimp only at hSw); go_simp; (try with_reducible rfl))
              try simp only [Act.put, List.setIfInBounds_toArray, List.set_cons_zero, List.set_cons_succ]
              refine wpAnyH_take (i := 14) (oi := _) (v := ?_) (by rw [List.getElem?_toArray]; rfl) (by kernel_rfl) (by kernel_rfl) (by kernel_rfl) (fun _ _ _ h => by exact h) (Or.inl ⟨by rfl, ?_⟩) (by assumption) ?_
              rotate_left
              · (intro w hSw; (try dsimp only at hSw); go_simp; (try with_reducible rfl))
              try simp only [Act.put, List.setIfInBounds_toArray, List.set_cons_zero, List.set_cons_succ]
              refine wpAnyH_take (i := 15) (oi := _) (v := undef) (by rw [List.getElem?_toArray]; rfl) (by kernel_rfl) (by kernel_rfl) (by kernel_rfl) (fun _ _ _ h => by exact h) (Or.inr ⟨by rfl, rfl⟩) (by assumption) ?_
              try simp only [Act.put, List.setIfInBounds_toArray, List.set_cons_zero, List.set_cons_succ]
              refine wpAnyH_take (i := 16) (oi := _) (v := undef) (by rw [List.getElem?_toArray]; rfl) (by kernel_rfl) (by kernel_rfl) (by kernel_rfl) (fun _ _ _ h => by exact h) (Or.inr ⟨by rfl, rfl⟩) (by assumption) ?_
              try simp only [Act.put, List.setIfInBounds_toArray, List.set_cons_zero, List.set_cons_succ]
              refine wpAnyH_take (i := 17) (oi := _) (v := undef) (by rw [List.getElem?_toArray]; rfl) (by kernel_rfl) (by kernel_rfl) (by kernel_rfl) (fun _ _ _ h => by exact h) (Or.inr ⟨by rfl, rfl⟩) (by assumption) ?_
              try simp only [Act.put, List.setIfInBounds_toArray, List.set_cons_zero, List.set_cons_succ]
              refine wpAnyH_take (i := 18) (oi := _) (v := undef) (by rw [List.getElem?_toArray]; rfl) (by kernel_rfl) (by kernel_rfl) (by kernel_rfl) (fun _ _ _ h => by exact h) (Or.inr ⟨by rfl, rfl⟩) (by assumption) ?_
              try simp only [Act.put, List.setIfInBounds_toArray, List.set_cons_zero, List.set_cons_succ]
              refine wpAnyH_take (i := 19) (oi := _) (v := undef) (by rw [List.getElem?_toArray]; rfl) (by kernel_rfl) (by kernel_rfl) (by kernel_rfl) (fun _ _ _ h => by exact h) (Or.inr ⟨by rfl, rfl⟩) (by assumption) ?_
              try simp only [Act.put, List.setIfInBounds_toArray, List.set_cons_zero, List.set_cons_succ]
              refine wpAnyH_take (i := 20) (oi := _) (v := undef) (by rw [List.getElem?_toArray]; rfl) (by kernel_rfl) (by kernel_rfl) (by kernel_rfl) (fun _ _ _ h => by exact h) (Or.inr ⟨by rfl, rfl⟩) (by assumption) ?_
              try simp only [Act.put, List.setIfInBounds_toArray, List.set_cons_zero, List.set_cons_succ]
              refine wpAnyH_take (i := 21) (oi := _) (v := undef) (by rw [List.getElem?_toArray]; rfl) (by kernel_rfl) (by kernel_rfl) (by kernel_rfl) (fun _ _ _ h => by exact h) (Or.inr ⟨by rfl, rfl⟩) (by assumption) ?_
              try simp only [Act.put, List.setIfInBounds_toArray, List.set_cons_zero, List.set_cons_succ]
              refine wpAnyH_take (i := 22) (oi := _) (v := undef) (by rw [List.getElem?_toArray]; rfl) (by kernel_rfl) (by kernel_rfl) (by kernel_rfl) (fun _ _ _ h => by exact h) (Or.inr ⟨by rfl, rfl⟩) (by assumption) ?_
              try simp only [Act.put, List.setIfInBounds_toArray, List.set_cons_zero, List.set_cons_succ]
              refine wpAnyH_take (i := 23) (oi := _) (v := undef) (by rw [List.getElem?_toArray]; rfl) (by kernel_rfl) (by kernel_rfl) (by kernel_rfl) (fun _ _ _ h => by exact h) (Or.inr ⟨by rfl, rfl⟩) (by assumption) ?_
              try simp only [Act.put, List.setIfInBounds_toArray, List.set_cons_zero, List.set_cons_succ]
              refine wpAnyH_take (i := 24) (oi := _) (v := undef) (by rw [List.getElem?_toArray]; rfl) (by kernel_rfl) (by kernel_rfl) (by kernel_rfl) (fun _ _ _ h => by exact h) (Or.inr ⟨by rfl, rfl⟩) (by assumption) ?_
              try simp only [Act.put, List.setIfInBounds_toArray, List.set_cons_zero, List.set_cons_succ]
              refine wpAnyH_take (i := 25) (oi := _) (v := undef) (by rw [List.getElem?_toArray]; rfl) (by kernel_rfl) (by kernel_rfl) (by kernel_rfl) (fun _ _ _ h => by exact h) (Or.inr ⟨by rfl, rfl⟩) (by assumption) ?_
              try simp only [Act.put, List.setIfInBounds_toArray, List.set_cons_zero, List.set_cons_succ]
              refine wpAnyH_take (i := 26) (oi := _) (v := undef) (by rw [List.getElem?_toArray]; rfl) (by kernel_rfl) (by kernel_rfl) (by kernel_rfl) (fun _ _ _ h => by exact h) (Or.inr ⟨by rfl, rfl⟩) (by assumption) ?_
              try simp only [Act.put, List.setIfInBounds_toArray, List.set_cons_zero, List.set_cons_succ]
              refine wpAnyH_take (i := 27) (oi := _) (v := undef) (by rw [List.getElem?_toArray]; rfl) (by kernel_rfl) (by kernel_rfl) (by kernel_rfl) (fun _ _ _ h => by exact h) (Or.inr ⟨by rfl, rfl⟩) (by assumption) ?_
              try simp only [Act.put, List.setIfInBounds_toArray, List.set_cons_zero, List.set_cons_succ]
              refine wpAnyH_take (i := 28) (oi := _) (v := undef) (by rw [List.getElem?_toArray]; rfl) (by kernel_rfl) (by kernel_rfl) (by kernel_rfl) (fun _ _ _ h => by exact h) (Or.inr ⟨by rfl, rfl⟩) (by assumption) ?_
              try simp only [Act.put, List.setIfInBounds_toArray, List.set_cons_zero, List.set_cons_succ]
              refine wpAnyH_take (i := 29) (oi := _) (v := ?_) (by rw [List.getElem?_toArray]; rfl) (by kernel_rfl) (by kernel_rfl) (by kernel_rfl) (fun _ _ _ h => by exact h) (Or.inl ⟨by rfl, ?_⟩) (by assumption) ?_
              rotate_left
              · (intro w hSw; (try dsimp only at hSw); go_simp; (try with_reducible rfl))
              try simp only [Act.put, List.setIfInBounds_toArray, List.set_cons_zero, List.set_cons_succ]
              refine wpAnyH_done (by kernel_rfl) ?_ _
              go_wp2
              go_ret
              exact ⟨by rw [HT.out (by simp)]; simp, F0.out.trans (HF.out.trans ((Fr.refl (fun _ => False) _).drew))⟩
            | true =>
              refine wpAnyH_take (i := 13) (oi := _) (v := ?_) (by rw [List.getElem?_toArray]; rfl) (by kernel_rfl) (by kernel_rfl) (by kernel_rfl) (fun _ _ _ h => by exact h) (Or.inl ⟨by rfl, ?_⟩) (by assumption) ?_
              rotate_left
              · (intro w hSw; (try dsimp only at hSw); go_simp; (try with_reducible rfl))
              try simp only [Act.put, List.setIfInBounds_toArray, List.set_cons_zero, List.set_cons_succ]
              refine wpAnyH_take (i := 14) (oi := _) (v := ?_) (by rw [List.getElem?_toArray]; rfl) (by kernel_rfl) (by kernel_rfl) (by kernel_rfl) (fun _ _ _ h => by exact h) (Or.inl ⟨by rfl, ?_⟩) (by assumption) ?_
              rotate_left
              · (intro w hSw; (try dsimp only at hSw); go_simp; (try with_reducible rfl))
              try simp only [Act.put, List.setIfInBounds_toArray, List.set_cons_zero, List.set_cons_succ]
              refine wpAnyH_take (i := 15) (oi := _) (v := ?_) (by rw [List.getElem?_toArray]; rfl) (by kernel_rfl) (by kernel_rfl) (by kernel_rfl) (fun _ _ _ h => by exact h) (Or.inl ⟨by rfl, ?_⟩) (by assumption) ?_
              rotate_left
              · (intro w hSw; (try dsimp only at hSw); obtain ⟨⟨e0, e1, e2, e3, e4, e5, e6⟩, ⟨f0, f1, f2, f3, f4, f5, f6⟩, g1, g2, g3, g4⟩ := hSw; go_simp; (try with_reducible rfl))
              try simp only [Act.put, List.setIfInBounds_toArray, List.set_cons_zero, List.set_cons_succ]
              refine wpAnyH_take (i := 16) (oi := _) (v := ?_) (by rw [List.getElem?_toArray]; rfl) (by kernel_rfl) (by kernel_rfl) (by kernel_rfl) (fun _ _ _ h => by exact h) (Or.inl ⟨by rfl, ?_⟩) (by assumption) ?_
              rotate_left
              · (intro w hSw; (try dsimp only at hSw); obtain ⟨⟨e0, e1, e2, e3, e4, e5, e6⟩, ⟨f0, f1, f2, f3, f4, f5, f6⟩, g1, g2, g3, g4⟩ := hSw; go_simp; (try with_reducible rfl))
              try simp only [Act.put, List.setIfInBounds_toArray, List.set_cons_zero, List.set_cons_succ]
              refine wpAnyH_take (i := 17) (oi := _) (v := ?_) (by rw [List.getElem?_toArray]; rfl) (by kernel_rfl) (by kernel_rfl) (by kernel_rfl) (fun _ _ _ h => by exact h) (Or.inl ⟨by rfl, ?_⟩) (by assumption) ?_
              rotate_left
              · (intro w hSw; (try dsimp only at hSw); obtain ⟨⟨e0, e1, e2, e3, e4, e5, e6⟩, ⟨f0, f1, f2, f3, f4, f5, f6⟩, g1, g2, g3, g4⟩ := hSw; go_simp; (try with_reducible rfl))
              try simp only [Act.put, List.setIfInBounds_toArray, List.set_cons_zero, List.set_cons_succ]
              refine wpAnyH_take (i := 18) (oi := _) (v := ?_) (by rw [List.getElem?_toArray]; rfl) (by kernel_rfl) (by kernel_rfl) (by kernel_rfl) (fun _ _ _ h => by exact h) (Or.inl ⟨by rfl, ?_⟩) (by assumption) ?_
              rotate_left
              · (intro w hSw; (try dsimp only at hSw); obtain ⟨⟨e0, e1, e2, e3, e4, e5, e6⟩, ⟨f0, f1, f2, f3, f4, f5, f6⟩, g1, g2, g3, g4⟩ := hSw; go_simp; (try with_reducible rfl))
              try simp only [Act.put, List.setIfInBounds_toArray, List.set_cons_zero, List.set_cons_succ]
              refine wpAnyH_take (i := 19) (oi := _) (v := ?_) (by rw [List.getElem?_toArray]; rfl) (by kernel_rfl) (by kernel_rfl) (by kernel_rfl) (fun _ _ _ h => by exact h) (Or.inl ⟨by rfl, ?_⟩) (by assumption) ?_
              rotate_left
              · (intro w hSw; (try dsimp only at hSw); obtain ⟨⟨e0, e1, e2, e3, e4, e5, e6⟩, ⟨f0, f1, f2, f3, f4, f5, f6⟩, g1, g2, g3, g4⟩ := hSw; go_simp; (try with_reducible rfl))
              try simp only [Act.put, List.setIfInBounds_toArray, List.set_cons_zero, List.set_cons_succ]
              refine wpAnyH_take (i := 20) (oi := _) (v := ?_) (by rw [List.getElem?_toArray]; rfl) (by kernel_rfl) (by kernel_rfl) (by kernel_rfl) (fun _ _ _ h => by exact h) (Or.inl ⟨by rfl, ?_⟩) (by assumption) ?_
              rotate_left
              · (intro w hSw; (try dsimp only at hSw); obtain ⟨⟨e0, e1, e2, e3, e4, e5, e6⟩, ⟨f0, f1, f2, f3, f4, f5, f6⟩, g1, g2, g3, g4⟩ := hSw; go_simp; (try with_reducible rfl))
              try simp only [Act.put, List.setIfInBounds_toArray, List.set_cons_zero, List.set_cons_succ]
              refine wpAnyH_take (i := 21) (oi := _) (v := ?_) (by rw [List.getElem?_toArray]; rfl) (by kernel_rfl) (by kernel_rfl) (by kernel_rfl) (fun _ _ _ h => by exact h) (Or.inl ⟨by rfl, ?_⟩) (by assumption) ?_
              rotate_left
              · (intro w hSw; (try dsimp only at hSw); obtain ⟨⟨e0, e1, e2, e3, e4, e5, e6⟩, ⟨f0, f1, f2, f3, f4, f5, f6⟩, g1, g2, g3, g4⟩ := hSw; go_simp; (try with_reducible rfl))
              try simp only [Act.put, List.setIfInBounds_toArray, List.set_cons_zero, List.set_cons_succ]
              refine wpAnyH_take (i := 22) (oi := _) (v := ?_) (by rw [List.getElem?_toArray]; rfl) (by kernel_rfl) (by kernel_rfl) (by kernel_rfl) (fun _ _ _ h => by exact h) (Or.inl ⟨by rfl, ?_⟩) (by assumption) ?_
              rotate_left
              · (intro w hSw; (try dsimp only at hSw); obtain ⟨⟨e0, e1, e2, e3, e4, e5, e6⟩, ⟨f0, f1, f2, f3, f4, f5, f6⟩, g1, g2, g3, g4⟩ := hSw; go_simp; (try with_reducible rfl))
              try simp only [Act.put, List.setIfInBounds_toArray, List.set_cons_zero, List.set_cons_succ]
              refine wpAnyH_take (i := 23) (oi := _) (v := ?_) (by rw [List.getElem?_toArray]; rfl) (by kernel_rfl) (by kernel_rfl) (by kernel_rfl) (fun _ _ _ h => by exact h) (Or.inl ⟨by rfl, ?_⟩) (by assumption) ?_
              rotate_left
              · (intro w hSw; (try dsimp only at hSw); obtain ⟨⟨e0, e1, e2, e3, e4, e5, e6⟩, ⟨f0, f1, f2, f3, f4, f5, f6⟩, g1, g2, g3, g4⟩ := hSw; go_simp; (try with_reducible rfl))
              try simp only [Act.put, List.setIfInBounds_toArray, List.set_cons_zero, List.set_cons_succ]
              refine wpAnyH_take (i := 24) (oi := _) (v := ?_) (by rw [List.getElem?_toArray]; rfl) (by kernel_rfl) (by kernel_rfl) (by kernel_rfl) (fun _ _ _ h => by exact h) (Or.inl ⟨by rfl, ?_⟩) (by assumption) ?_
              rotate_left
              · (intro w hSw; (try dsimp only at hSw); obtain ⟨⟨e0, e1, e2, e3, e4, e5, e6⟩, ⟨f0, f1, f2, f3, f4, f5, f6⟩, g1, g2, g3, g4⟩ := hSw; go_simp; (try with_reducible rfl))
              try simp only [Act.put, List.setIfInBounds_toArray, List.set_cons_zero, List.set_cons_succ]
              refine wpAnyH_take (i := 25) (oi := _) (v := ?_) (by rw [List.getElem?_toArray]; rfl) (by kernel_rfl) (by kernel_rfl) (by kernel_rfl) (fun _ _ _ h => by exact h) (Or.inl ⟨by rfl, ?_⟩) (by assumption) ?_
              rotate_left
              · (intro w hSw; (try dsimp only at hSw); obtain ⟨⟨e0, e1, e2, e3, e4, e5, e6⟩, ⟨f0, f1, f2, f3, f4, f5, f6⟩, g1, g2, g3, g4⟩ := hSw; go_simp; (try with_reducible rfl))
              try simp only [Act.put, List.setIfInBounds_toArray, List.set_cons_zero, List.set_cons_succ]
              refine wpAnyH_take (i := 26) (oi := _) (v := ?_) (by rw [List.getElem?_toArray]; rfl) (by kernel_rfl) (by kernel_rfl) (by kernel_rfl) (fun _ _ _ h => by exact h) (Or.inl ⟨by rfl, ?_⟩) (by assumption) ?_
              rotate_left
              · (intro w hSw; (try dsimp only at hSw); obtain ⟨⟨e0, e1, e2, e3, e4, e5, e6⟩, ⟨f0, f1, f2, f3, f4, f5, f6⟩, g1, g2, g3, g4⟩ := hSw; go_simp; (try with_reducible rfl))
              try simp only [Act.put, List.setIfInBounds_toArray, List.set_cons_zero, List.set_cons_succ]
              refine wpAnyH_ready (rs := [27]) (by kernel_rfl) (by simp) ?_
              refine AllReadyH.cons (o := _) (by rw [List.getElem?_toArray]; rfl) (fun K hK => ?_) ?_
              · go_simp
                go_wp2_with (go_at_call 44; refine (KW2.out _).mono ?_; rintro e w6 ⟨rfl, hw6⟩; subst hw6)
                refine hK.out _ _ ⟨HD1.out.fr ((Fr.refl (fun _ => False) _).drew) (by simp), HD2.out.fr ((Fr.refl (fun _ => False) _).drew) (by simp), Fr.cell ((Fr.refl (fun _ => False) _).drew) HY.out.1 (by simp), Fr.cell ((Fr.refl (fun _ => False) _).drew) HZ.out.1 (by simp), Fr.cell ((Fr.refl (fun _ => False) _).drew) HY.out.2 (by simp), Fr.cell ((Fr.refl (fun _ => False) _).drew) HZ.out.2 (by simp)⟩ (fun hHeld => ?_)
                clear hK K
                try simp only [Act.put, List.setIfInBounds_toArray, List.set_cons_zero, List.set_cons_succ]
                refine wpAnyH_take (i := 28) (oi := _) (v := ?_) (by rw [List.getElem?_toArray]; rfl) (by kernel_rfl) (by kernel_rfl) (by kernel_rfl) (fun _ _ _ h => by exact h) (Or.inl ⟨by rfl, ?_⟩) (by assumption) ?_
                rotate_left
                · (intro w hSw; (try dsimp only at hSw); go_simp; (try with_reducible rfl))
                try simp only [Act.put, List.setIfInBounds_toArray, List.set_cons_zero, List.set_cons_succ]
                refine wpAnyH_take (i := 29) (oi := _) (v := ?_) (by rw [List.getElem?_toArray]; rfl) (by kernel_rfl) (by kernel_rfl) (by kernel_rfl) (fun _ _ _ h => by exact h) (Or.inl ⟨by rfl, ?_⟩) (by assumption) ?_
                rotate_left
                · (intro w hSw; (try dsimp only at hSw); go_simp; (try with_reducible rfl))
                try simp only [Act.put, List.setIfInBounds_toArray, List.set_cons_zero, List.set_cons_succ]
                refine wpAnyH_done (by kernel_rfl) ?_ _
                cases t2 with
                | false =>
                  go_wp2
                  go_ret
                  exact ⟨by rw [HT.out (by simp)]; simp, F0.out.trans (HF.out.trans ((Fr.refl (fun _ => False) _).drew))⟩
                | true =>
                  go_wp2
                  go_roundw
                  case rel => exact ⟨k + 1, by omega, by go_num, HN.out (by simp), HF.out.trans ((Fr.refl (fun _ => False) _).drew)⟩
                  case measure => simp [intOf]; omega
              exact AllReadyH.nil
          exact AllReadyH.nil
        · have hlt' : ¬ (k : Int) < (b.s.length : Int) := by omega
          have HQs : Hid (decide (a.s.map rkp = b.s.map rkp) = true) := by
            have h := HA.out
            rw [List.take_of_length_le (by have := HLs.out; omega), List.take_of_length_le (by omega)] at h
            show _ = _
            simpa using h
          obtain ⟨d0, d1, d2, d3, d4, d5, d6⟩ := HB1.out.fr HF.out (by simp)
          rename World => w5
          have HF5 : Hid (Fr (fun _ => False) W w5) := HF.out
          go_wp2
          clear d0 d1 d2 d3 d4 d5 d6 HA HF hlt2 hlt' hk
          go_loopw [7] (fun iv wr => ∃ k : Nat, k ≤ b.p.length ∧ iv = .int .i64 (k : Int) ∧ Hid ((a.p.take k).map Fl.rk = (b.p.take k).map Fl.rk) ∧ Hid (Fr (fun _ => False) W wr)) (fun iv _ => b.p.length - (intOf iv).toNat)
          case atStart => exact ⟨0, Nat.zero_le _, rfl, (by show (List.take 0 a.p).map Fl.rk = (List.take 0 b.p).map Fl.rk; simp), HF5.out⟩
          case round =>
            obtain ⟨k, hk, rfl, HA, HF⟩ := hrel
            by_cases hlt2 : k < b.p.length
            · have hlt : k < a.p.length := by have := HLp.out; omega
              obtain ⟨ra, oa, hao, hc⟩ := (Oa.out.fr HF.out).2.2.1.2.2.2 (fun e => by rw [e] at hlt; simp at hlt)
              obtain ⟨rb, ob, hbo, hc2⟩ := (Ob.out.fr HF.out).2.2.1.2.2.2 (fun e => by rw [e] at hlt2; simp at hlt2)
              have hy := hc k hlt
              have hz := hc2 k hlt2
              have hm1 := Oa.out.2.2.1.2.2.1 (a.p.getD k 0) (by rw [List.getD_eq_getElem?_getD, List.getElem?_eq_getElem hlt]; exact List.getElem_mem _)
              have hm2 := Ob.out.2.2.1.2.2.1 (b.p.getD k 0) (by rw [List.getD_eq_getElem?_getD, List.getElem?_eq_getElem hlt2]; exact List.getElem_mem _)
              have HN0 : Hid (Fl.rk (a.p.getD k 0) = Fl.rk (b.p.getD k 0) → (a.p.take (k + 1)).map Fl.rk = (b.p.take (k + 1)).map Fl.rk) := map_take_succ Fl.rk 0 a.p b.p k hlt hlt2 HA.out
              have HT0 : Hid (a.p.map Fl.rk = b.p.map Fl.rk → Fl.rk (a.p.getD k 0) = Fl.rk (b.p.getD k 0)) := map_at Fl.rk 0 a.p b.p k hlt hlt2
              have HD1 : Hid (C7 wr b1 (.int .u64 (b.a0 : Int)) (.int .u64 (b.a1 : Int)) (.int .u64 (b.a2 : Int)) (.slice a.ga b.g.length a.gc) (.slice a.sa b.s.length a.sc) (.slice (some ⟨ra, oa, none⟩) b.p.length a.pc) (.slice a.da a.dl.length a.dc)) := (show C7 _ _ _ _ _ _ _ _ _ by have h := HB1.out.fr HF.out (by simp); rw [hao] at h; exact h)
              have HD2 : Hid (C7 wr b2 (.int .u64 (b.a0 : Int)) (.int .u64 (b.a1 : Int)) (.int .u64 (b.a2 : Int)) (.slice b.ga b.g.length b.gc) (.slice b.sa b.s.length b.sc) (.slice (some ⟨rb, ob, none⟩) b.p.length b.pc) (.slice b.da b.dl.length b.dc)) := (show C7 _ _ _ _ _ _ _ _ _ by have h := HB2.out.fr HF.out (by simp); rw [hbo] at h; exact h)
              obtain ⟨y, Hy⟩ : ∃ y, Hid (a.p.getD k 0 = y) := ⟨_, rfl⟩
              obtain ⟨z, Hz⟩ : ∃ z, Hid (b.p.getD k 0 = z) := ⟨_, rfl⟩
              rw [Hy.out] at hy hm1 HN0 HT0
              rw [Hz.out] at hz hm2 HN0 HT0
              have HY : Hid (wr.cell? ⟨ra, oa + k, none⟩ = some (.float .f64 y)) := hy
              have HZ : Hid (wr.cell? ⟨rb, ob + k, none⟩ = some (.float .f64 z)) := hz
              have KW : Hid (∀ W, Calls _ _ _ W _) := fun W => refsame_any y z hm1 hm2 W
              obtain ⟨t, Ht⟩ : ∃ t, Hid (decide (Fl.rk y = Fl.rk z) = t) := ⟨_, rfl⟩
              rw [Ht.out] at KW
              have HN : Hid (t = true → (a.p.take (k + 1)).map Fl.rk = (b.p.take (k + 1)).map Fl.rk) := fun e => HN0.out (by have h := Ht.out; rw [e] at h; simpa using h)
              have HT : Hid (t = false → decide (a.p.map Fl.rk = b.p.map Fl.rk) = false) := fun e => by
                have h2 := Ht.out
                rw [e] at h2
                simp only [decide_eq_false_iff_not] at h2 ⊢
                exact fun e => h2 (HT0.out e)
              clear Ht HN0 HT0 Hy Hz
              have i0 : (0 : Int) ≤ (k : Int) := by omega
              have i2 : (k : Int) < (b.p.length : Int) := by omega
              obtain ⟨d0, d1, d2, d3, d4, d5, d6⟩ := HD1.out
              clear hc hc2 hy hz hao hbo hm1 hm2
              go_wp2_with fail
              clear d0 d1 d2 d3 d4 d5 d6
              refine wp_region_held_drew (S := (fun W : World => C7 W b1 (.int .u64 (b.a0 : Int)) (.int .u64 (b.a1 : Int)) (.int .u64 (b.a2 : Int)) (.slice a.ga b.g.length a.gc) (.slice a.sa b.s.length a.sc) (.slice (some ⟨ra, oa, none⟩) b.p.length a.pc) (.slice a.da a.dl.length a.dc) ∧ C7 W b2 (.int .u64 (b.a0 : Int)) (.int .u64 (b.a1 : Int)) (.int .u64 (b.a2 : Int)) (.slice b.ga b.g.length b.gc) (.slice b.sa b.s.length b.sc) (.slice (some ⟨rb, ob, none⟩) b.p.length b.pc) (.slice b.da b.dl.length b.dc) ∧ W.cell? ⟨ra, oa + k, none⟩ = some (.float .f64 y) ∧ W.cell? ⟨rb, ob + k, none⟩ = some (.float .f64 z))) (by kernel_rfl) ⟨HD1.out.fr ((Fr.refl (fun _ => False) _).drew) (by simp), HD2.out.fr ((Fr.refl (fun _ => False) _).drew) (by simp), Fr.cell ((Fr.refl (fun _ => False) _).drew) HY.out (by simp), Fr.cell ((Fr.refl (fun _ => False) _).drew) HZ.out (by simp)⟩ (fun hHeld => ?_)
              refine wpAnyH_take (i := 0) (oi := _) (v := ?_) (by rw [List.getElem?_toArray]; rfl) (by kernel_rfl) (by kernel_rfl) (by kernel_rfl) (fun _ _ _ h => by exact h) (Or.inl ⟨by rfl, ?_⟩) (by assumption) ?_
              rotate_left
              · (intro w hSw; (try dsimp only at hSw); obtain ⟨⟨e0, e1, e2, e3, e4, e5, e6⟩, ⟨f0, f1, f2, f3, f4, f5, f6⟩, g1, g2⟩ := hSw; go_simp; (try with_reducible rfl))
              try simp only [Act.put, List.setIfInBounds_toArray, List.set_cons_zero, List.set_cons_succ]
              refine wpAnyH_take (i := 1) (oi := _) (v := ?_) (by rw [List.getElem?_toArray]; rfl) (by kernel_rfl) (by kernel_rfl) (by kernel_rfl) (fun _ _ _ h => by exact h) (Or.inl ⟨by rfl, ?_⟩) (by assumption) ?_
              rotate_left
              · (intro w hSw; (try dsimp only at hSw); obtain ⟨⟨e0, e1, e2, e3, e4, e5, e6⟩, ⟨f0, f1, f2, f3, f4, f5, f6⟩, g1, g2⟩ := hSw; go_simp; (try with_reducible rfl))
              try simp only [Act.put, List.setIfInBounds_toArray, List.set_cons_zero, List.set_cons_succ]
              refine wpAnyH_take (i := 2) (oi := _) (v := ?_) (by rw [List.getElem?_toArray]; rfl) (by kernel_rfl) (by kernel_rfl) (by kernel_rfl) (fun _ _ _ h => by exact h) (Or.inl ⟨by rfl, ?_⟩) (by assumption) ?_
              rotate_left
              · (intro w hSw; (try dsimp only at hSw); obtain ⟨⟨e0, e1, e2, e3, e4, e5, e6⟩, ⟨f0, f1, f2, f3, f4, f5, f6⟩, g1, g2⟩ := hSw; go_simp; (try with_reducible rfl))
              try simp only [Act.put, List.setIfInBounds_toArray, List.set_cons_zero, List.set_cons_succ]
              refine wpAnyH_take (i := 3) (oi := _) (v := ?_) (by rw [List.getElem?_toArray]; rfl) (by kernel_rfl) (by kernel_rfl) (by kernel_rfl) (fun _ _ _ h => by exact h) (Or.inl ⟨by rfl, ?_⟩) (by assumption) ?_
              rotate_left
              · (intro w hSw; (try dsimp only at hSw); obtain ⟨⟨e0, e1, e2, e3, e4, e5, e6⟩, ⟨f0, f1, f2, f3, f4, f5, f6⟩, g1, g2⟩ := hSw; go_simp; (try with_reducible rfl))
              try simp only [Act.put, List.setIfInBounds_toArray, List.set_cons_zero, List.set_cons_succ]
              refine wpAnyH_take (i := 4) (oi := _) (v := ?_) (by rw [List.getElem?_toArray]; rfl) (by kernel_rfl) (by kernel_rfl) (by kernel_rfl) (fun _ _ _ h => by exact h) (Or.inl ⟨by rfl, ?_⟩) (by assumption) ?_
              rotate_left
              · (intro w hSw; (try dsimp only at hSw); obtain ⟨⟨e0, e1, e2, e3, e4, e5, e6⟩, ⟨f0, f1, f2, f3, f4, f5, f6⟩, g1, g2⟩ := hSw; go_simp; (try with_reducible rfl))
              try simp only [Act.put, List.setIfInBounds_toArray, List.set_cons_zero, List.set_cons_succ]
              refine wpAnyH_take (i := 5) (oi := _) (v := ?_) (by rw [List.getElem?_toArray]; rfl) (by kernel_rfl) (by kernel_rfl) (by kernel_rfl) (fun _ _ _ h => by exact h) (Or.inl ⟨by rfl, ?_⟩) (by assumption) ?_
              rotate_left
              · (intro w hSw; (try dsimp only at hSw); obtain ⟨⟨e0, e1, e2, e3, e4, e5, e6⟩, ⟨f0, f1, f2, f3, f4, f5, f6⟩, g1, g2⟩ := hSw; go_simp; (try with_reducible rfl))
              try simp only [Act.put, List.setIfInBounds_toArray, List.set_cons_zero, List.set_cons_succ]
              refine wpAnyH_take (i := 6) (oi := _) (v := ?_) (by rw [List.getElem?_toArray]; rfl) (by kernel_rfl) (by kernel_rfl) (by kernel_rfl) (fun _ _ _ h => by exact h) (Or.inl ⟨by rfl, ?_⟩) (by assumption) ?_
              rotate_left
              · (intro w hSw; (try dsimp only at hSw); obtain ⟨⟨e0, e1, e2, e3, e4, e5, e6⟩, ⟨f0, f1, f2, f3, f4, f5, f6⟩, g1, g2⟩ := hSw; go_simp; (try with_reducible rfl))
              try simp only [Act.put, List.setIfInBounds_toArray, List.set_cons_zero, List.set_cons_succ]
              refine wpAnyH_take (i := 7) (oi := _) (v := ?_) (by rw [List.getElem?_toArray]; rfl) (by kernel_rfl) (by kernel_rfl) (by kernel_rfl) (fun _ _ _ h => by exact h) (Or.inl ⟨by rfl, ?_⟩) (by assumption) ?_
              rotate_left
              · (intro w hSw; (try dsimp only at hSw); obtain ⟨⟨e0, e1, e2, e3, e4, e5, e6⟩, ⟨f0, f1, f2, f3, f4, f5, f6⟩, g1, g2⟩ := hSw; go_simp; (try with_reducible rfl))
              try simp only [Act.put, List.setIfInBounds_toArray, List.set_cons_zero, List.set_cons_succ]
              refine wpAnyH_take (i := 8) (oi := _) (v := ?_) (by rw [List.getElem?_toArray]; rfl) (by kernel_rfl) (by kernel_rfl) (by kernel_rfl) (fun _ _ _ h => by exact h) (Or.inl ⟨by rfl, ?_⟩) (by assumption) ?_
              rotate_left
              · (intro w hSw; (try dsimp only at hSw); obtain ⟨⟨e0, e1, e2, e3, e4, e5, e6⟩, ⟨f0, f1, f2, f3, f4, f5, f6⟩, g1, g2⟩ := hSw; go_simp; (try with_reducible rfl))
              try simp only [Act.put, List.setIfInBounds_toArray, List.set_cons_zero, List.set_cons_succ]
              refine wpAnyH_take (i := 9) (oi := _) (v := ?_) (by rw [List.getElem?_toArray]; rfl) (by kernel_rfl) (by kernel_rfl) (by kernel_rfl) (fun _ _ _ h => by exact h) (Or.inl ⟨by rfl, ?_⟩) (by assumption) ?_
              rotate_left
              · (intro w hSw; (try dsimp only at hSw); obtain ⟨⟨e0, e1, e2, e3, e4, e5, e6⟩, ⟨f0, f1, f2, f3, f4, f5, f6⟩, g1, g2⟩ := hSw; go_simp; (try with_reducible rfl))
              try simp only [Act.put, List.setIfInBounds_toArray, List.set_cons_zero, List.set_cons_succ]
              refine wpAnyH_ready (rs := [10]) (by kernel_rfl) (by simp) ?_
              refine AllReadyH.cons (o := _) (by rw [List.getElem?_toArray]; rfl) (fun K hK => ?_) ?_
              · go_simp
                go_wp2_with (go_at_call 44; refine (KW.out _).mono ?_; rintro e w5 ⟨rfl, hw5⟩; subst hw5)
                refine hK.out _ _ ⟨HD1.out.fr ((Fr.refl (fun _ => False) _).drew) (by simp), HD2.out.fr ((Fr.refl (fun _ => False) _).drew) (by simp), Fr.cell ((Fr.refl (fun _ => False) _).drew) HY.out (by simp), Fr.cell ((Fr.refl (fun _ => False) _).drew) HZ.out (by simp)⟩ (fun hHeld => ?_)
                clear hK K
                try simp only [Act.put, List.setIfInBounds_toArray, List.set_cons_zero, List.set_cons_succ]
                refine wpAnyH_take (i := 11) (oi := _) (v := ?_) (by rw [List.getElem?_toArray]; rfl) (by kernel_rfl) (by kernel_rfl) (by kernel_rfl) (fun _ _ _ h => by exact h) (Or.inl ⟨by rfl, ?_⟩) (by assumption) ?_
                rotate_left
                · (intro w hSw; (try dsimp only at hSw); go_simp; (try with_reducible rfl))
                try simp only [Act.put, List.setIfInBounds_toArray, List.set_cons_zero, List.set_cons_succ]
                refine wpAnyH_done (by kernel_rfl) ?_ _
                cases t with
                | false =>
                  go_wp2
                  go_ret
                  exact ⟨by rw [HT.out (by simp)]; simp, F0.out.trans (HF.out.trans ((Fr.refl (fun _ => False) _).drew))⟩
                | true =>
                  go_wp2
                  go_roundw
                  case rel => exact ⟨k + 1, by omega, by go_num, HN.out (by simp), HF.out.trans ((Fr.refl (fun _ => False) _).drew)⟩
                  case measure => simp [intOf]; omega
              exact AllReadyH.nil
            · have hlt' : ¬ (k : Int) < (b.p.length : Int) := by omega
              have HQp : Hid (decide (a.p.map Fl.rk = b.p.map Fl.rk) = true) := by
                have h := HA.out
                rw [List.take_of_length_le (by have := HLp.out; omega), List.take_of_length_le (by omega)] at h
                show _ = _
                simpa using h
              obtain ⟨d0, d1, d2, d3, d4, d5, d6⟩ := HB1.out.fr HF.out (by simp)
              go_wp2
              go_ret
              exact ⟨by rw [HQg.out, HQs.out, HQp.out]; rfl, F0.out.trans HF.out⟩
end Go.Proofs.Ytaalkhipncbjpaa
