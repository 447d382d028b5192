/- The law LocksMeet: its body. -/
import Derived.Test.YtaalkhipncbjpaaTapeC
import Derived.Test.YtaalkhipncbjpaaSameB
import Derived.Test.YtaalkhipncbjpaaMeetF
namespace Go.Proofs.Ytaalkhipncbjpaa
open Go.RowKit
theorem Hd.same_self (a : Hd) : a.same a = true := by simp [Hd.same, Hd.id]
theorem any_comm (l m : List Nat) : (l.any fun x => m.any fun y => decide (Fl.rk x = Fl.rk y)) = m.any fun x => l.any fun y => decide (Fl.rk x = Fl.rk y) := by
  rw [Bool.eq_iff_iff]
  simp only [List.any_eq_true, decide_eq_true_eq]
  constructor
  · rintro ⟨x, hx, y, hy, h⟩
    exact ⟨y, hy, x, hx, h.symm⟩
  · rintro ⟨x, hx, y, hy, h⟩
    exact ⟨y, hy, x, hx, h.symm⟩
theorem Hd.meets_comm (a b : Hd) : a.meets b = b.meets a := by
  unfold Hd.meets
  rw [show a.p.any b.wr = b.p.any a.wr from any_comm a.p b.p]
  cases b.p.any a.wr <;> cases a.p.any b.rd <;> cases b.p.any a.rd <;> rfl
theorem Hd.ok.fr' {w w1 : World} {S : Nat → Prop} {x : Hd} (h : Hd.ok w x) (f : Fr S w w1) (hs : (∀ a, x.ga = some a → ¬ S a.block) ∧ (∀ a, x.sa = some a → ¬ S a.block) ∧ (∀ a, x.pa = some a → ¬ S a.block) ∧ (∀ a, x.da = some a → ¬ S a.block)) : Hd.ok w1 x :=
  ⟨h.1.fr f (fun _ => hs.1), h.2.1.fr f (fun _ => hs.2.1), h.2.2.1.fr f (fun _ => hs.2.2.1), f.row h.2.2.2 (fun _ => hs.2.2.2)⟩
/-- the last test. -/
def Last (a b c d : Hd) (ba bb bc bd : Nat) (WB : World) : Prop := a.ok WB ∧ b.ok WB ∧ c.ok WB ∧ d.ok WB ∧ C7 WB ba (.int .u64 (a.a0 : Int)) (.int .u64 (a.a1 : Int)) (.int .u64 (a.a2 : Int)) (.slice a.ga a.g.length a.gc) (.slice a.sa a.s.length a.sc) (.slice a.pa a.p.length a.pc) (.slice a.da a.dl.length a.dc) ∧ C7 WB bb (.int .u64 (b.a0 : Int)) (.int .u64 (b.a1 : Int)) (.int .u64 (b.a2 : Int)) (.slice b.ga b.g.length b.gc) (.slice b.sa b.s.length b.sc) (.slice b.pa b.p.length b.pc) (.slice b.da b.dl.length b.dc) ∧ C7 WB bc (.int .u64 (c.a0 : Int)) (.int .u64 (c.a1 : Int)) (.int .u64 (c.a2 : Int)) (.slice c.ga c.g.length c.gc) (.slice c.sa c.s.length c.sc) (.slice c.pa c.p.length c.pc) (.slice c.da c.dl.length c.dc) ∧ C7 WB bd (.int .u64 (d.a0 : Int)) (.int .u64 (d.a1 : Int)) (.int .u64 (d.a2 : Int)) (.slice d.ga d.g.length d.gc) (.slice d.sa d.s.length d.sc) (.slice d.pa d.p.length d.pc) (.slice d.da d.dl.length d.dc)
set_option maxRecDepth 100000 in
set_option maxHeartbeats 32000000 in
theorem meet_walk (a b : Hd) (ao : Option Addr) (l : List Nat) (cap : Nat) (w : World) (ha : a.ok w) (hb : b.ok w) (hl : Row w ao l cap) :
    Calls Try.prog 3 #[.agg #[.int .u64 (a.a0 : Int), .int .u64 (a.a1 : Int), .int .u64 (a.a2 : Int), .slice a.ga a.g.length a.gc, .slice a.sa a.s.length a.sc, .slice a.pa a.p.length a.pc, .slice a.da a.dl.length a.dc], .agg #[.int .u64 (b.a0 : Int), .int .u64 (b.a1 : Int), .int .u64 (b.a2 : Int), .slice b.ga b.g.length b.gc, .slice b.sa b.s.length b.sc, .slice b.pa b.p.length b.pc, .slice b.da b.dl.length b.dc], .slice ao l.length cap] w fun e w' => e = .returned (.bool true) ∧ Fr (fun _ => False) w w' := by
  obtain ⟨W, HW⟩ : ∃ W, Hid (W = (w.alloc (.cells #[.int .u64 (a.a0 : Int), .int .u64 (a.a1 : Int), .int .u64 (a.a2 : Int), .slice a.ga a.g.length a.gc, .slice a.sa a.s.length a.sc, .slice a.pa a.p.length a.pc, .slice a.da a.dl.length a.dc] 29)).alloc (.cells #[.int .u64 (b.a0 : Int), .int .u64 (b.a1 : Int), .int .u64 (b.a2 : Int), .slice b.ga b.g.length b.gc, .slice b.sa b.s.length b.sc, .slice b.pa b.p.length b.pc, .slice b.da b.dl.length b.dc] 29)) := ⟨_, rfl⟩
  have F0 : Hid (Fr (fun _ => False) w W) := (show Fr _ _ _ by rw [HW.out]; exact ((Fr.refl (fun _ => False) w).alloc _).alloc _)
  have HB1 : Hid (C7 W w.heap.size (.int .u64 (a.a0 : Int)) (.int .u64 (a.a1 : Int)) (.int .u64 (a.a2 : Int)) (.slice a.ga a.g.length a.gc) (.slice a.sa a.s.length a.sc) (.slice a.pa a.p.length a.pc) (.slice a.da a.dl.length a.dc)) := (show C7 _ _ _ _ _ _ _ _ _ by rw [HW.out]; exact (C7.new w 29 _ _ _ _ _ _ _).fr ((Fr.refl (fun _ => False) _).alloc (.cells #[.int .u64 (b.a0 : Int), .int .u64 (b.a1 : Int), .int .u64 (b.a2 : Int), .slice b.ga b.g.length b.gc, .slice b.sa b.s.length b.sc, .slice b.pa b.p.length b.pc, .slice b.da b.dl.length b.dc] 29)) (by simp))
  have HB2 : Hid (C7 W (w.heap.size + 1) (.int .u64 (b.a0 : Int)) (.int .u64 (b.a1 : Int)) (.int .u64 (b.a2 : Int)) (.slice b.ga b.g.length b.gc) (.slice b.sa b.s.length b.sc) (.slice b.pa b.p.length b.pc) (.slice b.da b.dl.length b.dc)) := (show C7 _ _ _ _ _ _ _ _ _ by rw [HW.out]; have := C7.new (w.alloc (.cells #[.int .u64 (a.a0 : Int), .int .u64 (a.a1 : Int), .int .u64 (a.a2 : Int), .slice a.ga a.g.length a.gc, .slice a.sa a.s.length a.sc, .slice a.pa a.p.length a.pc, .slice a.da a.dl.length a.dc] 29)) 29 (.int .u64 (b.a0 : Int)) (.int .u64 (b.a1 : Int)) (.int .u64 (b.a2 : Int)) (.slice b.ga b.g.length b.gc) (.slice b.sa b.s.length b.sc) (.slice b.pa b.p.length b.pc) (.slice b.da b.dl.length b.dc); simpa using this)
  have Oa : Hid (a.ok W) := ha.fr F0.out
  have Ob : Hid (b.ok W) := hb.fr F0.out
  have HRL : Hid (Row W ao l cap) := F0.out.row hl (by simp)
  have HBL : Hid (l ≠ [] → ∀ x, ao = some x → x.block < w.heap.size) := fun hne x hx => by
    obtain ⟨g, off, hg, hc⟩ := hl.2.2.2.2 hne
    rw [hg] at hx
    cases hx
    exact World.block_lt_of_cell? _ _ (hc 0 (by cases l with | nil => exact absurd rfl hne | cons => simp))
  have hl1 : l.length ≤ 9223372036854775807 := by have := hl.1; have := hl.2.1; unfold maxLen at this; omega
  obtain ⟨ba, Hba⟩ : ∃ b1, Hid (w.heap.size = b1) := ⟨_, rfl⟩
  obtain ⟨bb, Hbb⟩ : ∃ b2, Hid (w.heap.size + 1 = b2) := ⟨_, rfl⟩
  rw [Hba.out] at HB1
  rw [Hbb.out] at HB2
  clear ha hb hl
  go_enter Try.func3, Try.ntmps3
  go_wp2_with fail
  rw [← HW.out, Hbb.out, Hba.out]
  refine (awake_any W).mono ?_
  rintro e w1 ⟨rfl, f1⟩
  have F1 : Hid (Fr (fun _ => False) W w1) := f1
  clear f1
  obtain ⟨d0, d1, d2, d3, d4, d5, d6⟩ := HB1.out.fr F1.out (by simp)
  obtain ⟨f0, f1, f2, f3, f4, f5, f6⟩ := HB2.out.fr F1.out (by simp)
  go_wp2_with fail
  refine (short_any a w1).mono ?_
  rintro e w2 ⟨rfl, g2⟩
  have F2 : Hid (Fr (fun _ => False) W w2) := F1.out.trans g2
  clear g2
  cases hsa : a.short
  · clear d0 d1 d2 d3 d4 d5 d6 f0 f1 f2 f3 f4 f5 f6
    go_wp2_with fail
    refine (awake_any _).mono ?_
    rintro e w3 ⟨rfl, f3⟩
    go_wp2
    go_ret
    exact ⟨rfl, F0.out.trans (F2.out.trans f3)⟩
  clear d0 d1 d2 d3 d4 d5 d6 f0 f1 f2 f3 f4 f5 f6 hsa
  obtain ⟨d0, d1, d2, d3, d4, d5, d6⟩ := HB1.out.fr F2.out (by simp)
  obtain ⟨f0, f1, f2, f3, f4, f5, f6⟩ := HB2.out.fr F2.out (by simp)
  go_wp2_with fail
  refine (short_any b w2).mono ?_
  rintro e w3 ⟨rfl, g3⟩
  have F3 : Hid (Fr (fun _ => False) W w3) := F2.out.trans g3
  clear g3 d0 d1 d2 d3 d4 d5 d6 f0 f1 f2 f3 f4 f5 f6
  cases hsb : b.short
  · go_wp2_with fail
    refine (awake_any _).mono ?_
    rintro e w4 ⟨rfl, f4⟩
    go_wp2
    go_ret
    exact ⟨rfl, F0.out.trans (F3.out.trans f4)⟩
  clear hsb
  by_cases hp : 100 < l.length
  · have hp2 : (100 : Int) < (l.length : Int) := by omega
    go_wp2_with fail
    refine (awake_any _).mono ?_
    rintro e w4 ⟨rfl, f4⟩
    go_wp2
    go_ret
    exact ⟨rfl, F0.out.trans (F3.out.trans f4)⟩
  have hp2 : ¬ (100 : Int) < (l.length : Int) := by omega
  obtain ⟨tb, Htb⟩ : ∃ tb, Hid (w3.heap.size = tb) := ⟨_, rfl⟩
  obtain ⟨WT, HWT⟩ : ∃ W, Hid (W = w3.alloc (.cells #[.slice ao l.length cap, .int .i64 0] 34)) := ⟨_, rfl⟩
  have FT0 : Hid (Fr (fun _ => False) W WT) := (show Fr _ _ _ by rw [HWT.out]; exact F3.out.alloc _)
  have HSZ : Hid (w.heap.size ≤ W.heap.size ∧ W.heap.size ≤ tb ∧ tb < WT.heap.size) := ⟨F0.out.size, by have := F3.out.size; have := Htb.out; omega, by rw [HWT.out]; simp; have := Htb.out; omega⟩
  have HT0 : Hid (Tp WT tb ao l cap 0) := by
    show Tp _ _ _ _ _ _
    rw [HWT.out, ← Htb.out]
    have fa : Fr (fun _ => False) w3 (w3.alloc (.cells #[.slice ao l.length cap, .int .i64 0] 34)) := (Fr.refl _ _).alloc _
    refine ⟨by simp, by simp, by simp, (F3.out.trans fa).row HRL.out (by simp), Nat.zero_le _, fun hne x hx e => ?_⟩
    have := HBL.out hne x hx
    have := F0.out.size
    have := F3.out.size
    omega
  have K0 : Hid (Calls _ _ _ _ _) := hold_any HT0.out (fun hne x hx => by have := HBL.out hne x hx; have := HSZ.out; omega)
  go_wp2_with fail
  rw [← HWT.out, Htb.out]
  refine K0.out.mono ?_
  rintro e w4 ⟨c, rfl, hc, hfar, ⟨j4, hj4⟩, f4⟩
  have FW4 : Hid (Fr (fun _ => False) W w4) := FT0.out.trans' f4 (fun i hi e => by have := HSZ.out; omega)
  have HZ4 : Hid (WT.heap.size ≤ w4.heap.size) := f4.size
  have OC4 : Hid (c.ok w4) := hc
  have HFc : Hid (_ ∧ _ ∧ _ ∧ _) := hfar
  obtain ⟨bc, Hbc⟩ : ∃ bc, Hid (w4.heap.size = bc) := ⟨_, rfl⟩
  obtain ⟨WU, HWU⟩ : ∃ W, Hid (W = w4.alloc (.cells #[.int .u64 (c.a0 : Int), .int .u64 (c.a1 : Int), .int .u64 (c.a2 : Int), .slice c.ga c.g.length c.gc, .slice c.sa c.s.length c.sc, .slice c.pa c.p.length c.pc, .slice c.da c.dl.length c.dc] 29)) := ⟨_, rfl⟩
  have CU : Hid (C7 WU bc (.int .u64 (c.a0 : Int)) (.int .u64 (c.a1 : Int)) (.int .u64 (c.a2 : Int)) (.slice c.ga c.g.length c.gc) (.slice c.sa c.s.length c.sc) (.slice c.pa c.p.length c.pc) (.slice c.da c.dl.length c.dc)) := (show C7 _ _ _ _ _ _ _ _ _ by rw [HWU.out, ← Hbc.out]; exact C7.new w4 29 _ _ _ _ _ _ _)
  have FU : Hid (Fr (fun _ => False) w4 WU) := (show Fr _ _ _ by rw [HWU.out]; exact (Fr.refl _ _).alloc _)
  have TU : Hid (Tp WU tb ao l cap j4) := hj4.fr FU.out (by simp) (by simp)
  have K1 : Hid (Calls _ _ _ _ _) := hold_any TU.out (fun hne x hx => by have := HBL.out hne x hx; have := HSZ.out; have := FU.out.size; have := HZ4.out; omega)
  clear hc hfar hj4 f4 K0 HT0
  go_wp2_with fail
  rw [← HWU.out, Hbc.out]
  refine K1.out.mono ?_
  rintro e w5 ⟨d, rfl, hd, hfar, ⟨j5, hj5⟩, f5⟩
  have F5 : Hid (Fr (fun k => k = tb) WU w5) := f5
  have OD5 : Hid (d.ok w5) := hd
  obtain ⟨bd, Hbd⟩ : ∃ bd, Hid (w5.heap.size = bd) := ⟨_, rfl⟩
  obtain ⟨WB, HWB⟩ : ∃ W, Hid (W = w5.alloc (.cells #[.int .u64 (d.a0 : Int), .int .u64 (d.a1 : Int), .int .u64 (d.a2 : Int), .slice d.ga d.g.length d.gc, .slice d.sa d.s.length d.sc, .slice d.pa d.p.length d.pc, .slice d.da d.dl.length d.dc] 29)) := ⟨_, rfl⟩
  have F5B : Hid (Fr (fun _ => False) w5 WB) := (show Fr _ _ _ by rw [HWB.out]; exact (Fr.refl _ _).alloc _)
  have FUB : Hid (Fr (fun k => k = tb) WU WB) := F5.out.trans (F5B.out.mono (fun _ _ h => h.elim))
  have FWB : Hid (Fr (fun _ => False) W WB) := (FW4.out.trans FU.out).trans' FUB.out (fun i hi e => by have := HSZ.out; omega)
  have Oa : Hid (a.ok WB) := Oa.out.fr FWB.out
  have Ob : Hid (b.ok WB) := Ob.out.fr FWB.out
  have Oc : Hid (c.ok WB) := (OC4.out.fr FU.out).fr' FUB.out ⟨fun x hx e => by have := HFc.out.1 x hx; have := HSZ.out; omega, fun x hx e => by have := HFc.out.2.1 x hx; have := HSZ.out; omega, fun x hx e => by have := HFc.out.2.2.1 x hx; have := HSZ.out; omega, fun x hx e => by have := HFc.out.2.2.2 x hx; have := HSZ.out; omega⟩
  have Od : Hid (d.ok WB) := OD5.out.fr F5B.out
  have Ca : Hid (C7 WB ba (.int .u64 (a.a0 : Int)) (.int .u64 (a.a1 : Int)) (.int .u64 (a.a2 : Int)) (.slice a.ga a.g.length a.gc) (.slice a.sa a.s.length a.sc) (.slice a.pa a.p.length a.pc) (.slice a.da a.dl.length a.dc)) := HB1.out.fr FWB.out (by simp)
  have Cb : Hid (C7 WB bb (.int .u64 (b.a0 : Int)) (.int .u64 (b.a1 : Int)) (.int .u64 (b.a2 : Int)) (.slice b.ga b.g.length b.gc) (.slice b.sa b.s.length b.sc) (.slice b.pa b.p.length b.pc) (.slice b.da b.dl.length b.dc)) := HB2.out.fr FWB.out (by simp)
  have Cc : Hid (C7 WB bc (.int .u64 (c.a0 : Int)) (.int .u64 (c.a1 : Int)) (.int .u64 (c.a2 : Int)) (.slice c.ga c.g.length c.gc) (.slice c.sa c.s.length c.sc) (.slice c.pa c.p.length c.pc) (.slice c.da c.dl.length c.dc)) := CU.out.fr FUB.out (by have := HSZ.out; have := HZ4.out; have := Hbc.out; omega)
  have Cd : Hid (C7 WB bd (.int .u64 (d.a0 : Int)) (.int .u64 (d.a1 : Int)) (.int .u64 (d.a2 : Int)) (.slice d.ga d.g.length d.gc) (.slice d.sa d.s.length d.sc) (.slice d.pa d.p.length d.pc) (.slice d.da d.dl.length d.dc)) := (show C7 _ _ _ _ _ _ _ _ _ by rw [HWB.out, ← Hbd.out]; exact C7.new w5 29 _ _ _ _ _ _ _)
  have FT : Hid (Fr (fun _ => False) w WB) := F0.out.trans FWB.out
  clear hd hfar hj5 f5 K1 TU FU CU FUB FWB F5 F5B OD5 OC4 HFc HZ4 HSZ FT0 FW4 F0 HB1 HB2 HRL HBL F1 F2 F3
  go_wp2_with fail
  rw [← HWB.out, Hbd.out]
  clear HWB Hbd HWU Hbc HWT Htb HW Hba Hbb
  refine wp_region_held_drew (S := (fun W : World => C7 W ba (.int .u64 (a.a0 : Int)) (.int .u64 (a.a1 : Int)) (.int .u64 (a.a2 : Int)) (.slice a.ga a.g.length a.gc) (.slice a.sa a.s.length a.sc) (.slice a.pa a.p.length a.pc) (.slice a.da a.dl.length a.dc) ∧ C7 W bb (.int .u64 (b.a0 : Int)) (.int .u64 (b.a1 : Int)) (.int .u64 (b.a2 : Int)) (.slice b.ga b.g.length b.gc) (.slice b.sa b.s.length b.sc) (.slice b.pa b.p.length b.pc) (.slice b.da b.dl.length b.dc) ∧ C7 W bc (.int .u64 (c.a0 : Int)) (.int .u64 (c.a1 : Int)) (.int .u64 (c.a2 : Int)) (.slice c.ga c.g.length c.gc) (.slice c.sa c.s.length c.sc) (.slice c.pa c.p.length c.pc) (.slice c.da c.dl.length c.dc) ∧ C7 W bd (.int .u64 (d.a0 : Int)) (.int .u64 (d.a1 : Int)) (.int .u64 (d.a2 : Int)) (.slice d.ga d.g.length d.gc) (.slice d.sa d.s.length d.sc) (.slice d.pa d.p.length d.pc) (.slice d.da d.dl.length d.dc))) (by kernel_rfl) ⟨Ca.out.fr ((Fr.refl (fun _ => False) WB).drew) (by simp), Cb.out.fr ((Fr.refl (fun _ => False) WB).drew) (by simp), Cc.out.fr ((Fr.refl (fun _ => False) WB).drew) (by simp), Cd.out.fr ((Fr.refl (fun _ => False) WB).drew) (by simp)⟩ (fun hHeld => ?_)
  refine wpAnyH_take (i := 0) (oi := _) (v := ?_) (by rw [List.getElem?_toArray]; rfl) (by kernel_rfl) (by kernel_rfl) (by kernel_rfl) (fun _ _ _ h => by exact h) (Or.inl ⟨by rfl, ?_⟩) (by assumption) ?_
  rotate_left
  · (intro w hSw; (try dsimp only at hSw); obtain ⟨⟨a0, a1, a2, a3, a4, a5, a6⟩, ⟨b0, b1, b2, b3, b4, b5, b6⟩, ⟨c0, c1, c2, c3, c4, c5, c6⟩, ⟨d0, d1, d2, d3, d4, d5, d6⟩⟩ := hSw; go_simp; (try with_reducible rfl))
  try simp only [Act.put, List.setIfInBounds_toArray, List.set_cons_zero, List.set_cons_succ]
  refine wpAnyH_take (i := 1) (oi := _) (v := ?_) (by rw [List.getElem?_toArray]; rfl) (by kernel_rfl) (by kernel_rfl) (by kernel_rfl) (fun _ _ _ h => by exact h) (Or.inl ⟨by rfl, ?_⟩) (by assumption) ?_
  rotate_left
  · (intro w hSw; (try dsimp only at hSw); obtain ⟨⟨a0, a1, a2, a3, a4, a5, a6⟩, ⟨b0, b1, b2, b3, b4, b5, b6⟩, ⟨c0, c1, c2, c3, c4, c5, c6⟩, ⟨d0, d1, d2, d3, d4, d5, d6⟩⟩ := hSw; go_simp; (try with_reducible rfl))
  try simp only [Act.put, List.setIfInBounds_toArray, List.set_cons_zero, List.set_cons_succ]
  refine wpAnyH_take (i := 3) (oi := _) (v := ?_) (by rw [List.getElem?_toArray]; rfl) (by kernel_rfl) (by kernel_rfl) (by kernel_rfl) (fun _ _ _ h => by exact h) (Or.inl ⟨by rfl, ?_⟩) (by assumption) ?_
  rotate_left
  · (intro w hSw; (try dsimp only at hSw); obtain ⟨⟨a0, a1, a2, a3, a4, a5, a6⟩, ⟨b0, b1, b2, b3, b4, b5, b6⟩, ⟨c0, c1, c2, c3, c4, c5, c6⟩, ⟨d0, d1, d2, d3, d4, d5, d6⟩⟩ := hSw; go_simp; (try with_reducible rfl))
  try simp only [Act.put, List.setIfInBounds_toArray, List.set_cons_zero, List.set_cons_succ]
  refine wpAnyH_take (i := 4) (oi := _) (v := ?_) (by rw [List.getElem?_toArray]; rfl) (by kernel_rfl) (by kernel_rfl) (by kernel_rfl) (fun _ _ _ h => by exact h) (Or.inl ⟨by rfl, ?_⟩) (by assumption) ?_
  rotate_left
  · (intro w hSw; (try dsimp only at hSw); obtain ⟨⟨a0, a1, a2, a3, a4, a5, a6⟩, ⟨b0, b1, b2, b3, b4, b5, b6⟩, ⟨c0, c1, c2, c3, c4, c5, c6⟩, ⟨d0, d1, d2, d3, d4, d5, d6⟩⟩ := hSw; go_simp; (try with_reducible rfl))
  try simp only [Act.put, List.setIfInBounds_toArray, List.set_cons_zero, List.set_cons_succ]
  refine wpAnyH_ready (rs := [2]) (by kernel_rfl) (by simp) ?_
  refine AllReadyH.cons (o := _) (by rw [List.getElem?_toArray]; rfl) (fun K hK => ?_) ?_
  · go_simp
    go_wp2_with (go_at_call 12; refine (locsame_any a b _ (Oa.out.fr ((Fr.refl (fun _ => False) WB).drew)) (Ob.out.fr ((Fr.refl (fun _ => False) WB).drew))).mono ?_; rintro e w10 ⟨rfl, f10⟩)
    have G10 : Hid (Fr (fun _ => False) WB w10) := (((Fr.refl (fun _ => False) WB).drew)).trans f10
    clear f10
    refine hK.out _ _ ⟨Ca.out.fr G10.out (by simp), Cb.out.fr G10.out (by simp), Cc.out.fr G10.out (by simp), Cd.out.fr G10.out (by simp)⟩ (fun hHeld => ?_)
    clear hK K
    try simp only [Act.put, List.setIfInBounds_toArray, List.set_cons_zero, List.set_cons_succ]
    refine wpAnyH_ready (rs := [5]) (by kernel_rfl) (by simp) ?_
    refine AllReadyH.cons (o := _) (by rw [List.getElem?_toArray]; rfl) (fun K hK => ?_) ?_
    · go_simp
      go_wp2_with (go_at_call 13; refine (samehold_any a b _ (Oa.out.fr G10.out) (Ob.out.fr G10.out)).mono ?_; rintro e w11 ⟨rfl, f11⟩)
      have G11 : Hid (Fr (fun _ => False) WB w11) := (G10.out).trans f11
      clear f11
      refine hK.out _ _ ⟨Ca.out.fr G11.out (by simp), Cb.out.fr G11.out (by simp), Cc.out.fr G11.out (by simp), Cd.out.fr G11.out (by simp)⟩ (fun hHeld => ?_)
      clear hK K
      try simp only [Act.put, List.setIfInBounds_toArray, List.set_cons_zero, List.set_cons_succ]
      refine wpAnyH_take (i := 6) (oi := _) (v := ?_) (by rw [List.getElem?_toArray]; rfl) (by kernel_rfl) (by kernel_rfl) (by kernel_rfl) (fun _ _ _ h => by exact h) (Or.inl ⟨by rfl, ?_⟩) (by assumption) ?_
      rotate_left
      · (intro w hSw; (try dsimp only at hSw); obtain ⟨⟨a0, a1, a2, a3, a4, a5, a6⟩, ⟨b0, b1, b2, b3, b4, b5, b6⟩, ⟨c0, c1, c2, c3, c4, c5, c6⟩, ⟨d0, d1, d2, d3, d4, d5, d6⟩⟩ := hSw; go_simp; (try with_reducible rfl))
      try simp only [Act.put, List.setIfInBounds_toArray, List.set_cons_zero, List.set_cons_succ]
      refine wpAnyH_take (i := 7) (oi := _) (v := ?_) (by rw [List.getElem?_toArray]; rfl) (by kernel_rfl) (by kernel_rfl) (by kernel_rfl) (fun _ _ _ h => by exact h) (Or.inl ⟨by rfl, ?_⟩) (by assumption) ?_
      rotate_left
      · (intro w hSw; (try dsimp only at hSw); obtain ⟨⟨a0, a1, a2, a3, a4, a5, a6⟩, ⟨b0, b1, b2, b3, b4, b5, b6⟩, ⟨c0, c1, c2, c3, c4, c5, c6⟩, ⟨d0, d1, d2, d3, d4, d5, d6⟩⟩ := hSw; go_simp; (try with_reducible rfl))
      try simp only [Act.put, List.setIfInBounds_toArray, List.set_cons_zero, List.set_cons_succ]
      refine wpAnyH_take (i := 8) (oi := _) (v := ?_) (by rw [List.getElem?_toArray]; rfl) (by kernel_rfl) (by kernel_rfl) (by kernel_rfl) (fun _ _ _ h => by exact h) (Or.inl ⟨by rfl, ?_⟩) (by assumption) ?_
      rotate_left
      · (intro w hSw; (try dsimp only at hSw); obtain ⟨⟨a0, a1, a2, a3, a4, a5, a6⟩, ⟨b0, b1, b2, b3, b4, b5, b6⟩, ⟨c0, c1, c2, c3, c4, c5, c6⟩, ⟨d0, d1, d2, d3, d4, d5, d6⟩⟩ := hSw; go_simp; (try with_reducible rfl))
      try simp only [Act.put, List.setIfInBounds_toArray, List.set_cons_zero, List.set_cons_succ]
      refine wpAnyH_take (i := 9) (oi := _) (v := ?_) (by rw [List.getElem?_toArray]; rfl) (by kernel_rfl) (by kernel_rfl) (by kernel_rfl) (fun _ _ _ h => by exact h) (Or.inl ⟨by rfl, ?_⟩) (by assumption) ?_
      rotate_left
      · (intro w hSw; (try dsimp only at hSw); obtain ⟨⟨a0, a1, a2, a3, a4, a5, a6⟩, ⟨b0, b1, b2, b3, b4, b5, b6⟩, ⟨c0, c1, c2, c3, c4, c5, c6⟩, ⟨d0, d1, d2, d3, d4, d5, d6⟩⟩ := hSw; go_simp; (try with_reducible rfl))
      try simp only [Act.put, List.setIfInBounds_toArray, List.set_cons_zero, List.set_cons_succ]
      refine wpAnyH_ready (rs := [10]) (by kernel_rfl) (by simp) ?_
      refine AllReadyH.cons (o := _) (by rw [List.getElem?_toArray]; rfl) (fun K hK => ?_) ?_
      · go_simp
        go_wp2_with (go_at_call 12; refine (locsame_any a a _ (Oa.out.fr G11.out) (Oa.out.fr G11.out)).mono ?_; rintro e w12 ⟨rfl, f12⟩)
        have G12 : Hid (Fr (fun _ => False) WB w12) := (G11.out).trans f12
        clear f12
        rw [Hd.same_self]
        refine hK.out _ _ ⟨Ca.out.fr G12.out (by simp), Cb.out.fr G12.out (by simp), Cc.out.fr G12.out (by simp), Cd.out.fr G12.out (by simp)⟩ (fun hHeld => ?_)
        clear hK K
        try simp only [Act.put, List.setIfInBounds_toArray, List.set_cons_zero, List.set_cons_succ]
        refine wpAnyH_take (i := 11) (oi := _) (v := ?_) (by rw [List.getElem?_toArray]; rfl) (by kernel_rfl) (by kernel_rfl) (by kernel_rfl) (fun _ _ _ h => by exact h) (Or.inl ⟨by rfl, ?_⟩) (by assumption) ?_
        rotate_left
        · (intro w hSw; (try dsimp only at hSw); obtain ⟨⟨a0, a1, a2, a3, a4, a5, a6⟩, ⟨b0, b1, b2, b3, b4, b5, b6⟩, ⟨c0, c1, c2, c3, c4, c5, c6⟩, ⟨d0, d1, d2, d3, d4, d5, d6⟩⟩ := hSw; go_simp; (try with_reducible rfl))
        try simp only [Act.put, List.setIfInBounds_toArray, List.set_cons_zero, List.set_cons_succ]
        refine wpAnyH_take (i := 12) (oi := _) (v := ?_) (by rw [List.getElem?_toArray]; rfl) (by kernel_rfl) (by kernel_rfl) (by kernel_rfl) (fun _ _ _ h => by exact h) (Or.inl ⟨by rfl, ?_⟩) (by assumption) ?_
        rotate_left
        · (intro w hSw; (try dsimp only at hSw); obtain ⟨⟨a0, a1, a2, a3, a4, a5, a6⟩, ⟨b0, b1, b2, b3, b4, b5, b6⟩, ⟨c0, c1, c2, c3, c4, c5, c6⟩, ⟨d0, d1, d2, d3, d4, d5, d6⟩⟩ := hSw; go_simp; (try with_reducible rfl))
        try simp only [Act.put, List.setIfInBounds_toArray, List.set_cons_zero, List.set_cons_succ]
        refine wpAnyH_take (i := 13) (oi := _) (v := ?_) (by rw [List.getElem?_toArray]; rfl) (by kernel_rfl) (by kernel_rfl) (by kernel_rfl) (fun _ _ _ h => by exact h) (Or.inl ⟨by rfl, ?_⟩) (by assumption) ?_
        rotate_left
        · (intro w hSw; (try dsimp only at hSw); obtain ⟨⟨a0, a1, a2, a3, a4, a5, a6⟩, ⟨b0, b1, b2, b3, b4, b5, b6⟩, ⟨c0, c1, c2, c3, c4, c5, c6⟩, ⟨d0, d1, d2, d3, d4, d5, d6⟩⟩ := hSw; go_simp; (try with_reducible rfl))
        try simp only [Act.put, List.setIfInBounds_toArray, List.set_cons_zero, List.set_cons_succ]
        refine wpAnyH_take (i := 14) (oi := _) (v := ?_) (by rw [List.getElem?_toArray]; rfl) (by kernel_rfl) (by kernel_rfl) (by kernel_rfl) (fun _ _ _ h => by exact h) (Or.inl ⟨by rfl, ?_⟩) (by assumption) ?_
        rotate_left
        · (intro w hSw; (try dsimp only at hSw); obtain ⟨⟨a0, a1, a2, a3, a4, a5, a6⟩, ⟨b0, b1, b2, b3, b4, b5, b6⟩, ⟨c0, c1, c2, c3, c4, c5, c6⟩, ⟨d0, d1, d2, d3, d4, d5, d6⟩⟩ := hSw; go_simp; (try with_reducible rfl))
        try simp only [Act.put, List.setIfInBounds_toArray, List.set_cons_zero, List.set_cons_succ]
        refine wpAnyH_take (i := 15) (oi := _) (v := ?_) (by rw [List.getElem?_toArray]; rfl) (by kernel_rfl) (by kernel_rfl) (by kernel_rfl) (fun _ _ _ h => by exact h) (Or.inl ⟨by rfl, ?_⟩) (by assumption) ?_
        rotate_left
        · (intro w hSw; (try dsimp only at hSw); obtain ⟨⟨a0, a1, a2, a3, a4, a5, a6⟩, ⟨b0, b1, b2, b3, b4, b5, b6⟩, ⟨c0, c1, c2, c3, c4, c5, c6⟩, ⟨d0, d1, d2, d3, d4, d5, d6⟩⟩ := hSw; go_simp; (try with_reducible rfl))
        try simp only [Act.put, List.setIfInBounds_toArray, List.set_cons_zero, List.set_cons_succ]
        refine wpAnyH_take (i := 17) (oi := _) (v := ?_) (by rw [List.getElem?_toArray]; rfl) (by kernel_rfl) (by kernel_rfl) (by kernel_rfl) (fun _ _ _ h => by exact h) (Or.inl ⟨by rfl, ?_⟩) (by assumption) ?_
        rotate_left
        · (intro w hSw; (try dsimp only at hSw); obtain ⟨⟨a0, a1, a2, a3, a4, a5, a6⟩, ⟨b0, b1, b2, b3, b4, b5, b6⟩, ⟨c0, c1, c2, c3, c4, c5, c6⟩, ⟨d0, d1, d2, d3, d4, d5, d6⟩⟩ := hSw; go_simp; (try with_reducible rfl))
        try simp only [Act.put, List.setIfInBounds_toArray, List.set_cons_zero, List.set_cons_succ]
        refine wpAnyH_take (i := 18) (oi := _) (v := ?_) (by rw [List.getElem?_toArray]; rfl) (by kernel_rfl) (by kernel_rfl) (by kernel_rfl) (fun _ _ _ h => by exact h) (Or.inl ⟨by rfl, ?_⟩) (by assumption) ?_
        rotate_left
        · (intro w hSw; (try dsimp only at hSw); obtain ⟨⟨a0, a1, a2, a3, a4, a5, a6⟩, ⟨b0, b1, b2, b3, b4, b5, b6⟩, ⟨c0, c1, c2, c3, c4, c5, c6⟩, ⟨d0, d1, d2, d3, d4, d5, d6⟩⟩ := hSw; go_simp; (try with_reducible rfl))
        try simp only [Act.put, List.setIfInBounds_toArray, List.set_cons_zero, List.set_cons_succ]
        refine wpAnyH_ready (rs := [16]) (by kernel_rfl) (by simp) ?_
        refine AllReadyH.cons (o := _) (by rw [List.getElem?_toArray]; rfl) (fun K hK => ?_) ?_
        · go_simp
          go_wp2_with (go_at_call 12; refine (locsame_any c d _ (Oc.out.fr G12.out) (Od.out.fr G12.out)).mono ?_; rintro e w13 ⟨rfl, f13⟩)
          have G13 : Hid (Fr (fun _ => False) WB w13) := (G12.out).trans f13
          clear f13
          refine hK.out _ _ ⟨Ca.out.fr G13.out (by simp), Cb.out.fr G13.out (by simp), Cc.out.fr G13.out (by simp), Cd.out.fr G13.out (by simp)⟩ (fun hHeld => ?_)
          clear hK K
          try simp only [Act.put, List.setIfInBounds_toArray, List.set_cons_zero, List.set_cons_succ]
          refine wpAnyH_ready (rs := [19]) (by kernel_rfl) (by simp) ?_
          refine AllReadyH.cons (o := _) (by rw [List.getElem?_toArray]; rfl) (fun K hK => ?_) ?_
          · go_simp
            go_wp2_with (go_at_call 13; refine (samehold_any c d _ (Oc.out.fr G13.out) (Od.out.fr G13.out)).mono ?_; rintro e w14 ⟨rfl, f14⟩)
            have G14 : Hid (Fr (fun _ => False) WB w14) := (G13.out).trans f14
            clear f14
            refine hK.out _ _ ⟨Ca.out.fr G14.out (by simp), Cb.out.fr G14.out (by simp), Cc.out.fr G14.out (by simp), Cd.out.fr G14.out (by simp)⟩ (fun hHeld => ?_)
            clear hK K
            try simp only [Act.put, List.setIfInBounds_toArray, List.set_cons_zero, List.set_cons_succ]
            refine wpAnyH_take (i := 20) (oi := _) (v := ?_) (by rw [List.getElem?_toArray]; rfl) (by kernel_rfl) (by kernel_rfl) (by kernel_rfl) (fun _ _ _ h => by exact h) (Or.inl ⟨by rfl, ?_⟩) (by assumption) ?_
            rotate_left
            · (intro w hSw; (try dsimp only at hSw); obtain ⟨⟨a0, a1, a2, a3, a4, a5, a6⟩, ⟨b0, b1, b2, b3, b4, b5, b6⟩, ⟨c0, c1, c2, c3, c4, c5, c6⟩, ⟨d0, d1, d2, d3, d4, d5, d6⟩⟩ := hSw; go_simp; (try with_reducible rfl))
            try simp only [Act.put, List.setIfInBounds_toArray, List.set_cons_zero, List.set_cons_succ]
            refine wpAnyH_take (i := 21) (oi := _) (v := ?_) (by rw [List.getElem?_toArray]; rfl) (by kernel_rfl) (by kernel_rfl) (by kernel_rfl) (fun _ _ _ h => by exact h) (Or.inl ⟨by rfl, ?_⟩) (by assumption) ?_
            rotate_left
            · (intro w hSw; (try dsimp only at hSw); obtain ⟨⟨a0, a1, a2, a3, a4, a5, a6⟩, ⟨b0, b1, b2, b3, b4, b5, b6⟩, ⟨c0, c1, c2, c3, c4, c5, c6⟩, ⟨d0, d1, d2, d3, d4, d5, d6⟩⟩ := hSw; go_simp; (try with_reducible rfl))
            try simp only [Act.put, List.setIfInBounds_toArray, List.set_cons_zero, List.set_cons_succ]
            refine wpAnyH_done (by kernel_rfl) ?_ _
            have FT2 : Hid (Fr (fun _ => False) w w14) := FT.out.trans G14.out
            replace Oa : Hid (a.ok w14) := Oa.out.fr G14.out
            replace Ca : Hid (C7 w14 ba (.int .u64 (a.a0 : Int)) (.int .u64 (a.a1 : Int)) (.int .u64 (a.a2 : Int)) (.slice a.ga a.g.length a.gc) (.slice a.sa a.s.length a.sc) (.slice a.pa a.p.length a.pc) (.slice a.da a.dl.length a.dc)) := Ca.out.fr G14.out (by simp)
            replace Ob : Hid (b.ok w14) := Ob.out.fr G14.out
            replace Cb : Hid (C7 w14 bb (.int .u64 (b.a0 : Int)) (.int .u64 (b.a1 : Int)) (.int .u64 (b.a2 : Int)) (.slice b.ga b.g.length b.gc) (.slice b.sa b.s.length b.sc) (.slice b.pa b.p.length b.pc) (.slice b.da b.dl.length b.dc)) := Cb.out.fr G14.out (by simp)
            replace Oc : Hid (c.ok w14) := Oc.out.fr G14.out
            replace Cc : Hid (C7 w14 bc (.int .u64 (c.a0 : Int)) (.int .u64 (c.a1 : Int)) (.int .u64 (c.a2 : Int)) (.slice c.ga c.g.length c.gc) (.slice c.sa c.s.length c.sc) (.slice c.pa c.p.length c.pc) (.slice c.da c.dl.length c.dc)) := Cc.out.fr G14.out (by simp)
            replace Od : Hid (d.ok w14) := Od.out.fr G14.out
            replace Cd : Hid (C7 w14 bd (.int .u64 (d.a0 : Int)) (.int .u64 (d.a1 : Int)) (.int .u64 (d.a2 : Int)) (.slice d.ga d.g.length d.gc) (.slice d.sa d.s.length d.sc) (.slice d.pa d.p.length d.pc) (.slice d.da d.dl.length d.dc)) := Cd.out.fr G14.out (by simp)
            clear FT
            have FT := FT2
            clear FT2
            clear G10 G11 G12 G13 G14
            obtain ⟨WB2, HWB2⟩ : ∃ W, Hid (w14 = W) := ⟨_, rfl⟩
            rw [HWB2.out] at FT Oa Ob Oc Od Ca Cb Cc Cd
            go_wp2_with fail
            rw [HWB2.out]
            clear HWB2
            refine wp_region_held_drew (S := (fun W : World => C7 W ba (.int .u64 (a.a0 : Int)) (.int .u64 (a.a1 : Int)) (.int .u64 (a.a2 : Int)) (.slice a.ga a.g.length a.gc) (.slice a.sa a.s.length a.sc) (.slice a.pa a.p.length a.pc) (.slice a.da a.dl.length a.dc) ∧ C7 W bb (.int .u64 (b.a0 : Int)) (.int .u64 (b.a1 : Int)) (.int .u64 (b.a2 : Int)) (.slice b.ga b.g.length b.gc) (.slice b.sa b.s.length b.sc) (.slice b.pa b.p.length b.pc) (.slice b.da b.dl.length b.dc) ∧ C7 W bc (.int .u64 (c.a0 : Int)) (.int .u64 (c.a1 : Int)) (.int .u64 (c.a2 : Int)) (.slice c.ga c.g.length c.gc) (.slice c.sa c.s.length c.sc) (.slice c.pa c.p.length c.pc) (.slice c.da c.dl.length c.dc) ∧ C7 W bd (.int .u64 (d.a0 : Int)) (.int .u64 (d.a1 : Int)) (.int .u64 (d.a2 : Int)) (.slice d.ga d.g.length d.gc) (.slice d.sa d.s.length d.sc) (.slice d.pa d.p.length d.pc) (.slice d.da d.dl.length d.dc))) (by kernel_rfl) ⟨Ca.out.fr ((Fr.refl (fun _ => False) WB2).drew) (by simp), Cb.out.fr ((Fr.refl (fun _ => False) WB2).drew) (by simp), Cc.out.fr ((Fr.refl (fun _ => False) WB2).drew) (by simp), Cd.out.fr ((Fr.refl (fun _ => False) WB2).drew) (by simp)⟩ (fun hHeld => ?_)
            refine wpAnyH_take (i := 0) (oi := _) (v := ?_) (by rw [List.getElem?_toArray]; rfl) (by kernel_rfl) (by kernel_rfl) (by kernel_rfl) (fun _ _ _ h => by exact h) (Or.inl ⟨by rfl, ?_⟩) (by assumption) ?_
            rotate_left
            · (intro w hSw; (try dsimp only at hSw); obtain ⟨⟨a0, a1, a2, a3, a4, a5, a6⟩, ⟨b0, b1, b2, b3, b4, b5, b6⟩, ⟨c0, c1, c2, c3, c4, c5, c6⟩, ⟨d0, d1, d2, d3, d4, d5, d6⟩⟩ := hSw; go_simp; (try with_reducible rfl))
            try simp only [Act.put, List.setIfInBounds_toArray, List.set_cons_zero, List.set_cons_succ]
            refine wpAnyH_take (i := 1) (oi := _) (v := ?_) (by rw [List.getElem?_toArray]; rfl) (by kernel_rfl) (by kernel_rfl) (by kernel_rfl) (fun _ _ _ h => by exact h) (Or.inl ⟨by rfl, ?_⟩) (by assumption) ?_
            rotate_left
            · (intro w hSw; (try dsimp only at hSw); obtain ⟨⟨a0, a1, a2, a3, a4, a5, a6⟩, ⟨b0, b1, b2, b3, b4, b5, b6⟩, ⟨c0, c1, c2, c3, c4, c5, c6⟩, ⟨d0, d1, d2, d3, d4, d5, d6⟩⟩ := hSw; go_simp; (try with_reducible rfl))
            try simp only [Act.put, List.setIfInBounds_toArray, List.set_cons_zero, List.set_cons_succ]
            refine wpAnyH_take (i := 3) (oi := _) (v := ?_) (by rw [List.getElem?_toArray]; rfl) (by kernel_rfl) (by kernel_rfl) (by kernel_rfl) (fun _ _ _ h => by exact h) (Or.inl ⟨by rfl, ?_⟩) (by assumption) ?_
            rotate_left
            · (intro w hSw; (try dsimp only at hSw); obtain ⟨⟨a0, a1, a2, a3, a4, a5, a6⟩, ⟨b0, b1, b2, b3, b4, b5, b6⟩, ⟨c0, c1, c2, c3, c4, c5, c6⟩, ⟨d0, d1, d2, d3, d4, d5, d6⟩⟩ := hSw; go_simp; (try with_reducible rfl))
            try simp only [Act.put, List.setIfInBounds_toArray, List.set_cons_zero, List.set_cons_succ]
            refine wpAnyH_take (i := 4) (oi := _) (v := ?_) (by rw [List.getElem?_toArray]; rfl) (by kernel_rfl) (by kernel_rfl) (by kernel_rfl) (fun _ _ _ h => by exact h) (Or.inl ⟨by rfl, ?_⟩) (by assumption) ?_
            rotate_left
            · (intro w hSw; (try dsimp only at hSw); obtain ⟨⟨a0, a1, a2, a3, a4, a5, a6⟩, ⟨b0, b1, b2, b3, b4, b5, b6⟩, ⟨c0, c1, c2, c3, c4, c5, c6⟩, ⟨d0, d1, d2, d3, d4, d5, d6⟩⟩ := hSw; go_simp; (try with_reducible rfl))
            try simp only [Act.put, List.setIfInBounds_toArray, List.set_cons_zero, List.set_cons_succ]
            refine wpAnyH_ready (rs := [2]) (by kernel_rfl) (by simp) ?_
            refine AllReadyH.cons (o := _) (by rw [List.getElem?_toArray]; rfl) (fun K hK => ?_) ?_
            · go_simp
              go_wp2_with (go_at_call 14; refine (meet_any a b _ (Oa.out.fr ((Fr.refl (fun _ => False) WB2).drew)) (Ob.out.fr ((Fr.refl (fun _ => False) WB2).drew))).mono ?_; rintro e w15 ⟨rfl, f15⟩)
              have G15 : Hid (Fr (fun _ => False) WB2 w15) := (((Fr.refl (fun _ => False) WB2).drew)).trans f15
              clear f15
              refine hK.out _ _ ⟨Ca.out.fr G15.out (by simp), Cb.out.fr G15.out (by simp), Cc.out.fr G15.out (by simp), Cd.out.fr G15.out (by simp)⟩ (fun hHeld => ?_)
              clear hK K
              try simp only [Act.put, List.setIfInBounds_toArray, List.set_cons_zero, List.set_cons_succ]
              refine wpAnyH_ready (rs := [5]) (by kernel_rfl) (by simp) ?_
              refine AllReadyH.cons (o := _) (by rw [List.getElem?_toArray]; rfl) (fun K hK => ?_) ?_
              · go_simp
                go_wp2_with (go_at_call 15; refine (refmeet_any a b _ (Oa.out.fr G15.out) (Ob.out.fr G15.out)).mono ?_; rintro e w16 ⟨rfl, f16⟩)
                have G16 : Hid (Fr (fun _ => False) WB2 w16) := (G15.out).trans f16
                clear f16
                refine hK.out _ _ ⟨Ca.out.fr G16.out (by simp), Cb.out.fr G16.out (by simp), Cc.out.fr G16.out (by simp), Cd.out.fr G16.out (by simp)⟩ (fun hHeld => ?_)
                clear hK K
                try simp only [Act.put, List.setIfInBounds_toArray, List.set_cons_zero, List.set_cons_succ]
                refine wpAnyH_take (i := 6) (oi := _) (v := ?_) (by rw [List.getElem?_toArray]; rfl) (by kernel_rfl) (by kernel_rfl) (by kernel_rfl) (fun _ _ _ h => by exact h) (Or.inl ⟨by rfl, ?_⟩) (by assumption) ?_
                rotate_left
                · (intro w hSw; (try dsimp only at hSw); obtain ⟨⟨a0, a1, a2, a3, a4, a5, a6⟩, ⟨b0, b1, b2, b3, b4, b5, b6⟩, ⟨c0, c1, c2, c3, c4, c5, c6⟩, ⟨d0, d1, d2, d3, d4, d5, d6⟩⟩ := hSw; go_simp; (try with_reducible rfl))
                try simp only [Act.put, List.setIfInBounds_toArray, List.set_cons_zero, List.set_cons_succ]
                refine wpAnyH_take (i := 7) (oi := _) (v := ?_) (by rw [List.getElem?_toArray]; rfl) (by kernel_rfl) (by kernel_rfl) (by kernel_rfl) (fun _ _ _ h => by exact h) (Or.inl ⟨by rfl, ?_⟩) (by assumption) ?_
                rotate_left
                · (intro w hSw; (try dsimp only at hSw); obtain ⟨⟨a0, a1, a2, a3, a4, a5, a6⟩, ⟨b0, b1, b2, b3, b4, b5, b6⟩, ⟨c0, c1, c2, c3, c4, c5, c6⟩, ⟨d0, d1, d2, d3, d4, d5, d6⟩⟩ := hSw; go_simp; (try with_reducible rfl))
                try simp only [Act.put, List.setIfInBounds_toArray, List.set_cons_zero, List.set_cons_succ]
                refine wpAnyH_take (i := 8) (oi := _) (v := ?_) (by rw [List.getElem?_toArray]; rfl) (by kernel_rfl) (by kernel_rfl) (by kernel_rfl) (fun _ _ _ h => by exact h) (Or.inl ⟨by rfl, ?_⟩) (by assumption) ?_
                rotate_left
                · (intro w hSw; (try dsimp only at hSw); obtain ⟨⟨a0, a1, a2, a3, a4, a5, a6⟩, ⟨b0, b1, b2, b3, b4, b5, b6⟩, ⟨c0, c1, c2, c3, c4, c5, c6⟩, ⟨d0, d1, d2, d3, d4, d5, d6⟩⟩ := hSw; go_simp; (try with_reducible rfl))
                try simp only [Act.put, List.setIfInBounds_toArray, List.set_cons_zero, List.set_cons_succ]
                refine wpAnyH_take (i := 9) (oi := _) (v := ?_) (by rw [List.getElem?_toArray]; rfl) (by kernel_rfl) (by kernel_rfl) (by kernel_rfl) (fun _ _ _ h => by exact h) (Or.inl ⟨by rfl, ?_⟩) (by assumption) ?_
                rotate_left
                · (intro w hSw; (try dsimp only at hSw); obtain ⟨⟨a0, a1, a2, a3, a4, a5, a6⟩, ⟨b0, b1, b2, b3, b4, b5, b6⟩, ⟨c0, c1, c2, c3, c4, c5, c6⟩, ⟨d0, d1, d2, d3, d4, d5, d6⟩⟩ := hSw; go_simp; (try with_reducible rfl))
                try simp only [Act.put, List.setIfInBounds_toArray, List.set_cons_zero, List.set_cons_succ]
                refine wpAnyH_take (i := 11) (oi := _) (v := ?_) (by rw [List.getElem?_toArray]; rfl) (by kernel_rfl) (by kernel_rfl) (by kernel_rfl) (fun _ _ _ h => by exact h) (Or.inl ⟨by rfl, ?_⟩) (by assumption) ?_
                rotate_left
                · (intro w hSw; (try dsimp only at hSw); obtain ⟨⟨a0, a1, a2, a3, a4, a5, a6⟩, ⟨b0, b1, b2, b3, b4, b5, b6⟩, ⟨c0, c1, c2, c3, c4, c5, c6⟩, ⟨d0, d1, d2, d3, d4, d5, d6⟩⟩ := hSw; go_simp; (try with_reducible rfl))
                try simp only [Act.put, List.setIfInBounds_toArray, List.set_cons_zero, List.set_cons_succ]
                refine wpAnyH_take (i := 12) (oi := _) (v := ?_) (by rw [List.getElem?_toArray]; rfl) (by kernel_rfl) (by kernel_rfl) (by kernel_rfl) (fun _ _ _ h => by exact h) (Or.inl ⟨by rfl, ?_⟩) (by assumption) ?_
                rotate_left
                · (intro w hSw; (try dsimp only at hSw); obtain ⟨⟨a0, a1, a2, a3, a4, a5, a6⟩, ⟨b0, b1, b2, b3, b4, b5, b6⟩, ⟨c0, c1, c2, c3, c4, c5, c6⟩, ⟨d0, d1, d2, d3, d4, d5, d6⟩⟩ := hSw; go_simp; (try with_reducible rfl))
                try simp only [Act.put, List.setIfInBounds_toArray, List.set_cons_zero, List.set_cons_succ]
                refine wpAnyH_ready (rs := [10]) (by kernel_rfl) (by simp) ?_
                refine AllReadyH.cons (o := _) (by rw [List.getElem?_toArray]; rfl) (fun K hK => ?_) ?_
                · go_simp
                  go_wp2_with (go_at_call 14; refine (meet_any b a _ (Ob.out.fr G16.out) (Oa.out.fr G16.out)).mono ?_; rintro e w17 ⟨rfl, f17⟩)
                  have G17 : Hid (Fr (fun _ => False) WB2 w17) := (G16.out).trans f17
                  clear f17
                  rw [Hd.meets_comm b a]
                  refine hK.out _ _ ⟨Ca.out.fr G17.out (by simp), Cb.out.fr G17.out (by simp), Cc.out.fr G17.out (by simp), Cd.out.fr G17.out (by simp)⟩ (fun hHeld => ?_)
                  clear hK K
                  try simp only [Act.put, List.setIfInBounds_toArray, List.set_cons_zero, List.set_cons_succ]
                  refine wpAnyH_ready (rs := [13]) (by kernel_rfl) (by simp) ?_
                  refine AllReadyH.cons (o := _) (by rw [List.getElem?_toArray]; rfl) (fun K hK => ?_) ?_
                  · go_simp
                    go_wp2_with (go_at_call 15; refine (refmeet_any b a _ (Ob.out.fr G17.out) (Oa.out.fr G17.out)).mono ?_; rintro e w18 ⟨rfl, f18⟩)
                    have G18 : Hid (Fr (fun _ => False) WB2 w18) := (G17.out).trans f18
                    clear f18
                    rw [Hd.meets_comm b a]
                    refine hK.out _ _ ⟨Ca.out.fr G18.out (by simp), Cb.out.fr G18.out (by simp), Cc.out.fr G18.out (by simp), Cd.out.fr G18.out (by simp)⟩ (fun hHeld => ?_)
                    clear hK K
                    try simp only [Act.put, List.setIfInBounds_toArray, List.set_cons_zero, List.set_cons_succ]
                    refine wpAnyH_take (i := 14) (oi := _) (v := ?_) (by rw [List.getElem?_toArray]; rfl) (by kernel_rfl) (by kernel_rfl) (by kernel_rfl) (fun _ _ _ h => by exact h) (Or.inl ⟨by rfl, ?_⟩) (by assumption) ?_
                    rotate_left
                    · (intro w hSw; (try dsimp only at hSw); obtain ⟨⟨a0, a1, a2, a3, a4, a5, a6⟩, ⟨b0, b1, b2, b3, b4, b5, b6⟩, ⟨c0, c1, c2, c3, c4, c5, c6⟩, ⟨d0, d1, d2, d3, d4, d5, d6⟩⟩ := hSw; go_simp; (try with_reducible rfl))
                    try simp only [Act.put, List.setIfInBounds_toArray, List.set_cons_zero, List.set_cons_succ]
                    refine wpAnyH_take (i := 15) (oi := _) (v := ?_) (by rw [List.getElem?_toArray]; rfl) (by kernel_rfl) (by kernel_rfl) (by kernel_rfl) (fun _ _ _ h => by exact h) (Or.inl ⟨by rfl, ?_⟩) (by assumption) ?_
                    rotate_left
                    · (intro w hSw; (try dsimp only at hSw); obtain ⟨⟨a0, a1, a2, a3, a4, a5, a6⟩, ⟨b0, b1, b2, b3, b4, b5, b6⟩, ⟨c0, c1, c2, c3, c4, c5, c6⟩, ⟨d0, d1, d2, d3, d4, d5, d6⟩⟩ := hSw; go_simp; (try with_reducible rfl))
                    try simp only [Act.put, List.setIfInBounds_toArray, List.set_cons_zero, List.set_cons_succ]
                    refine wpAnyH_take (i := 16) (oi := _) (v := ?_) (by rw [List.getElem?_toArray]; rfl) (by kernel_rfl) (by kernel_rfl) (by kernel_rfl) (fun _ _ _ h => by exact h) (Or.inl ⟨by rfl, ?_⟩) (by assumption) ?_
                    rotate_left
                    · (intro w hSw; (try dsimp only at hSw); obtain ⟨⟨a0, a1, a2, a3, a4, a5, a6⟩, ⟨b0, b1, b2, b3, b4, b5, b6⟩, ⟨c0, c1, c2, c3, c4, c5, c6⟩, ⟨d0, d1, d2, d3, d4, d5, d6⟩⟩ := hSw; go_simp; (try with_reducible rfl))
                    try simp only [Act.put, List.setIfInBounds_toArray, List.set_cons_zero, List.set_cons_succ]
                    refine wpAnyH_take (i := 17) (oi := _) (v := ?_) (by rw [List.getElem?_toArray]; rfl) (by kernel_rfl) (by kernel_rfl) (by kernel_rfl) (fun _ _ _ h => by exact h) (Or.inl ⟨by rfl, ?_⟩) (by assumption) ?_
                    rotate_left
                    · (intro w hSw; (try dsimp only at hSw); obtain ⟨⟨a0, a1, a2, a3, a4, a5, a6⟩, ⟨b0, b1, b2, b3, b4, b5, b6⟩, ⟨c0, c1, c2, c3, c4, c5, c6⟩, ⟨d0, d1, d2, d3, d4, d5, d6⟩⟩ := hSw; go_simp; (try with_reducible rfl))
                    try simp only [Act.put, List.setIfInBounds_toArray, List.set_cons_zero, List.set_cons_succ]
                    refine wpAnyH_take (i := 18) (oi := _) (v := ?_) (by rw [List.getElem?_toArray]; rfl) (by kernel_rfl) (by kernel_rfl) (by kernel_rfl) (fun _ _ _ h => by exact h) (Or.inl ⟨by rfl, ?_⟩) (by assumption) ?_
                    rotate_left
                    · (intro w hSw; (try dsimp only at hSw); obtain ⟨⟨a0, a1, a2, a3, a4, a5, a6⟩, ⟨b0, b1, b2, b3, b4, b5, b6⟩, ⟨c0, c1, c2, c3, c4, c5, c6⟩, ⟨d0, d1, d2, d3, d4, d5, d6⟩⟩ := hSw; go_simp; (try with_reducible rfl))
                    try simp only [Act.put, List.setIfInBounds_toArray, List.set_cons_zero, List.set_cons_succ]
                    refine wpAnyH_take (i := 20) (oi := _) (v := ?_) (by rw [List.getElem?_toArray]; rfl) (by kernel_rfl) (by kernel_rfl) (by kernel_rfl) (fun _ _ _ h => by exact h) (Or.inl ⟨by rfl, ?_⟩) (by assumption) ?_
                    rotate_left
                    · (intro w hSw; (try dsimp only at hSw); obtain ⟨⟨a0, a1, a2, a3, a4, a5, a6⟩, ⟨b0, b1, b2, b3, b4, b5, b6⟩, ⟨c0, c1, c2, c3, c4, c5, c6⟩, ⟨d0, d1, d2, d3, d4, d5, d6⟩⟩ := hSw; go_simp; (try with_reducible rfl))
                    try simp only [Act.put, List.setIfInBounds_toArray, List.set_cons_zero, List.set_cons_succ]
                    refine wpAnyH_take (i := 21) (oi := _) (v := ?_) (by rw [List.getElem?_toArray]; rfl) (by kernel_rfl) (by kernel_rfl) (by kernel_rfl) (fun _ _ _ h => by exact h) (Or.inl ⟨by rfl, ?_⟩) (by assumption) ?_
                    rotate_left
                    · (intro w hSw; (try dsimp only at hSw); obtain ⟨⟨a0, a1, a2, a3, a4, a5, a6⟩, ⟨b0, b1, b2, b3, b4, b5, b6⟩, ⟨c0, c1, c2, c3, c4, c5, c6⟩, ⟨d0, d1, d2, d3, d4, d5, d6⟩⟩ := hSw; go_simp; (try with_reducible rfl))
                    try simp only [Act.put, List.setIfInBounds_toArray, List.set_cons_zero, List.set_cons_succ]
                    refine wpAnyH_ready (rs := [19]) (by kernel_rfl) (by simp) ?_
                    refine AllReadyH.cons (o := _) (by rw [List.getElem?_toArray]; rfl) (fun K hK => ?_) ?_
                    · go_simp
                      go_wp2_with (go_at_call 14; refine (meet_any a b _ (Oa.out.fr G18.out) (Ob.out.fr G18.out)).mono ?_; rintro e w19 ⟨rfl, f19⟩)
                      have G19 : Hid (Fr (fun _ => False) WB2 w19) := (G18.out).trans f19
                      clear f19
                      refine hK.out _ _ ⟨Ca.out.fr G19.out (by simp), Cb.out.fr G19.out (by simp), Cc.out.fr G19.out (by simp), Cd.out.fr G19.out (by simp)⟩ (fun hHeld => ?_)
                      clear hK K
                      try simp only [Act.put, List.setIfInBounds_toArray, List.set_cons_zero, List.set_cons_succ]
                      refine wpAnyH_ready (rs := [22]) (by kernel_rfl) (by simp) ?_
                      refine AllReadyH.cons (o := _) (by rw [List.getElem?_toArray]; rfl) (fun K hK => ?_) ?_
                      · go_simp
                        go_wp2_with (go_at_call 14; refine (meet_any b a _ (Ob.out.fr G19.out) (Oa.out.fr G19.out)).mono ?_; rintro e w20 ⟨rfl, f20⟩)
                        have G20 : Hid (Fr (fun _ => False) WB2 w20) := (G19.out).trans f20
                        clear f20
                        rw [Hd.meets_comm b a]
                        refine hK.out _ _ ⟨Ca.out.fr G20.out (by simp), Cb.out.fr G20.out (by simp), Cc.out.fr G20.out (by simp), Cd.out.fr G20.out (by simp)⟩ (fun hHeld => ?_)
                        clear hK K
                        try simp only [Act.put, List.setIfInBounds_toArray, List.set_cons_zero, List.set_cons_succ]
                        refine wpAnyH_take (i := 23) (oi := _) (v := ?_) (by rw [List.getElem?_toArray]; rfl) (by kernel_rfl) (by kernel_rfl) (by kernel_rfl) (fun _ _ _ h => by exact h) (Or.inl ⟨by rfl, ?_⟩) (by assumption) ?_
                        rotate_left
                        · (intro w hSw; (try dsimp only at hSw); obtain ⟨⟨a0, a1, a2, a3, a4, a5, a6⟩, ⟨b0, b1, b2, b3, b4, b5, b6⟩, ⟨c0, c1, c2, c3, c4, c5, c6⟩, ⟨d0, d1, d2, d3, d4, d5, d6⟩⟩ := hSw; go_simp; (try with_reducible rfl))
                        try simp only [Act.put, List.setIfInBounds_toArray, List.set_cons_zero, List.set_cons_succ]
                        refine wpAnyH_take (i := 24) (oi := _) (v := ?_) (by rw [List.getElem?_toArray]; rfl) (by kernel_rfl) (by kernel_rfl) (by kernel_rfl) (fun _ _ _ h => by exact h) (Or.inl ⟨by rfl, ?_⟩) (by assumption) ?_
                        rotate_left
                        · (intro w hSw; (try dsimp only at hSw); obtain ⟨⟨a0, a1, a2, a3, a4, a5, a6⟩, ⟨b0, b1, b2, b3, b4, b5, b6⟩, ⟨c0, c1, c2, c3, c4, c5, c6⟩, ⟨d0, d1, d2, d3, d4, d5, d6⟩⟩ := hSw; go_simp; (try with_reducible rfl))
                        try simp only [Act.put, List.setIfInBounds_toArray, List.set_cons_zero, List.set_cons_succ]
                        refine wpAnyH_take (i := 25) (oi := _) (v := ?_) (by rw [List.getElem?_toArray]; rfl) (by kernel_rfl) (by kernel_rfl) (by kernel_rfl) (fun _ _ _ h => by exact h) (Or.inl ⟨by rfl, ?_⟩) (by assumption) ?_
                        rotate_left
                        · (intro w hSw; (try dsimp only at hSw); obtain ⟨⟨a0, a1, a2, a3, a4, a5, a6⟩, ⟨b0, b1, b2, b3, b4, b5, b6⟩, ⟨c0, c1, c2, c3, c4, c5, c6⟩, ⟨d0, d1, d2, d3, d4, d5, d6⟩⟩ := hSw; go_simp; (try with_reducible rfl))
                        try simp only [Act.put, List.setIfInBounds_toArray, List.set_cons_zero, List.set_cons_succ]
                        refine wpAnyH_take (i := 26) (oi := _) (v := ?_) (by rw [List.getElem?_toArray]; rfl) (by kernel_rfl) (by kernel_rfl) (by kernel_rfl) (fun _ _ _ h => by exact h) (Or.inl ⟨by rfl, ?_⟩) (by assumption) ?_
                        rotate_left
                        · (intro w hSw; (try dsimp only at hSw); obtain ⟨⟨a0, a1, a2, a3, a4, a5, a6⟩, ⟨b0, b1, b2, b3, b4, b5, b6⟩, ⟨c0, c1, c2, c3, c4, c5, c6⟩, ⟨d0, d1, d2, d3, d4, d5, d6⟩⟩ := hSw; go_simp; (try with_reducible rfl))
                        try simp only [Act.put, List.setIfInBounds_toArray, List.set_cons_zero, List.set_cons_succ]
                        refine wpAnyH_take (i := 27) (oi := _) (v := ?_) (by rw [List.getElem?_toArray]; rfl) (by kernel_rfl) (by kernel_rfl) (by kernel_rfl) (fun _ _ _ h => by exact h) (Or.inl ⟨by rfl, ?_⟩) (by assumption) ?_
                        rotate_left
                        · (intro w hSw; (try dsimp only at hSw); obtain ⟨⟨a0, a1, a2, a3, a4, a5, a6⟩, ⟨b0, b1, b2, b3, b4, b5, b6⟩, ⟨c0, c1, c2, c3, c4, c5, c6⟩, ⟨d0, d1, d2, d3, d4, d5, d6⟩⟩ := hSw; go_simp; (try with_reducible rfl))
                        try simp only [Act.put, List.setIfInBounds_toArray, List.set_cons_zero, List.set_cons_succ]
                        refine wpAnyH_take (i := 29) (oi := _) (v := ?_) (by rw [List.getElem?_toArray]; rfl) (by kernel_rfl) (by kernel_rfl) (by kernel_rfl) (fun _ _ _ h => by exact h) (Or.inl ⟨by rfl, ?_⟩) (by assumption) ?_
                        rotate_left
                        · (intro w hSw; (try dsimp only at hSw); obtain ⟨⟨a0, a1, a2, a3, a4, a5, a6⟩, ⟨b0, b1, b2, b3, b4, b5, b6⟩, ⟨c0, c1, c2, c3, c4, c5, c6⟩, ⟨d0, d1, d2, d3, d4, d5, d6⟩⟩ := hSw; go_simp; (try with_reducible rfl))
                        try simp only [Act.put, List.setIfInBounds_toArray, List.set_cons_zero, List.set_cons_succ]
                        refine wpAnyH_take (i := 30) (oi := _) (v := ?_) (by rw [List.getElem?_toArray]; rfl) (by kernel_rfl) (by kernel_rfl) (by kernel_rfl) (fun _ _ _ h => by exact h) (Or.inl ⟨by rfl, ?_⟩) (by assumption) ?_
                        rotate_left
                        · (intro w hSw; (try dsimp only at hSw); obtain ⟨⟨a0, a1, a2, a3, a4, a5, a6⟩, ⟨b0, b1, b2, b3, b4, b5, b6⟩, ⟨c0, c1, c2, c3, c4, c5, c6⟩, ⟨d0, d1, d2, d3, d4, d5, d6⟩⟩ := hSw; go_simp; (try with_reducible rfl))
                        try simp only [Act.put, List.setIfInBounds_toArray, List.set_cons_zero, List.set_cons_succ]
                        refine wpAnyH_ready (rs := [28]) (by kernel_rfl) (by simp) ?_
                        refine AllReadyH.cons (o := _) (by rw [List.getElem?_toArray]; rfl) (fun K hK => ?_) ?_
                        · go_simp
                          go_wp2_with (go_at_call 14; refine (meet_any c d _ (Oc.out.fr G20.out) (Od.out.fr G20.out)).mono ?_; rintro e w21 ⟨rfl, f21⟩)
                          have G21 : Hid (Fr (fun _ => False) WB2 w21) := (G20.out).trans f21
                          clear f21
                          refine hK.out _ _ ⟨Ca.out.fr G21.out (by simp), Cb.out.fr G21.out (by simp), Cc.out.fr G21.out (by simp), Cd.out.fr G21.out (by simp)⟩ (fun hHeld => ?_)
                          clear hK K
                          try simp only [Act.put, List.setIfInBounds_toArray, List.set_cons_zero, List.set_cons_succ]
                          refine wpAnyH_ready (rs := [31]) (by kernel_rfl) (by simp) ?_
                          refine AllReadyH.cons (o := _) (by rw [List.getElem?_toArray]; rfl) (fun K hK => ?_) ?_
                          · go_simp
                            go_wp2_with (go_at_call 15; refine (refmeet_any c d _ (Oc.out.fr G21.out) (Od.out.fr G21.out)).mono ?_; rintro e w22 ⟨rfl, f22⟩)
                            have G22 : Hid (Fr (fun _ => False) WB2 w22) := (G21.out).trans f22
                            clear f22
                            refine hK.out _ _ ⟨Ca.out.fr G22.out (by simp), Cb.out.fr G22.out (by simp), Cc.out.fr G22.out (by simp), Cd.out.fr G22.out (by simp)⟩ (fun hHeld => ?_)
                            clear hK K
                            try simp only [Act.put, List.setIfInBounds_toArray, List.set_cons_zero, List.set_cons_succ]
                            refine wpAnyH_take (i := 32) (oi := _) (v := ?_) (by rw [List.getElem?_toArray]; rfl) (by kernel_rfl) (by kernel_rfl) (by kernel_rfl) (fun _ _ _ h => by exact h) (Or.inl ⟨by rfl, ?_⟩) (by assumption) ?_
                            rotate_left
                            · (intro w hSw; (try dsimp only at hSw); obtain ⟨⟨a0, a1, a2, a3, a4, a5, a6⟩, ⟨b0, b1, b2, b3, b4, b5, b6⟩, ⟨c0, c1, c2, c3, c4, c5, c6⟩, ⟨d0, d1, d2, d3, d4, d5, d6⟩⟩ := hSw; go_simp; (try with_reducible rfl))
                            try simp only [Act.put, List.setIfInBounds_toArray, List.set_cons_zero, List.set_cons_succ]
                            refine wpAnyH_take (i := 33) (oi := _) (v := ?_) (by rw [List.getElem?_toArray]; rfl) (by kernel_rfl) (by kernel_rfl) (by kernel_rfl) (fun _ _ _ h => by exact h) (Or.inl ⟨by rfl, ?_⟩) (by assumption) ?_
                            rotate_left
                            · (intro w hSw; (try dsimp only at hSw); obtain ⟨⟨a0, a1, a2, a3, a4, a5, a6⟩, ⟨b0, b1, b2, b3, b4, b5, b6⟩, ⟨c0, c1, c2, c3, c4, c5, c6⟩, ⟨d0, d1, d2, d3, d4, d5, d6⟩⟩ := hSw; go_simp; (try with_reducible rfl))
                            try simp only [Act.put, List.setIfInBounds_toArray, List.set_cons_zero, List.set_cons_succ]
                            refine wpAnyH_take (i := 34) (oi := _) (v := ?_) (by rw [List.getElem?_toArray]; rfl) (by kernel_rfl) (by kernel_rfl) (by kernel_rfl) (fun _ _ _ h => by exact h) (Or.inl ⟨by rfl, ?_⟩) (by assumption) ?_
                            rotate_left
                            · (intro w hSw; (try dsimp only at hSw); obtain ⟨⟨a0, a1, a2, a3, a4, a5, a6⟩, ⟨b0, b1, b2, b3, b4, b5, b6⟩, ⟨c0, c1, c2, c3, c4, c5, c6⟩, ⟨d0, d1, d2, d3, d4, d5, d6⟩⟩ := hSw; go_simp; (try with_reducible rfl))
                            try simp only [Act.put, List.setIfInBounds_toArray, List.set_cons_zero, List.set_cons_succ]
                            refine wpAnyH_take (i := 35) (oi := _) (v := ?_) (by rw [List.getElem?_toArray]; rfl) (by kernel_rfl) (by kernel_rfl) (by kernel_rfl) (fun _ _ _ h => by exact h) (Or.inl ⟨by rfl, ?_⟩) (by assumption) ?_
                            rotate_left
                            · (intro w hSw; (try dsimp only at hSw); obtain ⟨⟨a0, a1, a2, a3, a4, a5, a6⟩, ⟨b0, b1, b2, b3, b4, b5, b6⟩, ⟨c0, c1, c2, c3, c4, c5, c6⟩, ⟨d0, d1, d2, d3, d4, d5, d6⟩⟩ := hSw; go_simp; (try with_reducible rfl))
                            try simp only [Act.put, List.setIfInBounds_toArray, List.set_cons_zero, List.set_cons_succ]
                            refine wpAnyH_take (i := 36) (oi := _) (v := ?_) (by rw [List.getElem?_toArray]; rfl) (by kernel_rfl) (by kernel_rfl) (by kernel_rfl) (fun _ _ _ h => by exact h) (Or.inl ⟨by rfl, ?_⟩) (by assumption) ?_
                            rotate_left
                            · (intro w hSw; (try dsimp only at hSw); obtain ⟨⟨a0, a1, a2, a3, a4, a5, a6⟩, ⟨b0, b1, b2, b3, b4, b5, b6⟩, ⟨c0, c1, c2, c3, c4, c5, c6⟩, ⟨d0, d1, d2, d3, d4, d5, d6⟩⟩ := hSw; go_simp; (try with_reducible rfl))
                            try simp only [Act.put, List.setIfInBounds_toArray, List.set_cons_zero, List.set_cons_succ]
                            refine wpAnyH_take (i := 38) (oi := _) (v := ?_) (by rw [List.getElem?_toArray]; rfl) (by kernel_rfl) (by kernel_rfl) (by kernel_rfl) (fun _ _ _ h => by exact h) (Or.inl ⟨by rfl, ?_⟩) (by assumption) ?_
                            rotate_left
                            · (intro w hSw; (try dsimp only at hSw); obtain ⟨⟨a0, a1, a2, a3, a4, a5, a6⟩, ⟨b0, b1, b2, b3, b4, b5, b6⟩, ⟨c0, c1, c2, c3, c4, c5, c6⟩, ⟨d0, d1, d2, d3, d4, d5, d6⟩⟩ := hSw; go_simp; (try with_reducible rfl))
                            try simp only [Act.put, List.setIfInBounds_toArray, List.set_cons_zero, List.set_cons_succ]
                            refine wpAnyH_take (i := 39) (oi := _) (v := ?_) (by rw [List.getElem?_toArray]; rfl) (by kernel_rfl) (by kernel_rfl) (by kernel_rfl) (fun _ _ _ h => by exact h) (Or.inl ⟨by rfl, ?_⟩) (by assumption) ?_
                            rotate_left
                            · (intro w hSw; (try dsimp only at hSw); obtain ⟨⟨a0, a1, a2, a3, a4, a5, a6⟩, ⟨b0, b1, b2, b3, b4, b5, b6⟩, ⟨c0, c1, c2, c3, c4, c5, c6⟩, ⟨d0, d1, d2, d3, d4, d5, d6⟩⟩ := hSw; go_simp; (try with_reducible rfl))
                            try simp only [Act.put, List.setIfInBounds_toArray, List.set_cons_zero, List.set_cons_succ]
                            refine wpAnyH_ready (rs := [37]) (by kernel_rfl) (by simp) ?_
                            refine AllReadyH.cons (o := _) (by rw [List.getElem?_toArray]; rfl) (fun K hK => ?_) ?_
                            · go_simp
                              go_wp2_with (go_at_call 14; refine (meet_any a c _ (Oa.out.fr G22.out) (Oc.out.fr G22.out)).mono ?_; rintro e w23 ⟨rfl, f23⟩)
                              have G23 : Hid (Fr (fun _ => False) WB2 w23) := (G22.out).trans f23
                              clear f23
                              refine hK.out _ _ ⟨Ca.out.fr G23.out (by simp), Cb.out.fr G23.out (by simp), Cc.out.fr G23.out (by simp), Cd.out.fr G23.out (by simp)⟩ (fun hHeld => ?_)
                              clear hK K
                              try simp only [Act.put, List.setIfInBounds_toArray, List.set_cons_zero, List.set_cons_succ]
                              refine wpAnyH_ready (rs := [40]) (by kernel_rfl) (by simp) ?_
                              refine AllReadyH.cons (o := _) (by rw [List.getElem?_toArray]; rfl) (fun K hK => ?_) ?_
                              · go_simp
                                go_wp2_with (go_at_call 15; refine (refmeet_any a c _ (Oa.out.fr G23.out) (Oc.out.fr G23.out)).mono ?_; rintro e w24 ⟨rfl, f24⟩)
                                have G24 : Hid (Fr (fun _ => False) WB2 w24) := (G23.out).trans f24
                                clear f24
                                refine hK.out _ _ ⟨Ca.out.fr G24.out (by simp), Cb.out.fr G24.out (by simp), Cc.out.fr G24.out (by simp), Cd.out.fr G24.out (by simp)⟩ (fun hHeld => ?_)
                                clear hK K
                                try simp only [Act.put, List.setIfInBounds_toArray, List.set_cons_zero, List.set_cons_succ]
                                refine wpAnyH_take (i := 41) (oi := _) (v := ?_) (by rw [List.getElem?_toArray]; rfl) (by kernel_rfl) (by kernel_rfl) (by kernel_rfl) (fun _ _ _ h => by exact h) (Or.inl ⟨by rfl, ?_⟩) (by assumption) ?_
                                rotate_left
                                · (intro w hSw; (try dsimp only at hSw); obtain ⟨⟨a0, a1, a2, a3, a4, a5, a6⟩, ⟨b0, b1, b2, b3, b4, b5, b6⟩, ⟨c0, c1, c2, c3, c4, c5, c6⟩, ⟨d0, d1, d2, d3, d4, d5, d6⟩⟩ := hSw; go_simp; (try with_reducible rfl))
                                try simp only [Act.put, List.setIfInBounds_toArray, List.set_cons_zero, List.set_cons_succ]
                                refine wpAnyH_take (i := 42) (oi := _) (v := ?_) (by rw [List.getElem?_toArray]; rfl) (by kernel_rfl) (by kernel_rfl) (by kernel_rfl) (fun _ _ _ h => by exact h) (Or.inl ⟨by rfl, ?_⟩) (by assumption) ?_
                                rotate_left
                                · (intro w hSw; (try dsimp only at hSw); obtain ⟨⟨a0, a1, a2, a3, a4, a5, a6⟩, ⟨b0, b1, b2, b3, b4, b5, b6⟩, ⟨c0, c1, c2, c3, c4, c5, c6⟩, ⟨d0, d1, d2, d3, d4, d5, d6⟩⟩ := hSw; go_simp; (try with_reducible rfl))
                                try simp only [Act.put, List.setIfInBounds_toArray, List.set_cons_zero, List.set_cons_succ]
                                refine wpAnyH_take (i := 43) (oi := _) (v := ?_) (by rw [List.getElem?_toArray]; rfl) (by kernel_rfl) (by kernel_rfl) (by kernel_rfl) (fun _ _ _ h => by exact h) (Or.inl ⟨by rfl, ?_⟩) (by assumption) ?_
                                rotate_left
                                · (intro w hSw; (try dsimp only at hSw); obtain ⟨⟨a0, a1, a2, a3, a4, a5, a6⟩, ⟨b0, b1, b2, b3, b4, b5, b6⟩, ⟨c0, c1, c2, c3, c4, c5, c6⟩, ⟨d0, d1, d2, d3, d4, d5, d6⟩⟩ := hSw; go_simp; (try with_reducible rfl))
                                try simp only [Act.put, List.setIfInBounds_toArray, List.set_cons_zero, List.set_cons_succ]
                                refine wpAnyH_done (by kernel_rfl) ?_ _
                                go_wp2
                                go_ret
                                exact ⟨rfl, FT.out.trans (G24.out)⟩
                              exact AllReadyH.nil
                            exact AllReadyH.nil
                          exact AllReadyH.nil
                        exact AllReadyH.nil
                      exact AllReadyH.nil
                    exact AllReadyH.nil
                  exact AllReadyH.nil
                exact AllReadyH.nil
              exact AllReadyH.nil
            exact AllReadyH.nil
          exact AllReadyH.nil
        exact AllReadyH.nil
      exact AllReadyH.nil
    exact AllReadyH.nil
  exact AllReadyH.nil
end Go.Proofs.Ytaalkhipncbjpaa
