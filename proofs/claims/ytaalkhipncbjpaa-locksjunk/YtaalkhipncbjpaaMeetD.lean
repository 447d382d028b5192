/- Do two holds meet: the program's Meet, for any two. -/
import Derived.Test.YtaalkhipncbjpaaMeetC
namespace Go.Proofs.Ytaalkhipncbjpaa
open Go.RowKit
/-- a hold in memory: its numbers, and where its rows lie. -/
structure Hd where
  a0 : Nat
  a1 : Nat
  a2 : Nat
  ga : Option Addr
  g : List Nat
  gc : Nat
  sa : Option Addr
  s : List (Nat × Nat)
  sc : Nat
  pa : Option Addr
  p : List Nat
  pc : Nat
  da : Option Addr
  dl : List Nat
  dc : Nat
def Hd.ok (w : World) (x : Hd) : Prop := FRow w x.ga x.g x.gc ∧ GRow w x.sa x.s x.sc ∧ FRow w x.pa x.p x.pc ∧ Row w x.da x.dl x.dc
theorem Hd.ok.fr {w w1 : World} {x : Hd} (h : Hd.ok w x) (f : Fr (fun _ => False) w w1) : Hd.ok w1 x := ⟨h.1.fr f (by simp), h.2.1.fr f (by simp), h.2.2.1.fr f (by simp), f.row h.2.2.2 (by simp)⟩
def Hd.wr (b : Hd) (x : Nat) : Bool := b.p.any fun y => decide (Fl.rk x = Fl.rk y)
def Hd.rd (b : Hd) (x : Nat) : Bool := (b.g.any fun y => decide (Fl.rk x = Fl.rk y)) || b.s.any fun y => !decide (Fl.rk x < Fl.rk y.1) && !decide (Fl.rk y.2 < Fl.rk x)
def Hd.meets (a b : Hd) : Bool := (a.p.any b.wr || a.p.any b.rd) || b.p.any a.rd
set_option maxRecDepth 100000 in
theorem writes_c (b : Hd) (w : World) : Calls Try.prog 46 #[.agg #[.int .u64 (b.a0 : Int), .int .u64 (b.a1 : Int), .int .u64 (b.a2 : Int), .slice b.ga b.g.length b.gc, .slice b.sa b.s.length b.sc, .slice b.pa b.p.length b.pc, .slice b.da b.dl.length b.dc]] w fun e w' => e = .returned (.func (.func 80) #[] #[.pointer (some ⟨w.heap.size, 0, none⟩)]) ∧ C7 w' w.heap.size (.int .u64 (b.a0 : Int)) (.int .u64 (b.a1 : Int)) (.int .u64 (b.a2 : Int)) (.slice b.ga b.g.length b.gc) (.slice b.sa b.s.length b.sc) (.slice b.pa b.p.length b.pc) (.slice b.da b.dl.length b.dc) ∧ Fr (fun _ => False) w w' := by
  have F0 : Hid (Fr (fun _ => False) w (w.alloc (.cells #[.int .u64 (b.a0 : Int), .int .u64 (b.a1 : Int), .int .u64 (b.a2 : Int), .slice b.ga b.g.length b.gc, .slice b.sa b.s.length b.sc, .slice b.pa b.p.length b.pc, .slice b.da b.dl.length b.dc] 29))) := (Fr.refl (fun _ => False) w).alloc _
  have C0 : Hid (C7 (w.alloc (.cells #[.int .u64 (b.a0 : Int), .int .u64 (b.a1 : Int), .int .u64 (b.a2 : Int), .slice b.ga b.g.length b.gc, .slice b.sa b.s.length b.sc, .slice b.pa b.p.length b.pc, .slice b.da b.dl.length b.dc] 29)) w.heap.size (.int .u64 (b.a0 : Int)) (.int .u64 (b.a1 : Int)) (.int .u64 (b.a2 : Int)) (.slice b.ga b.g.length b.gc) (.slice b.sa b.s.length b.sc) (.slice b.pa b.p.length b.pc) (.slice b.da b.dl.length b.dc)) := C7.new w 29 _ _ _ _ _ _ _
  go_enter Try.func46, Try.ntmps46
  go_wp2
  go_ret
  exact ⟨rfl, C0.out, F0.out⟩
set_option maxRecDepth 100000 in
theorem reads_c (b : Hd) (w : World) : Calls Try.prog 47 #[.agg #[.int .u64 (b.a0 : Int), .int .u64 (b.a1 : Int), .int .u64 (b.a2 : Int), .slice b.ga b.g.length b.gc, .slice b.sa b.s.length b.sc, .slice b.pa b.p.length b.pc, .slice b.da b.dl.length b.dc]] w fun e w' => e = .returned (.func (.func 82) #[] #[.pointer (some ⟨w.heap.size, 0, none⟩)]) ∧ C7 w' w.heap.size (.int .u64 (b.a0 : Int)) (.int .u64 (b.a1 : Int)) (.int .u64 (b.a2 : Int)) (.slice b.ga b.g.length b.gc) (.slice b.sa b.s.length b.sc) (.slice b.pa b.p.length b.pc) (.slice b.da b.dl.length b.dc) ∧ Fr (fun _ => False) w w' := by
  have F0 : Hid (Fr (fun _ => False) w (w.alloc (.cells #[.int .u64 (b.a0 : Int), .int .u64 (b.a1 : Int), .int .u64 (b.a2 : Int), .slice b.ga b.g.length b.gc, .slice b.sa b.s.length b.sc, .slice b.pa b.p.length b.pc, .slice b.da b.dl.length b.dc] 29))) := (Fr.refl (fun _ => False) w).alloc _
  have C0 : Hid (C7 (w.alloc (.cells #[.int .u64 (b.a0 : Int), .int .u64 (b.a1 : Int), .int .u64 (b.a2 : Int), .slice b.ga b.g.length b.gc, .slice b.sa b.s.length b.sc, .slice b.pa b.p.length b.pc, .slice b.da b.dl.length b.dc] 29)) w.heap.size (.int .u64 (b.a0 : Int)) (.int .u64 (b.a1 : Int)) (.int .u64 (b.a2 : Int)) (.slice b.ga b.g.length b.gc) (.slice b.sa b.s.length b.sc) (.slice b.pa b.p.length b.pc) (.slice b.da b.dl.length b.dc)) := C7.new w 29 _ _ _ _ _ _ _
  go_enter Try.func47, Try.ntmps47
  go_wp2
  go_ret
  exact ⟨rfl, C0.out, F0.out⟩
set_option maxRecDepth 100000 in
set_option maxHeartbeats 8000000 in
theorem meet_any (a b : Hd) (w : World) (ha : a.ok w) (hb : b.ok w) : Calls Try.prog 14 #[.agg #[.int .u64 (a.a0 : Int), .int .u64 (a.a1 : Int), .int .u64 (a.a2 : Int), .slice a.ga a.g.length a.gc, .slice a.sa a.s.length a.sc, .slice a.pa a.p.length a.pc, .slice a.da a.dl.length a.dc], .agg #[.int .u64 (b.a0 : Int), .int .u64 (b.a1 : Int), .int .u64 (b.a2 : Int), .slice b.ga b.g.length b.gc, .slice b.sa b.s.length b.sc, .slice b.pa b.p.length b.pc, .slice b.da b.dl.length b.dc]] w fun e w' => e = .returned (.bool (a.meets b)) ∧ Fr (fun _ => False) w w' := by
  obtain ⟨W, HW⟩ : ∃ W, Hid (W = (w.alloc (.cells #[.int .u64 (a.a0 : Int), .int .u64 (a.a1 : Int), .int .u64 (a.a2 : Int), .slice a.ga a.g.length a.gc, .slice a.sa a.s.length a.sc, .slice a.pa a.p.length a.pc, .slice a.da a.dl.length a.dc] 29)).alloc (.cells #[.int .u64 (b.a0 : Int), .int .u64 (b.a1 : Int), .int .u64 (b.a2 : Int), .slice b.ga b.g.length b.gc, .slice b.sa b.s.length b.sc, .slice b.pa b.p.length b.pc, .slice b.da b.dl.length b.dc] 29)) := ⟨_, rfl⟩
  have F0 : Hid (Fr (fun _ => False) w W) := (show Fr _ _ _ by rw [HW.out]; exact ((Fr.refl (fun _ => False) w).alloc _).alloc _)
  have HB1 : Hid (C7 W w.heap.size (.int .u64 (a.a0 : Int)) (.int .u64 (a.a1 : Int)) (.int .u64 (a.a2 : Int)) (.slice a.ga a.g.length a.gc) (.slice a.sa a.s.length a.sc) (.slice a.pa a.p.length a.pc) (.slice a.da a.dl.length a.dc)) := (show C7 _ _ _ _ _ _ _ _ _ by rw [HW.out]; exact (C7.new w 29 _ _ _ _ _ _ _).fr ((Fr.refl (fun _ => False) _).alloc (.cells #[.int .u64 (b.a0 : Int), .int .u64 (b.a1 : Int), .int .u64 (b.a2 : Int), .slice b.ga b.g.length b.gc, .slice b.sa b.s.length b.sc, .slice b.pa b.p.length b.pc, .slice b.da b.dl.length b.dc] 29)) (by simp))
  have HB2 : Hid (C7 W (w.heap.size + 1) (.int .u64 (b.a0 : Int)) (.int .u64 (b.a1 : Int)) (.int .u64 (b.a2 : Int)) (.slice b.ga b.g.length b.gc) (.slice b.sa b.s.length b.sc) (.slice b.pa b.p.length b.pc) (.slice b.da b.dl.length b.dc)) := (show C7 _ _ _ _ _ _ _ _ _ by rw [HW.out]; have := C7.new (w.alloc (.cells #[.int .u64 (a.a0 : Int), .int .u64 (a.a1 : Int), .int .u64 (a.a2 : Int), .slice a.ga a.g.length a.gc, .slice a.sa a.s.length a.sc, .slice a.pa a.p.length a.pc, .slice a.da a.dl.length a.dc] 29)) 29 (.int .u64 (b.a0 : Int)) (.int .u64 (b.a1 : Int)) (.int .u64 (b.a2 : Int)) (.slice b.ga b.g.length b.gc) (.slice b.sa b.s.length b.sc) (.slice b.pa b.p.length b.pc) (.slice b.da b.dl.length b.dc); simpa using this)
  have Oa : Hid (a.ok W) := ha.fr F0.out
  have Ob : Hid (b.ok W) := hb.fr F0.out
  obtain ⟨b1, Hb1⟩ : ∃ b1, Hid (w.heap.size = b1) := ⟨_, rfl⟩
  obtain ⟨b2, Hb2⟩ : ∃ b2, Hid (w.heap.size + 1 = b2) := ⟨_, rfl⟩
  rw [Hb1.out] at HB1
  rw [Hb2.out] at HB2
  clear ha hb
  unfold Hd.meets
  go_enter Try.func14, Try.ntmps14
  go_wp2_with fail
  rw [← HW.out, Hb2.out, Hb1.out]
  refine wp_region_held_drew (S := (fun W : World => C7 W b1 (.int .u64 (a.a0 : Int)) (.int .u64 (a.a1 : Int)) (.int .u64 (a.a2 : Int)) (.slice a.ga a.g.length a.gc) (.slice a.sa a.s.length a.sc) (.slice a.pa a.p.length a.pc) (.slice a.da a.dl.length a.dc) ∧ C7 W b2 (.int .u64 (b.a0 : Int)) (.int .u64 (b.a1 : Int)) (.int .u64 (b.a2 : Int)) (.slice b.ga b.g.length b.gc) (.slice b.sa b.s.length b.sc) (.slice b.pa b.p.length b.pc) (.slice b.da b.dl.length b.dc))) (by kernel_rfl) ⟨HB1.out.fr ((Fr.refl (fun _ => False) _).drew) (by simp), HB2.out.fr ((Fr.refl (fun _ => False) _).drew) (by simp)⟩ (fun hHeld => ?_)
  refine wpAnyH_take (i := 0) (oi := _) (v := ?_) (by rw [List.getElem?_toArray]; rfl) (by kernel_rfl) (by kernel_rfl) (by kernel_rfl) (fun _ _ _ h => by exact h) (Or.inl ⟨by rfl, ?_⟩) (by assumption) ?_
  rotate_left
  · (intro w hSw; (try dsimp only at hSw); go_simp; (try with_reducible rfl))
  try simp only [Act.put, List.setIfInBounds_toArray, List.set_cons_zero, List.set_cons_succ]
  refine wpAnyH_take (i := 1) (oi := _) (v := ?_) (by rw [List.getElem?_toArray]; rfl) (by kernel_rfl) (by kernel_rfl) (by kernel_rfl) (fun _ _ _ h => by exact h) (Or.inl ⟨by rfl, ?_⟩) (by assumption) ?_
  rotate_left
  · (intro w hSw; (try dsimp only at hSw); obtain ⟨⟨d0, d1, d2, d3, d4, d5, d6⟩, ⟨f0, f1, f2, f3, f4, f5, f6⟩⟩ := hSw; go_simp; (try with_reducible rfl))
  try simp only [Act.put, List.setIfInBounds_toArray, List.set_cons_zero, List.set_cons_succ]
  refine wpAnyH_take (i := 2) (oi := _) (v := ?_) (by rw [List.getElem?_toArray]; rfl) (by kernel_rfl) (by kernel_rfl) (by kernel_rfl) (fun _ _ _ h => by exact h) (Or.inl ⟨by rfl, ?_⟩) (by assumption) ?_
  rotate_left
  · (intro w hSw; (try dsimp only at hSw); obtain ⟨⟨d0, d1, d2, d3, d4, d5, d6⟩, ⟨f0, f1, f2, f3, f4, f5, f6⟩⟩ := hSw; go_simp; (try with_reducible rfl))
  try simp only [Act.put, List.setIfInBounds_toArray, List.set_cons_zero, List.set_cons_succ]
  refine wpAnyH_ready (rs := [3]) (by kernel_rfl) (by simp) ?_
  refine AllReadyH.cons (o := _) (by rw [List.getElem?_toArray]; rfl) (fun K hK => ?_) ?_
  · go_simp
    go_wp2_with (go_at_call 46; refine (writes_c b _).mono ?_; rintro e w5 ⟨rfl, h5, f5⟩)
    have G5 : Hid (Fr (fun _ => False) W w5) := (((Fr.refl (fun _ => False) _).drew) : Fr (fun _ => False) W W.drew).trans f5
    have HG5 : Hid _ := h5
    clear f5 h5
    refine hK.out _ _ ⟨HB1.out.fr G5.out (by simp), HB2.out.fr G5.out (by simp)⟩ (fun hHeld => ?_)
    clear hK K
    try simp only [Act.put, List.setIfInBounds_toArray, List.set_cons_zero, List.set_cons_succ]
    refine wpAnyH_ready (rs := [4]) (by kernel_rfl) (by simp) ?_
    refine AllReadyH.cons (o := _) (by rw [List.getElem?_toArray]; rfl) (fun K hK => ?_) ?_
    · go_simp
      go_wp2_with (go_at_call 45; refine (contF_78 (b.wr) (.pointer (some ⟨_, 0, none⟩)) a.pa a.p a.pc _ (Oa.out.fr G5.out).2.2.1 (fun Wx y f hy => writes1_any y b.a0 b.a1 b.a2 _ b.ga b.g b.gc b.sa b.s b.sc b.pa b.p b.pc b.da b.dl.length b.dc (Oa.out.2.2.1.2.2.1 y hy) Wx (HG5.out.fr f (by simp)) ((Ob.out.fr (G5.out.trans f)).2.2.1))).mono ?_; rintro e w6 ⟨rfl, f6⟩)
      have G6 : Hid (Fr (fun _ => False) W w6) := G5.out.trans f6
      clear f6
      refine hK.out _ _ ⟨HB1.out.fr G6.out (by simp), HB2.out.fr G6.out (by simp)⟩ (fun hHeld => ?_)
      clear hK K
      try simp only [Act.put, List.setIfInBounds_toArray, List.set_cons_zero, List.set_cons_succ]
      cases h1 : a.p.any b.wr
      · skip
        refine wpAnyH_take (i := 5) (oi := _) (v := ?_) (by rw [List.getElem?_toArray]; rfl) (by kernel_rfl) (by kernel_rfl) (by kernel_rfl) (fun _ _ _ h => by exact h) (Or.inl ⟨by rfl, ?_⟩) (by assumption) ?_
        rotate_left
        · (intro w hSw; (try dsimp only at hSw); go_simp; (try with_reducible rfl))
        try simp only [Act.put, List.setIfInBounds_toArray, List.set_cons_zero, List.set_cons_succ]
        refine wpAnyH_take (i := 6) (oi := _) (v := ?_) (by rw [List.getElem?_toArray]; rfl) (by kernel_rfl) (by kernel_rfl) (by kernel_rfl) (fun _ _ _ h => by exact h) (Or.inl ⟨by rfl, ?_⟩) (by assumption) ?_
        rotate_left
        · (intro w hSw; (try dsimp only at hSw); go_simp; (try with_reducible rfl))
        try simp only [Act.put, List.setIfInBounds_toArray, List.set_cons_zero, List.set_cons_succ]
        refine wpAnyH_take (i := 7) (oi := _) (v := ?_) (by rw [List.getElem?_toArray]; rfl) (by kernel_rfl) (by kernel_rfl) (by kernel_rfl) (fun _ _ _ h => by exact h) (Or.inl ⟨by rfl, ?_⟩) (by assumption) ?_
        rotate_left
        · (intro w hSw; (try dsimp only at hSw); obtain ⟨⟨d0, d1, d2, d3, d4, d5, d6⟩, ⟨f0, f1, f2, f3, f4, f5, f6⟩⟩ := hSw; go_simp; (try with_reducible rfl))
        try simp only [Act.put, List.setIfInBounds_toArray, List.set_cons_zero, List.set_cons_succ]
        refine wpAnyH_take (i := 8) (oi := _) (v := ?_) (by rw [List.getElem?_toArray]; rfl) (by kernel_rfl) (by kernel_rfl) (by kernel_rfl) (fun _ _ _ h => by exact h) (Or.inl ⟨by rfl, ?_⟩) (by assumption) ?_
        rotate_left
        · (intro w hSw; (try dsimp only at hSw); obtain ⟨⟨d0, d1, d2, d3, d4, d5, d6⟩, ⟨f0, f1, f2, f3, f4, f5, f6⟩⟩ := hSw; go_simp; (try with_reducible rfl))
        try simp only [Act.put, List.setIfInBounds_toArray, List.set_cons_zero, List.set_cons_succ]
        refine wpAnyH_ready (rs := [9]) (by kernel_rfl) (by simp) ?_
        refine AllReadyH.cons (o := _) (by rw [List.getElem?_toArray]; rfl) (fun K hK => ?_) ?_
        · go_simp
          go_wp2_with (go_at_call 47; refine (reads_c b _).mono ?_; rintro e w7 ⟨rfl, h5, f5⟩)
          have G7 : Hid (Fr (fun _ => False) W w7) := G6.out.trans f5
          have HG7 : Hid _ := h5
          clear f5 h5
          refine hK.out _ _ ⟨HB1.out.fr G7.out (by simp), HB2.out.fr G7.out (by simp)⟩ (fun hHeld => ?_)
          clear hK K
          try simp only [Act.put, List.setIfInBounds_toArray, List.set_cons_zero, List.set_cons_succ]
          refine wpAnyH_ready (rs := [10]) (by kernel_rfl) (by simp) ?_
          refine AllReadyH.cons (o := _) (by rw [List.getElem?_toArray]; rfl) (fun K hK => ?_) ?_
          · go_simp
            go_wp2_with (go_at_call 45; refine (contF_80 (b.rd) (.pointer (some ⟨_, 0, none⟩)) a.pa a.p a.pc _ (Oa.out.fr G7.out).2.2.1 (fun Wx y f hy => reads1_any y b.a0 b.a1 b.a2 _ b.ga b.g b.gc b.sa b.s b.sc b.pa b.p b.pc b.da b.dl.length b.dc (Oa.out.2.2.1.2.2.1 y hy) Wx (HG7.out.fr f (by simp)) ((Ob.out.fr (G7.out.trans f)).1) ((Ob.out.fr (G7.out.trans f)).2.1))).mono ?_; rintro e w8 ⟨rfl, f6⟩)
            have G8 : Hid (Fr (fun _ => False) W w8) := G7.out.trans f6
            clear f6
            refine hK.out _ _ ⟨HB1.out.fr G8.out (by simp), HB2.out.fr G8.out (by simp)⟩ (fun hHeld => ?_)
            clear hK K
            try simp only [Act.put, List.setIfInBounds_toArray, List.set_cons_zero, List.set_cons_succ]
            cases h2 : a.p.any b.rd
            · skip
              refine wpAnyH_take (i := 11) (oi := _) (v := ?_) (by rw [List.getElem?_toArray]; rfl) (by kernel_rfl) (by kernel_rfl) (by kernel_rfl) (fun _ _ _ h => by exact h) (Or.inl ⟨by rfl, ?_⟩) (by assumption) ?_
              rotate_left
              · (intro w hSw; (try dsimp only at hSw); go_simp; (try with_reducible rfl))
              try simp only [Act.put, List.setIfInBounds_toArray, List.set_cons_zero, List.set_cons_succ]
              refine wpAnyH_take (i := 12) (oi := _) (v := ?_) (by rw [List.getElem?_toArray]; rfl) (by kernel_rfl) (by kernel_rfl) (by kernel_rfl) (fun _ _ _ h => by exact h) (Or.inl ⟨by rfl, ?_⟩) (by assumption) ?_
              rotate_left
              · (intro w hSw; (try dsimp only at hSw); go_simp; (try with_reducible rfl))
              try simp only [Act.put, List.setIfInBounds_toArray, List.set_cons_zero, List.set_cons_succ]
              refine wpAnyH_take (i := 13) (oi := _) (v := ?_) (by rw [List.getElem?_toArray]; rfl) (by kernel_rfl) (by kernel_rfl) (by kernel_rfl) (fun _ _ _ h => by exact h) (Or.inl ⟨by rfl, ?_⟩) (by assumption) ?_
              rotate_left
              · (intro w hSw; (try dsimp only at hSw); go_simp; (try with_reducible rfl))
              try simp only [Act.put, List.setIfInBounds_toArray, List.set_cons_zero, List.set_cons_succ]
              refine wpAnyH_take (i := 14) (oi := _) (v := ?_) (by rw [List.getElem?_toArray]; rfl) (by kernel_rfl) (by kernel_rfl) (by kernel_rfl) (fun _ _ _ h => by exact h) (Or.inl ⟨by rfl, ?_⟩) (by assumption) ?_
              rotate_left
              · (intro w hSw; (try dsimp only at hSw); obtain ⟨⟨d0, d1, d2, d3, d4, d5, d6⟩, ⟨f0, f1, f2, f3, f4, f5, f6⟩⟩ := hSw; go_simp; (try with_reducible rfl))
              try simp only [Act.put, List.setIfInBounds_toArray, List.set_cons_zero, List.set_cons_succ]
              refine wpAnyH_take (i := 15) (oi := _) (v := ?_) (by rw [List.getElem?_toArray]; rfl) (by kernel_rfl) (by kernel_rfl) (by kernel_rfl) (fun _ _ _ h => by exact h) (Or.inl ⟨by rfl, ?_⟩) (by assumption) ?_
              rotate_left
              · (intro w hSw; (try dsimp only at hSw); obtain ⟨⟨d0, d1, d2, d3, d4, d5, d6⟩, ⟨f0, f1, f2, f3, f4, f5, f6⟩⟩ := hSw; go_simp; (try with_reducible rfl))
              try simp only [Act.put, List.setIfInBounds_toArray, List.set_cons_zero, List.set_cons_succ]
              refine wpAnyH_ready (rs := [16]) (by kernel_rfl) (by simp) ?_
              refine AllReadyH.cons (o := _) (by rw [List.getElem?_toArray]; rfl) (fun K hK => ?_) ?_
              · go_simp
                go_wp2_with (go_at_call 47; refine (reads_c a _).mono ?_; rintro e w9 ⟨rfl, h5, f5⟩)
                have G9 : Hid (Fr (fun _ => False) W w9) := G8.out.trans f5
                have HG9 : Hid _ := h5
                clear f5 h5
                refine hK.out _ _ ⟨HB1.out.fr G9.out (by simp), HB2.out.fr G9.out (by simp)⟩ (fun hHeld => ?_)
                clear hK K
                try simp only [Act.put, List.setIfInBounds_toArray, List.set_cons_zero, List.set_cons_succ]
                refine wpAnyH_ready (rs := [17]) (by kernel_rfl) (by simp) ?_
                refine AllReadyH.cons (o := _) (by rw [List.getElem?_toArray]; rfl) (fun K hK => ?_) ?_
                · go_simp
                  go_wp2_with (go_at_call 45; refine (contF_80 (a.rd) (.pointer (some ⟨_, 0, none⟩)) b.pa b.p b.pc _ (Ob.out.fr G9.out).2.2.1 (fun Wx y f hy => reads1_any y a.a0 a.a1 a.a2 _ a.ga a.g a.gc a.sa a.s a.sc a.pa a.p a.pc a.da a.dl.length a.dc (Ob.out.2.2.1.2.2.1 y hy) Wx (HG9.out.fr f (by simp)) ((Oa.out.fr (G9.out.trans f)).1) ((Oa.out.fr (G9.out.trans f)).2.1))).mono ?_; rintro e w10 ⟨rfl, f6⟩)
                  have G10 : Hid (Fr (fun _ => False) W w10) := G9.out.trans f6
                  clear f6
                  refine hK.out _ _ ⟨HB1.out.fr G10.out (by simp), HB2.out.fr G10.out (by simp)⟩ (fun hHeld => ?_)
                  clear hK K
                  try simp only [Act.put, List.setIfInBounds_toArray, List.set_cons_zero, List.set_cons_succ]
                  cases h3 : b.p.any a.rd
                  · skip
                    refine wpAnyH_take (i := 18) (oi := _) (v := ?_) (by rw [List.getElem?_toArray]; rfl) (by kernel_rfl) (by kernel_rfl) (by kernel_rfl) (fun _ _ _ h => by exact h) (Or.inl ⟨by rfl, ?_⟩) (by assumption) ?_
                    rotate_left
                    · (intro w hSw; (try dsimp only at hSw); go_simp; (try with_reducible rfl))
                    try simp only [Act.put, List.setIfInBounds_toArray, List.set_cons_zero, List.set_cons_succ]
                    refine wpAnyH_take (i := 19) (oi := _) (v := ?_) (by rw [List.getElem?_toArray]; rfl) (by kernel_rfl) (by kernel_rfl) (by kernel_rfl) (fun _ _ _ h => by exact h) (Or.inl ⟨by rfl, ?_⟩) (by assumption) ?_
                    rotate_left
                    · (intro w hSw; (try dsimp only at hSw); go_simp; (try with_reducible rfl))
                    try simp only [Act.put, List.setIfInBounds_toArray, List.set_cons_zero, List.set_cons_succ]
                    refine wpAnyH_done (by kernel_rfl) ?_ _
                    go_wp2
                    go_ret
                    exact ⟨by rw [h1, h2, h3]; rfl, F0.out.trans G10.out⟩
                  · skip
                    refine wpAnyH_take (i := 18) (oi := _) (v := ?_) (by rw [List.getElem?_toArray]; rfl) (by kernel_rfl) (by kernel_rfl) (by kernel_rfl) (fun _ _ _ h => by exact h) (Or.inl ⟨by rfl, ?_⟩) (by assumption) ?_
                    rotate_left
                    · (intro w hSw; (try dsimp only at hSw); go_simp; (try with_reducible rfl))
                    try simp only [Act.put, List.setIfInBounds_toArray, List.set_cons_zero, List.set_cons_succ]
                    refine wpAnyH_take (i := 19) (oi := _) (v := ?_) (by rw [List.getElem?_toArray]; rfl) (by kernel_rfl) (by kernel_rfl) (by kernel_rfl) (fun _ _ _ h => by exact h) (Or.inl ⟨by rfl, ?_⟩) (by assumption) ?_
                    rotate_left
                    · (intro w hSw; (try dsimp only at hSw); go_simp; (try with_reducible rfl))
                    try simp only [Act.put, List.setIfInBounds_toArray, List.set_cons_zero, List.set_cons_succ]
                    refine wpAnyH_done (by kernel_rfl) ?_ _
                    go_wp2
                    go_ret
                    exact ⟨by rw [h1, h2, h3]; rfl, F0.out.trans G10.out⟩
                exact AllReadyH.nil
              exact AllReadyH.nil
            · skip
              refine wpAnyH_take (i := 11) (oi := _) (v := ?_) (by rw [List.getElem?_toArray]; rfl) (by kernel_rfl) (by kernel_rfl) (by kernel_rfl) (fun _ _ _ h => by exact h) (Or.inl ⟨by rfl, ?_⟩) (by assumption) ?_
              rotate_left
              · (intro w hSw; (try dsimp only at hSw); go_simp; (try with_reducible rfl))
              try simp only [Act.put, List.setIfInBounds_toArray, List.set_cons_zero, List.set_cons_succ]
              refine wpAnyH_take (i := 12) (oi := _) (v := ?_) (by rw [List.getElem?_toArray]; rfl) (by kernel_rfl) (by kernel_rfl) (by kernel_rfl) (fun _ _ _ h => by exact h) (Or.inl ⟨by rfl, ?_⟩) (by assumption) ?_
              rotate_left
              · (intro w hSw; (try dsimp only at hSw); go_simp; (try with_reducible rfl))
              try simp only [Act.put, List.setIfInBounds_toArray, List.set_cons_zero, List.set_cons_succ]
              refine wpAnyH_take (i := 13) (oi := _) (v := undef) (by rw [List.getElem?_toArray]; rfl) (by kernel_rfl) (by kernel_rfl) (by kernel_rfl) (fun _ _ _ h => by exact h) (Or.inr ⟨by rfl, rfl⟩) (by assumption) ?_
              try simp only [Act.put, List.setIfInBounds_toArray, List.set_cons_zero, List.set_cons_succ]
              refine wpAnyH_take (i := 14) (oi := _) (v := undef) (by rw [List.getElem?_toArray]; rfl) (by kernel_rfl) (by kernel_rfl) (by kernel_rfl) (fun _ _ _ h => by exact h) (Or.inr ⟨by rfl, rfl⟩) (by assumption) ?_
              try simp only [Act.put, List.setIfInBounds_toArray, List.set_cons_zero, List.set_cons_succ]
              refine wpAnyH_take (i := 15) (oi := _) (v := undef) (by rw [List.getElem?_toArray]; rfl) (by kernel_rfl) (by kernel_rfl) (by kernel_rfl) (fun _ _ _ h => by exact h) (Or.inr ⟨by rfl, rfl⟩) (by assumption) ?_
              try simp only [Act.put, List.setIfInBounds_toArray, List.set_cons_zero, List.set_cons_succ]
              refine wpAnyH_take (i := 16) (oi := _) (v := undef) (by rw [List.getElem?_toArray]; rfl) (by kernel_rfl) (by kernel_rfl) (by kernel_rfl) (fun _ _ _ h => by exact h) (Or.inr ⟨by rfl, rfl⟩) (by assumption) ?_
              try simp only [Act.put, List.setIfInBounds_toArray, List.set_cons_zero, List.set_cons_succ]
              refine wpAnyH_take (i := 17) (oi := _) (v := undef) (by rw [List.getElem?_toArray]; rfl) (by kernel_rfl) (by kernel_rfl) (by kernel_rfl) (fun _ _ _ h => by exact h) (Or.inr ⟨by rfl, rfl⟩) (by assumption) ?_
              try simp only [Act.put, List.setIfInBounds_toArray, List.set_cons_zero, List.set_cons_succ]
              refine wpAnyH_take (i := 18) (oi := _) (v := ?_) (by rw [List.getElem?_toArray]; rfl) (by kernel_rfl) (by kernel_rfl) (by kernel_rfl) (fun _ _ _ h => by exact h) (Or.inl ⟨by rfl, ?_⟩) (by assumption) ?_
              rotate_left
              · (intro w hSw; (try dsimp only at hSw); go_simp; (try with_reducible rfl))
              try simp only [Act.put, List.setIfInBounds_toArray, List.set_cons_zero, List.set_cons_succ]
              refine wpAnyH_take (i := 19) (oi := _) (v := ?_) (by rw [List.getElem?_toArray]; rfl) (by kernel_rfl) (by kernel_rfl) (by kernel_rfl) (fun _ _ _ h => by exact h) (Or.inl ⟨by rfl, ?_⟩) (by assumption) ?_
              rotate_left
              · (intro w hSw; (try dsimp only at hSw); go_simp; (try with_reducible rfl))
              try simp only [Act.put, List.setIfInBounds_toArray, List.set_cons_zero, List.set_cons_succ]
              refine wpAnyH_done (by kernel_rfl) ?_ _
              go_wp2
              go_ret
              exact ⟨by rw [h1, h2]; rfl, F0.out.trans G8.out⟩
          exact AllReadyH.nil
        exact AllReadyH.nil
      · skip
        refine wpAnyH_take (i := 5) (oi := _) (v := ?_) (by rw [List.getElem?_toArray]; rfl) (by kernel_rfl) (by kernel_rfl) (by kernel_rfl) (fun _ _ _ h => by exact h) (Or.inl ⟨by rfl, ?_⟩) (by assumption) ?_
        rotate_left
        · (intro w hSw; (try dsimp only at hSw); go_simp; (try with_reducible rfl))
        try simp only [Act.put, List.setIfInBounds_toArray, List.set_cons_zero, List.set_cons_succ]
        refine wpAnyH_take (i := 6) (oi := _) (v := undef) (by rw [List.getElem?_toArray]; rfl) (by kernel_rfl) (by kernel_rfl) (by kernel_rfl) (fun _ _ _ h => by exact h) (Or.inr ⟨by rfl, rfl⟩) (by assumption) ?_
        try simp only [Act.put, List.setIfInBounds_toArray, List.set_cons_zero, List.set_cons_succ]
        refine wpAnyH_take (i := 7) (oi := _) (v := undef) (by rw [List.getElem?_toArray]; rfl) (by kernel_rfl) (by kernel_rfl) (by kernel_rfl) (fun _ _ _ h => by exact h) (Or.inr ⟨by rfl, rfl⟩) (by assumption) ?_
        try simp only [Act.put, List.setIfInBounds_toArray, List.set_cons_zero, List.set_cons_succ]
        refine wpAnyH_take (i := 8) (oi := _) (v := undef) (by rw [List.getElem?_toArray]; rfl) (by kernel_rfl) (by kernel_rfl) (by kernel_rfl) (fun _ _ _ h => by exact h) (Or.inr ⟨by rfl, rfl⟩) (by assumption) ?_
        try simp only [Act.put, List.setIfInBounds_toArray, List.set_cons_zero, List.set_cons_succ]
        refine wpAnyH_take (i := 9) (oi := _) (v := undef) (by rw [List.getElem?_toArray]; rfl) (by kernel_rfl) (by kernel_rfl) (by kernel_rfl) (fun _ _ _ h => by exact h) (Or.inr ⟨by rfl, rfl⟩) (by assumption) ?_
        try simp only [Act.put, List.setIfInBounds_toArray, List.set_cons_zero, List.set_cons_succ]
        refine wpAnyH_take (i := 10) (oi := _) (v := undef) (by rw [List.getElem?_toArray]; rfl) (by kernel_rfl) (by kernel_rfl) (by kernel_rfl) (fun _ _ _ h => by exact h) (Or.inr ⟨by rfl, rfl⟩) (by assumption) ?_
        try simp only [Act.put, List.setIfInBounds_toArray, List.set_cons_zero, List.set_cons_succ]
        refine wpAnyH_take (i := 11) (oi := _) (v := ?_) (by rw [List.getElem?_toArray]; rfl) (by kernel_rfl) (by kernel_rfl) (by kernel_rfl) (fun _ _ _ h => by exact h) (Or.inl ⟨by rfl, ?_⟩) (by assumption) ?_
        rotate_left
        · (intro w hSw; (try dsimp only at hSw); go_simp; (try with_reducible rfl))
        try simp only [Act.put, List.setIfInBounds_toArray, List.set_cons_zero, List.set_cons_succ]
        refine wpAnyH_take (i := 12) (oi := _) (v := ?_) (by rw [List.getElem?_toArray]; rfl) (by kernel_rfl) (by kernel_rfl) (by kernel_rfl) (fun _ _ _ h => by exact h) (Or.inl ⟨by rfl, ?_⟩) (by assumption) ?_
        rotate_left
        · (intro w hSw; (try dsimp only at hSw); go_simp; (try with_reducible rfl))
        try simp only [Act.put, List.setIfInBounds_toArray, List.set_cons_zero, List.set_cons_succ]
        refine wpAnyH_take (i := 13) (oi := _) (v := undef) (by rw [List.getElem?_toArray]; rfl) (by kernel_rfl) (by kernel_rfl) (by kernel_rfl) (fun _ _ _ h => by exact h) (Or.inr ⟨by rfl, rfl⟩) (by assumption) ?_
        try simp only [Act.put, List.setIfInBounds_toArray, List.set_cons_zero, List.set_cons_succ]
        refine wpAnyH_take (i := 14) (oi := _) (v := undef) (by rw [List.getElem?_toArray]; rfl) (by kernel_rfl) (by kernel_rfl) (by kernel_rfl) (fun _ _ _ h => by exact h) (Or.inr ⟨by rfl, rfl⟩) (by assumption) ?_
        try simp only [Act.put, List.setIfInBounds_toArray, List.set_cons_zero, List.set_cons_succ]
        refine wpAnyH_take (i := 15) (oi := _) (v := undef) (by rw [List.getElem?_toArray]; rfl) (by kernel_rfl) (by kernel_rfl) (by kernel_rfl) (fun _ _ _ h => by exact h) (Or.inr ⟨by rfl, rfl⟩) (by assumption) ?_
        try simp only [Act.put, List.setIfInBounds_toArray, List.set_cons_zero, List.set_cons_succ]
        refine wpAnyH_take (i := 16) (oi := _) (v := undef) (by rw [List.getElem?_toArray]; rfl) (by kernel_rfl) (by kernel_rfl) (by kernel_rfl) (fun _ _ _ h => by exact h) (Or.inr ⟨by rfl, rfl⟩) (by assumption) ?_
        try simp only [Act.put, List.setIfInBounds_toArray, List.set_cons_zero, List.set_cons_succ]
        refine wpAnyH_take (i := 17) (oi := _) (v := undef) (by rw [List.getElem?_toArray]; rfl) (by kernel_rfl) (by kernel_rfl) (by kernel_rfl) (fun _ _ _ h => by exact h) (Or.inr ⟨by rfl, rfl⟩) (by assumption) ?_
        try simp only [Act.put, List.setIfInBounds_toArray, List.set_cons_zero, List.set_cons_succ]
        refine wpAnyH_take (i := 18) (oi := _) (v := ?_) (by rw [List.getElem?_toArray]; rfl) (by kernel_rfl) (by kernel_rfl) (by kernel_rfl) (fun _ _ _ h => by exact h) (Or.inl ⟨by rfl, ?_⟩) (by assumption) ?_
        rotate_left
        · (intro w hSw; (try dsimp only at hSw); go_simp; (try with_reducible rfl))
        try simp only [Act.put, List.setIfInBounds_toArray, List.set_cons_zero, List.set_cons_succ]
        refine wpAnyH_take (i := 19) (oi := _) (v := ?_) (by rw [List.getElem?_toArray]; rfl) (by kernel_rfl) (by kernel_rfl) (by kernel_rfl) (fun _ _ _ h => by exact h) (Or.inl ⟨by rfl, ?_⟩) (by assumption) ?_
        rotate_left
        · (intro w hSw; (try dsimp only at hSw); go_simp; (try with_reducible rfl))
        try simp only [Act.put, List.setIfInBounds_toArray, List.set_cons_zero, List.set_cons_succ]
        refine wpAnyH_done (by kernel_rfl) ?_ _
        go_wp2
        go_ret
        exact ⟨by rw [h1]; rfl, F0.out.trans G6.out⟩
    exact AllReadyH.nil
  exact AllReadyH.nil
end Go.Proofs.Ytaalkhipncbjpaa
