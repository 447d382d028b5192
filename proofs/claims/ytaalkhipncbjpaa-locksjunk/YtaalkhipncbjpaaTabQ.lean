/- Take, of any table, with where the row lies behind it. -/
import Derived.Test.YtaalkhipncbjpaaTabH
namespace Go.Proofs.Ytaalkhipncbjpaa
open Go Go.RowKit
attribute [local go_sem] run_store_float
set_option maxRecDepth 100000 in
set_option maxHeartbeats 20000000 in
theorem take_at (h : Hd) (base tb : Nat) (ao : Option Addr) (cap : Nat) (l : List Hd) (w : World) (hT : TabP w base tb ao cap l) (hh : h.ok w) (hsh : h.sh) (hlen : l.length ≤ 1000) :
    Calls Try.prog 23 #[.pointer (some ⟨tb, 0, none⟩), .agg #[.int .u64 (h.a0 : Int), .int .u64 (h.a1 : Int), .int .u64 (h.a2 : Int), .slice h.ga h.g.length h.gc, .slice h.sa h.s.length h.sc, .slice h.pa h.p.length h.pc, .slice h.da h.dl.length h.dc]] w fun e w' =>
      ((l.any (fun x => !x.id h && x.meets h)) = true ∧ e = .returned (.int .i64 8) ∧ Fr (fun _ => False) w w') ∨
      ((l.any (fun x => !x.id h && x.meets h)) = false ∧ e = .returned (.int .i64 0) ∧ ∃ p x a1 c1, At l h.a0 h.a1 p ∧ x.like h ∧ TabP w' base tb a1 c1 (putH l p x) ∧ Hid (∀ a, a1 = some a → (∃ b, ao = some b ∧ a.block = b.block) ∨ w.heap.size ≤ a.block) ∧ Fr (fun k => k = tb ∨ ∃ a, ao = some a ∧ a.block = k) w w') := by
  have F0 : Hid (Fr (fun _ => False) w (w.alloc (.cells #[.int .u64 (h.a0 : Int), .int .u64 (h.a1 : Int), .int .u64 (h.a2 : Int), .slice h.ga h.g.length h.gc, .slice h.sa h.s.length h.sc, .slice h.pa h.p.length h.pc, .slice h.da h.dl.length h.dc] 29))) := (Fr.refl (fun _ => False) w).alloc _
  have HB : Hid (C7 (w.alloc (.cells #[.int .u64 (h.a0 : Int), .int .u64 (h.a1 : Int), .int .u64 (h.a2 : Int), .slice h.ga h.g.length h.gc, .slice h.sa h.s.length h.sc, .slice h.pa h.p.length h.pc, .slice h.da h.dl.length h.dc] 29)) w.heap.size (.int .u64 (h.a0 : Int)) (.int .u64 (h.a1 : Int)) (.int .u64 (h.a2 : Int)) (.slice h.ga h.g.length h.gc) (.slice h.sa h.s.length h.sc) (.slice h.pa h.p.length h.pc) (.slice h.da h.dl.length h.dc)) := C7.new w 29 _ _ _ _ _ _ _
  have HT : Hid (TabP w base tb ao cap l) := hT
  have HH : Hid (h.ok w) := hh
  have HSH : Hid h.sh := hsh
  have HL : Hid (l.length ≤ 1000) := hlen
  have c0 := F0.out.cell hT.cell (by simp)
  have K53 : Hid (Calls _ _ _ _ _) := contH53 (fun x => !x.id h && x.meets h) (.pointer (some ⟨w.heap.size, 0, none⟩)) ao l cap _ (hT.fr F0.out).row (fun W x f hx => take1_any x h w.heap.size W (HB.out.fr f (by simp)) ((hT.ok x hx).fr (F0.out.trans f)) (hh.fr (F0.out.trans f)))
  have HM : l.any (fun x => !x.id h && x.meets h) = false → ∀ x : Hd, x.like h → ∀ y ∈ l, y.id x = false → y.meets x = false := fun hn x e y hy hi => by
    rw [e.meets]; rw [e.id] at hi
    have := List.any_eq_false.1 hn y hy
    simpa [hi] using this
  obtain ⟨t, Ht⟩ : ∃ t, Hid (l.any (fun x => !x.id h && x.meets h) = t) := ⟨_, rfl⟩
  rw [Ht.out] at K53 HM ⊢
  clear hT hh hsh hlen
  go_enter Try.func23, Try.ntmps23
  go_wp2_with fail
  refine K53.out.mono ?_
  rintro e w1 ⟨rfl, f1⟩
  clear c0 K53
  cases t with
  | true =>
    go_wp2
    go_ret
    exact ⟨rfl, F0.out.trans f1⟩
  | false =>
    replace HM := HM rfl
    have F1 : Hid (Fr (fun _ => False) w w1) := F0.out.trans f1
    have HB1 : Hid (C7 w1 w.heap.size (.int .u64 (h.a0 : Int)) (.int .u64 (h.a1 : Int)) (.int .u64 (h.a2 : Int)) (.slice h.ga h.g.length h.gc) (.slice h.sa h.s.length h.sc) (.slice h.pa h.p.length h.pc) (.slice h.da h.dl.length h.dc)) := HB.out.fr f1 (by simp)
    have KP : Hid (Calls _ _ _ _ _) := place_any h.a0 h.a1 tb ao l cap w1 (HT.out.fr F1.out).cell (HT.out.fr F1.out).row HT.out.srt (by have := HL.out; omega)
    obtain ⟨d0, d1, d2, d3, d4, d5, d6⟩ := HB1.out
    clear f1
    go_wp2_with fail
    refine KP.out.mono ?_
    rintro e w2 ⟨p, bb, rfl, HBB, hp1, hp2, hp3, f2⟩
    have F2 : Hid (Fr (fun _ => False) w w2) := F1.out.trans f2
    have HP : Hid (At l h.a0 h.a1 p) := ⟨hp1, hp2, hp3⟩
    have KO : Hid (Calls _ _ _ _ _) := own_h h w2.drew (HH.out.fr F2.out.drew) HSH.out
    have HS2 : Hid ((fun W1 : World => W1.cell? ⟨tb, 0, none⟩ = some (.slice ao l.length cap) ∧ C7 W1 w.heap.size (.int .u64 (h.a0 : Int)) (.int .u64 (h.a1 : Int)) (.int .u64 (h.a2 : Int)) (.slice h.ga h.g.length h.gc) (.slice h.sa h.s.length h.sc) (.slice h.pa h.p.length h.pc) (.slice h.da h.dl.length h.dc)) w2.drew) := ⟨(HT.out.fr F2.out.drew).cell, HB1.out.fr f2.drew (by simp)⟩
    obtain ⟨bx, HBX⟩ : ∃ bx, Hid (w.heap.size = bx) := ⟨_, rfl⟩
    rw [HBX.out] at HS2
    clear d0 d1 d2 d3 d4 d5 d6 f2 hp1 hp2 hp3 KP
    cases bb with
    | false =>
      have HB8 : Hid (heldAt l h.a0 h.a1 p = false) := HBB.out.symm
      go_wp2_with fail
      rw [HBX.out]
      refine till_begin 12 (fun W1 : World => W1.cell? ⟨tb, 0, none⟩ = some (.slice ao l.length cap) ∧ C7 W1 bx (.int .u64 (h.a0 : Int)) (.int .u64 (h.a1 : Int)) (.int .u64 (h.a2 : Int)) (.slice h.ga h.g.length h.gc) (.slice h.sa h.s.length h.sc) (.slice h.pa h.p.length h.pc) (.slice h.da h.dl.length h.dc)) (by kernel_rfl) HS2.out (fun hHeld => ?_)
      refine till_takeA (i := 0) (oi := _) (v := ?_) (by rw [List.getElem?_toArray]; rfl) (by decide) (by kernel_rfl) (by kernel_rfl) (by kernel_rfl) (fun _ _ _ h => by exact h) (Or.inl ⟨by rfl, ?_⟩) (fun _ => by assumption) ?_
      rotate_left
      · (intro w hSw; go_simp; (try with_reducible rfl))
      try simp only [Act.put, List.setIfInBounds_toArray, List.set_cons_zero, List.set_cons_succ]
      refine till_takeA (i := 1) (oi := _) (v := ?_) (by rw [List.getElem?_toArray]; rfl) (by decide) (by kernel_rfl) (by kernel_rfl) (by kernel_rfl) (fun _ _ _ h => by exact h) (Or.inl ⟨by rfl, ?_⟩) (fun _ => by assumption) ?_
      rotate_left
      · (intro w hSw; go_simp; (try with_reducible rfl))
      try simp only [Act.put, List.setIfInBounds_toArray, List.set_cons_zero, List.set_cons_succ]
      refine till_takeA (i := 2) (oi := _) (v := ?_) (by rw [List.getElem?_toArray]; rfl) (by decide) (by kernel_rfl) (by kernel_rfl) (by kernel_rfl) (fun _ _ _ h => by exact h) (Or.inl ⟨by rfl, ?_⟩) (fun _ => by assumption) ?_
      rotate_left
      · (intro w hSw; go_simp; (try with_reducible rfl))
      try simp only [Act.put, List.setIfInBounds_toArray, List.set_cons_zero, List.set_cons_succ]
      refine till_takeA (i := 3) (oi := _) (v := ?_) (by rw [List.getElem?_toArray]; rfl) (by decide) (by kernel_rfl) (by kernel_rfl) (by kernel_rfl) (fun _ _ _ h => by exact h) (Or.inl ⟨by rfl, ?_⟩) (fun _ => by assumption) ?_
      rotate_left
      · (intro w hSw; go_simp; (try with_reducible rfl))
      try simp only [Act.put, List.setIfInBounds_toArray, List.set_cons_zero, List.set_cons_succ]
      refine till_take (i := 4) (oi := _) (v := ?_) (by rw [List.getElem?_toArray]; rfl) (by decide) (by kernel_rfl) (by kernel_rfl) (by kernel_rfl) (by kernel_rfl) (by kernel_rfl) (fun _ _ _ h => by exact h) (Or.inl ⟨by rfl, ?_⟩) (by assumption) ?_
      rotate_left
      · (intro w hSw; (try dsimp only at hSw); obtain ⟨s1, d0, d1, d2, d3, d4, d5, d6⟩ := hSw; go_simp; (try with_reducible rfl))
      try simp only [Act.put, List.setIfInBounds_toArray, List.set_cons_zero, List.set_cons_succ]
      refine till_takeA (i := 5) (oi := _) (v := ?_) (by rw [List.getElem?_toArray]; rfl) (by decide) (by kernel_rfl) (by kernel_rfl) (by kernel_rfl) (fun _ _ _ h => by exact h) (Or.inl ⟨by rfl, ?_⟩) (fun _ => by assumption) ?_
      rotate_left
      · (intro w hSw; go_simp; (try with_reducible rfl))
      try simp only [Act.put, List.setIfInBounds_toArray, List.set_cons_zero, List.set_cons_succ]
      refine till_take (i := 6) (oi := _) (v := ?_) (by rw [List.getElem?_toArray]; rfl) (by decide) (by kernel_rfl) (by kernel_rfl) (by kernel_rfl) (by kernel_rfl) (by kernel_rfl) (fun _ _ _ h => by exact h) (Or.inl ⟨by rfl, ?_⟩) (by assumption) ?_
      rotate_left
      · (intro w hSw; (try dsimp only at hSw); obtain ⟨s1, d0, d1, d2, d3, d4, d5, d6⟩ := hSw; go_simp; (try with_reducible rfl))
      try simp only [Act.put, List.setIfInBounds_toArray, List.set_cons_zero, List.set_cons_succ]
      refine till_oneB (i := 7) (o := _) (by kernel_rfl) (by rw [List.getElem?_toArray]; rfl) (fun K hK => ?_)
      go_simp
      go_wp2_with (go_at_call 54; refine KO.out.mono ?_; rintro e wA ⟨x, rfl, hxo, hxk, hxi, fA⟩)
      have GA : Hid (Fr (fun _ => False) w2.drew wA) := fA
      have HSA : Hid ((fun W1 : World => W1.cell? ⟨tb, 0, none⟩ = some (.slice ao l.length cap) ∧ C7 W1 bx (.int .u64 (h.a0 : Int)) (.int .u64 (h.a1 : Int)) (.int .u64 (h.a2 : Int)) (.slice h.ga h.g.length h.gc) (.slice h.sa h.s.length h.sc) (.slice h.pa h.p.length h.pc) (.slice h.da h.dl.length h.dc)) wA) := ⟨fA.cell HS2.out.1 (by simp), HS2.out.2.fr fA (by simp)⟩
      have HX : Hid (x.ok wA ∧ x.like h ∧ x.ins (fun k => w2.drew.heap.size ≤ k)) := ⟨hxo, hxk, hxi⟩
      clear hxo hxk hxi fA
      refine hK.out _ _ HSA.out (fun hHeld => ?_)
      clear hK K
      try simp only [Act.put, List.setIfInBounds_toArray, List.set_cons_zero, List.set_cons_succ]
      have FC : Hid (Fr (fun _ => False) wA (wA.alloc (.cells #[.int .u64 (x.a0 : Int), .int .u64 (x.a1 : Int), .int .u64 (x.a2 : Int), .slice x.ga x.g.length x.gc, .slice x.sa x.s.length x.sc, .slice x.pa x.p.length x.pc, .slice x.da x.dl.length x.dc] 29))) := (Fr.refl _ _).alloc _
      have HXC : Hid ((wA.alloc (.cells #[.int .u64 (x.a0 : Int), .int .u64 (x.a1 : Int), .int .u64 (x.a2 : Int), .slice x.ga x.g.length x.gc, .slice x.sa x.s.length x.sc, .slice x.pa x.p.length x.pc, .slice x.da x.dl.length x.dc] 29)).heap[wA.heap.size]? = some (.cells #[.int .u64 (x.a0 : Int), .int .u64 (x.a1 : Int), .int .u64 (x.a2 : Int), .slice x.ga x.g.length x.gc, .slice x.sa x.s.length x.sc, .slice x.pa x.p.length x.pc, .slice x.da x.dl.length x.dc] 29 (0, 0))) := heap_alloc_new wA _
      refine till_oneB (i := 8) (o := _) (by kernel_rfl) (by rw [List.getElem?_toArray]; rfl) (fun K hK => ?_)
      go_simp
      refine hK.out _ _ ⟨FC.out.cell HSA.out.1 (by simp), HSA.out.2.fr FC.out (by simp)⟩ (fun hHeld => ?_)
      clear hK K
      try simp only [Act.put, List.setIfInBounds_toArray, List.set_cons_zero, List.set_cons_succ]
      obtain ⟨wC, HWC⟩ : ∃ W, Hid (W = (wA.alloc (.cells #[.int .u64 (x.a0 : Int), .int .u64 (x.a1 : Int), .int .u64 (x.a2 : Int), .slice x.ga x.g.length x.gc, .slice x.sa x.s.length x.sc, .slice x.pa x.p.length x.pc, .slice x.da x.dl.length x.dc] 29))) := ⟨_, rfl⟩
      rw [← HWC.out] at FC HXC hHeld ⊢
      obtain ⟨bc, Hbc⟩ : ∃ b, Hid (wA.heap.size = b) := ⟨_, rfl⟩
      rw [Hbc.out] at HXC ⊢
      have FWC : Hid (Fr (fun _ => False) w wC) := F2.out.drew.trans (GA.out.trans FC.out)
      have HTC : Hid (TabP wC base tb ao cap l) := HT.out.fr FWC.out
      have HSC : Hid ((fun W1 : World => W1.cell? ⟨tb, 0, none⟩ = some (.slice ao l.length cap) ∧ C7 W1 bx (.int .u64 (h.a0 : Int)) (.int .u64 (h.a1 : Int)) (.int .u64 (h.a2 : Int)) (.slice h.ga h.g.length h.gc) (.slice h.sa h.s.length h.sc) (.slice h.pa h.p.length h.pc) (.slice h.da h.dl.length h.dc)) wC) := ⟨FC.out.cell HSA.out.1 (by simp), HSA.out.2.fr FC.out (by simp)⟩
      have KI : Hid (Calls _ _ _ _ _) := insert_any base ao cap l p x bc 29 wC HTC.out.own HP.out.le HXC.out HL.out (by have := HT.out.low; have := HT.out.lt; have := FWC.out.size; omega) (fun c hc e => by have := (HT.out.blk c hc).2.2; have := F2.out.size; have h1 := GA.out.size; have := Hbc.out; simp at h1; omega)
      refine till_oneB (i := 9) (o := _) (by kernel_rfl) (by rw [List.getElem?_toArray]; rfl) (fun K hK => ?_)
      go_simp
      go_wp2_with (go_at_call 55; refine KI.out.mono ?_; rintro e wI ⟨a1, c1, rfl, hoI, fI, hbI⟩)
      have HI : Hid (OwnF wI base 29 (.slice a1 (l.length + 1) c1) (l.take p ++ x :: l.drop p) ∧ Fr (fun k => (Value.slice ao l.length cap).ownBlock = some k) wC wI ∧ ((Value.slice a1 (l.length + 1) c1).ownBlock = (Value.slice ao l.length cap).ownBlock ∨ ∃ k, (Value.slice a1 (l.length + 1) c1).ownBlock = some k ∧ wC.heap.size ≤ k)) := ⟨hoI, fI, hbI⟩
      have HSI : Hid ((fun W1 : World => W1.cell? ⟨tb, 0, none⟩ = some (.slice ao l.length cap) ∧ C7 W1 bx (.int .u64 (h.a0 : Int)) (.int .u64 (h.a1 : Int)) (.int .u64 (h.a2 : Int)) (.slice h.ga h.g.length h.gc) (.slice h.sa h.s.length h.sc) (.slice h.pa h.p.length h.pc) (.slice h.da h.dl.length h.dc)) wI) := ⟨fI.cell HSC.out.1 (HT.out.nottb), HSC.out.2.fr fI (HT.out.notbx HBX.out)⟩
      clear hoI fI hbI
      refine hK.out _ _ HSI.out (fun hHeld => ?_)
      clear hK K
      try simp only [Act.put, List.setIfInBounds_toArray, List.set_cons_zero, List.set_cons_succ]
      refine till_takeA (i := 10) (oi := _) (v := ?_) (by rw [List.getElem?_toArray]; rfl) (by decide) (by kernel_rfl) (by kernel_rfl) (by kernel_rfl) (fun _ _ _ h => by exact h) (Or.inl ⟨by rfl, ?_⟩) (fun _ => by assumption) ?_
      rotate_left
      · (intro w hSw; go_simp; (try with_reducible rfl))
      try simp only [Act.put, List.setIfInBounds_toArray, List.set_cons_zero, List.set_cons_succ]
      refine till_takeA (i := 11) (oi := _) (v := ?_) (by rw [List.getElem?_toArray]; rfl) (by decide) (by kernel_rfl) (by kernel_rfl) (by kernel_rfl) (fun _ _ _ h => by exact h) (Or.inl ⟨by rfl, ?_⟩) (fun _ => by assumption) ?_
      rotate_left
      · (intro w hSw; go_simp; (try with_reducible rfl))
      try simp only [Act.put, List.setIfInBounds_toArray, List.set_cons_zero, List.set_cons_succ]
      have ht := HSI.out.1
      have hz : wI.frozen? ⟨tb, 0, none⟩ = false := (HI.out.2.1.frozenEq (a := ⟨tb, 0, none⟩) HTC.out.lt HT.out.nottb).trans HTC.out.free
      refine till_oneA (i := 12) (o := _) (by kernel_rfl) (by rw [List.getElem?_toArray]; rfl) (by kernel_rfl) (fun K hK => ?_)
      go_simp
      refine hK.out _ _ ?_
      clear hK K
      try simp only [Act.put, List.setIfInBounds_toArray, List.set_cons_zero, List.set_cons_succ]
      refine till_done (by kernel_rfl) ?_ _
      clear ht hz
      have hput := put_new (l := l) (p := p) (x := x) (by rw [HX.out.2.1.1, HX.out.2.1.2.1]; exact HB8.out)
      have hlen : (putH l p x).length = l.length + 1 := by rw [hput]; have := HP.out.le; simp; omega
      have HTI : Hid (TabP (wI.setCell ⟨tb, 0, none⟩ (.slice a1 (l.length + 1) c1)) base tb a1 c1 (putH l p x)) := by
        have k := HT.out.put (a1 := a1) (c1 := c1) (p := p) (x := x) (wA := wC) (wI := wI) FWC.out HI.out.2.1 (by rw [HX.out.2.1.1, HX.out.2.1.2.1]; exact HP.out) (HM x HX.out.2.1) (HX.out.1.fr FC.out) (HX.out.2.1.sh HSH.out) (HX.out.2.2.mono (fun k hk => Nat.le_trans F2.out.size hk)) (by rw [hlen, hput]; exact HI.out.1) (HI.out.1.blks HI.out.2.2 HT.out)
        rw [hlen] at k
        exact k
      have FE : Hid (Fr (fun k => k = tb ∨ ∃ a, ao = some a ∧ a.block = k) w (wI.setCell ⟨tb, 0, none⟩ (.slice a1 (l.length + 1) c1))) := (Fr.trans (Fr.mono (T := fun k => k = tb ∨ ∃ a, ao = some a ∧ a.block = k) FWC.out (fun _ _ h => h.elim)) (Fr.mono (T := fun k => k = tb ∨ ∃ a, ao = some a ∧ a.block = k) HI.out.2.1 (fun k _ e => .inr (HT.out.owns k e)))).setCell (p := ⟨tb, 0, none⟩) (Or.inl (Or.inl rfl)) _
      go_wp2
      go_ret
      have HNW : Hid (∀ a, a1 = some a → (∃ b, ao = some b ∧ a.block = b.block) ∨ w.heap.size ≤ a.block) := fun a ha => (HI.out.1.blks HI.out.2.2 HT.out a ha).imp id (fun h => by have := FWC.out.size; omega)
      exact ⟨rfl, p, HP.out, x, HX.out.2.1, a1, ⟨c1, HTI.out⟩, HNW, FE.out⟩
    | true =>
      have HB8 : Hid (heldAt l h.a0 h.a1 p = true) := HBB.out.symm
      have HPL : Hid (p < l.length) := (of_decide_eq_true HB8.out).1
      have z1 : (0 : Int) ≤ (p : Int) := by omega
      have z2 : (p : Int) < (l.length : Int) := by have := HPL.out; omega
      go_wp2_with fail
      rw [HBX.out]
      refine till_begin 8 (fun W1 : World => W1.cell? ⟨tb, 0, none⟩ = some (.slice ao l.length cap) ∧ C7 W1 bx (.int .u64 (h.a0 : Int)) (.int .u64 (h.a1 : Int)) (.int .u64 (h.a2 : Int)) (.slice h.ga h.g.length h.gc) (.slice h.sa h.s.length h.sc) (.slice h.pa h.p.length h.pc) (.slice h.da h.dl.length h.dc)) (by kernel_rfl) HS2.out (fun hHeld => ?_)
      refine till_takeA (i := 0) (oi := _) (v := ?_) (by rw [List.getElem?_toArray]; rfl) (by decide) (by kernel_rfl) (by kernel_rfl) (by kernel_rfl) (fun _ _ _ h => by exact h) (Or.inl ⟨by rfl, ?_⟩) (fun _ => by assumption) ?_
      rotate_left
      · (intro w hSw; go_simp; (try with_reducible rfl))
      try simp only [Act.put, List.setIfInBounds_toArray, List.set_cons_zero, List.set_cons_succ]
      refine till_takeA (i := 1) (oi := _) (v := ?_) (by rw [List.getElem?_toArray]; rfl) (by decide) (by kernel_rfl) (by kernel_rfl) (by kernel_rfl) (fun _ _ _ h => by exact h) (Or.inl ⟨by rfl, ?_⟩) (fun _ => by assumption) ?_
      rotate_left
      · (intro w hSw; go_simp; (try with_reducible rfl))
      try simp only [Act.put, List.setIfInBounds_toArray, List.set_cons_zero, List.set_cons_succ]
      refine till_takeA (i := 2) (oi := _) (v := ?_) (by rw [List.getElem?_toArray]; rfl) (by decide) (by kernel_rfl) (by kernel_rfl) (by kernel_rfl) (fun _ _ _ h => by exact h) (Or.inl ⟨by rfl, ?_⟩) (fun _ => by assumption) ?_
      rotate_left
      · (intro w hSw; go_simp; (try with_reducible rfl))
      try simp only [Act.put, List.setIfInBounds_toArray, List.set_cons_zero, List.set_cons_succ]
      refine till_take (i := 3) (oi := _) (v := ?_) (by rw [List.getElem?_toArray]; rfl) (by decide) (by kernel_rfl) (by kernel_rfl) (by kernel_rfl) (by kernel_rfl) (by kernel_rfl) (fun _ _ _ h => by exact h) (Or.inl ⟨by rfl, ?_⟩) (by assumption) ?_
      rotate_left
      · (intro w hSw; (try dsimp only at hSw); obtain ⟨s1, d0, d1, d2, d3, d4, d5, d6⟩ := hSw; go_simp; (try with_reducible rfl))
      try simp only [Act.put, List.setIfInBounds_toArray, List.set_cons_zero, List.set_cons_succ]
      refine till_takeA (i := 4) (oi := _) (v := ?_) (by rw [List.getElem?_toArray]; rfl) (by decide) (by kernel_rfl) (by kernel_rfl) (by kernel_rfl) (fun _ _ _ h => by exact h) (Or.inl ⟨by rfl, ?_⟩) (fun _ => by assumption) ?_
      rotate_left
      · (intro w hSw; go_simp; (try with_reducible rfl))
      try simp only [Act.put, List.setIfInBounds_toArray, List.set_cons_zero, List.set_cons_succ]
      refine till_take (i := 5) (oi := _) (v := ?_) (by rw [List.getElem?_toArray]; rfl) (by decide) (by kernel_rfl) (by kernel_rfl) (by kernel_rfl) (by kernel_rfl) (by kernel_rfl) (fun _ _ _ h => by exact h) (Or.inl ⟨by rfl, ?_⟩) (by assumption) ?_
      rotate_left
      · (intro w hSw; (try dsimp only at hSw); obtain ⟨s1, d0, d1, d2, d3, d4, d5, d6⟩ := hSw; go_simp; (try with_reducible rfl))
      try simp only [Act.put, List.setIfInBounds_toArray, List.set_cons_zero, List.set_cons_succ]
      refine till_oneB (i := 6) (o := _) (by kernel_rfl) (by rw [List.getElem?_toArray]; rfl) (fun K hK => ?_)
      go_simp
      go_wp2_with (go_at_call 54; refine KO.out.mono ?_; rintro e wA ⟨x, rfl, hxo, hxk, hxi, fA⟩)
      have GA : Hid (Fr (fun _ => False) w2.drew wA) := fA
      have HSA : Hid ((fun W1 : World => W1.cell? ⟨tb, 0, none⟩ = some (.slice ao l.length cap) ∧ C7 W1 bx (.int .u64 (h.a0 : Int)) (.int .u64 (h.a1 : Int)) (.int .u64 (h.a2 : Int)) (.slice h.ga h.g.length h.gc) (.slice h.sa h.s.length h.sc) (.slice h.pa h.p.length h.pc) (.slice h.da h.dl.length h.dc)) wA) := ⟨fA.cell HS2.out.1 (by simp), HS2.out.2.fr fA (by simp)⟩
      have HX : Hid (x.ok wA ∧ x.like h ∧ x.ins (fun k => w2.drew.heap.size ≤ k)) := ⟨hxo, hxk, hxi⟩
      clear hxo hxk hxi fA
      refine hK.out _ _ HSA.out (fun hHeld => ?_)
      clear hK K
      try simp only [Act.put, List.setIfInBounds_toArray, List.set_cons_zero, List.set_cons_succ]
      have HTA : Hid (TabP wA base tb ao cap l) := HT.out.fr (F2.out.drew.trans GA.out)
      obtain ⟨g, Hao⟩ : ∃ g, Hid (ao = some ⟨g, 0, none⟩) := HT.out.some_of HPL.out
      have hao := Hao.out
      subst hao
      refine till_takeA (i := 7) (oi := _) (v := ?_) (by rw [List.getElem?_toArray]; rfl) (by decide) (by kernel_rfl) (by kernel_rfl) (by kernel_rfl) (fun _ _ _ h => by exact h) (Or.inl ⟨by rfl, ?_⟩) (fun _ => by assumption) ?_
      rotate_left
      · (intro w hSw; go_simp; (try with_reducible rfl))
      try simp only [Act.put, List.setIfInBounds_toArray, List.set_cons_zero, List.set_cons_succ]
      have HO7 : Hid (OwnF wA base 29 (.slice (some ⟨g, 0, none⟩) l.length cap) l) := HTA.out.own
      obtain ⟨⟨k0, k1, k2, k3, k4, k5, k6⟩, kz⟩ := HO7.out.z7 HPL.out
      refine till_oneA (i := 8) (o := _) (by kernel_rfl) (by rw [List.getElem?_toArray]; rfl) (by kernel_rfl) (fun K hK => ?_)
      go_simp
      refine hK.out _ _ ?_
      clear hK K
      try simp only [Act.put, List.setIfInBounds_toArray, List.set_cons_zero, List.set_cons_succ]
      refine till_done (by kernel_rfl) ?_ _
      clear k0 k1 k2 k3 k4 k5 k6 kz
      obtain ⟨ho, fo⟩ := HO7.out.put7 HPL.out x
      have HO : Hid (OwnF _ base 29 (.slice (some ⟨g, 0, none⟩) l.length cap) (l.set p x)) := ho
      have FO : Hid (Fr (fun k => k = g) wA _) := fo
      clear ho fo
      revert HO FO
      generalize (((((((wA.setCell _ _).setCell _ _).setCell _ _).setCell _ _).setCell _ _).setCell _ _).setCell _ _) = WQ
      intro HO FO
      have hput := put_held (l := l) (p := p) (x := x) (by rw [HX.out.2.1.1, HX.out.2.1.2.1]; exact HB8.out)
      have hlen : (putH l p x).length = l.length := by rw [hput]; simp
      have HTI : Hid (TabP WQ base tb (some ⟨g, 0, none⟩) cap (putH l p x)) := by
        have k := HT.out.put2 (p := p) (x := x) (wA := wA) (wI := WQ) (F2.out.drew.trans GA.out) (Fr.mono FO.out (fun k _ e => by subst e; rfl)) (by rw [HX.out.2.1.1, HX.out.2.1.2.1]; exact HP.out) (HM x HX.out.2.1) HX.out.1 (HX.out.2.1.sh HSH.out) (HX.out.2.2.mono (fun k hk => Nat.le_trans F2.out.size hk)) (by rw [hlen, hput]; exact HO.out) hlen
        exact k
      have FE : Hid (Fr (fun k => k = tb ∨ ∃ a, some (⟨g, 0, none⟩ : Addr) = some a ∧ a.block = k) w WQ) := Fr.trans (Fr.mono (T := fun k => k = tb ∨ ∃ a, some (⟨g, 0, none⟩ : Addr) = some a ∧ a.block = k) (F2.out.drew.trans GA.out) (fun _ _ h => h.elim)) (Fr.mono (T := fun k => k = tb ∨ ∃ a, some (⟨g, 0, none⟩ : Addr) = some a ∧ a.block = k) FO.out (fun k _ e => .inr ⟨_, rfl, e.symm⟩))
      go_wp2
      go_ret
      exact ⟨rfl, p, HP.out, x, HX.out.2.1, some ⟨g, 0, none⟩, ⟨cap, HTI.out⟩, fun a ha => .inl (by cases ha; rfl), FE.out.mono (fun k _ e => by rcases e with e | ⟨a, ha, e⟩; exact .inl e; cases ha; exact .inr e)⟩
end Go.Proofs.Ytaalkhipncbjpaa
