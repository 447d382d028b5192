/- The search for a transaction in any row of holds. -/
import Derived.Test.YtaalkhipncbjpaaTabA
namespace Go.Proofs.Ytaalkhipncbjpaa
open Go.RowKit
theorem srt_low {l : List Hd} (hs : Srt l) {h : Nat} {x : Hd} (hx : l.getD h dH = x) (hl : h < l.length) {s q : Nat} (hlt : x.lt s q) (k : Nat) (hk : k ≤ h) : (l.getD k dH).lt s q := by
  by_cases e : k = h
  · subst e; rw [hx]; exact hlt
  · have := hs k h (by omega) hl
    rw [hx] at this
    unfold Hd.lt at *
    omega
theorem srt_high {l : List Hd} (hs : Srt l) {h : Nat} {x : Hd} (hx : l.getD h dH = x) {s q : Nat} (hge : ¬ x.lt s q) (k : Nat) (hk : h ≤ k) (hkn : k < l.length) : ¬ (l.getD k dH).lt s q := by
  by_cases e : k = h
  · subst e; rw [hx]; exact hge
  · have := hs h k (by omega) hkn
    rw [hx] at this
    unfold Hd.lt at *
    omega
set_option maxRecDepth 100000 in
set_option maxHeartbeats 4000000 in
theorem search_any (s q : Nat) (ao : Option Addr) (l : List Hd) (cap : Nat) (w : World) (hr : RowF w ao l cap) (hs : Srt l) (hlen : l.length ≤ 1000000) : Calls Try.prog 86 #[.slice ao l.length cap, .agg #[.int .u64 (s : Int), .int .u64 (q : Int)], .func (.func 87) #[] #[]] w fun e w' => ∃ (p : Nat) (bb : Bool), e = .returned (.tuple #[.int .i64 (p : Int), .bool bb]) ∧ Hid (bb = decide (p < l.length ∧ (l.getD p dH).a0 = s ∧ (l.getD p dH).a1 = q)) ∧ p ≤ l.length ∧ (∀ k, k < p → (l.getD k dH).lt s q) ∧ (∀ k, p ≤ k → k < l.length → ¬ (l.getD k dH).lt s q) ∧ Fr (fun _ => False) w w' := by
  have F0 : Hid (Fr (fun _ => False) w (w.alloc (.cells #[.int .u64 (s : Int), .int .u64 (q : Int)] 24))) := (Fr.refl (fun _ => False) w).alloc (.cells #[.int .u64 (s : Int), .int .u64 (q : Int)] 24)
  have HR : Hid (RowF w ao l cap) := hr
  have HS : Hid (Srt l) := hs
  have hl1 : l.length ≤ 9223372036854775807 := hr.lens.1
  have G2 : Hid (C2 (w.alloc (.cells #[.int .u64 (s : Int), .int .u64 (q : Int)] 24)) w.heap.size (.int .u64 (s : Int)) (.int .u64 (q : Int))) := C2.new w 24 _ _
  obtain ⟨bx, Hbx⟩ : ∃ bx, Hid (w.heap.size = bx) := ⟨_, rfl⟩
  rw [Hbx.out] at G2
  clear hr hs
  go_enter Try.func86, Try.ntmps86
  go_wp2
  rw [Hbx.out]
  go_loopw [9, 10] (fun iv jv wr => ∃ i j : Nat, i ≤ j ∧ j ≤ l.length ∧ iv = .int .i64 (i : Int) ∧ jv = .int .i64 (j : Int) ∧ Hid (∀ k, k < i → (l.getD k dH).lt s q) ∧ Hid (∀ k, j ≤ k → k < l.length → ¬ (l.getD k dH).lt s q) ∧ Hid (C2 wr bx (.int .u64 (s : Int)) (.int .u64 (q : Int))) ∧ Hid (Fr (fun _ => False) w wr)) (fun iv jv _ => (intOf jv - intOf iv).toNat)
  case atStart => exact ⟨0, l.length, Nat.zero_le _, Nat.le_refl _, rfl, rfl, (fun k hk => by omega), (fun k hk hkn => by omega), G2.out, F0.out⟩
  case round =>
    obtain ⟨i, j, hij0, hj, rfl, rfl, HLO, HHI, H2, HF⟩ := hrel
    by_cases hij : i < j
    · obtain ⟨h, Hh⟩ : ∃ h : Nat, Hid (h = (i + j) / 2 ∧ i ≤ h ∧ h < j) := ⟨(i + j) / 2, by show _ ∧ _; omega⟩
      have z0 : (i : Int) < (j : Int) := by omega
      have hhn : h < l.length := by have := Hh.out; omega
      obtain ⟨b, off, x, hao, Hx, _, d0, d1, d2, d3, d4, d5, d6⟩ := (HR.out.fr HF.out (by simp)).seven hhn
      have HSS : Hid (∀ W, Fr (fun _ => False) wr W → (fun W1 : World => (W1.cell? ⟨b, off + h * 7, none⟩ = some (.int .u64 (x.a0 : Int)) ∧ W1.cell? ⟨b, off + h * 7 + 1, none⟩ = some (.int .u64 (x.a1 : Int)) ∧ W1.cell? ⟨b, off + h * 7 + 2, none⟩ = some (.int .u64 (x.a2 : Int)) ∧ W1.cell? ⟨b, off + h * 7 + 3, none⟩ = some (.slice x.ga x.g.length x.gc) ∧ W1.cell? ⟨b, off + h * 7 + 4, none⟩ = some (.slice x.sa x.s.length x.sc) ∧ W1.cell? ⟨b, off + h * 7 + 5, none⟩ = some (.slice x.pa x.p.length x.pc) ∧ W1.cell? ⟨b, off + h * 7 + 6, none⟩ = some (.slice x.da x.dl.length x.dc)) ∧ C2 W1 bx (.int .u64 (s : Int)) (.int .u64 (q : Int))) W) := fun W f => ⟨⟨f.cell d0 (by simp), f.cell d1 (by simp), f.cell d2 (by simp), f.cell d3 (by simp), f.cell d4 (by simp), f.cell d5 (by simp), f.cell d6 (by simp)⟩, H2.out.fr f (by simp)⟩
      have KP : Hid (∀ W, Calls _ _ _ _ _) := place1_any x s q
      have HW : Hid (((i : Int) + (j : Int)) / 2 = (h : Int)) := (show _ = _ by have := Hh.out.1; omega)
      subst hao
      have z1 : (0 : Int) ≤ (h : Int) := by omega
      have z2 : (h : Int) < (l.length : Int) := by omega
      clear d0 d1 d2 d3 d4 d5 d6
      go_wp2_with fail
      rw [HW.out]
      refine wp_region_held_drew (S := (fun W1 : World => (W1.cell? ⟨b, off + h * 7, none⟩ = some (.int .u64 (x.a0 : Int)) ∧ W1.cell? ⟨b, off + h * 7 + 1, none⟩ = some (.int .u64 (x.a1 : Int)) ∧ W1.cell? ⟨b, off + h * 7 + 2, none⟩ = some (.int .u64 (x.a2 : Int)) ∧ W1.cell? ⟨b, off + h * 7 + 3, none⟩ = some (.slice x.ga x.g.length x.gc) ∧ W1.cell? ⟨b, off + h * 7 + 4, none⟩ = some (.slice x.sa x.s.length x.sc) ∧ W1.cell? ⟨b, off + h * 7 + 5, none⟩ = some (.slice x.pa x.p.length x.pc) ∧ W1.cell? ⟨b, off + h * 7 + 6, none⟩ = some (.slice x.da x.dl.length x.dc)) ∧ C2 W1 bx (.int .u64 (s : Int)) (.int .u64 (q : Int)))) (by kernel_rfl) (HSS.out _ ((Fr.refl _ _).drew)) (fun hHeld => ?_)
      refine wpAnyH_take (i := 0) (oi := _) (v := ?_) (by rw [List.getElem?_toArray]; rfl) (by kernel_rfl) (by kernel_rfl) (by kernel_rfl) (fun _ _ _ h => by exact h) (Or.inl ⟨by rfl, ?_⟩) (by assumption) ?_
      rotate_left
      · (intro w hSw; (try dsimp only at hSw); go_simp; (try with_reducible rfl))
      try simp only [Act.put, List.setIfInBounds_toArray, List.set_cons_zero, List.set_cons_succ]
      refine wpAnyH_take (i := 1) (oi := _) (v := ?_) (by rw [List.getElem?_toArray]; rfl) (by kernel_rfl) (by kernel_rfl) (by kernel_rfl) (fun _ _ _ h => by exact h) (Or.inl ⟨by rfl, ?_⟩) (by assumption) ?_
      rotate_left
      · (intro w hSw; (try dsimp only at hSw); go_simp; (try with_reducible rfl))
      try simp only [Act.put, List.setIfInBounds_toArray, List.set_cons_zero, List.set_cons_succ]
      refine wpAnyH_take (i := 2) (oi := _) (v := ?_) (by rw [List.getElem?_toArray]; rfl) (by kernel_rfl) (by kernel_rfl) (by kernel_rfl) (fun _ _ _ h => by exact h) (Or.inl ⟨by rfl, ?_⟩) (by assumption) ?_
      rotate_left
      · (intro w hSw; (try dsimp only at hSw); go_simp; (try with_reducible rfl))
      try simp only [Act.put, List.setIfInBounds_toArray, List.set_cons_zero, List.set_cons_succ]
      refine wpAnyH_take (i := 3) (oi := _) (v := ?_) (by rw [List.getElem?_toArray]; rfl) (by kernel_rfl) (by kernel_rfl) (by kernel_rfl) (fun _ _ _ h => by exact h) (Or.inl ⟨by rfl, ?_⟩) (by assumption) ?_
      rotate_left
      · (intro w hSw; (try dsimp only at hSw); go_simp; (try with_reducible rfl))
      try simp only [Act.put, List.setIfInBounds_toArray, List.set_cons_zero, List.set_cons_succ]
      refine wpAnyH_take (i := 4) (oi := _) (v := ?_) (by rw [List.getElem?_toArray]; rfl) (by kernel_rfl) (by kernel_rfl) (by kernel_rfl) (fun _ _ _ h => by exact h) (Or.inl ⟨by rfl, ?_⟩) (by assumption) ?_
      rotate_left
      · (intro w hSw; (try dsimp only at hSw); obtain ⟨⟨d0, d1, d2, d3, d4, d5, d6⟩, ⟨i0, i1⟩⟩ := hSw; go_simp; (try with_reducible rfl))
      try simp only [Act.put, List.setIfInBounds_toArray, List.set_cons_zero, List.set_cons_succ]
      refine wpAnyH_take (i := 5) (oi := _) (v := ?_) (by rw [List.getElem?_toArray]; rfl) (by kernel_rfl) (by kernel_rfl) (by kernel_rfl) (fun _ _ _ h => by exact h) (Or.inl ⟨by rfl, ?_⟩) (by assumption) ?_
      rotate_left
      · (intro w hSw; (try dsimp only at hSw); obtain ⟨⟨d0, d1, d2, d3, d4, d5, d6⟩, ⟨i0, i1⟩⟩ := hSw; go_simp; (try with_reducible rfl))
      try simp only [Act.put, List.setIfInBounds_toArray, List.set_cons_zero, List.set_cons_succ]
      refine wpAnyH_ready (rs := [6]) (by kernel_rfl) (by simp) ?_
      refine AllReadyH.cons (o := _) (by rw [List.getElem?_toArray]; rfl) (fun K hK => ?_) ?_
      · go_simp
        go_wp2_with (go_at_call 87; refine (KP.out _).mono ?_; rintro e w5 ⟨rfl, f5⟩)
        have G5 : Hid (Fr (fun _ => False) wr w5) := ((Fr.refl (fun _ => False) _).drew).trans f5
        clear f5
        refine hK.out _ _ (HSS.out _ G5.out) (fun hHeld => ?_)
        clear hK K
        try simp only [Act.put, List.setIfInBounds_toArray, List.set_cons_zero, List.set_cons_succ]
        refine wpAnyH_take (i := 7) (oi := _) (v := ?_) (by rw [List.getElem?_toArray]; rfl) (by kernel_rfl) (by kernel_rfl) (by kernel_rfl) (fun _ _ _ h => by exact h) (Or.inl ⟨by rfl, ?_⟩) (by assumption) ?_
        rotate_left
        · (intro w hSw; (try dsimp only at hSw); go_simp; (try with_reducible rfl))
        try simp only [Act.put, List.setIfInBounds_toArray, List.set_cons_zero, List.set_cons_succ]
        refine wpAnyH_done (by kernel_rfl) ?_ _
        by_cases hc : ordI x.a0 x.a1 s q < 0
        · have hlt5 : x.lt s q := (ordI_lt _ _ _ _).1 hc
          rw [show decide (ordI x.a0 x.a1 s q < 0) = true by simpa using hc]
          go_wp2
          go_roundw
          case rel => exact ⟨h + 1, j, by have := Hh.out; omega, hj, by go_num, rfl, (fun k hk => srt_low HS.out Hx.out (by have := Hh.out; omega) hlt5 k (by omega)), HHI.out, H2.out.fr G5.out (by simp), HF.out.trans G5.out⟩
          case measure => have := Hh.out; simp [intOf]; omega
        · have hge5 : ¬ x.lt s q := fun h => hc ((ordI_lt _ _ _ _).2 h)
          rw [show decide (ordI x.a0 x.a1 s q < 0) = false by simpa using hc]
          go_wp2
          go_roundw
          case rel => exact ⟨i, h, by have := Hh.out; omega, by have := Hh.out; omega, rfl, rfl, HLO.out, (fun k hk hkn => srt_high HS.out Hx.out hge5 k hk hkn), H2.out.fr G5.out (by simp), HF.out.trans G5.out⟩
          case measure => have := Hh.out; simp [intOf]; omega
      exact AllReadyH.nil
    · have z0 : ¬ (i : Int) < (j : Int) := by omega
      have hij2 : j = i := by omega
      subst hij2
      have HLO2 : Hid (∀ k, k < j → (l.getD k dH).lt s q) := HLO.out
      by_cases hin : j < l.length
      · obtain ⟨b, off, x, hao, Hx, _, d0, d1, d2, d3, d4, d5, d6⟩ := (HR.out.fr HF.out (by simp)).seven hin
        have HSS : Hid (∀ W, Fr (fun _ => False) wr W → (fun W1 : World => (W1.cell? ⟨b, off + j * 7, none⟩ = some (.int .u64 (x.a0 : Int)) ∧ W1.cell? ⟨b, off + j * 7 + 1, none⟩ = some (.int .u64 (x.a1 : Int)) ∧ W1.cell? ⟨b, off + j * 7 + 2, none⟩ = some (.int .u64 (x.a2 : Int)) ∧ W1.cell? ⟨b, off + j * 7 + 3, none⟩ = some (.slice x.ga x.g.length x.gc) ∧ W1.cell? ⟨b, off + j * 7 + 4, none⟩ = some (.slice x.sa x.s.length x.sc) ∧ W1.cell? ⟨b, off + j * 7 + 5, none⟩ = some (.slice x.pa x.p.length x.pc) ∧ W1.cell? ⟨b, off + j * 7 + 6, none⟩ = some (.slice x.da x.dl.length x.dc)) ∧ C2 W1 bx (.int .u64 (s : Int)) (.int .u64 (q : Int))) W) := fun W f => ⟨⟨f.cell d0 (by simp), f.cell d1 (by simp), f.cell d2 (by simp), f.cell d3 (by simp), f.cell d4 (by simp), f.cell d5 (by simp), f.cell d6 (by simp)⟩, H2.out.fr f (by simp)⟩
        have KP : Hid (∀ W, Calls _ _ _ _ _) := place1_any x s q
        subst hao
        have z1 : (0 : Int) ≤ (j : Int) := by omega
        have z2 : (j : Int) < (l.length : Int) := by omega
        have HD : Hid (decide (j < l.length ∧ (l.getD j dH).a0 = s ∧ (l.getD j dH).a1 = q) = (ordI x.a0 x.a1 s q == 0)) := (show _ = _ by rw [Hx.out, Bool.eq_iff_iff]; simp [hin, ordI_zero])
        clear d0 d1 d2 d3 d4 d5 d6
        go_wp2_with fail
        refine wp_region_held_drew (S := (fun W1 : World => (W1.cell? ⟨b, off + j * 7, none⟩ = some (.int .u64 (x.a0 : Int)) ∧ W1.cell? ⟨b, off + j * 7 + 1, none⟩ = some (.int .u64 (x.a1 : Int)) ∧ W1.cell? ⟨b, off + j * 7 + 2, none⟩ = some (.int .u64 (x.a2 : Int)) ∧ W1.cell? ⟨b, off + j * 7 + 3, none⟩ = some (.slice x.ga x.g.length x.gc) ∧ W1.cell? ⟨b, off + j * 7 + 4, none⟩ = some (.slice x.sa x.s.length x.sc) ∧ W1.cell? ⟨b, off + j * 7 + 5, none⟩ = some (.slice x.pa x.p.length x.pc) ∧ W1.cell? ⟨b, off + j * 7 + 6, none⟩ = some (.slice x.da x.dl.length x.dc)) ∧ C2 W1 bx (.int .u64 (s : Int)) (.int .u64 (q : Int)))) (by kernel_rfl) (HSS.out _ ((Fr.refl _ _).drew)) (fun hHeld => ?_)
        refine wpAnyH_take (i := 0) (oi := _) (v := ?_) (by rw [List.getElem?_toArray]; rfl) (by kernel_rfl) (by kernel_rfl) (by kernel_rfl) (fun _ _ _ h => by exact h) (Or.inl ⟨by rfl, ?_⟩) (by assumption) ?_
        rotate_left
        · (intro w hSw; (try dsimp only at hSw); go_simp; (try with_reducible rfl))
        try simp only [Act.put, List.setIfInBounds_toArray, List.set_cons_zero, List.set_cons_succ]
        refine wpAnyH_take (i := 1) (oi := _) (v := ?_) (by rw [List.getElem?_toArray]; rfl) (by kernel_rfl) (by kernel_rfl) (by kernel_rfl) (fun _ _ _ h => by exact h) (Or.inl ⟨by rfl, ?_⟩) (by assumption) ?_
        rotate_left
        · (intro w hSw; (try dsimp only at hSw); go_simp; (try with_reducible rfl))
        try simp only [Act.put, List.setIfInBounds_toArray, List.set_cons_zero, List.set_cons_succ]
        refine wpAnyH_take (i := 2) (oi := _) (v := ?_) (by rw [List.getElem?_toArray]; rfl) (by kernel_rfl) (by kernel_rfl) (by kernel_rfl) (fun _ _ _ h => by exact h) (Or.inl ⟨by rfl, ?_⟩) (by assumption) ?_
        rotate_left
        · (intro w hSw; (try dsimp only at hSw); go_simp; (try with_reducible rfl))
        try simp only [Act.put, List.setIfInBounds_toArray, List.set_cons_zero, List.set_cons_succ]
        refine wpAnyH_take (i := 3) (oi := _) (v := ?_) (by rw [List.getElem?_toArray]; rfl) (by kernel_rfl) (by kernel_rfl) (by kernel_rfl) (fun _ _ _ h => by exact h) (Or.inl ⟨by rfl, ?_⟩) (by assumption) ?_
        rotate_left
        · (intro w hSw; (try dsimp only at hSw); go_simp; (try with_reducible rfl))
        try simp only [Act.put, List.setIfInBounds_toArray, List.set_cons_zero, List.set_cons_succ]
        refine wpAnyH_take (i := 4) (oi := _) (v := ?_) (by rw [List.getElem?_toArray]; rfl) (by kernel_rfl) (by kernel_rfl) (by kernel_rfl) (fun _ _ _ h => by exact h) (Or.inl ⟨by rfl, ?_⟩) (by assumption) ?_
        rotate_left
        · (intro w hSw; (try dsimp only at hSw); go_simp; (try with_reducible rfl))
        try simp only [Act.put, List.setIfInBounds_toArray, List.set_cons_zero, List.set_cons_succ]
        refine wpAnyH_take (i := 5) (oi := _) (v := ?_) (by rw [List.getElem?_toArray]; rfl) (by kernel_rfl) (by kernel_rfl) (by kernel_rfl) (fun _ _ _ h => by exact h) (Or.inl ⟨by rfl, ?_⟩) (by assumption) ?_
        rotate_left
        · (intro w hSw; (try dsimp only at hSw); go_simp; (try with_reducible rfl))
        try simp only [Act.put, List.setIfInBounds_toArray, List.set_cons_zero, List.set_cons_succ]
        refine wpAnyH_take (i := 6) (oi := _) (v := ?_) (by rw [List.getElem?_toArray]; rfl) (by kernel_rfl) (by kernel_rfl) (by kernel_rfl) (fun _ _ _ h => by exact h) (Or.inl ⟨by rfl, ?_⟩) (by assumption) ?_
        rotate_left
        · (intro w hSw; (try dsimp only at hSw); go_simp; (try with_reducible rfl))
        try simp only [Act.put, List.setIfInBounds_toArray, List.set_cons_zero, List.set_cons_succ]
        refine wpAnyH_take (i := 7) (oi := _) (v := ?_) (by rw [List.getElem?_toArray]; rfl) (by kernel_rfl) (by kernel_rfl) (by kernel_rfl) (fun _ _ _ h => by exact h) (Or.inl ⟨by rfl, ?_⟩) (by assumption) ?_
        rotate_left
        · (intro w hSw; (try dsimp only at hSw); go_simp; (try with_reducible rfl))
        try simp only [Act.put, List.setIfInBounds_toArray, List.set_cons_zero, List.set_cons_succ]
        refine wpAnyH_take (i := 8) (oi := _) (v := ?_) (by rw [List.getElem?_toArray]; rfl) (by kernel_rfl) (by kernel_rfl) (by kernel_rfl) (fun _ _ _ h => by exact h) (Or.inl ⟨by rfl, ?_⟩) (by assumption) ?_
        rotate_left
        · (intro w hSw; (try dsimp only at hSw); go_simp; (try with_reducible rfl))
        try simp only [Act.put, List.setIfInBounds_toArray, List.set_cons_zero, List.set_cons_succ]
        refine wpAnyH_take (i := 9) (oi := _) (v := ?_) (by rw [List.getElem?_toArray]; rfl) (by kernel_rfl) (by kernel_rfl) (by kernel_rfl) (fun _ _ _ h => by exact h) (Or.inl ⟨by rfl, ?_⟩) (by assumption) ?_
        rotate_left
        · (intro w hSw; (try dsimp only at hSw); obtain ⟨⟨d0, d1, d2, d3, d4, d5, d6⟩, ⟨i0, i1⟩⟩ := hSw; go_simp; (try with_reducible rfl))
        try simp only [Act.put, List.setIfInBounds_toArray, List.set_cons_zero, List.set_cons_succ]
        refine wpAnyH_take (i := 10) (oi := _) (v := ?_) (by rw [List.getElem?_toArray]; rfl) (by kernel_rfl) (by kernel_rfl) (by kernel_rfl) (fun _ _ _ h => by exact h) (Or.inl ⟨by rfl, ?_⟩) (by assumption) ?_
        rotate_left
        · (intro w hSw; (try dsimp only at hSw); obtain ⟨⟨d0, d1, d2, d3, d4, d5, d6⟩, ⟨i0, i1⟩⟩ := hSw; go_simp; (try with_reducible rfl))
        try simp only [Act.put, List.setIfInBounds_toArray, List.set_cons_zero, List.set_cons_succ]
        refine wpAnyH_ready (rs := [11]) (by kernel_rfl) (by simp) ?_
        refine AllReadyH.cons (o := _) (by rw [List.getElem?_toArray]; rfl) (fun K hK => ?_) ?_
        · go_simp
          go_wp2_with (go_at_call 87; refine (KP.out _).mono ?_; rintro e w5 ⟨rfl, f5⟩)
          have G5 : Hid (Fr (fun _ => False) wr w5) := ((Fr.refl (fun _ => False) _).drew).trans f5
          clear f5
          refine hK.out _ _ (HSS.out _ G5.out) (fun hHeld => ?_)
          clear hK K
          try simp only [Act.put, List.setIfInBounds_toArray, List.set_cons_zero, List.set_cons_succ]
          refine wpAnyH_take (i := 12) (oi := _) (v := ?_) (by rw [List.getElem?_toArray]; rfl) (by kernel_rfl) (by kernel_rfl) (by kernel_rfl) (fun _ _ _ h => by exact h) (Or.inl ⟨by rfl, ?_⟩) (by assumption) ?_
          rotate_left
          · (intro w hSw; (try dsimp only at hSw); go_simp; (try with_reducible rfl))
          try simp only [Act.put, List.setIfInBounds_toArray, List.set_cons_zero, List.set_cons_succ]
          refine wpAnyH_take (i := 13) (oi := _) (v := ?_) (by rw [List.getElem?_toArray]; rfl) (by kernel_rfl) (by kernel_rfl) (by kernel_rfl) (fun _ _ _ h => by exact h) (Or.inl ⟨by rfl, ?_⟩) (by assumption) ?_
          rotate_left
          · (intro w hSw; (try dsimp only at hSw); go_simp; (try with_reducible rfl))
          try simp only [Act.put, List.setIfInBounds_toArray, List.set_cons_zero, List.set_cons_succ]
          refine wpAnyH_take (i := 14) (oi := _) (v := ?_) (by rw [List.getElem?_toArray]; rfl) (by kernel_rfl) (by kernel_rfl) (by kernel_rfl) (fun _ _ _ h => by exact h) (Or.inl ⟨by rfl, ?_⟩) (by assumption) ?_
          rotate_left
          · (intro w hSw; (try dsimp only at hSw); go_simp; (try with_reducible rfl))
          try simp only [Act.put, List.setIfInBounds_toArray, List.set_cons_zero, List.set_cons_succ]
          refine wpAnyH_take (i := 15) (oi := _) (v := ?_) (by rw [List.getElem?_toArray]; rfl) (by kernel_rfl) (by kernel_rfl) (by kernel_rfl) (fun _ _ _ h => by exact h) (Or.inl ⟨by rfl, ?_⟩) (by assumption) ?_
          rotate_left
          · (intro w hSw; (try dsimp only at hSw); go_simp; (try with_reducible rfl))
          try simp only [Act.put, List.setIfInBounds_toArray, List.set_cons_zero, List.set_cons_succ]
          refine wpAnyH_done (by kernel_rfl) ?_ _
          go_wp2
          go_ret2
          exact ⟨j, _, rfl, HD.out.symm, hj, HLO2.out, HHI.out, HF.out.trans G5.out⟩
        exact AllReadyH.nil
      · have z2 : ¬ (j : Int) < (l.length : Int) := by omega
        have HD : Hid (decide (j < l.length ∧ (l.getD j dH).a0 = s ∧ (l.getD j dH).a1 = q) = false) := (show _ = _ by simp [hin])
        go_wp2_with fail
        refine wp_region_held_drew (S := (fun _ : World => True)) (by kernel_rfl) trivial (fun hHeld => ?_)
        refine wpAnyH_take (i := 0) (oi := _) (v := ?_) (by rw [List.getElem?_toArray]; rfl) (by kernel_rfl) (by kernel_rfl) (by kernel_rfl) (fun _ _ _ h => by exact h) (Or.inl ⟨by rfl, ?_⟩) (by assumption) ?_
        rotate_left
        · (intro w hSw; (try dsimp only at hSw); go_simp; (try with_reducible rfl))
        try simp only [Act.put, List.setIfInBounds_toArray, List.set_cons_zero, List.set_cons_succ]
        refine wpAnyH_take (i := 1) (oi := _) (v := ?_) (by rw [List.getElem?_toArray]; rfl) (by kernel_rfl) (by kernel_rfl) (by kernel_rfl) (fun _ _ _ h => by exact h) (Or.inl ⟨by rfl, ?_⟩) (by assumption) ?_
        rotate_left
        · (intro w hSw; (try dsimp only at hSw); go_simp; (try with_reducible rfl))
        try simp only [Act.put, List.setIfInBounds_toArray, List.set_cons_zero, List.set_cons_succ]
        refine wpAnyH_take (i := 2) (oi := _) (v := ?_) (by rw [List.getElem?_toArray]; rfl) (by kernel_rfl) (by kernel_rfl) (by kernel_rfl) (fun _ _ _ h => by exact h) (Or.inl ⟨by rfl, ?_⟩) (by assumption) ?_
        rotate_left
        · (intro w hSw; (try dsimp only at hSw); go_simp; (try with_reducible rfl))
        try simp only [Act.put, List.setIfInBounds_toArray, List.set_cons_zero, List.set_cons_succ]
        refine wpAnyH_take (i := 3) (oi := _) (v := ?_) (by rw [List.getElem?_toArray]; rfl) (by kernel_rfl) (by kernel_rfl) (by kernel_rfl) (fun _ _ _ h => by exact h) (Or.inl ⟨by rfl, ?_⟩) (by assumption) ?_
        rotate_left
        · (intro w hSw; (try dsimp only at hSw); go_simp; (try with_reducible rfl))
        try simp only [Act.put, List.setIfInBounds_toArray, List.set_cons_zero, List.set_cons_succ]
        refine wpAnyH_take (i := 4) (oi := _) (v := ?_) (by rw [List.getElem?_toArray]; rfl) (by kernel_rfl) (by kernel_rfl) (by kernel_rfl) (fun _ _ _ h => by exact h) (Or.inl ⟨by rfl, ?_⟩) (by assumption) ?_
        rotate_left
        · (intro w hSw; (try dsimp only at hSw); go_simp; (try with_reducible rfl))
        try simp only [Act.put, List.setIfInBounds_toArray, List.set_cons_zero, List.set_cons_succ]
        refine wpAnyH_take (i := 5) (oi := _) (v := undef) (by rw [List.getElem?_toArray]; rfl) (by kernel_rfl) (by kernel_rfl) (by kernel_rfl) (fun _ _ _ h => by exact h) (Or.inr ⟨by rfl, rfl⟩) (by assumption) ?_
        try simp only [Act.put, List.setIfInBounds_toArray, List.set_cons_zero, List.set_cons_succ]
        refine wpAnyH_take (i := 6) (oi := _) (v := undef) (by rw [List.getElem?_toArray]; rfl) (by kernel_rfl) (by kernel_rfl) (by kernel_rfl) (fun _ _ _ h => by exact h) (Or.inr ⟨by rfl, rfl⟩) (by assumption) ?_
        try simp only [Act.put, List.setIfInBounds_toArray, List.set_cons_zero, List.set_cons_succ]
        refine wpAnyH_take (i := 7) (oi := _) (v := undef) (by rw [List.getElem?_toArray]; rfl) (by kernel_rfl) (by kernel_rfl) (by kernel_rfl) (fun _ _ _ h => by exact h) (Or.inr ⟨by rfl, rfl⟩) (by assumption) ?_
        try simp only [Act.put, List.setIfInBounds_toArray, List.set_cons_zero, List.set_cons_succ]
        refine wpAnyH_take (i := 8) (oi := _) (v := undef) (by rw [List.getElem?_toArray]; rfl) (by kernel_rfl) (by kernel_rfl) (by kernel_rfl) (fun _ _ _ h => by exact h) (Or.inr ⟨by rfl, rfl⟩) (by assumption) ?_
        try simp only [Act.put, List.setIfInBounds_toArray, List.set_cons_zero, List.set_cons_succ]
        refine wpAnyH_take (i := 9) (oi := _) (v := undef) (by rw [List.getElem?_toArray]; rfl) (by kernel_rfl) (by kernel_rfl) (by kernel_rfl) (fun _ _ _ h => by exact h) (Or.inr ⟨by rfl, rfl⟩) (by assumption) ?_
        try simp only [Act.put, List.setIfInBounds_toArray, List.set_cons_zero, List.set_cons_succ]
        refine wpAnyH_take (i := 10) (oi := _) (v := undef) (by rw [List.getElem?_toArray]; rfl) (by kernel_rfl) (by kernel_rfl) (by kernel_rfl) (fun _ _ _ h => by exact h) (Or.inr ⟨by rfl, rfl⟩) (by assumption) ?_
        try simp only [Act.put, List.setIfInBounds_toArray, List.set_cons_zero, List.set_cons_succ]
        refine wpAnyH_take (i := 11) (oi := _) (v := undef) (by rw [List.getElem?_toArray]; rfl) (by kernel_rfl) (by kernel_rfl) (by kernel_rfl) (fun _ _ _ h => by exact h) (Or.inr ⟨by rfl, rfl⟩) (by assumption) ?_
        try simp only [Act.put, List.setIfInBounds_toArray, List.set_cons_zero, List.set_cons_succ]
        refine wpAnyH_take (i := 12) (oi := _) (v := undef) (by rw [List.getElem?_toArray]; rfl) (by kernel_rfl) (by kernel_rfl) (by kernel_rfl) (fun _ _ _ h => by exact h) (Or.inr ⟨by rfl, rfl⟩) (by assumption) ?_
        try simp only [Act.put, List.setIfInBounds_toArray, List.set_cons_zero, List.set_cons_succ]
        refine wpAnyH_take (i := 13) (oi := _) (v := ?_) (by rw [List.getElem?_toArray]; rfl) (by kernel_rfl) (by kernel_rfl) (by kernel_rfl) (fun _ _ _ h => by exact h) (Or.inl ⟨by rfl, ?_⟩) (by assumption) ?_
        rotate_left
        · (intro w hSw; (try dsimp only at hSw); go_simp; (try with_reducible rfl))
        try simp only [Act.put, List.setIfInBounds_toArray, List.set_cons_zero, List.set_cons_succ]
        refine wpAnyH_take (i := 14) (oi := _) (v := ?_) (by rw [List.getElem?_toArray]; rfl) (by kernel_rfl) (by kernel_rfl) (by kernel_rfl) (fun _ _ _ h => by exact h) (Or.inl ⟨by rfl, ?_⟩) (by assumption) ?_
        rotate_left
        · (intro w hSw; (try dsimp only at hSw); go_simp; (try with_reducible rfl))
        try simp only [Act.put, List.setIfInBounds_toArray, List.set_cons_zero, List.set_cons_succ]
        refine wpAnyH_take (i := 15) (oi := _) (v := ?_) (by rw [List.getElem?_toArray]; rfl) (by kernel_rfl) (by kernel_rfl) (by kernel_rfl) (fun _ _ _ h => by exact h) (Or.inl ⟨by rfl, ?_⟩) (by assumption) ?_
        rotate_left
        · (intro w hSw; (try dsimp only at hSw); go_simp; (try with_reducible rfl))
        try simp only [Act.put, List.setIfInBounds_toArray, List.set_cons_zero, List.set_cons_succ]
        refine wpAnyH_done (by kernel_rfl) ?_ _
        go_wp2
        go_ret2
        exact ⟨j, _, rfl, HD.out.symm, hj, HLO2.out, HHI.out, HF.out.drew⟩
end Go.Proofs.Ytaalkhipncbjpaa
