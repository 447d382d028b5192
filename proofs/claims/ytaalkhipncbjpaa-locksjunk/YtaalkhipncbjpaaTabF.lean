/- slices.Insert of one hold, anywhere in a row of one's own: the walk. -/
import Derived.Test.YtaalkhipncbjpaaTabE
import Derived.Deep.DeepAppendWide
namespace Go.Proofs.Ytaalkhipncbjpaa
open Go Go.RowKit
theorem cells_of_block {w : World} {a : Nat} {cs : Array Value} {t : TypeId} {fz : Nat × Nat} (h : w.heap[a]? = some (.cells cs t fz)) (j : Nat) (v : Value) (hv : cs.toList[j]? = some v) : w.cell? ((⟨a, 0, none⟩ : Addr).add j) = some v := by
  have hadd : (⟨a, 0, none⟩ : Addr).add j = ⟨a, 0 + j, none⟩ := by unfold Addr.add; split <;> simp_all
  rw [hadd, Nat.zero_add, cell_of_row w a j cs t fz h]
  simpa using hv
theorem add_lit (b o j : Nat) : (⟨b, o, none⟩ : Addr).add j = ⟨b, o + j, none⟩ := by unfold Addr.add; split <;> simp_all
set_option maxRecDepth 100000 in
set_option maxHeartbeats 8000000 in
theorem insert_any (base : Nat) (ao : Option Addr) (cap : Nat) (l : List Hd) (i : Nat) (x : Hd) (a : Nat) (tx : TypeId) (w : World) (ho : OwnF w base 29 (.slice ao l.length cap) l) (hi : i ≤ l.length) (hx : w.heap[a]? = some (.cells #[.int .u64 (x.a0 : Int), .int .u64 (x.a1 : Int), .int .u64 (x.a2 : Int), .slice x.ga x.g.length x.gc, .slice x.sa x.s.length x.sc, .slice x.pa x.p.length x.pc, .slice x.da x.dl.length x.dc] tx (0, 0))) (hlen : l.length ≤ 1000) (hb : base ≤ w.heap.size) (hne : ∀ c, ao = some c → c.block ≠ a) :
    Calls Try.prog 55 #[.slice ao l.length cap, .int .i64 (i : Int), .slice (some ⟨a, 0, none⟩) 1 1] w fun e w' => ∃ a1 c1, e = .returned (.slice a1 (l.length + 1) c1) ∧ OwnF w' base 29 (.slice a1 (l.length + 1) c1) (l.take i ++ x :: l.drop i) ∧ Fr (fun k => (Value.slice ao l.length cap).ownBlock = some k) w w' ∧ ((Value.slice a1 (l.length + 1) c1).ownBlock = (Value.slice ao l.length cap).ownBlock ∨ ∃ k, (Value.slice a1 (l.length + 1) c1).ownBlock = some k ∧ w.heap.size ≤ k) := by
  have hlens := ho.form
  have hcap : l.length ≤ cap ∧ cap ≤ 9223372036854775807 := by obtain ⟨a1, c1, e, h1, h2, h3⟩ := hlens; cases e; exact ⟨h3, h2⟩
  have HCX : Hid (∀ j u, (flat [x])[j]? = some u → w.cell? ((⟨a, 0, none⟩ : Addr).add j) = some u) := fun j u hu => cells_of_block hx j u (by simpa [flat, Enc.cells] using hu)
  have HO : Hid (OwnF w base 29 (.slice ao l.length cap) l) := ho
  have HX : Hid (w.heap[a]? = _) := hx
  have n1 : (i : Int) ≤ (l.length : Int) := by omega
  have n2 : (l.length : Int) ≤ (cap : Int) := by omega
  have n3 : (0 : Int) ≤ (i : Int) := by omega
  have n4 : ¬ ((1 : Int) = 0) := by omega
  by_cases hin : i = l.length
  · -- at the end
    subst hin
    clear hlens hx ho
    have hbnd : l.length + 1 ≤ 1000000 := by omega
    cases ao with
    | none =>
      go_enter Try.func55, Try.ntmps55
      go_wp2_with (at_builtin; refine wpList_append_f rfl _ _ 40 29 rfl Try.underlying40 (.agg #[.int .u64 0, .int .u64 0, .int .u64 0, .slice none 0 0, .slice none 0 0, .slice none 0 0, .slice none 0 0]) 120 Try.info29 rfl (by decide) base _ l rfl HO.out ⟨a, 0, none⟩ [x] 1 rfl HCX.out hb (by simpa using hbnd) ?_)
      all_goals
        intro v7 w7 ho7 hg7 hat7
        obtain ⟨a7, c7, hv7, _⟩ := ho7.form
        rw [show (l ++ [x]).length = l.length + 1 by simp] at hv7
        subst hv7
        have G7 : Hid (Fr (fun k => (Value.slice none l.length cap).ownBlock = some k) w w7) := (Fr.refl _ w).grown hg7 (fun j hj => .inl hj)
        have HO7 : Hid (OwnF w7 base 29 (.slice a7 (l.length + 1) c7) (l.take l.length ++ x :: l.drop l.length)) := (show OwnF _ _ _ _ _ by simpa using ho7)
        have HA7 : Hid (_ ∨ _) := hat7
        clear ho7 hg7 hat7
        go_wp2
        go_ret
        exact ⟨a7, c7, rfl, HO7.out, G7.out, HA7.out.imp id (fun h => ⟨_, h, Nat.le_refl _⟩)⟩
    | some ad =>
      obtain ⟨g0, o0, s0⟩ := ad
      go_enter Try.func55, Try.ntmps55
      go_wp2_with (at_builtin; refine wpList_append_f rfl _ _ 40 29 rfl Try.underlying40 (.agg #[.int .u64 0, .int .u64 0, .int .u64 0, .slice none 0 0, .slice none 0 0, .slice none 0 0, .slice none 0 0]) 120 Try.info29 rfl (by decide) base _ l rfl HO.out ⟨a, 0, none⟩ [x] 1 rfl HCX.out hb (by simpa using hbnd) ?_)
      all_goals
        intro v7 w7 ho7 hg7 hat7
        obtain ⟨a7, c7, hv7, _⟩ := ho7.form
        rw [show (l ++ [x]).length = l.length + 1 by simp] at hv7
        subst hv7
        have G7 : Hid (Fr (fun k => (Value.slice (some ⟨g0, o0, s0⟩) l.length cap).ownBlock = some k) w w7) := (Fr.refl _ w).grown hg7 (fun j hj => .inl hj)
        have HO7 : Hid (OwnF w7 base 29 (.slice a7 (l.length + 1) c7) (l.take l.length ++ x :: l.drop l.length)) := (show OwnF _ _ _ _ _ by simpa using ho7)
        have HA7 : Hid (_ ∨ _) := hat7
        clear ho7 hg7 hat7
        go_wp2
        go_ret
        exact ⟨a7, c7, rfl, HO7.out, G7.out, HA7.out.imp id (fun h => ⟨_, h, Nat.le_refl _⟩)⟩
  · have hil : i < l.length := by omega
    have h7 : Enc.sz Hd = 7 := rfl
    rcases HO.out.2 with ⟨he, h0⟩ | ⟨g, cp, cur, he, hbg, hg, hn, hm, hs, ht⟩
    · omega
    · cases he
      rw [h7] at hs ht
      have HG : Hid (w.heap[g]? = some (.cells cur 29 (0, 0))) := hg
      have HFL : Hid ((flat l).length = l.length * 7) := flat_length l
      have HT : Hid (cur.toList.take (l.length * 7) = flat l) := ht
      have HS : Hid (cur.toList.length = cap * 7) := (show _ = _ by simpa using hs)
      have HGA : Hid (g ≠ a) := hne ⟨g, 0, none⟩ rfl
      have HM : Hid (cap ≤ maxLen) := hm
      clear hlens hx ho hne hg ht hs hm
      have n5 : ¬ ((i : Int) = (l.length : Int)) := by omega
      have n6 : IntKind.i64.wrap ((i : Int) + 1) = (i : Int) + 1 := by rw [IntKind.wrap_i64]; omega
      have n7 : (0 : Int) ≤ (i : Int) + 1 := by omega
      have n8 : ((i : Int) + 1).toNat = i + 1 := by omega
      have n9 : ¬ (cap = i) := by omega
      have n10 : (i : Int) ≤ (l.length : Int) + 1 := by omega
      by_cases hroom : l.length + 1 ≤ cap
      · have n11 : ¬ (cap = i + 1) := by omega
        have n12 : ¬ ((cap : Int) < (l.length : Int) + 1) := by omega
        have n13 : (l.length : Int) + 1 ≤ (cap : Int) := by omega
        have hov : ∀ lb cb, (callFunc 93 #[.slice (some ⟨a, 0, none⟩) 1 1, .slice (some ⟨g, (i + 1) * 7, none⟩) lb cb]).run Try.prog w = .ok (.value (.bool false)) w := fun lb cb => by
          rw [run_callFunc_extern Try.func93 (by kernel_rfl) (by kernel_rfl) (by kernel_rfl) (e := Extern.SlicesOverlaps.overlaps #[40, 40] #[4]) (by kernel_rfl),
            Lib.run_overlaps_apart w 40 4 29 Try.underlying40 7 Try.sizeOf29 ⟨a, 0, none⟩ ⟨g, (i + 1) * 7, none⟩ 1 1 lb cb (fun e => HGA.out e.symm) tx 29 7 (cap * 7) (by simp [World.shape?, HX.out]) (by simp [World.shape?, HG.out, ← HS.out]) (by omega) (by simp [World.frozen?, HX.out]) (by simp [World.frozen?, HX.out])]
          rfl
        go_enter Try.func55, Try.ntmps55
        obtain ⟨W1, HW1⟩ : ∃ W1, Hid (w.drew.setRow g (over cur.toList ((i + 1) * 7) ((flat l).drop (i * 7))).toArray = W1) := ⟨_, rfl⟩
        have HC1 : Hid (∀ ty dc sc, (Builtin.copy_ #[40, 40] ty #[.slice (some ⟨g, (i + 1) * 7, none⟩) (l.length - i) dc, .slice (some ⟨g, i * 7, none⟩) (l.length + 1 - i) sc]).run Try.prog w.drew = .ok (goInt (l.length - i : Nat)) W1) := fun ty dc sc => by
          rw [← HW1.out]
          exact run_copy_k w.drew 40 40 ty 29 7 g ((i + 1) * 7) (l.length - i) dc ⟨g, i * 7, none⟩ (l.length + 1 - i) sc (l.length - i) cur 29 ((flat l).drop (i * 7)) Try.underlying40 (by kernel_rfl) HG.out (by simp only [Nat.min_def]; split <;> omega) (by rw [List.length_drop, HFL.out]; omega)
            (fun j v hj => by
              rw [add_lit, show w.drew.cell? ⟨g, i * 7 + j, none⟩ = w.cell? ⟨g, i * 7 + j, none⟩ from rfl, cell_of_row w g _ cur 29 (0, 0) HG.out]
              rw [List.getElem?_drop, ← HT.out, List.getElem?_take] at hj
              split at hj
              · simpa using hj
              · cases hj)
            (by rw [List.length_drop, HFL.out]; have := HS.out; simp at this; omega) (fun v hv => flat_one l v (List.mem_of_mem_drop hv))
        have HG1 : Hid (W1.heap[g]? = some (.cells (over cur.toList ((i + 1) * 7) ((flat l).drop (i * 7))).toArray 29 (0, 0))) := (show _ = _ by rw [← HW1.out]; exact setRow_heap w.drew g cur _ 29 (0, 0) HG.out)
        have HX1 : Hid (W1.heap[a]? = w.heap[a]?) := (show _ = _ by rw [← HW1.out]; exact setRow_other w.drew g a _ (fun e => HGA.out e.symm))
        have HL1 : Hid ((over cur.toList ((i + 1) * 7) ((flat l).drop (i * 7))).length = cap * 7) := (show _ = _ by rw [over_len _ _ _ (by rw [List.length_drop, HFL.out]; have := HS.out; omega)]; exact HS.out)
        obtain ⟨W2, HW2⟩ : ∃ W2, Hid (W1.setRow g (over (over cur.toList ((i + 1) * 7) ((flat l).drop (i * 7))) (i * 7) (flat [x])).toArray = W2) := ⟨_, rfl⟩
        have hfx : (flat [x]).length = 7 := rfl
        have HC2 : Hid (∀ ty dc, (Builtin.copy_ #[40, 40] ty #[.slice (some ⟨g, i * 7, none⟩) (l.length + 1 - i) dc, .slice (some ⟨a, 0, none⟩) 1 1]).run Try.prog W1 = .ok (goInt (1 : Nat)) W2) := fun ty dc => by
          rw [← HW2.out]
          have k := run_copy_k (P := Try.prog) W1 40 40 ty 29 7 g (i * 7) (l.length + 1 - i) dc ⟨a, 0, none⟩ 1 1 1 (over cur.toList ((i + 1) * 7) ((flat l).drop (i * 7))).toArray 29 (flat [x]) Try.underlying40 (by kernel_rfl) HG1.out (by simp only [Nat.min_def]; split <;> omega) hfx
            (fun j v hj => cells_of_block (HX1.out.trans HX.out) j v (by simpa [flat, Enc.cells] using hj))
            (by rw [hfx]; have := HL1.out; simp at this ⊢; omega) (flat_one [x])
          exact k
        have HR : Hid ((over (over cur.toList ((i + 1) * 7) ((flat l).drop (i * 7))) (i * 7) (flat [x])).take ((l.length + 1) * 7) = flat (l.take i ++ x :: l.drop i) ∧ (over (over cur.toList ((i + 1) * 7) ((flat l).drop (i * 7))) (i * 7) (flat [x])).length = cap * 7) := by
          have k := over_room cur.toList (flat l) (flat [x]) (i * 7) (l.length * 7) HT.out (by omega) (by rw [hfx]; have := HS.out; omega)
          rw [hfx] at k
          have e1 : (i + 1) * 7 = i * 7 + 7 := by omega
          have e2 : (l.length + 1) * 7 = l.length * 7 + 7 := by omega
          rw [e1, e2]
          refine ⟨k.1.trans ?_, k.2.trans HS.out⟩
          have f1 := flat_take l i
          have f2 := flat_drop l i hi
          rw [show Enc.sz Hd = 7 from rfl] at f1 f2
          rw [show l.take i ++ x :: l.drop i = l.take i ++ ([x] ++ l.drop i) by simp, flat_append, flat_append, f1, f2, List.append_assoc]
        have HF : Hid (Fr (fun k => (Value.slice (some (⟨g, 0, none⟩ : Addr)) l.length cap).ownBlock = some k) w W2) := by
          rw [← HW2.out, ← HW1.out]
          exact ⟨rfl, rfl, rfl, by simp, fun k hk hs => ((setRow_other _ g k _ (fun e => hs (by rw [e]; rfl))).trans (setRow_other _ g k _ (fun e => hs (by rw [e]; rfl))))⟩
        have HO2 : Hid (OwnF W2 base 29 (.slice (some ⟨g, 0, none⟩) (l.length + 1) cap) (l.take i ++ x :: l.drop i)) := by
          have hll : (l.take i ++ x :: l.drop i).length = l.length + 1 := by simp; omega
          refine ⟨by rw [flat_length], ?_⟩
          rw [hll]
          refine .inr ⟨g, cap, _, rfl, hbg, (by rw [← HW2.out]; exact setRow_heap W1 g _ _ 29 (0, 0) HG1.out), hroom, HM.out, (by have := HR.out.2; rw [h7]; simpa using this), ?_⟩
          exact HR.out.1
        go_wp2_with (simp only [hov])
        clear hov
        refine wp_region_held_drew (S := (fun _ : World => True)) (by kernel_rfl) trivial (fun hHeld => ?_)
        refine wpAnyH_take (i := 0) (oi := _) (v := ?_) (by rw [List.getElem?_toArray]; rfl) (by kernel_rfl) (by kernel_rfl) (by kernel_rfl) (fun _ _ _ h => by exact h) (Or.inl ⟨by rfl, ?_⟩) (by assumption) ?_
        rotate_left
        · (intro w hSw; (try dsimp only at hSw); go_simp; (try with_reducible rfl))
        try simp only [Act.put, List.setIfInBounds_toArray, List.set_cons_zero, List.set_cons_succ]
        refine wpAnyH_take (i := 1) (oi := _) (v := ?_) (by rw [List.getElem?_toArray]; rfl) (by kernel_rfl) (by kernel_rfl) (by kernel_rfl) (fun _ _ _ h => by exact h) (Or.inl ⟨by rfl, ?_⟩) (by assumption) ?_
        rotate_left
        · (intro w hSw; (try dsimp only at hSw); go_simp; (try with_reducible rfl))
        try simp only [Act.put, List.setIfInBounds_toArray, List.set_cons_zero, List.set_cons_succ]
        refine wpAnyH_take (i := 2) (oi := _) (v := ?_) (by rw [List.getElem?_toArray]; rfl) (by kernel_rfl) (by kernel_rfl) (by kernel_rfl) (fun _ _ _ h => by exact h) (Or.inl ⟨by rfl, ?_⟩) (by assumption) ?_
        rotate_left
        · (intro w hSw; (try dsimp only at hSw); go_simp; (try with_reducible rfl))
        try simp only [Act.put, List.setIfInBounds_toArray, List.set_cons_zero, List.set_cons_succ]
        refine wpAnyH_take (i := 3) (oi := _) (v := ?_) (by rw [List.getElem?_toArray]; rfl) (by kernel_rfl) (by kernel_rfl) (by kernel_rfl) (fun _ _ _ h => by exact h) (Or.inl ⟨by rfl, ?_⟩) (by assumption) ?_
        rotate_left
        · (intro w hSw; (try dsimp only at hSw); go_simp; (try with_reducible rfl))
        try simp only [Act.put, List.setIfInBounds_toArray, List.set_cons_zero, List.set_cons_succ]
        refine wpAnyH_take (i := 4) (oi := _) (v := ?_) (by rw [List.getElem?_toArray]; rfl) (by kernel_rfl) (by kernel_rfl) (by kernel_rfl) (fun _ _ _ h => by exact h) (Or.inl ⟨by rfl, ?_⟩) (by assumption) ?_
        rotate_left
        · (intro w hSw; (try dsimp only at hSw); go_simp; (try with_reducible rfl))
        try simp only [Act.put, List.setIfInBounds_toArray, List.set_cons_zero, List.set_cons_succ]
        refine wpAnyH_take (i := 5) (oi := _) (v := ?_) (by rw [List.getElem?_toArray]; rfl) (by kernel_rfl) (by kernel_rfl) (by kernel_rfl) (fun _ _ _ h => by exact h) (Or.inl ⟨by rfl, ?_⟩) (by assumption) ?_
        rotate_left
        · (intro w hSw; (try dsimp only at hSw); go_simp; (try with_reducible rfl))
        try simp only [Act.put, List.setIfInBounds_toArray, List.set_cons_zero, List.set_cons_succ]
        refine wpAnyH_take (i := 6) (oi := _) (v := ?_) (by rw [List.getElem?_toArray]; rfl) (by kernel_rfl) (by kernel_rfl) (by kernel_rfl) (fun _ _ _ h => by exact h) (Or.inl ⟨by rfl, ?_⟩) (by assumption) ?_
        rotate_left
        · (intro w hSw; (try dsimp only at hSw); go_simp; (try with_reducible rfl))
        try simp only [Act.put, List.setIfInBounds_toArray, List.set_cons_zero, List.set_cons_succ]
        refine wpAnyH_take (i := 7) (oi := _) (v := ?_) (by rw [List.getElem?_toArray]; rfl) (by kernel_rfl) (by kernel_rfl) (by kernel_rfl) (fun _ _ _ h => by exact h) (Or.inl ⟨by rfl, ?_⟩) (by assumption) ?_
        rotate_left
        · (intro w hSw; (try dsimp only at hSw); go_simp; (try with_reducible rfl))
        try simp only [Act.put, List.setIfInBounds_toArray, List.set_cons_zero, List.set_cons_succ]
        refine wpAnyH_ready (rs := [8]) (by kernel_rfl) (by simp) ?_
        refine AllReadyH.cons (o := _) (by rw [List.getElem?_toArray]; rfl) (fun K hK => ?_) ?_
        · refine if_step rfl ?_
          refine wp_copy_eq _ (.tmp 73) (.tmp 76) 40 40 rfl _ _ rfl rfl (HC1.out _ _ _) ?_
          refine hK.out _ _ trivial (fun hHeld => ?_)
          clear hK K
          try simp only [Act.put, List.setIfInBounds_toArray, List.set_cons_zero, List.set_cons_succ]
          refine wpAnyH_done (by kernel_rfl) ?_ _
          go_wp2_with (refine wpList_copy_eq _ rfl (.tmp 80) (.tmp 81) 40 40 rfl _ _ rfl rfl (HC2.out _ _) ?_)
          go_wp2
          go_ret
          exact ⟨_, _, rfl, HO2.out, HF.out, .inl rfl⟩
        exact AllReadyH.nil
      · have n11 : (cap : Int) < (l.length : Int) + 1 := by omega
        have hcn : cap = l.length := by omega
        subst hcn
        have n12 : IntKind.i64.wrap ((l.length : Int) + 1) = (l.length : Int) + 1 := by rw [IntKind.wrap_i64]; omega
        have n13 : IntKind.i64.wrap ((l.length : Int) + 1 - (i : Int)) = ((l.length + 1 - i : Nat) : Int) := by rw [IntKind.wrap_i64]; omega
        have n14 : (l.length : Int) + 1 - (i : Int) = ((l.length + 1 - i : Nat) : Int) := by omega
        obtain ⟨nf, hnf, hz0, hz1, hz2⟩ := info_parts Try.info29
        have hfx : (flat [x]).length = 7 := rfl
        have hold : (Builtin.firstCells nf.size i (.slice (some ⟨g, 0, none⟩) i l.length)).run Try.prog w.drew = .ok ((flat l).take (i * 7)).toArray w.drew := by
          rw [hz1]
          exact run_firstCells_some w.drew 7 i ⟨g, 0, none⟩ i l.length ((flat l).take (i * 7)) (by rw [List.length_take, HFL.out]; omega) (fun j v hj => by
            rw [add_lit, Nat.zero_add, show w.drew.cell? ⟨g, j, none⟩ = w.cell? ⟨g, j, none⟩ from rfl, cell_of_row w g _ cur 29 (0, 0) HG.out]
            rw [← HT.out, List.take_take, List.getElem?_take] at hj
            split at hj
            · simpa using hj
            · cases hj)
        have happ := fun ty => Lib.run_append_grow_zeros (P := Try.prog) w 40 3 ty 29 nf _ .i64 .i64 Try.underlying40 Try.underlying3 hnf hz0 (some ⟨g, 0, none⟩) i l.length ((flat l).take (i * 7)) hold (l.length + 1 - i) (by omega) (by rw [hz1]; omega) (by omega) (by omega) (by rw [hz2]; omega) (by rw [hz2]; exact growslice_fits_wide (by omega) (by omega))
        have hsum : i + (l.length + 1 - i) = l.length + 1 := by omega
        rw [hsum] at happ
        obtain ⟨C2, HC2⟩ : ∃ C2, Hid (grownCap w (l.length + 1) l.length 29 = C2) := ⟨_, rfl⟩
        rw [HC2.out] at happ
        have HC2b : Hid (l.length + 1 ≤ C2 ∧ C2 ≤ maxLen) := ⟨by rw [← HC2.out]; exact grownCap_ge _ _ _ _, by rw [← HC2.out]; exact grownCap_le_maxLen _ _ _ _ (by unfold maxLen; omega)⟩
        obtain ⟨NC, HNC⟩ : ∃ NC : Array Value, Hid ((((flat l).take (i * 7)).toArray ++ Builtin.zeroCells (Value.agg #[.int .u64 0, .int .u64 0, .int .u64 0, .slice none 0 0, .slice none 0 0, .slice none 0 0, .slice none 0 0]).cells (l.length + 1 - i) ++ Builtin.zeroCells (Value.agg #[.int .u64 0, .int .u64 0, .int .u64 0, .slice none 0 0, .slice none 0 0, .slice none 0 0, .slice none 0 0]).cells (C2 - (l.length + 1))) = NC) := ⟨_, rfl⟩
        rw [HNC.out] at happ
        have HNT : Hid (NC.toList.take (i * 7) = (flat l).take (i * 7)) := (show _ = _ by
          rw [← HNC.out]
          simp only [Array.toList_append, List.append_assoc]
          rw [List.take_append_of_le_length (by simp only [List.length_take, HFL.out]; omega), List.take_take, Nat.min_self])
        have HNS : Hid (NC.toList.length = C2 * 7) := (show _ = _ by
          rw [← HNC.out]
          have e0 : ∀ n, (Builtin.zeroCells (Value.agg #[.int .u64 0, .int .u64 0, .int .u64 0, .slice none 0 0, .slice none 0 0, .slice none 0 0, .slice none 0 0]).cells n).size = n * 7 := fun n => by simp [Builtin.zeroCells, Value.cells]
          have := HC2b.out.1
          simp only [Array.toList_append, List.length_append, Array.length_toList, e0, List.length_take, HFL.out]
          omega)
        obtain ⟨W0, HW0⟩ : ∃ W0, Hid (w.drew.alloc (.cells NC 29) = W0) := ⟨_, rfl⟩
        rw [HW0.out] at happ
        have HAP : Hid (∀ ty, (Builtin.append_ #[40, 3] ty #[.slice (some ⟨g, 0, none⟩) i l.length, .int .i64 ((l.length + 1 - i : Nat) : Int)]).run Try.prog w = .ok (.slice (some ⟨w.heap.size, 0, none⟩) (l.length + 1) C2) W0) := happ
        have HG0 : Hid (W0.heap[w.heap.size]? = some (.cells NC 29 (0, 0))) := (show _ = _ by rw [← HW0.out]; exact heap_alloc_new w.drew _)
        have FW0 : Hid (Fr (fun _ => False) w W0) := (show Fr _ _ _ by rw [← HW0.out]; exact (Fr.refl _ w).drew.alloc _)
        have HGL : Hid (g < w.heap.size ∧ a < w.heap.size) := ⟨(Array.getElem?_eq_some_iff.1 HG.out).1, (Array.getElem?_eq_some_iff.1 HX.out).1⟩
        obtain ⟨g2, Hg2⟩ : ∃ g2, Hid (w.heap.size = g2) := ⟨_, rfl⟩
        rw [Hg2.out] at HAP HG0
        obtain ⟨W1, HW1⟩ : ∃ W1, Hid (W0.setRow g2 (over NC.toList (i * 7) (flat [x])).toArray = W1) := ⟨_, rfl⟩
        have HCA : Hid (∀ ty dc, (Builtin.copy_ #[40, 40] ty #[.slice (some ⟨g2, i * 7, none⟩) (l.length + 1 - i) dc, .slice (some ⟨a, 0, none⟩) 1 1]).run Try.prog W0 = .ok (goInt (1 : Nat)) W1) := fun ty dc => by
          rw [← HW1.out]
          exact run_copy_k (P := Try.prog) W0 40 40 ty 29 7 g2 (i * 7) (l.length + 1 - i) dc ⟨a, 0, none⟩ 1 1 1 NC 29 (flat [x]) Try.underlying40 (by kernel_rfl) HG0.out (by simp only [Nat.min_def]; split <;> omega) hfx
            (fun j v hj => cells_of_block ((FW0.out.block a HGL.out.2 (fun h => h)).trans HX.out) j v (by simpa [flat, Enc.cells] using hj))
            (by rw [hfx]; have := HNS.out; have := HC2b.out.1; simp at *; omega) (flat_one [x])
        have HG1 : Hid (W1.heap[g2]? = some (.cells (over NC.toList (i * 7) (flat [x])).toArray 29 (0, 0))) := (show _ = _ by rw [← HW1.out]; exact setRow_heap W0 g2 NC _ 29 (0, 0) HG0.out)
        have HL1 : Hid ((over NC.toList (i * 7) (flat [x])).length = C2 * 7) := (show _ = _ by rw [over_len _ _ _ (by rw [hfx]; have := HNS.out; have := HC2b.out.1; omega)]; exact HNS.out)
        have HGW1 : Hid (W1.heap[g]? = some (.cells cur 29 (0, 0))) := (show _ = _ by rw [← HW1.out]; exact (setRow_other W0 g2 g _ (by have := Hg2.out; have := HGL.out; omega)).trans ((FW0.out.block g HGL.out.1 (fun h => h)).trans HG.out))
        obtain ⟨W2, HW2⟩ : ∃ W2, Hid (W1.drew.setRow g2 (over (over NC.toList (i * 7) (flat [x])) ((i + 1) * 7) ((flat l).drop (i * 7))).toArray = W2) := ⟨_, rfl⟩
        have HCB : Hid (∀ ty dc sc, (Builtin.copy_ #[40, 40] ty #[.slice (some ⟨g2, (i + 1) * 7, none⟩) (l.length - i) dc, .slice (some ⟨g, i * 7, none⟩) (l.length - i) sc]).run Try.prog W1.drew = .ok (goInt (l.length - i : Nat)) W2) := fun ty dc sc => by
          rw [← HW2.out]
          exact run_copy_k W1.drew 40 40 ty 29 7 g2 ((i + 1) * 7) (l.length - i) dc ⟨g, i * 7, none⟩ (l.length - i) sc (l.length - i) (over NC.toList (i * 7) (flat [x])).toArray 29 ((flat l).drop (i * 7)) Try.underlying40 (by kernel_rfl) HG1.out (by simp only [Nat.min_def]; split <;> omega) (by rw [List.length_drop, HFL.out]; omega)
            (fun j v hj => by
              rw [add_lit, show W1.drew.cell? ⟨g, i * 7 + j, none⟩ = W1.cell? ⟨g, i * 7 + j, none⟩ from rfl, cell_of_row W1 g _ cur 29 (0, 0) HGW1.out]
              rw [List.getElem?_drop, ← HT.out, List.getElem?_take] at hj
              split at hj
              · simpa using hj
              · cases hj)
            (by rw [List.length_drop, HFL.out]; have := HL1.out; have := HC2b.out.1; simp at *; omega) (fun v hv => flat_one l v (List.mem_of_mem_drop hv))
        have HR : Hid ((over (over NC.toList (i * 7) (flat [x])) ((i + 1) * 7) ((flat l).drop (i * 7))).take ((l.length + 1) * 7) = flat (l.take i ++ x :: l.drop i) ∧ (over (over NC.toList (i * 7) (flat [x])) ((i + 1) * 7) ((flat l).drop (i * 7))).length = C2 * 7) := by
          have k := over_grow NC.toList (flat l) (flat [x]) (i * 7) (l.length * 7) HFL.out HNT.out (by omega) (by rw [hfx]; have := HNS.out; have := HC2b.out.1; omega)
          rw [hfx] at k
          have e1 : (i + 1) * 7 = i * 7 + 7 := by omega
          have e2 : (l.length + 1) * 7 = l.length * 7 + 7 := by omega
          rw [e1, e2]
          refine ⟨k.1.trans ?_, k.2.trans HNS.out⟩
          have f1 := flat_take l i
          have f2 := flat_drop l i hi
          rw [show Enc.sz Hd = 7 from rfl] at f1 f2
          rw [show l.take i ++ x :: l.drop i = l.take i ++ ([x] ++ l.drop i) by simp, flat_append, flat_append, f1, f2, List.append_assoc]
        have HF : Hid (Fr (fun k => (Value.slice (some (⟨g, 0, none⟩ : Addr)) l.length l.length).ownBlock = some k) w W2) := by
          rw [← HW2.out, ← HW1.out]
          exact ⟨FW0.out.os, FW0.out.tape, FW0.out.output, by have := FW0.out.size; simpa using this, fun k hk hs => ((setRow_other _ g2 k _ (by have := Hg2.out; omega)).trans (setRow_other _ g2 k _ (by have := Hg2.out; omega))).trans (FW0.out.block k hk (fun h => h))⟩
        have HO2 : Hid (OwnF W2 base 29 (.slice (some ⟨g2, 0, none⟩) (l.length + 1) C2) (l.take i ++ x :: l.drop i)) := by
          have hll : (l.take i ++ x :: l.drop i).length = l.length + 1 := by simp; omega
          refine ⟨by rw [flat_length], ?_⟩
          rw [hll]
          refine .inr ⟨g2, C2, _, rfl, by have := Hg2.out; omega, (by rw [← HW2.out]; exact setRow_heap W1.drew g2 _ _ 29 (0, 0) HG1.out), HC2b.out.1, HC2b.out.2, (by have := HR.out.2; rw [h7]; simpa using this), ?_⟩
          exact HR.out.1
        have m1 : ¬ (C2 = i) := by have := HC2b.out.1; omega
        have m2 : ¬ (C2 = i + 1) := by have := HC2b.out.1; omega
        have m3 : (l.length : Int) + 1 ≤ (C2 : Int) := by have := HC2b.out.1; omega
        have m4 : (i : Int) + 1 ≤ (l.length : Int) + 1 := by omega
        clear hold happ n13
        go_enter Try.func55, Try.ntmps55
        go_wp2_with (first | (at_builtin; refine Lib.wpList_append_run _ rfl _ _ _ _ rfl _ _ rfl rfl _ _ (HAP.out _) ?_) | (refine wpList_copy_eq _ rfl (.tmp 43) (.tmp 44) 40 40 rfl _ _ rfl rfl (HCA.out _ _) ?_))
        refine wp_region_held_drew (S := (fun _ : World => True)) (by kernel_rfl) trivial (fun hHeld => ?_)
        refine wpAnyH_take (i := 0) (oi := _) (v := ?_) (by rw [List.getElem?_toArray]; rfl) (by kernel_rfl) (by kernel_rfl) (by kernel_rfl) (fun _ _ _ h => by exact h) (Or.inl ⟨by rfl, ?_⟩) (by assumption) ?_
        rotate_left
        · (intro w hSw; (try dsimp only at hSw); go_simp; (try with_reducible rfl))
        try simp only [Act.put, List.setIfInBounds_toArray, List.set_cons_zero, List.set_cons_succ]
        refine wpAnyH_take (i := 1) (oi := _) (v := ?_) (by rw [List.getElem?_toArray]; rfl) (by kernel_rfl) (by kernel_rfl) (by kernel_rfl) (fun _ _ _ h => by exact h) (Or.inl ⟨by rfl, ?_⟩) (by assumption) ?_
        rotate_left
        · (intro w hSw; (try dsimp only at hSw); go_simp; (try with_reducible rfl))
        try simp only [Act.put, List.setIfInBounds_toArray, List.set_cons_zero, List.set_cons_succ]
        refine wpAnyH_take (i := 2) (oi := _) (v := ?_) (by rw [List.getElem?_toArray]; rfl) (by kernel_rfl) (by kernel_rfl) (by kernel_rfl) (fun _ _ _ h => by exact h) (Or.inl ⟨by rfl, ?_⟩) (by assumption) ?_
        rotate_left
        · (intro w hSw; (try dsimp only at hSw); go_simp; (try with_reducible rfl))
        try simp only [Act.put, List.setIfInBounds_toArray, List.set_cons_zero, List.set_cons_succ]
        refine wpAnyH_take (i := 3) (oi := _) (v := ?_) (by rw [List.getElem?_toArray]; rfl) (by kernel_rfl) (by kernel_rfl) (by kernel_rfl) (fun _ _ _ h => by exact h) (Or.inl ⟨by rfl, ?_⟩) (by assumption) ?_
        rotate_left
        · (intro w hSw; (try dsimp only at hSw); go_simp; (try with_reducible rfl))
        try simp only [Act.put, List.setIfInBounds_toArray, List.set_cons_zero, List.set_cons_succ]
        refine wpAnyH_take (i := 4) (oi := _) (v := ?_) (by rw [List.getElem?_toArray]; rfl) (by kernel_rfl) (by kernel_rfl) (by kernel_rfl) (fun _ _ _ h => by exact h) (Or.inl ⟨by rfl, ?_⟩) (by assumption) ?_
        rotate_left
        · (intro w hSw; (try dsimp only at hSw); go_simp; (try with_reducible rfl))
        try simp only [Act.put, List.setIfInBounds_toArray, List.set_cons_zero, List.set_cons_succ]
        refine wpAnyH_take (i := 5) (oi := _) (v := ?_) (by rw [List.getElem?_toArray]; rfl) (by kernel_rfl) (by kernel_rfl) (by kernel_rfl) (fun _ _ _ h => by exact h) (Or.inl ⟨by rfl, ?_⟩) (by assumption) ?_
        rotate_left
        · (intro w hSw; (try dsimp only at hSw); go_simp; (try with_reducible rfl))
        try simp only [Act.put, List.setIfInBounds_toArray, List.set_cons_zero, List.set_cons_succ]
        refine wpAnyH_take (i := 6) (oi := _) (v := ?_) (by rw [List.getElem?_toArray]; rfl) (by kernel_rfl) (by kernel_rfl) (by kernel_rfl) (fun _ _ _ h => by exact h) (Or.inl ⟨by rfl, ?_⟩) (by assumption) ?_
        rotate_left
        · (intro w hSw; (try dsimp only at hSw); go_simp; (try with_reducible rfl))
        try simp only [Act.put, List.setIfInBounds_toArray, List.set_cons_zero, List.set_cons_succ]
        refine wpAnyH_take (i := 7) (oi := _) (v := ?_) (by rw [List.getElem?_toArray]; rfl) (by kernel_rfl) (by kernel_rfl) (by kernel_rfl) (fun _ _ _ h => by exact h) (Or.inl ⟨by rfl, ?_⟩) (by assumption) ?_
        rotate_left
        · (intro w hSw; (try dsimp only at hSw); go_simp; (try with_reducible rfl))
        try simp only [Act.put, List.setIfInBounds_toArray, List.set_cons_zero, List.set_cons_succ]
        refine wpAnyH_ready (rs := [8]) (by kernel_rfl) (by simp) ?_
        refine AllReadyH.cons (o := _) (by rw [List.getElem?_toArray]; rfl) (fun K hK => ?_) ?_
        · refine if_step rfl ?_
          refine wp_copy_eq _ (.tmp 50) (.tmp 53) 40 40 rfl _ _ rfl rfl (HCB.out _ _ _) ?_
          refine hK.out _ _ trivial (fun hHeld => ?_)
          clear hK K
          try simp only [Act.put, List.setIfInBounds_toArray, List.set_cons_zero, List.set_cons_succ]
          refine wpAnyH_done (by kernel_rfl) ?_ _
          go_wp2
          go_ret
          exact ⟨_, _, rfl, HO2.out, HF.out, .inr ⟨g2, rfl, by rw [Hg2.out]; exact Nat.le_refl _⟩⟩
        exact AllReadyH.nil
end Go.Proofs.Ytaalkhipncbjpaa
