/- A table of locks: a first hold is taken, and told; nil tables. -/
import Derived.Test.YtaalkhipncbjpaaLocC
namespace Go.Proofs.Ytaalkhipncbjpaa
open Go.RowKit
attribute [local go_sem] run_store_float
theorem Try.info29 : (Try.prog.info? 29).map (fun i => (i.zero, i.size, i.bytes)) = some (some (.agg #[.int .u64 0, .int .u64 0, .int .u64 0, .slice none 0 0, .slice none 0 0, .slice none 0 0, .slice none 0 0]), 7, 120) := by kernel_rfl
set_option maxRecDepth 100000 in
set_option maxHeartbeats 2000000 in
theorem insert_one (s q e0 : Nat) (pa : Option Addr) (pn pc : Nat) (da : Option Addr) (dn dc : Nat) (a : Nat) (w : World) (h : C7 w a (.int .u64 (s : Int)) (.int .u64 (q : Int)) (.int .u64 (e0 : Int)) (.slice none 0 0) (.slice none 0 0) (.slice pa pn pc) (.slice da dn dc)) : Calls Try.prog 55 #[.slice none 0 0, .int .i64 0, .slice (some ⟨a, 0, none⟩) 1 1] w fun e w' => ∃ g cp, e = .returned (.slice (some ⟨g, 0, none⟩) 1 cp) ∧ w.heap.size ≤ g ∧ C7 w' g (.int .u64 (s : Int)) (.int .u64 (q : Int)) (.int .u64 (e0 : Int)) (.slice none 0 0) (.slice none 0 0) (.slice pa pn pc) (.slice da dn dc) ∧ Fr (fun _ => False) w w' := by
  obtain ⟨i, hi, hz0, hz1, hz2⟩ := info_parts Try.info29
  have hnews : ∀ j u, [.int .u64 (s : Int), .int .u64 (q : Int), .int .u64 (e0 : Int), .slice none 0 0, .slice none 0 0, .slice pa pn pc, .slice da dn dc][j]? = some u → w.cell? ((⟨a, 0, none⟩ : Addr).add j) = some u := fun j u hj => by
    rw [show (⟨a, 0, none⟩ : Addr).add j = ⟨a, j, none⟩ from by unfold Addr.add; split <;> simp_all]
    obtain ⟨c0, c1, c2, c3, c4, c5, c6⟩ := h
    have hlt : j < 7 := (List.getElem?_eq_some_iff.1 hj).1
    match j, hlt with
    | 0, _ => cases hj; exact c0
    | 1, _ => cases hj; exact c1
    | 2, _ => cases hj; exact c2
    | 3, _ => cases hj; exact c3
    | 4, _ => cases hj; exact c4
    | 5, _ => cases hj; exact c5
    | 6, _ => cases hj; exact c6
  have HN : Hid _ := hnews
  clear hnews h
  go_enter Try.func55, Try.ntmps55
  go_wp2_with (refine wpList_append_own _ rfl _ _ 40 rfl w.heap.size 29 i (.agg #[.int .u64 0, .int .u64 0, .int .u64 0, .slice none 0 0, .slice none 0 0, .slice none 0 0, .slice none 0 0]) 7 120 Try.underlying40 hi hz0 hz1 hz2 rfl (by decide) _ _ _ rfl (World.ownsRow_nil _ _ _ _) ⟨a, 0, none⟩ 1 1 [.int .u64 (s : Int), .int .u64 (q : Int), .int .u64 (e0 : Int), .slice none 0 0, .slice none 0 0, .slice pa pn pc, .slice da dn dc] rfl rfl HN.out (by simp; exact ⟨rfl, rfl, rfl, rfl, rfl, rfl⟩) (by unfold maxLen; omega) (by omega) (by omega) ?_)
  intro v' w' ho hg hnil
  have f1 : Fr (fun _ => False) w w' := (Fr.refl (fun _ => False) w).grown hg (fun j hj => by simp [Value.ownBlock] at hj)
  rcases ho with ⟨_, ⟨rfl, h0⟩ | ⟨g, cp, cur, rfl, hbg, hgg, hn, hm, hs, ht⟩⟩
  · cases h0
  · have hc : ∀ j u, j < 7 → [.int .u64 (s : Int), .int .u64 (q : Int), .int .u64 (e0 : Int), .slice none 0 0, .slice none 0 0, .slice pa pn pc, .slice da dn dc][j]? = some u → w'.cell? ⟨g, j, none⟩ = some u := fun j u hlt hj => by
      rw [cell_of_row w' _ j cur 29 (0, 0) hgg]
      have : [.int .u64 (s : Int), .int .u64 (q : Int), .int .u64 (e0 : Int), .slice none 0 0, .slice none 0 0, .slice pa pn pc, .slice da dn dc][j]? = (List.take (1 * 7) cur.toList)[j]? := by rw [ht]
      rw [← hj, this, List.getElem?_take, if_pos (by omega)]
      simp
    have HC : Hid (C7 w' g (.int .u64 (s : Int)) (.int .u64 (q : Int)) (.int .u64 (e0 : Int)) (.slice none 0 0) (.slice none 0 0) (.slice pa pn pc) (.slice da dn dc)) := ⟨hc 0 _ (by omega) rfl, hc 1 _ (by omega) rfl, hc 2 _ (by omega) rfl, hc 3 _ (by omega) rfl, hc 4 _ (by omega) rfl, hc 5 _ (by omega) rfl, hc 6 _ (by omega) rfl⟩
    clear hc
    go_wp2
    go_ret
    exact ⟨g, cp, by simp, hbg, HC.out, f1⟩
set_option maxRecDepth 100000 in
set_option maxHeartbeats 1000000 in
theorem contains_nil (fv : Value) (w : World) : Calls Try.prog 52 #[.slice none 0 0, fv] w fun e w' => e = .returned (.bool false) ∧ w' = w := by
  go_enter Try.func52, Try.ntmps52
  go_wp2_with (go_at_call 89; go_in)
  refine wp_loop_rounds 1 ?_
  rw [rounds_succ]
  go_wp2
  go_ret
  exact ⟨rfl, rfl⟩
set_option maxRecDepth 100000 in
set_option maxHeartbeats 8000000 in
theorem take_first (s q e0 p pc x tb : Nat) (da : Option Addr) (l : List Nat) (dc : Nat) (w : World) (hc : w.cell? ⟨tb, 0, none⟩ = some (.slice none 0 0)) (hz : w.frozen? ⟨tb, 0, none⟩ = false) (hp : w.cell? ⟨p, 0, none⟩ = some (.float .f64 x)) (hd : Row w da l dc) (hl : l.length ≤ 1000) :
    Calls Try.prog 23 #[.pointer (some ⟨tb, 0, none⟩), .agg #[.int .u64 (s : Int), .int .u64 (q : Int), .int .u64 (e0 : Int), .slice none 0 0, .slice none 0 0, .slice (some ⟨p, 0, none⟩) 1 pc, .slice da l.length dc]] w fun e w' => e = .returned (.int .i64 0) ∧ (∃ g cp pg gc a1 c1, w'.cell? ⟨tb, 0, none⟩ = some (.slice (some ⟨g, 0, none⟩) 1 cp) ∧ w.heap.size ≤ g ∧ w.heap.size ≤ pg ∧ (∀ a, a1 = some a → w.heap.size ≤ a.block) ∧ C7 w' g (.int .u64 (s : Int)) (.int .u64 (q : Int)) (.int .u64 (e0 : Int)) (.slice none 0 0) (.slice none 0 0) (.slice (some ⟨pg, 0, none⟩) 1 gc) (.slice a1 l.length c1) ∧ w'.cell? ⟨pg, 0, none⟩ = some (.float .f64 x) ∧ Row w' a1 l c1) ∧ Fr (fun k => k = tb) w w' := by
  have HTL : Hid (tb < w.heap.size) := World.block_lt_of_cell? _ _ hc
  have HTZ : Hid (w.frozen? ⟨tb, 0, none⟩ = false) := hz
  have F0 : Hid (Fr (fun _ => False) w (w.alloc (.cells #[.int .u64 (s : Int), .int .u64 (q : Int), .int .u64 (e0 : Int), .slice none 0 0, .slice none 0 0, .slice (some ⟨p, 0, none⟩) 1 pc, .slice da l.length dc] 29))) := (Fr.refl (fun _ => False) w).alloc _
  have c0 := F0.out.cell hc (by simp)
  have HB : Hid (Z7 (w.alloc (.cells #[.int .u64 (s : Int), .int .u64 (q : Int), .int .u64 (e0 : Int), .slice none 0 0, .slice none 0 0, .slice (some ⟨p, 0, none⟩) 1 pc, .slice da l.length dc] 29)) w.heap.size (.int .u64 (s : Int)) (.int .u64 (q : Int)) (.int .u64 (e0 : Int)) (.slice none 0 0) (.slice none 0 0) (.slice (some ⟨p, 0, none⟩) 1 pc) (.slice da l.length dc)) := Z7.new w 29 _ _ _ _ _ _ _
  have KP : Hid (∀ W, Fr (fun _ => False) w W → Calls Try.prog 50 #[.pointer (some ⟨tb, 0, none⟩), .agg #[.int .u64 (s : Int), .int .u64 (q : Int)]] W fun e w' => e = .returned (.tuple #[.int .i64 0, .bool false]) ∧ Fr (fun _ => False) W w') := fun W f => place_gen s q tb none 0 0 false W (f.cell hc (by simp)) (fun W2 _ => search_nil s q W2)
  have KOO : Hid (∀ W, Fr (fun _ => False) w W → Calls Try.prog 54 #[.agg #[.int .u64 (s : Int), .int .u64 (q : Int), .int .u64 (e0 : Int), .slice none 0 0, .slice none 0 0, .slice (some ⟨p, 0, none⟩) 1 pc, .slice da l.length dc]] W fun e w' => ∃ g gc a1 c1, e = .returned (.agg #[.int .u64 (s : Int), .int .u64 (q : Int), .int .u64 (e0 : Int), .slice none 0 0, .slice none 0 0, .slice (some ⟨g, 0, none⟩) 1 gc, .slice a1 l.length c1]) ∧ W.heap.size ≤ g ∧ w'.cell? ⟨g, 0, none⟩ = some (.float .f64 x) ∧ Row w' a1 l c1 ∧ (∀ a, a1 = some a → W.heap.size ≤ a.block) ∧ Fr (fun _ => False) W w') := fun W f => own_any s q e0 p pc x da l dc W (f.cell hp (by simp)) (f.row hd (by simp)) hl
  have HTC0 : Hid (w.cell? ⟨tb, 0, none⟩ = some (.slice none 0 0)) := hc
  clear hc hz hp hd
  go_enter Try.func23, Try.ntmps23
  go_wp2_with fail
  refine (contains_nil _ _).mono ?_
  rintro e w1 ⟨rfl, rfl⟩
  obtain ⟨k0, k1, _⟩ := HB.out.toC7
  go_wp2_with fail
  refine (KP.out _ F0.out).mono ?_
  rintro e w2 ⟨rfl, f2⟩
  have F2 : Hid (Fr (fun _ => False) w w2) := F0.out.trans f2
  have HF0 : Hid (Fr (fun _ => False) w w2.drew) := F2.out.drew
  have HB0 : Hid (Z7 w2.drew w.heap.size (.int .u64 (s : Int)) (.int .u64 (q : Int)) (.int .u64 (e0 : Int)) (.slice none 0 0) (.slice none 0 0) (.slice (some ⟨p, 0, none⟩) 1 pc) (.slice da l.length dc)) := HB.out.fr f2.drew (by simp)
  have HT0 : Hid (w2.drew.cell? ⟨tb, 0, none⟩ = some (.slice none 0 0)) := HF0.out.cell HTC0.out (by simp)
  have KO : Hid (Calls _ _ _ _ _) := KOO.out w2.drew HF0.out
  obtain ⟨bx, Hbx⟩ : ∃ bx, Hid (w.heap.size = bx) := ⟨_, rfl⟩
  have HBX : Hid (tb < bx) := by have := HTL.out; have := Hbx.out; show _ < _; omega
  rw [Hbx.out] at HB0
  clear f2 k0 k1 c0 KOO KP
  go_wp2_with fail
  rw [Hbx.out]
  refine wp_region_held_drew (S := (fun W : World => C7 W bx (.int .u64 (s : Int)) (.int .u64 (q : Int)) (.int .u64 (e0 : Int)) (.slice none 0 0) (.slice none 0 0) (.slice (some ⟨p, 0, none⟩) 1 pc) (.slice da l.length dc))) (by kernel_rfl) HB0.out.toC7 (fun hHeld => ?_)
  refine wpAnyH_take (i := 0) (oi := _) (v := ?_) (by rw [List.getElem?_toArray]; rfl) (by kernel_rfl) (by kernel_rfl) (by kernel_rfl) (fun _ _ _ h => by exact h) (Or.inl ⟨by rfl, ?_⟩) (by assumption) ?_
  rotate_left
  · (intro w hSw; (try dsimp only at hSw); go_simp; (try with_reducible rfl))
  try simp only [Act.put, List.setIfInBounds_toArray, List.set_cons_zero, List.set_cons_succ]
  refine wpAnyH_take (i := 1) (oi := _) (v := ?_) (by rw [List.getElem?_toArray]; rfl) (by kernel_rfl) (by kernel_rfl) (by kernel_rfl) (fun _ _ _ h => by exact h) (Or.inl ⟨by rfl, ?_⟩) (by assumption) ?_
  rotate_left
  · (intro w hSw; (try dsimp only at hSw); go_simp; (try with_reducible rfl))
  try simp only [Act.put, List.setIfInBounds_toArray, List.set_cons_zero, List.set_cons_succ]
  refine wpAnyH_take (i := 2) (oi := _) (v := ?_) (by rw [List.getElem?_toArray]; rfl) (by kernel_rfl) (by kernel_rfl) (by kernel_rfl) (fun _ _ _ h => by exact h) (Or.inl ⟨by rfl, ?_⟩) (by assumption) ?_
  rotate_left
  · (intro w hSw; (try dsimp only at hSw); go_simp; (try with_reducible rfl))
  try simp only [Act.put, List.setIfInBounds_toArray, List.set_cons_zero, List.set_cons_succ]
  refine wpAnyH_take (i := 3) (oi := _) (v := ?_) (by rw [List.getElem?_toArray]; rfl) (by kernel_rfl) (by kernel_rfl) (by kernel_rfl) (fun _ _ _ h => by exact h) (Or.inl ⟨by rfl, ?_⟩) (by assumption) ?_
  rotate_left
  · (intro w hSw; (try dsimp only at hSw); go_simp; (try with_reducible rfl))
  try simp only [Act.put, List.setIfInBounds_toArray, List.set_cons_zero, List.set_cons_succ]
  refine wpAnyH_take (i := 5) (oi := _) (v := ?_) (by rw [List.getElem?_toArray]; rfl) (by kernel_rfl) (by kernel_rfl) (by kernel_rfl) (fun _ _ _ h => by exact h) (Or.inl ⟨by rfl, ?_⟩) (by assumption) ?_
  rotate_left
  · (intro w hSw; (try dsimp only at hSw); go_simp; (try with_reducible rfl))
  try simp only [Act.put, List.setIfInBounds_toArray, List.set_cons_zero, List.set_cons_succ]
  refine wpAnyH_take (i := 6) (oi := _) (v := ?_) (by rw [List.getElem?_toArray]; rfl) (by kernel_rfl) (by kernel_rfl) (by kernel_rfl) (fun _ _ _ h => by exact h) (Or.inl ⟨by rfl, ?_⟩) (by assumption) ?_
  rotate_left
  · (intro w hSw; (try dsimp only at hSw); obtain ⟨d0, d1, d2, d3, d4, d5, d6⟩ := hSw; go_simp; (try with_reducible rfl))
  try simp only [Act.put, List.setIfInBounds_toArray, List.set_cons_zero, List.set_cons_succ]
  refine wpAnyH_ready (rs := [4, 7]) (by kernel_rfl) (by simp) ?_
  refine AllReadyH.cons (o := _) (by rw [List.getElem?_toArray]; rfl) (fun K hK => ?_) ?_
  · have ht := HT0.out
    go_simp
    clear ht
    refine hK.out _ _ HB0.out.toC7 (fun hHeld => ?_)
    clear hK K
    try simp only [Act.put, List.setIfInBounds_toArray, List.set_cons_zero, List.set_cons_succ]
    refine wpAnyH_ready (rs := [7]) (by kernel_rfl) (by simp) ?_
    refine AllReadyH.cons (o := _) (by rw [List.getElem?_toArray]; rfl) (fun K hK => ?_) ?_
    · go_simp
      go_wp2_with (go_at_call 54; refine KO.out.mono ?_; rintro e wA ⟨pg, gc, a1, c1, rfl, hgb, hgc, hrb, hfb, fA⟩)
      have FA : Hid (Fr (fun _ => False) w wA) := HF0.out.trans fA
      have HBA : Hid (Z7 wA bx (.int .u64 (s : Int)) (.int .u64 (q : Int)) (.int .u64 (e0 : Int)) (.slice none 0 0) (.slice none 0 0) (.slice (some ⟨p, 0, none⟩) 1 pc) (.slice da l.length dc)) := HB0.out.fr fA (by simp)
      have HTA : Hid (wA.cell? ⟨tb, 0, none⟩ = some (.slice none 0 0)) := fA.cell HT0.out (by simp)
      have HG : Hid (w.heap.size ≤ pg ∧ wA.cell? ⟨pg, 0, none⟩ = some (.float .f64 x) ∧ Row wA a1 l c1 ∧ (∀ a, a1 = some a → w.heap.size ≤ a.block)) := ⟨Nat.le_trans HF0.out.size hgb, hgc, hrb, fun a ha => Nat.le_trans HF0.out.size (hfb a ha)⟩
      clear fA hgb hgc hrb hfb
      refine hK.out _ _ HBA.out.toC7 (fun hHeld => ?_)
      clear hK K
      try simp only [Act.put, List.setIfInBounds_toArray, List.set_cons_zero, List.set_cons_succ]
      refine wpAnyH_ready (rs := [8]) (by kernel_rfl) (by simp) ?_
      refine AllReadyH.cons (o := _) (by rw [List.getElem?_toArray]; rfl) (fun K hK => ?_) ?_
      · go_simp
        refine hK.out _ _ (HBA.out.toC7.fr ((Fr.refl (fun _ => False) wA).alloc _) (by simp)) (fun hHeld => ?_)
        clear hK K
        try simp only [Act.put, List.setIfInBounds_toArray, List.set_cons_zero, List.set_cons_succ]
        have FC : Hid (Fr (fun _ => False) wA (wA.alloc (.cells #[.int .u64 (s : Int), .int .u64 (q : Int), .int .u64 (e0 : Int), .slice none 0 0, .slice none 0 0, .slice (some ⟨pg, 0, none⟩) 1 gc, .slice a1 l.length c1] 29))) := (Fr.refl _ _).alloc _
        have KI : Hid (Calls _ _ _ _ _) := insert_one s q e0 (some ⟨pg, 0, none⟩) 1 gc a1 l.length c1 wA.heap.size (wA.alloc (.cells #[.int .u64 (s : Int), .int .u64 (q : Int), .int .u64 (e0 : Int), .slice none 0 0, .slice none 0 0, .slice (some ⟨pg, 0, none⟩) 1 gc, .slice a1 l.length c1] 29)) (C7.new wA 29 _ _ _ _ _ _ _)
        have HBC : Hid (Z7 (wA.alloc (.cells #[.int .u64 (s : Int), .int .u64 (q : Int), .int .u64 (e0 : Int), .slice none 0 0, .slice none 0 0, .slice (some ⟨pg, 0, none⟩) 1 gc, .slice a1 l.length c1] 29)) bx (.int .u64 (s : Int)) (.int .u64 (q : Int)) (.int .u64 (e0 : Int)) (.slice none 0 0) (.slice none 0 0) (.slice (some ⟨p, 0, none⟩) 1 pc) (.slice da l.length dc)) := HBA.out.fr FC.out (by simp)
        have HTC : Hid ((wA.alloc (.cells #[.int .u64 (s : Int), .int .u64 (q : Int), .int .u64 (e0 : Int), .slice none 0 0, .slice none 0 0, .slice (some ⟨pg, 0, none⟩) 1 gc, .slice a1 l.length c1] 29)).cell? ⟨tb, 0, none⟩ = some (.slice none 0 0)) := FC.out.cell HTA.out (by simp)
        refine wpAnyH_ready (rs := [9]) (by kernel_rfl) (by simp) ?_
        refine AllReadyH.cons (o := _) (by rw [List.getElem?_toArray]; rfl) (fun K hK => ?_) ?_
        · go_simp
          go_wp2_with (go_at_call 55; refine KI.out.mono ?_; rintro e wI ⟨g, cp, rfl, hgs, hg7, fI⟩)
          have FI : Hid (Fr (fun _ => False) w wI) := (FA.out.trans FC.out).trans fI
          have HBI : Hid (Z7 wI bx (.int .u64 (s : Int)) (.int .u64 (q : Int)) (.int .u64 (e0 : Int)) (.slice none 0 0) (.slice none 0 0) (.slice (some ⟨p, 0, none⟩) 1 pc) (.slice da l.length dc)) := HBC.out.fr fI (by simp)
          have HTI : Hid (wI.cell? ⟨tb, 0, none⟩ = some (.slice none 0 0)) := fI.cell HTC.out (by simp)
          have HZI : Hid (wI.frozen? ⟨tb, 0, none⟩ = false) := (FI.out.frozenEq (a := ⟨tb, 0, none⟩) HTL.out (by simp)).trans HTZ.out
          have HGI : Hid (w.heap.size ≤ pg ∧ w.heap.size ≤ g ∧ wI.cell? ⟨pg, 0, none⟩ = some (.float .f64 x) ∧ Row wI a1 l c1 ∧ (∀ a, a1 = some a → w.heap.size ≤ a.block) ∧ C7 wI g (.int .u64 (s : Int)) (.int .u64 (q : Int)) (.int .u64 (e0 : Int)) (.slice none 0 0) (.slice none 0 0) (.slice (some ⟨pg, 0, none⟩) 1 gc) (.slice a1 l.length c1)) := ⟨HG.out.1, Nat.le_trans (FA.out.trans FC.out).size hgs, (FC.out.trans fI).cell HG.out.2.1 (by simp), (FC.out.trans fI).row HG.out.2.2.1 (by simp), HG.out.2.2.2, hg7⟩
          clear hgs hg7 fI
          refine hK.out _ _ HBI.out.toC7 (fun hHeld => ?_)
          clear hK K
          try simp only [Act.put, List.setIfInBounds_toArray, List.set_cons_zero, List.set_cons_succ]
          have ht := HTI.out
          have hz := HZI.out
          refine wpAnyH_take (i := 10) (oi := _) (v := ?_) (by rw [List.getElem?_toArray]; rfl) (by kernel_rfl) (by kernel_rfl) (by kernel_rfl) (fun _ _ _ h => by exact h) (Or.inl ⟨by rfl, ?_⟩) (by assumption) ?_
          rotate_left
          · (intro w hSw; (try dsimp only at hSw); go_simp; (try with_reducible rfl))
          try simp only [Act.put, List.setIfInBounds_toArray, List.set_cons_zero, List.set_cons_succ]
          refine wpAnyH_take (i := 11) (oi := _) (v := ?_) (by rw [List.getElem?_toArray]; rfl) (by kernel_rfl) (by kernel_rfl) (by kernel_rfl) (fun _ _ _ h => by exact h) (Or.inl ⟨by rfl, ?_⟩) (by assumption) ?_
          rotate_left
          · (intro w hSw; (try dsimp only at hSw); go_simp; (try with_reducible rfl))
          try simp only [Act.put, List.setIfInBounds_toArray, List.set_cons_zero, List.set_cons_succ]
          refine wpAnyH_ready (rs := [12]) (by kernel_rfl) (by simp) ?_
          refine AllReadyH.cons (o := _) (by rw [List.getElem?_toArray]; rfl) (fun K hK => ?_) ?_
          · go_simp
            refine hK.out _ _ (HBI.out.toC7.fr ((Fr.refl (fun k => k = tb) wI).setCell (p := ⟨tb, 0, none⟩) (Or.inl rfl) _) (by have := HBX.out; omega)) (fun hHeld => ?_)
            clear hK K
            try simp only [Act.put, List.setIfInBounds_toArray, List.set_cons_zero, List.set_cons_succ]
            refine wpAnyH_done (by kernel_rfl) ?_ _
            have FE : Hid (Fr (fun k => k = tb) wI (wI.setCell ⟨tb, 0, none⟩ (.slice (some ⟨g, 0, none⟩) 1 cp))) := (Fr.refl (fun k => k = tb) wI).setCell (p := ⟨tb, 0, none⟩) (Or.inl rfl) _
            have HC : Hid ((wI.setCell ⟨tb, 0, none⟩ (.slice (some ⟨g, 0, none⟩) 1 cp)).cell? ⟨tb, 0, none⟩ = some (.slice (some ⟨g, 0, none⟩) 1 cp)) := World.cell?_setCell_same _ _ _ ht
            clear ht hz
            go_wp2
            go_ret
            exact ⟨rfl, ⟨g, cp, pg, gc, a1, c1, HC.out, HGI.out.2.1, HGI.out.1, HGI.out.2.2.2.2.1, HGI.out.2.2.2.2.2.fr FE.out (by have := HGI.out.2.1; have := HTL.out; omega), FE.out.cell HGI.out.2.2.1 (show ¬ pg = tb by have := HGI.out.1; have := HTL.out; omega), FE.out.row HGI.out.2.2.2.1 (fun _ a ha e => by have := HGI.out.2.2.2.2.1 a ha; have := HTL.out; omega)⟩, (Fr.mono (T := fun k => k = tb) FI.out (fun _ _ h => h.elim)).trans FE.out⟩
          exact AllReadyH.nil
        exact AllReadyH.nil
      exact AllReadyH.nil
    exact AllReadyH.nil
  refine AllReadyH.cons (o := _) (by rw [List.getElem?_toArray]; rfl) (fun K hK => ?_) ?_
  · go_simp
    go_wp2_with (go_at_call 54; refine KO.out.mono ?_; rintro e wA ⟨pg, gc, a1, c1, rfl, hgb, hgc, hrb, hfb, fA⟩)
    have FA : Hid (Fr (fun _ => False) w wA) := HF0.out.trans fA
    have HBA : Hid (Z7 wA bx (.int .u64 (s : Int)) (.int .u64 (q : Int)) (.int .u64 (e0 : Int)) (.slice none 0 0) (.slice none 0 0) (.slice (some ⟨p, 0, none⟩) 1 pc) (.slice da l.length dc)) := HB0.out.fr fA (by simp)
    have HTA : Hid (wA.cell? ⟨tb, 0, none⟩ = some (.slice none 0 0)) := fA.cell HT0.out (by simp)
    have HG : Hid (w.heap.size ≤ pg ∧ wA.cell? ⟨pg, 0, none⟩ = some (.float .f64 x) ∧ Row wA a1 l c1 ∧ (∀ a, a1 = some a → w.heap.size ≤ a.block)) := ⟨Nat.le_trans HF0.out.size hgb, hgc, hrb, fun a ha => Nat.le_trans HF0.out.size (hfb a ha)⟩
    clear fA hgb hgc hrb hfb
    refine hK.out _ _ HBA.out.toC7 (fun hHeld => ?_)
    clear hK K
    try simp only [Act.put, List.setIfInBounds_toArray, List.set_cons_zero, List.set_cons_succ]
    refine wpAnyH_ready (rs := [4, 8]) (by kernel_rfl) (by simp) ?_
    refine AllReadyH.cons (o := _) (by rw [List.getElem?_toArray]; rfl) (fun K hK => ?_) ?_
    · have ht := HTA.out
      go_simp
      clear ht
      refine hK.out _ _ HBA.out.toC7 (fun hHeld => ?_)
      clear hK K
      try simp only [Act.put, List.setIfInBounds_toArray, List.set_cons_zero, List.set_cons_succ]
      refine wpAnyH_ready (rs := [8]) (by kernel_rfl) (by simp) ?_
      refine AllReadyH.cons (o := _) (by rw [List.getElem?_toArray]; rfl) (fun K hK => ?_) ?_
      · go_simp
        refine hK.out _ _ (HBA.out.toC7.fr ((Fr.refl (fun _ => False) wA).alloc _) (by simp)) (fun hHeld => ?_)
        clear hK K
        try simp only [Act.put, List.setIfInBounds_toArray, List.set_cons_zero, List.set_cons_succ]
        have FC : Hid (Fr (fun _ => False) wA (wA.alloc (.cells #[.int .u64 (s : Int), .int .u64 (q : Int), .int .u64 (e0 : Int), .slice none 0 0, .slice none 0 0, .slice (some ⟨pg, 0, none⟩) 1 gc, .slice a1 l.length c1] 29))) := (Fr.refl _ _).alloc _
        have KI : Hid (Calls _ _ _ _ _) := insert_one s q e0 (some ⟨pg, 0, none⟩) 1 gc a1 l.length c1 wA.heap.size (wA.alloc (.cells #[.int .u64 (s : Int), .int .u64 (q : Int), .int .u64 (e0 : Int), .slice none 0 0, .slice none 0 0, .slice (some ⟨pg, 0, none⟩) 1 gc, .slice a1 l.length c1] 29)) (C7.new wA 29 _ _ _ _ _ _ _)
        have HBC : Hid (Z7 (wA.alloc (.cells #[.int .u64 (s : Int), .int .u64 (q : Int), .int .u64 (e0 : Int), .slice none 0 0, .slice none 0 0, .slice (some ⟨pg, 0, none⟩) 1 gc, .slice a1 l.length c1] 29)) bx (.int .u64 (s : Int)) (.int .u64 (q : Int)) (.int .u64 (e0 : Int)) (.slice none 0 0) (.slice none 0 0) (.slice (some ⟨p, 0, none⟩) 1 pc) (.slice da l.length dc)) := HBA.out.fr FC.out (by simp)
        have HTC : Hid ((wA.alloc (.cells #[.int .u64 (s : Int), .int .u64 (q : Int), .int .u64 (e0 : Int), .slice none 0 0, .slice none 0 0, .slice (some ⟨pg, 0, none⟩) 1 gc, .slice a1 l.length c1] 29)).cell? ⟨tb, 0, none⟩ = some (.slice none 0 0)) := FC.out.cell HTA.out (by simp)
        refine wpAnyH_ready (rs := [9]) (by kernel_rfl) (by simp) ?_
        refine AllReadyH.cons (o := _) (by rw [List.getElem?_toArray]; rfl) (fun K hK => ?_) ?_
        · go_simp
          go_wp2_with (go_at_call 55; refine KI.out.mono ?_; rintro e wI ⟨g, cp, rfl, hgs, hg7, fI⟩)
          have FI : Hid (Fr (fun _ => False) w wI) := (FA.out.trans FC.out).trans fI
          have HBI : Hid (Z7 wI bx (.int .u64 (s : Int)) (.int .u64 (q : Int)) (.int .u64 (e0 : Int)) (.slice none 0 0) (.slice none 0 0) (.slice (some ⟨p, 0, none⟩) 1 pc) (.slice da l.length dc)) := HBC.out.fr fI (by simp)
          have HTI : Hid (wI.cell? ⟨tb, 0, none⟩ = some (.slice none 0 0)) := fI.cell HTC.out (by simp)
          have HZI : Hid (wI.frozen? ⟨tb, 0, none⟩ = false) := (FI.out.frozenEq (a := ⟨tb, 0, none⟩) HTL.out (by simp)).trans HTZ.out
          have HGI : Hid (w.heap.size ≤ pg ∧ w.heap.size ≤ g ∧ wI.cell? ⟨pg, 0, none⟩ = some (.float .f64 x) ∧ Row wI a1 l c1 ∧ (∀ a, a1 = some a → w.heap.size ≤ a.block) ∧ C7 wI g (.int .u64 (s : Int)) (.int .u64 (q : Int)) (.int .u64 (e0 : Int)) (.slice none 0 0) (.slice none 0 0) (.slice (some ⟨pg, 0, none⟩) 1 gc) (.slice a1 l.length c1)) := ⟨HG.out.1, Nat.le_trans (FA.out.trans FC.out).size hgs, (FC.out.trans fI).cell HG.out.2.1 (by simp), (FC.out.trans fI).row HG.out.2.2.1 (by simp), HG.out.2.2.2, hg7⟩
          clear hgs hg7 fI
          refine hK.out _ _ HBI.out.toC7 (fun hHeld => ?_)
          clear hK K
          try simp only [Act.put, List.setIfInBounds_toArray, List.set_cons_zero, List.set_cons_succ]
          have ht := HTI.out
          have hz := HZI.out
          refine wpAnyH_take (i := 10) (oi := _) (v := ?_) (by rw [List.getElem?_toArray]; rfl) (by kernel_rfl) (by kernel_rfl) (by kernel_rfl) (fun _ _ _ h => by exact h) (Or.inl ⟨by rfl, ?_⟩) (by assumption) ?_
          rotate_left
          · (intro w hSw; (try dsimp only at hSw); go_simp; (try with_reducible rfl))
          try simp only [Act.put, List.setIfInBounds_toArray, List.set_cons_zero, List.set_cons_succ]
          refine wpAnyH_take (i := 11) (oi := _) (v := ?_) (by rw [List.getElem?_toArray]; rfl) (by kernel_rfl) (by kernel_rfl) (by kernel_rfl) (fun _ _ _ h => by exact h) (Or.inl ⟨by rfl, ?_⟩) (by assumption) ?_
          rotate_left
          · (intro w hSw; (try dsimp only at hSw); go_simp; (try with_reducible rfl))
          try simp only [Act.put, List.setIfInBounds_toArray, List.set_cons_zero, List.set_cons_succ]
          refine wpAnyH_ready (rs := [12]) (by kernel_rfl) (by simp) ?_
          refine AllReadyH.cons (o := _) (by rw [List.getElem?_toArray]; rfl) (fun K hK => ?_) ?_
          · go_simp
            refine hK.out _ _ (HBI.out.toC7.fr ((Fr.refl (fun k => k = tb) wI).setCell (p := ⟨tb, 0, none⟩) (Or.inl rfl) _) (by have := HBX.out; omega)) (fun hHeld => ?_)
            clear hK K
            try simp only [Act.put, List.setIfInBounds_toArray, List.set_cons_zero, List.set_cons_succ]
            refine wpAnyH_done (by kernel_rfl) ?_ _
            have FE : Hid (Fr (fun k => k = tb) wI (wI.setCell ⟨tb, 0, none⟩ (.slice (some ⟨g, 0, none⟩) 1 cp))) := (Fr.refl (fun k => k = tb) wI).setCell (p := ⟨tb, 0, none⟩) (Or.inl rfl) _
            have HC : Hid ((wI.setCell ⟨tb, 0, none⟩ (.slice (some ⟨g, 0, none⟩) 1 cp)).cell? ⟨tb, 0, none⟩ = some (.slice (some ⟨g, 0, none⟩) 1 cp)) := World.cell?_setCell_same _ _ _ ht
            clear ht hz
            go_wp2
            go_ret
            exact ⟨rfl, ⟨g, cp, pg, gc, a1, c1, HC.out, HGI.out.2.1, HGI.out.1, HGI.out.2.2.2.2.1, HGI.out.2.2.2.2.2.fr FE.out (by have := HGI.out.2.1; have := HTL.out; omega), FE.out.cell HGI.out.2.2.1 (show ¬ pg = tb by have := HGI.out.1; have := HTL.out; omega), FE.out.row HGI.out.2.2.2.1 (fun _ a ha e => by have := HGI.out.2.2.2.2.1 a ha; have := HTL.out; omega)⟩, (Fr.mono (T := fun k => k = tb) FI.out (fun _ _ h => h.elim)).trans FE.out⟩
          exact AllReadyH.nil
        exact AllReadyH.nil
      exact AllReadyH.nil
    refine AllReadyH.cons (o := _) (by rw [List.getElem?_toArray]; rfl) (fun K hK => ?_) ?_
    · go_simp
      refine hK.out _ _ (HBA.out.toC7.fr ((Fr.refl (fun _ => False) wA).alloc _) (by simp)) (fun hHeld => ?_)
      clear hK K
      try simp only [Act.put, List.setIfInBounds_toArray, List.set_cons_zero, List.set_cons_succ]
      have FC : Hid (Fr (fun _ => False) wA (wA.alloc (.cells #[.int .u64 (s : Int), .int .u64 (q : Int), .int .u64 (e0 : Int), .slice none 0 0, .slice none 0 0, .slice (some ⟨pg, 0, none⟩) 1 gc, .slice a1 l.length c1] 29))) := (Fr.refl _ _).alloc _
      have KI : Hid (Calls _ _ _ _ _) := insert_one s q e0 (some ⟨pg, 0, none⟩) 1 gc a1 l.length c1 wA.heap.size (wA.alloc (.cells #[.int .u64 (s : Int), .int .u64 (q : Int), .int .u64 (e0 : Int), .slice none 0 0, .slice none 0 0, .slice (some ⟨pg, 0, none⟩) 1 gc, .slice a1 l.length c1] 29)) (C7.new wA 29 _ _ _ _ _ _ _)
      have HBC : Hid (Z7 (wA.alloc (.cells #[.int .u64 (s : Int), .int .u64 (q : Int), .int .u64 (e0 : Int), .slice none 0 0, .slice none 0 0, .slice (some ⟨pg, 0, none⟩) 1 gc, .slice a1 l.length c1] 29)) bx (.int .u64 (s : Int)) (.int .u64 (q : Int)) (.int .u64 (e0 : Int)) (.slice none 0 0) (.slice none 0 0) (.slice (some ⟨p, 0, none⟩) 1 pc) (.slice da l.length dc)) := HBA.out.fr FC.out (by simp)
      have HTC : Hid ((wA.alloc (.cells #[.int .u64 (s : Int), .int .u64 (q : Int), .int .u64 (e0 : Int), .slice none 0 0, .slice none 0 0, .slice (some ⟨pg, 0, none⟩) 1 gc, .slice a1 l.length c1] 29)).cell? ⟨tb, 0, none⟩ = some (.slice none 0 0)) := FC.out.cell HTA.out (by simp)
      refine wpAnyH_ready (rs := [4]) (by kernel_rfl) (by simp) ?_
      refine AllReadyH.cons (o := _) (by rw [List.getElem?_toArray]; rfl) (fun K hK => ?_) ?_
      · have ht := HTC.out
        go_simp
        clear ht
        refine hK.out _ _ HBC.out.toC7 (fun hHeld => ?_)
        clear hK K
        try simp only [Act.put, List.setIfInBounds_toArray, List.set_cons_zero, List.set_cons_succ]
        refine wpAnyH_ready (rs := [9]) (by kernel_rfl) (by simp) ?_
        refine AllReadyH.cons (o := _) (by rw [List.getElem?_toArray]; rfl) (fun K hK => ?_) ?_
        · go_simp
          go_wp2_with (go_at_call 55; refine KI.out.mono ?_; rintro e wI ⟨g, cp, rfl, hgs, hg7, fI⟩)
          have FI : Hid (Fr (fun _ => False) w wI) := (FA.out.trans FC.out).trans fI
          have HBI : Hid (Z7 wI bx (.int .u64 (s : Int)) (.int .u64 (q : Int)) (.int .u64 (e0 : Int)) (.slice none 0 0) (.slice none 0 0) (.slice (some ⟨p, 0, none⟩) 1 pc) (.slice da l.length dc)) := HBC.out.fr fI (by simp)
          have HTI : Hid (wI.cell? ⟨tb, 0, none⟩ = some (.slice none 0 0)) := fI.cell HTC.out (by simp)
          have HZI : Hid (wI.frozen? ⟨tb, 0, none⟩ = false) := (FI.out.frozenEq (a := ⟨tb, 0, none⟩) HTL.out (by simp)).trans HTZ.out
          have HGI : Hid (w.heap.size ≤ pg ∧ w.heap.size ≤ g ∧ wI.cell? ⟨pg, 0, none⟩ = some (.float .f64 x) ∧ Row wI a1 l c1 ∧ (∀ a, a1 = some a → w.heap.size ≤ a.block) ∧ C7 wI g (.int .u64 (s : Int)) (.int .u64 (q : Int)) (.int .u64 (e0 : Int)) (.slice none 0 0) (.slice none 0 0) (.slice (some ⟨pg, 0, none⟩) 1 gc) (.slice a1 l.length c1)) := ⟨HG.out.1, Nat.le_trans (FA.out.trans FC.out).size hgs, (FC.out.trans fI).cell HG.out.2.1 (by simp), (FC.out.trans fI).row HG.out.2.2.1 (by simp), HG.out.2.2.2, hg7⟩
          clear hgs hg7 fI
          refine hK.out _ _ HBI.out.toC7 (fun hHeld => ?_)
          clear hK K
          try simp only [Act.put, List.setIfInBounds_toArray, List.set_cons_zero, List.set_cons_succ]
          have ht := HTI.out
          have hz := HZI.out
          refine wpAnyH_take (i := 10) (oi := _) (v := ?_) (by rw [List.getElem?_toArray]; rfl) (by kernel_rfl) (by kernel_rfl) (by kernel_rfl) (fun _ _ _ h => by exact h) (Or.inl ⟨by rfl, ?_⟩) (by assumption) ?_
          rotate_left
          · (intro w hSw; (try dsimp only at hSw); go_simp; (try with_reducible rfl))
          try simp only [Act.put, List.setIfInBounds_toArray, List.set_cons_zero, List.set_cons_succ]
          refine wpAnyH_take (i := 11) (oi := _) (v := ?_) (by rw [List.getElem?_toArray]; rfl) (by kernel_rfl) (by kernel_rfl) (by kernel_rfl) (fun _ _ _ h => by exact h) (Or.inl ⟨by rfl, ?_⟩) (by assumption) ?_
          rotate_left
          · (intro w hSw; (try dsimp only at hSw); go_simp; (try with_reducible rfl))
          try simp only [Act.put, List.setIfInBounds_toArray, List.set_cons_zero, List.set_cons_succ]
          refine wpAnyH_ready (rs := [12]) (by kernel_rfl) (by simp) ?_
          refine AllReadyH.cons (o := _) (by rw [List.getElem?_toArray]; rfl) (fun K hK => ?_) ?_
          · go_simp
            refine hK.out _ _ (HBI.out.toC7.fr ((Fr.refl (fun k => k = tb) wI).setCell (p := ⟨tb, 0, none⟩) (Or.inl rfl) _) (by have := HBX.out; omega)) (fun hHeld => ?_)
            clear hK K
            try simp only [Act.put, List.setIfInBounds_toArray, List.set_cons_zero, List.set_cons_succ]
            refine wpAnyH_done (by kernel_rfl) ?_ _
            have FE : Hid (Fr (fun k => k = tb) wI (wI.setCell ⟨tb, 0, none⟩ (.slice (some ⟨g, 0, none⟩) 1 cp))) := (Fr.refl (fun k => k = tb) wI).setCell (p := ⟨tb, 0, none⟩) (Or.inl rfl) _
            have HC : Hid ((wI.setCell ⟨tb, 0, none⟩ (.slice (some ⟨g, 0, none⟩) 1 cp)).cell? ⟨tb, 0, none⟩ = some (.slice (some ⟨g, 0, none⟩) 1 cp)) := World.cell?_setCell_same _ _ _ ht
            clear ht hz
            go_wp2
            go_ret
            exact ⟨rfl, ⟨g, cp, pg, gc, a1, c1, HC.out, HGI.out.2.1, HGI.out.1, HGI.out.2.2.2.2.1, HGI.out.2.2.2.2.2.fr FE.out (by have := HGI.out.2.1; have := HTL.out; omega), FE.out.cell HGI.out.2.2.1 (show ¬ pg = tb by have := HGI.out.1; have := HTL.out; omega), FE.out.row HGI.out.2.2.2.1 (fun _ a ha e => by have := HGI.out.2.2.2.2.1 a ha; have := HTL.out; omega)⟩, (Fr.mono (T := fun k => k = tb) FI.out (fun _ _ h => h.elim)).trans FE.out⟩
          exact AllReadyH.nil
        exact AllReadyH.nil
      exact AllReadyH.nil
    exact AllReadyH.nil
  exact AllReadyH.nil

set_option maxRecDepth 100000 in
set_option maxHeartbeats 1000000 in
theorem take_nil (s q e0 : Nat) (pa : Option Addr) (pn pc : Nat) (da : Option Addr) (dn dc : Nat) (w : World) : Calls Try.prog 23 #[.pointer none, .agg #[.int .u64 (s : Int), .int .u64 (q : Int), .int .u64 (e0 : Int), .slice none 0 0, .slice none 0 0, .slice pa pn pc, .slice da dn dc]] w fun e w' => e = .returned (.int .i64 2) ∧ Fr (fun _ => False) w w' := by
  have F0 : Hid (Fr (fun _ => False) w (w.alloc (.cells #[.int .u64 (s : Int), .int .u64 (q : Int), .int .u64 (e0 : Int), .slice none 0 0, .slice none 0 0, .slice pa pn pc, .slice da dn dc] 29))) := (Fr.refl (fun _ => False) w).alloc _
  go_enter Try.func23, Try.ntmps23
  go_wp2
  go_ret
  exact ⟨rfl, F0.out⟩
end Go.Proofs.Ytaalkhipncbjpaa
