/- A column into none, one more version at the end, Put. -/
import Derived.Test.YtmjkipdflhbgdaaMvB
namespace Go.Proofs.Ytmjkipdflhbgdaa
open Go.RowKit
theorem Try.info81 : (Try.prog.info? 81).map (fun i => (i.zero, i.size, i.bytes)) = some (some (.agg #[.int .u64 0, .slice none 0 0]), 2, 32) := by kernel_rfl
theorem FE_other {w : World} {g : Nat} {u v : Value} (h : w.cell? ⟨g, 0, none⟩ = some v) : (w.setCell ⟨g, 1, none⟩ u).cell? ⟨g, 0, none⟩ = some v := (World.cell?_setCell_other _ _ _ _ (by simp)).trans h
theorem row_blk {w : World} {ao : Option Addr} {l : List Nat} {cap : Nat} (h : Row w ao l cap) (hl : l ≠ []) : ∀ a, ao = some a → a.block < w.heap.size := by
  intro a ha
  obtain ⟨b, off, he, hc⟩ := h.2.2.2.2 hl
  rw [he] at ha
  cases ha
  exact World.block_lt_of_cell? _ _ (hc 0 (by cases l; exact absurd rfl hl; simp))
set_option maxRecDepth 100000 in
set_option maxHeartbeats 2000000 in
theorem insertC_nil (r a : Nat) (w : World) (h0 : w.cell? ⟨a, 0, none⟩ = some (.int .u64 (r : Int))) (h1 : w.cell? ⟨a, 1, none⟩ = some (.slice none 0 0)) : Calls Try.prog 54 #[.slice none 0 0, .int .i64 0, .slice (some ⟨a, 0, none⟩) 1 1] w fun e w' => ∃ g cp, e = .returned (.slice (some ⟨g, 0, none⟩) 1 cp) ∧ w.heap.size ≤ g ∧ C2 w' g (.int .u64 (r : Int)) (.slice none 0 0) ∧ Fr (fun _ => False) w w' := by
  obtain ⟨i, hi, hz0, hz1, hz2⟩ := info_parts Try.info81
  have hnews : ∀ j u, [Value.int .u64 (r : Int), .slice none 0 0][j]? = some u → w.cell? ((⟨a, 0, none⟩ : Addr).add j) = some u := fun j u hj => by
    rw [show (⟨a, 0, none⟩ : Addr).add j = ⟨a, j, none⟩ from by unfold Addr.add; split <;> simp_all]
    have hlt : j < 2 := (List.getElem?_eq_some_iff.1 hj).1
    match j, hlt with
    | 0, _ => cases hj; exact h0
    | 1, _ => cases hj; exact h1
  have HN : Hid _ := hnews
  clear hnews h0 h1
  go_enter Try.func54, Try.ntmps54
  go_wp2_with (refine wpList_append_own _ rfl _ _ 77 rfl w.heap.size 81 i (.agg #[.int .u64 0, .slice none 0 0]) 2 32 Try.underlying77 hi hz0 hz1 hz2 rfl (by decide) _ _ _ rfl (World.ownsRow_nil _ _ _ _) ⟨a, 0, none⟩ 1 1 [Value.int .u64 (r : Int), .slice none 0 0] rfl rfl HN.out (by simp; exact ⟨rfl, rfl⟩) (by unfold maxLen; omega) (by omega) (by omega) ?_)
  intro v' w' ho hg hnil
  have f1 : Fr (fun _ => False) w w' := (Fr.refl (fun _ => False) w).grown hg (fun j hj => by simp [Value.ownBlock] at hj)
  rcases ho with ⟨_, ⟨rfl, h0⟩ | ⟨g, cp, cur, rfl, hbg, hgg, hn, hm, hs, ht⟩⟩
  · cases h0
  · have hc : ∀ j u, j < 2 → [Value.int .u64 (r : Int), .slice none 0 0][j]? = some u → w'.cell? ⟨g, j, none⟩ = some u := fun j u hlt hj => by
      rw [cell_of_row w' _ j cur 81 (0, 0) hgg]
      have : [Value.int .u64 (r : Int), .slice none 0 0][j]? = (List.take (1 * 2) cur.toList)[j]? := by rw [ht]
      rw [← hj, this, List.getElem?_take, if_pos (by omega)]
      simp
    have HC : Hid (C2 w' g (.int .u64 (r : Int)) (.slice none 0 0)) := ⟨hc 0 _ (by omega) rfl, hc 1 _ (by omega) rfl, fun j => by simp [World.frozen?, hgg]⟩
    clear hc
    go_wp2
    go_ret
    exact ⟨g, cp, by simp, hbg, HC.out, f1⟩
set_option maxRecDepth 100000 in
set_option maxHeartbeats 2000000 in
theorem with_end (vs : List Vr) (n m : Nat) (hn : vs.length = n) (hm : n + 1 = m) (x : Vr) (v : Value) (base : Nat) (w : World) (ho : OwnF w base 60 v vs) (hb : base ≤ w.heap.size) (hlen : vs.length ≤ 1000)
    (hs : ∀ W, Fr (fun _ => False) w W → Calls Try.prog 81 #[v, .agg #[.int .u64 (x.e : Int), .int .u64 (x.i : Int), .bool x.d, .slice x.a x.n x.c], .func (.func 73) #[] #[]] W fun e w' => e = .returned (.tuple #[.int .i64 (n : Int), .bool false]) ∧ Fr (fun _ => False) W w') :
    Calls Try.prog 56 #[v, .agg #[.int .u64 (x.e : Int), .int .u64 (x.i : Int), .bool x.d, .slice x.a x.n x.c]] w fun e w' => ∃ la lc, e = .returned (.slice la m lc) ∧ OwnF w' base 60 (.slice la m lc) (vs ++ [x]) ∧ (∀ k, (Value.slice la m lc).ownBlock = some k → v.ownBlock = some k ∨ w.heap.size ≤ k) ∧ Fr (fun k => v.ownBlock = some k) w w' := by
  subst hn
  subst hm
  have F0 : Hid (Fr (fun _ => False) w (w.alloc (.cells #[.int .u64 (x.e : Int), .int .u64 (x.i : Int), .bool x.d, .slice x.a x.n x.c] 60))) := (Fr.refl (fun _ => False) w).alloc _
  have HX : Hid (C4 (w.alloc (.cells #[.int .u64 (x.e : Int), .int .u64 (x.i : Int), .bool x.d, .slice x.a x.n x.c] 60)) w.heap.size (.int .u64 (x.e : Int)) (.int .u64 (x.i : Int)) (.bool x.d) (.slice x.a x.n x.c)) := C4.new w 60 _ _ _ _
  have HO : Hid (OwnF w base 60 v vs) := ho
  have KS : Hid (∀ W, Fr (fun _ => False) w W → Calls _ _ _ _ _) := hs
  obtain ⟨ao, cap, rfl, hl1⟩ := ho.form
  clear ho hs
  go_enter Try.func56, Try.ntmps56
  go_wp2_with fail
  refine (KS.out _ F0.out).mono ?_
  rintro e w1 ⟨rfl, f1⟩
  have F1 : Hid (Fr (fun _ => False) w w1) := F0.out.trans f1
  obtain ⟨k0, k1, k2, k3, _⟩ := HX.out.fr f1 (by simp)
  have F2 : Hid (Fr (fun _ => False) w (w1.alloc (.cells #[.int .u64 (x.e : Int), .int .u64 (x.i : Int), .bool x.d, .slice x.a x.n x.c] 60))) := F1.out.alloc _
  have KI : Hid (Calls _ _ _ _ _) := insertV_end vs x (.slice ao vs.length cap) base w1.heap.size (w1.alloc (.cells #[.int .u64 (x.e : Int), .int .u64 (x.i : Int), .bool x.d, .slice x.a x.n x.c] 60)) (HO.out.fr F2.out (by simp)) (Nat.le_trans hb F2.out.size) (C4.new w1 60 _ _ _ _) hlen
  clear f1
  go_wp2_with fail
  refine KI.out.mono ?_
  rintro e w3 ⟨v3, rfl, ho3, hk3, f3⟩
  have HO3 : Hid (OwnF w3 base 60 v3 (vs ++ [x])) := ho3
  have F3 : Hid (Fr (fun k => (Value.slice ao vs.length cap).ownBlock = some k) w w3) := (Fr.mono (T := fun k => (Value.slice ao vs.length cap).ownBlock = some k) F2.out (fun _ _ h => h.elim)).trans f3
  have HK3 : Hid (∀ k, v3.ownBlock = some k → (Value.slice ao vs.length cap).ownBlock = some k ∨ w.heap.size ≤ k) := fun k hk => by
    rcases hk3 with h | h
    · exact .inl (h ▸ hk)
    · right; rw [h] at hk; cases hk; exact F2.out.size
  obtain ⟨la, lc, hlv, _⟩ := ho3.form
  rw [List.length_append] at hlv
  subst hlv
  clear k0 k1 k2 k3 ho3 hk3 f3
  go_wp2
  go_ret
  exact ⟨la, lc, by simp, HO3.out, HK3.out, F3.out⟩
set_option maxRecDepth 100000 in
set_option maxHeartbeats 8000000 in
theorem put_first (x sb e0 i0 : Nat) (d0 : Bool) (va : Option Addr) (l : List Nat) (vc : Nat) (hx : x < 18446744073709551616) (hl : l.length ≤ 1000) (w : World) (hc : w.cell? ⟨sb, 0, none⟩ = some (.slice none 0 0)) (hz : w.frozen? ⟨sb, 0, none⟩ = false) (hv : Row w va l vc) (hvs : l ≠ [] → ∀ a, va = some a → ¬ a.block = sb) :
    Calls Try.prog 24 #[.pointer (some ⟨sb, 0, none⟩), .float .f64 x, .agg #[.int .u64 (e0 : Int), .int .u64 (i0 : Int), .bool d0, .slice va l.length vc]] w fun e w' => e = .returned (.tuple #[]) ∧ (∃ cb cc lv a1 l1 c1, w'.cell? ⟨sb, 0, none⟩ = some (.slice (some ⟨cb, 0, none⟩) 1 cc) ∧ C2 w' cb (.int .u64 ((Fl.rk x : Nat) : Int)) lv ∧ OwnF w' w.heap.size 60 lv [(⟨e0, i0, d0, a1, l1.length, c1⟩ : Vr)] ∧ w.heap.size ≤ cb ∧ lv.ownBlock ≠ some cb ∧ Row w' a1 l1 c1 ∧ (d0 = false → l1 = l) ∧ (l1 ≠ [] → ∀ a, a1 = some a → w.heap.size ≤ a.block ∧ a.block ≠ cb ∧ lv.ownBlock ≠ some a.block)) ∧ Fr (fun k => k = sb) w w' := by
  have HSL : Hid (sb < w.heap.size) := World.block_lt_of_cell? _ _ hc
  have HSZ : Hid (w.frozen? ⟨sb, 0, none⟩ = false) := hz
  have HV : Hid (Row w va l vc) := hv
  have HVS : Hid (l ≠ [] → ∀ a, va = some a → ¬ a.block = sb) := hvs
  have F0 : Hid (Fr (fun _ => False) w (w.alloc (.cells #[.int .u64 (e0 : Int), .int .u64 (i0 : Int), .bool d0, .slice va l.length vc] 60))) := (Fr.refl (fun _ => False) w).alloc _
  have HB : Hid (C4 (w.alloc (.cells #[.int .u64 (e0 : Int), .int .u64 (i0 : Int), .bool d0, .slice va l.length vc] 60)) w.heap.size (.int .u64 (e0 : Int)) (.int .u64 (i0 : Int)) (.bool d0) (.slice va l.length vc)) := C4.new w 60 _ _ _ _
  have KP : Hid (Calls _ _ _ _ _) := place_gen x sb 0 0 none false hx (w.alloc (.cells #[.int .u64 (e0 : Int), .int .u64 (i0 : Int), .bool d0, .slice va l.length vc] 60)) (F0.out.cell hc (by simp)) (fun W _ => searchC_nil (Fl.rk x) W)
  have HT : Hid (w.cell? ⟨sb, 0, none⟩ = some (.slice none 0 0)) := hc
  clear hc hz hv hvs
  go_enter Try.func24, Try.ntmps24
  go_wp2_with fail
  refine KP.out.mono ?_
  rintro e w2 ⟨rfl, f2⟩
  obtain ⟨W0, HW0⟩ : ∃ W0, Hid (w2.drew = W0) := ⟨_, rfl⟩
  have HF0 : Hid (Fr (fun _ => False) w W0) := (show Fr _ _ _ by rw [← HW0.out]; exact (F0.out.trans f2).drew)
  have HB0 : Hid (C4 W0 w.heap.size (.int .u64 (e0 : Int)) (.int .u64 (i0 : Int)) (.bool d0) (.slice va l.length vc)) := (show C4 _ _ _ _ _ _ by rw [← HW0.out]; exact HB.out.fr f2.drew (by simp))
  have HT0 : Hid (W0.cell? ⟨sb, 0, none⟩ = some (.slice none 0 0)) := HF0.out.cell HT.out (by simp)
  obtain ⟨bx, Hbx⟩ : ∃ bx, Hid (w.heap.size = bx) := ⟨_, rfl⟩
  have HBX : Hid (sb < bx ∧ w.heap.size = bx) := ⟨by have := HSL.out; have := Hbx.out; omega, Hbx.out⟩
  rw [Hbx.out] at HB0
  clear f2 KP
  go_wp2_with fail
  rw [Hbx.out]
  refine wp_region_held_drew (S := (fun _ : World => True)) (by kernel_rfl) trivial (fun hHeld => ?_)
  rw [HW0.out]
  refine wpAnyH_take (i := 0) (oi := _) (v := ?_) (by rw [List.getElem?_toArray]; rfl) (by kernel_rfl) (by kernel_rfl) (by kernel_rfl) (fun _ _ _ h => by exact h) (Or.inl ⟨by rfl, ?_⟩) (by assumption) ?_
  rotate_left
  · (intro w hSw; (try dsimp only at hSw); go_simp; (try with_reducible rfl))
  try simp only [Act.put, List.setIfInBounds_toArray, List.set_cons_zero, List.set_cons_succ]
  refine wpAnyH_take (i := 1) (oi := _) (v := ?_) (by rw [List.getElem?_toArray]; rfl) (by kernel_rfl) (by kernel_rfl) (by kernel_rfl) (fun _ _ _ h => by exact h) (Or.inl ⟨by rfl, ?_⟩) (by assumption) ?_
  rotate_left
  · (intro w hSw; (try dsimp only at hSw); go_simp; (try with_reducible rfl))
  try simp only [Act.put, List.setIfInBounds_toArray, List.set_cons_zero, List.set_cons_succ]
  refine wpAnyH_take (i := 2) (oi := _) (v := ?_) (by rw [List.getElem?_toArray]; rfl) (by kernel_rfl) (by kernel_rfl) (by kernel_rfl) (fun _ _ _ h => by exact h) (Or.inl ⟨by rfl, ?_⟩) (by assumption) ?_
  rotate_left
  · (intro w hSw; (try dsimp only at hSw); go_simp; (try with_reducible rfl))
  try simp only [Act.put, List.setIfInBounds_toArray, List.set_cons_zero, List.set_cons_succ]
  refine wpAnyH_take (i := 3) (oi := _) (v := ?_) (by rw [List.getElem?_toArray]; rfl) (by kernel_rfl) (by kernel_rfl) (by kernel_rfl) (fun _ _ _ h => by exact h) (Or.inl ⟨by rfl, ?_⟩) (by assumption) ?_
  rotate_left
  · (intro w hSw; (try dsimp only at hSw); go_simp; (try with_reducible rfl))
  try simp only [Act.put, List.setIfInBounds_toArray, List.set_cons_zero, List.set_cons_succ]
  refine wpAnyH_take (i := 5) (oi := _) (v := ?_) (by rw [List.getElem?_toArray]; rfl) (by kernel_rfl) (by kernel_rfl) (by kernel_rfl) (fun _ _ _ h => by exact h) (Or.inl ⟨by rfl, ?_⟩) (by assumption) ?_
  rotate_left
  · (intro w hSw; (try dsimp only at hSw); go_simp; (try with_reducible rfl))
  try simp only [Act.put, List.setIfInBounds_toArray, List.set_cons_zero, List.set_cons_succ]
  refine wpAnyH_take (i := 6) (oi := _) (v := ?_) (by rw [List.getElem?_toArray]; rfl) (by kernel_rfl) (by kernel_rfl) (by kernel_rfl) (fun _ _ _ h => by exact h) (Or.inl ⟨by rfl, ?_⟩) (by assumption) ?_
  rotate_left
  · (intro w hSw; (try dsimp only at hSw); go_simp; (try with_reducible rfl))
  try simp only [Act.put, List.setIfInBounds_toArray, List.set_cons_zero, List.set_cons_succ]
  refine wpAnyH_ready (rs := [4, 7]) (by kernel_rfl) (by simp) ?_
  refine AllReadyH.cons (o := _) (by rw [List.getElem?_toArray]; rfl) (fun K hK => ?_) ?_
  · have ht := HT0.out
    go_simp
    clear ht
    refine hK.out _ _ trivial (fun hHeld => ?_)
    clear hK K
    try simp only [Act.put, List.setIfInBounds_toArray, List.set_cons_zero, List.set_cons_succ]
    refine wpAnyH_ready (rs := [7]) (by kernel_rfl) (by simp) ?_
    refine AllReadyH.cons (o := _) (by rw [List.getElem?_toArray]; rfl) (fun K hK => ?_) ?_
    · go_simp
      go_wp2_with (go_at_call 55; refine (rank_any x _ hx).mono ?_; rintro e w5 ⟨rfl, hw5⟩; subst w5)
      refine hK.out _ _ trivial (fun hHeld => ?_)
      clear hK K
      try simp only [Act.put, List.setIfInBounds_toArray, List.set_cons_zero, List.set_cons_succ]
      refine wpAnyH_take (i := 8) (oi := _) (v := ?_) (by rw [List.getElem?_toArray]; rfl) (by kernel_rfl) (by kernel_rfl) (by kernel_rfl) (fun _ _ _ h => by exact h) (Or.inl ⟨by rfl, ?_⟩) (by assumption) ?_
      rotate_left
      · (intro w hSw; (try dsimp only at hSw); go_simp; (try with_reducible rfl))
      try simp only [Act.put, List.setIfInBounds_toArray, List.set_cons_zero, List.set_cons_succ]
      refine wpAnyH_ready (rs := [9]) (by kernel_rfl) (by simp) ?_
      refine AllReadyH.cons (o := _) (by rw [List.getElem?_toArray]; rfl) (fun K hK => ?_) ?_
      · go_simp
        refine hK.out _ _ trivial (fun hHeld => ?_)
        clear hK K
        try simp only [Act.put, List.setIfInBounds_toArray, List.set_cons_zero, List.set_cons_succ]
        have FC : Hid (Fr (fun _ => False) W0 (W0.alloc (.cells #[.int .u64 ((Fl.rk x : Nat) : Int), .slice none 0 0] 81))) := (Fr.refl _ _).alloc _
        have HTC : Hid ((W0.alloc (.cells #[.int .u64 ((Fl.rk x : Nat) : Int), .slice none 0 0] 81)).cell? ⟨sb, 0, none⟩ = some (.slice none 0 0)) := FC.out.cell HT0.out (by simp)
        have KI : Hid (Calls _ _ _ _ _) := insertC_nil (Fl.rk x) W0.heap.size (W0.alloc (.cells #[.int .u64 ((Fl.rk x : Nat) : Int), .slice none 0 0] 81)) (by simp) (by simp)
        refine wpAnyH_ready (rs := [10]) (by kernel_rfl) (by simp) ?_
        refine AllReadyH.cons (o := _) (by rw [List.getElem?_toArray]; rfl) (fun K hK => ?_) ?_
        · go_simp
          go_wp2_with (go_at_call 54; refine KI.out.mono ?_; rintro e wI ⟨cb, cp, rfl, hgs, hg2, fI⟩)
          have FI : Hid (Fr (fun _ => False) w wI) := (HF0.out.trans FC.out).trans fI
          have HTI : Hid (wI.cell? ⟨sb, 0, none⟩ = some (.slice none 0 0)) := fI.cell HTC.out (by simp)
          have HZI : Hid (wI.frozen? ⟨sb, 0, none⟩ = false) := (FI.out.frozenEq (a := ⟨sb, 0, none⟩) HSL.out (by simp)).trans HSZ.out
          have HCI : Hid (w.heap.size ≤ cb ∧ C2 wI cb (.int .u64 ((Fl.rk x : Nat) : Int)) (.slice none 0 0)) := ⟨Nat.le_trans (HF0.out.trans FC.out).size hgs, hg2⟩
          have HBC : Hid (bx < cb) := Nat.lt_of_lt_of_le HB0.out.lt (Nat.le_trans FC.out.size hgs)
          have HBI : Hid (C4 wI bx (.int .u64 (e0 : Int)) (.int .u64 (i0 : Int)) (.bool d0) (.slice va l.length vc)) := HB0.out.fr (FC.out.trans fI) (by simp)
          clear hgs hg2 fI
          refine hK.out _ _ trivial (fun hHeld => ?_)
          clear hK K
          try simp only [Act.put, List.setIfInBounds_toArray, List.set_cons_zero, List.set_cons_succ]
          have ht := HTI.out
          have hz := HZI.out
          refine wpAnyH_take (i := 11) (oi := _) (v := ?_) (by rw [List.getElem?_toArray]; rfl) (by kernel_rfl) (by kernel_rfl) (by kernel_rfl) (fun _ _ _ h => by exact h) (Or.inl ⟨by rfl, ?_⟩) (by assumption) ?_
          rotate_left
          · (intro w hSw; (try dsimp only at hSw); go_simp; (try with_reducible rfl))
          try simp only [Act.put, List.setIfInBounds_toArray, List.set_cons_zero, List.set_cons_succ]
          refine wpAnyH_take (i := 12) (oi := _) (v := ?_) (by rw [List.getElem?_toArray]; rfl) (by kernel_rfl) (by kernel_rfl) (by kernel_rfl) (fun _ _ _ h => by exact h) (Or.inl ⟨by rfl, ?_⟩) (by assumption) ?_
          rotate_left
          · (intro w hSw; (try dsimp only at hSw); go_simp; (try with_reducible rfl))
          try simp only [Act.put, List.setIfInBounds_toArray, List.set_cons_zero, List.set_cons_succ]
          refine wpAnyH_ready (rs := [13]) (by kernel_rfl) (by simp) ?_
          refine AllReadyH.cons (o := _) (by rw [List.getElem?_toArray]; rfl) (fun K hK => ?_) ?_
          · go_simp
            refine hK.out _ _ trivial (fun hHeld => ?_)
            clear hK K
            try simp only [Act.put, List.setIfInBounds_toArray, List.set_cons_zero, List.set_cons_succ]
            refine wpAnyH_done (by kernel_rfl) ?_ _
            have FE : Hid (Fr (fun k => k = sb) wI (wI.setCell ⟨sb, 0, none⟩ (.slice (some ⟨cb, 0, none⟩) 1 cp))) := (Fr.refl (fun k => k = sb) wI).setCell (p := ⟨sb, 0, none⟩) (Or.inl rfl) _
            have HC : Hid ((wI.setCell ⟨sb, 0, none⟩ (.slice (some ⟨cb, 0, none⟩) 1 cp)).cell? ⟨sb, 0, none⟩ = some (.slice (some ⟨cb, 0, none⟩) 1 cp)) := World.cell?_setCell_same _ _ _ ht
            clear ht hz
            obtain ⟨w4, Hw4⟩ : ∃ w4, Hid (wI.setCell ⟨sb, 0, none⟩ (.slice (some ⟨cb, 0, none⟩) 1 cp) = w4) := ⟨_, rfl⟩
            rw [Hw4.out] at FE HC ⊢
            have HCB4 : Hid (C2 w4 cb (.int .u64 ((Fl.rk x : Nat) : Int)) (.slice none 0 0)) := HCI.out.2.fr FE.out (by have := HCI.out.1; have := HSL.out; omega)
            have HB4 : Hid (C4 w4 bx (.int .u64 (e0 : Int)) (.int .u64 (i0 : Int)) (.bool d0) (.slice va l.length vc)) := HBI.out.fr FE.out (by have := HBX.out; omega)
            have HF4 : Hid (Fr (fun k => k = sb) w w4) := (Fr.mono (T := fun k => k = sb) FI.out (fun _ _ h => h.elim)).trans FE.out
            have HQ4 : Hid (w.heap.size ≤ cb ∧ cb < w4.heap.size ∧ sb < w.heap.size ∧ w.heap.size ≤ w4.heap.size ∧ bx ≠ cb) := ⟨HCI.out.1, HCB4.out.lt, HSL.out, HF4.out.size, by have := HBC.out; omega⟩
            have HV4 : Hid (Row w4 va l vc) := HF4.out.row HV.out HVS.out
            have HSB4 : Hid (w4.cell? ⟨sb, 0, none⟩ = some (.slice (some ⟨cb, 0, none⟩) 1 cp)) := HC.out
            have HLV4 : Hid (OwnF w4 w.heap.size 60 (.slice none 0 0) ([] : List Vr)) := OwnF.nil _ _ _
            have KSV : Hid (∀ W, Fr (fun _ => False) w4 W → ∀ (y : Vr), y.e = e0 → y.i = i0 → Calls Try.prog 81 #[.slice none 0 0, .agg #[.int .u64 (y.e : Int), .int .u64 (y.i : Int), .bool y.d, .slice y.a y.n y.c], .func (.func 73) #[] #[]] W fun e w' => e = .returned (.tuple #[.int .i64 ((0 : Nat) : Int), .bool false]) ∧ Fr (fun _ => False) W w') := fun W _ y _ _ => searchV_nil y.e y.i y.d y.a y.n y.c W
            have k1 := HCB4.out.c0
            have k2 := HSB4.out
            go_wp2_with fail
            have HB0d : Hid (C4 w4.drew bx (.int .u64 (e0 : Int)) (.int .u64 (i0 : Int)) (.bool d0) (.slice va l.length vc)) := HB4.out.fr ((Fr.refl (fun _ => False) _).drew) (by simp)
            have HC20 : Hid (C2 w4.drew cb (.int .u64 ((Fl.rk x : Nat) : Int)) (.slice none 0 0)) := HCB4.out.fr ((Fr.refl (fun _ => False) _).drew) (by simp)
            have KO : Hid (Calls _ _ _ _ _) := own_any e0 i0 d0 va l vc w4.drew (HV4.out |> Fr.row ((Fr.refl (fun _ => False) _).drew) <| (by simp)) hl
            clear k1 k2
            refine wp_region_held_drew (S := (fun W : World => C4 W bx (.int .u64 (e0 : Int)) (.int .u64 (i0 : Int)) (.bool d0) (.slice va l.length vc))) (by kernel_rfl) HB0d.out (fun hHeld => ?_)
            refine wpAnyH_take (i := 0) (oi := _) (v := ?_) (by rw [List.getElem?_toArray]; rfl) (by kernel_rfl) (by kernel_rfl) (by kernel_rfl) (fun _ _ _ h => by exact h) (Or.inl ⟨by rfl, ?_⟩) (by assumption) ?_
            rotate_left
            · (intro w hSw; (try dsimp only at hSw); go_simp; (try with_reducible rfl))
            try simp only [Act.put, List.setIfInBounds_toArray, List.set_cons_zero, List.set_cons_succ]
            refine wpAnyH_take (i := 1) (oi := _) (v := ?_) (by rw [List.getElem?_toArray]; rfl) (by kernel_rfl) (by kernel_rfl) (by kernel_rfl) (fun _ _ _ h => by exact h) (Or.inl ⟨by rfl, ?_⟩) (by assumption) ?_
            rotate_left
            · (intro w hSw; (try dsimp only at hSw); go_simp; (try with_reducible rfl))
            try simp only [Act.put, List.setIfInBounds_toArray, List.set_cons_zero, List.set_cons_succ]
            refine wpAnyH_take (i := 2) (oi := _) (v := ?_) (by rw [List.getElem?_toArray]; rfl) (by kernel_rfl) (by kernel_rfl) (by kernel_rfl) (fun _ _ _ h => by exact h) (Or.inl ⟨by rfl, ?_⟩) (by assumption) ?_
            rotate_left
            · (intro w hSw; (try dsimp only at hSw); go_simp; (try with_reducible rfl))
            try simp only [Act.put, List.setIfInBounds_toArray, List.set_cons_zero, List.set_cons_succ]
            refine wpAnyH_take (i := 3) (oi := _) (v := ?_) (by rw [List.getElem?_toArray]; rfl) (by kernel_rfl) (by kernel_rfl) (by kernel_rfl) (fun _ _ _ h => by exact h) (Or.inl ⟨by rfl, ?_⟩) (by assumption) ?_
            rotate_left
            · (intro w hSw; (try dsimp only at hSw); go_simp; (try with_reducible rfl))
            try simp only [Act.put, List.setIfInBounds_toArray, List.set_cons_zero, List.set_cons_succ]
            refine wpAnyH_take (i := 5) (oi := _) (v := ?_) (by rw [List.getElem?_toArray]; rfl) (by kernel_rfl) (by kernel_rfl) (by kernel_rfl) (fun _ _ _ h => by exact h) (Or.inl ⟨by rfl, ?_⟩) (by assumption) ?_
            rotate_left
            · (intro w hSw; (try dsimp only at hSw); obtain ⟨x0, x1, x2, x3, _⟩ := hSw; go_simp; (try with_reducible rfl))
            try simp only [Act.put, List.setIfInBounds_toArray, List.set_cons_zero, List.set_cons_succ]
            refine wpAnyH_ready (rs := [4, 6]) (by kernel_rfl) (by simp) ?_
            refine AllReadyH.cons (o := _) (by rw [List.getElem?_toArray]; rfl) (fun K hK => ?_) ?_
            · have ht := HC20.out.c1
              go_simp
              clear ht
              refine hK.out _ _ HB0d.out (fun hHeld => ?_)
              clear hK K
              try simp only [Act.put, List.setIfInBounds_toArray, List.set_cons_zero, List.set_cons_succ]
              refine wpAnyH_ready (rs := [6]) (by kernel_rfl) (by simp) ?_
              refine AllReadyH.cons (o := _) (by rw [List.getElem?_toArray]; rfl) (fun K hK => ?_) ?_
              · go_simp
                go_wp2_with (go_at_call 57; refine KO.out.mono ?_; rintro e wO ⟨a1, l1, c1, rfl, hl1, hr1, hf1, fO⟩)
                have FO : Hid (Fr (fun _ => False) w4 wO) := ((Fr.refl (fun _ => False) w4).drew).trans fO
                have HBO : Hid (C4 wO bx (.int .u64 (e0 : Int)) (.int .u64 (i0 : Int)) (.bool d0) (.slice va l.length vc)) := HB4.out.fr FO.out (by simp)
                have HC2O : Hid (C2 wO cb (.int .u64 ((Fl.rk x : Nat) : Int)) (.slice none 0 0)) := HCB4.out.fr FO.out (by simp)
                have HRO : Hid (Row wO a1 l1 c1 ∧ (d0 = false → l1 = l) ∧ (∀ a, a1 = some a → w4.heap.size ≤ a.block)) := ⟨hr1, hl1, hf1⟩
                have KW : Hid (Calls _ _ _ _ _) := with_end ([] : List Vr) 0 1 rfl rfl ⟨e0, i0, d0, a1, l1.length, c1⟩ (.slice none 0 0) w.heap.size wO (HLV4.out.fr FO.out (by simp)) (Nat.le_trans HQ4.out.2.2.2.1 FO.out.size) (by simp) (fun W f => KSV.out W (FO.out.trans f) ⟨e0, i0, d0, a1, l1.length, c1⟩ rfl rfl)
                clear hl1 hr1 hf1 fO
                refine hK.out _ _ HBO.out (fun hHeld => ?_)
                clear hK K
                try simp only [Act.put, List.setIfInBounds_toArray, List.set_cons_zero, List.set_cons_succ]
                refine wpAnyH_ready (rs := [7]) (by kernel_rfl) (by simp) ?_
                refine AllReadyH.cons (o := _) (by rw [List.getElem?_toArray]; rfl) (fun K hK => ?_) ?_
                · go_simp
                  go_wp2_with (go_at_call 56; refine KW.out.mono ?_; rintro e wW ⟨la, lc, rfl, ho1, hk1, fW⟩)
                  have FW : Hid (Fr (fun k => ((.slice none 0 0) : Value).ownBlock = some k) wO wW) := fW
                  have HBW : Hid (C4 wW bx (.int .u64 (e0 : Int)) (.int .u64 (i0 : Int)) (.bool d0) (.slice va l.length vc)) := HBO.out.fr fW (by simp [Value.ownBlock])
                  have HCW : Hid (C2 wW cb (.int .u64 ((Fl.rk x : Nat) : Int)) (.slice none 0 0)) := HC2O.out.fr fW (by simp [Value.ownBlock])
                  have HOW : Hid (OwnF wW w.heap.size 60 (.slice la 1 lc) (([] : List Vr) ++ [(⟨e0, i0, d0, a1, l1.length, c1⟩ : Vr)])) := ho1
                  have HKW : Hid (∀ k, (Value.slice la 1 lc).ownBlock = some k → ((.slice none 0 0) : Value).ownBlock = some k ∨ wO.heap.size ≤ k) := hk1
                  clear ho1 hk1 fW
                  refine hK.out _ _ HBW.out (fun hHeld => ?_)
                  clear hK K
                  try simp only [Act.put, List.setIfInBounds_toArray, List.set_cons_zero, List.set_cons_succ]
                  have hc1 := HCW.out.c1
                  have hz1 := HCW.out.z 1
                  refine wpAnyH_take (i := 8) (oi := _) (v := ?_) (by rw [List.getElem?_toArray]; rfl) (by kernel_rfl) (by kernel_rfl) (by kernel_rfl) (fun _ _ _ h => by exact h) (Or.inl ⟨by rfl, ?_⟩) (by assumption) ?_
                  rotate_left
                  · (intro w hSw; (try dsimp only at hSw); go_simp; (try with_reducible rfl))
                  try simp only [Act.put, List.setIfInBounds_toArray, List.set_cons_zero, List.set_cons_succ]
                  refine wpAnyH_take (i := 9) (oi := _) (v := ?_) (by rw [List.getElem?_toArray]; rfl) (by kernel_rfl) (by kernel_rfl) (by kernel_rfl) (fun _ _ _ h => by exact h) (Or.inl ⟨by rfl, ?_⟩) (by assumption) ?_
                  rotate_left
                  · (intro w hSw; (try dsimp only at hSw); go_simp; (try with_reducible rfl))
                  try simp only [Act.put, List.setIfInBounds_toArray, List.set_cons_zero, List.set_cons_succ]
                  refine wpAnyH_ready (rs := [10]) (by kernel_rfl) (by simp) ?_
                  refine AllReadyH.cons (o := _) (by rw [List.getElem?_toArray]; rfl) (fun K hK => ?_) ?_
                  · go_simp
                    refine hK.out _ _ (HBW.out.fr ((Fr.refl (fun k => k = cb) wW).setCell (p := ⟨cb, 1, none⟩) (Or.inl rfl) _) (by have := HBX.out; have := HQ4.out; omega)) (fun hHeld => ?_)
                    clear hK K
                    try simp only [Act.put, List.setIfInBounds_toArray, List.set_cons_zero, List.set_cons_succ]
                    refine wpAnyH_done (by kernel_rfl) ?_ _
                    have FE2 : Hid (Fr (fun k => k = cb) wW (wW.setCell ⟨cb, 1, none⟩ (.slice la 1 lc))) := (Fr.refl (fun k => k = cb) wW).setCell (p := ⟨cb, 1, none⟩) (Or.inl rfl) _
                    have HC5 : Hid (C2 (wW.setCell ⟨cb, 1, none⟩ (.slice la 1 lc)) cb (.int .u64 ((Fl.rk x : Nat) : Int)) (.slice la 1 lc)) := ⟨FE_other HCW.out.c0, World.cell?_setCell_same _ _ _ hc1, fun j => by simpa using HCW.out.z j⟩
                    clear hc1 hz1 hHeld
                    go_wp2
                    go_end0
                    exact ⟨rfl, ⟨cb, cp, _, a1, l1, c1, FE2.out.cell (Fr.cell FW.out (FO.out.cell HSB4.out (by simp)) (by simp [Value.ownBlock])) (show ¬ sb = cb by have := HQ4.out; omega), HC5.out, HOW.out.fr FE2.out (fun k hk e => by rcases HKW.out k hk with h | h; (simp [Value.ownBlock] at h); have := HQ4.out; have := FO.out.size; omega), HQ4.out.1, fun h => by rcases HKW.out _ h with h | h; (simp [Value.ownBlock] at h); have := HQ4.out; have := FO.out.size; omega, FE2.out.row (FW.out.row HRO.out.1 (by simp [Value.ownBlock])) (fun _ a ha e => by have := HRO.out.2.2 a ha; have := HQ4.out; omega), HRO.out.2.1, fun hne a ha => ⟨Nat.le_trans HQ4.out.2.2.2.1 (HRO.out.2.2 a ha), fun e => by have := HRO.out.2.2 a ha; have := HQ4.out; omega, fun h => by rcases HKW.out _ h with h | h; (simp [Value.ownBlock] at h); have := row_blk HRO.out.1 hne a ha; omega⟩⟩, ((HF4.out.trans (Fr.mono (T := fun k => k = sb) FO.out (fun _ _ h => h.elim))).trans (Fr.mono (T := fun k => k = sb) FW.out (fun _ _ h => by simp [Value.ownBlock] at h))).trans' FE2.out (fun i hi e => by have := HQ4.out; omega)⟩
                  exact AllReadyH.nil
                exact AllReadyH.nil
              exact AllReadyH.nil
            refine AllReadyH.cons (o := _) (by rw [List.getElem?_toArray]; rfl) (fun K hK => ?_) ?_
            · go_simp
              go_wp2_with (go_at_call 57; refine KO.out.mono ?_; rintro e wO ⟨a1, l1, c1, rfl, hl1, hr1, hf1, fO⟩)
              have FO : Hid (Fr (fun _ => False) w4 wO) := ((Fr.refl (fun _ => False) w4).drew).trans fO
              have HBO : Hid (C4 wO bx (.int .u64 (e0 : Int)) (.int .u64 (i0 : Int)) (.bool d0) (.slice va l.length vc)) := HB4.out.fr FO.out (by simp)
              have HC2O : Hid (C2 wO cb (.int .u64 ((Fl.rk x : Nat) : Int)) (.slice none 0 0)) := HCB4.out.fr FO.out (by simp)
              have HRO : Hid (Row wO a1 l1 c1 ∧ (d0 = false → l1 = l) ∧ (∀ a, a1 = some a → w4.heap.size ≤ a.block)) := ⟨hr1, hl1, hf1⟩
              have KW : Hid (Calls _ _ _ _ _) := with_end ([] : List Vr) 0 1 rfl rfl ⟨e0, i0, d0, a1, l1.length, c1⟩ (.slice none 0 0) w.heap.size wO (HLV4.out.fr FO.out (by simp)) (Nat.le_trans HQ4.out.2.2.2.1 FO.out.size) (by simp) (fun W f => KSV.out W (FO.out.trans f) ⟨e0, i0, d0, a1, l1.length, c1⟩ rfl rfl)
              clear hl1 hr1 hf1 fO
              refine hK.out _ _ HBO.out (fun hHeld => ?_)
              clear hK K
              try simp only [Act.put, List.setIfInBounds_toArray, List.set_cons_zero, List.set_cons_succ]
              refine wpAnyH_ready (rs := [4]) (by kernel_rfl) (by simp) ?_
              refine AllReadyH.cons (o := _) (by rw [List.getElem?_toArray]; rfl) (fun K hK => ?_) ?_
              · have ht := HC2O.out.c1
                go_simp
                clear ht
                refine hK.out _ _ HBO.out (fun hHeld => ?_)
                clear hK K
                try simp only [Act.put, List.setIfInBounds_toArray, List.set_cons_zero, List.set_cons_succ]
                refine wpAnyH_ready (rs := [7]) (by kernel_rfl) (by simp) ?_
                refine AllReadyH.cons (o := _) (by rw [List.getElem?_toArray]; rfl) (fun K hK => ?_) ?_
                · go_simp
                  go_wp2_with (go_at_call 56; refine KW.out.mono ?_; rintro e wW ⟨la, lc, rfl, ho1, hk1, fW⟩)
                  have FW : Hid (Fr (fun k => ((.slice none 0 0) : Value).ownBlock = some k) wO wW) := fW
                  have HBW : Hid (C4 wW bx (.int .u64 (e0 : Int)) (.int .u64 (i0 : Int)) (.bool d0) (.slice va l.length vc)) := HBO.out.fr fW (by simp [Value.ownBlock])
                  have HCW : Hid (C2 wW cb (.int .u64 ((Fl.rk x : Nat) : Int)) (.slice none 0 0)) := HC2O.out.fr fW (by simp [Value.ownBlock])
                  have HOW : Hid (OwnF wW w.heap.size 60 (.slice la 1 lc) (([] : List Vr) ++ [(⟨e0, i0, d0, a1, l1.length, c1⟩ : Vr)])) := ho1
                  have HKW : Hid (∀ k, (Value.slice la 1 lc).ownBlock = some k → ((.slice none 0 0) : Value).ownBlock = some k ∨ wO.heap.size ≤ k) := hk1
                  clear ho1 hk1 fW
                  refine hK.out _ _ HBW.out (fun hHeld => ?_)
                  clear hK K
                  try simp only [Act.put, List.setIfInBounds_toArray, List.set_cons_zero, List.set_cons_succ]
                  have hc1 := HCW.out.c1
                  have hz1 := HCW.out.z 1
                  refine wpAnyH_take (i := 8) (oi := _) (v := ?_) (by rw [List.getElem?_toArray]; rfl) (by kernel_rfl) (by kernel_rfl) (by kernel_rfl) (fun _ _ _ h => by exact h) (Or.inl ⟨by rfl, ?_⟩) (by assumption) ?_
                  rotate_left
                  · (intro w hSw; (try dsimp only at hSw); go_simp; (try with_reducible rfl))
                  try simp only [Act.put, List.setIfInBounds_toArray, List.set_cons_zero, List.set_cons_succ]
                  refine wpAnyH_take (i := 9) (oi := _) (v := ?_) (by rw [List.getElem?_toArray]; rfl) (by kernel_rfl) (by kernel_rfl) (by kernel_rfl) (fun _ _ _ h => by exact h) (Or.inl ⟨by rfl, ?_⟩) (by assumption) ?_
                  rotate_left
                  · (intro w hSw; (try dsimp only at hSw); go_simp; (try with_reducible rfl))
                  try simp only [Act.put, List.setIfInBounds_toArray, List.set_cons_zero, List.set_cons_succ]
                  refine wpAnyH_ready (rs := [10]) (by kernel_rfl) (by simp) ?_
                  refine AllReadyH.cons (o := _) (by rw [List.getElem?_toArray]; rfl) (fun K hK => ?_) ?_
                  · go_simp
                    refine hK.out _ _ (HBW.out.fr ((Fr.refl (fun k => k = cb) wW).setCell (p := ⟨cb, 1, none⟩) (Or.inl rfl) _) (by have := HBX.out; have := HQ4.out; omega)) (fun hHeld => ?_)
                    clear hK K
                    try simp only [Act.put, List.setIfInBounds_toArray, List.set_cons_zero, List.set_cons_succ]
                    refine wpAnyH_done (by kernel_rfl) ?_ _
                    have FE2 : Hid (Fr (fun k => k = cb) wW (wW.setCell ⟨cb, 1, none⟩ (.slice la 1 lc))) := (Fr.refl (fun k => k = cb) wW).setCell (p := ⟨cb, 1, none⟩) (Or.inl rfl) _
                    have HC5 : Hid (C2 (wW.setCell ⟨cb, 1, none⟩ (.slice la 1 lc)) cb (.int .u64 ((Fl.rk x : Nat) : Int)) (.slice la 1 lc)) := ⟨FE_other HCW.out.c0, World.cell?_setCell_same _ _ _ hc1, fun j => by simpa using HCW.out.z j⟩
                    clear hc1 hz1 hHeld
                    go_wp2
                    go_end0
                    exact ⟨rfl, ⟨cb, cp, _, a1, l1, c1, FE2.out.cell (Fr.cell FW.out (FO.out.cell HSB4.out (by simp)) (by simp [Value.ownBlock])) (show ¬ sb = cb by have := HQ4.out; omega), HC5.out, HOW.out.fr FE2.out (fun k hk e => by rcases HKW.out k hk with h | h; (simp [Value.ownBlock] at h); have := HQ4.out; have := FO.out.size; omega), HQ4.out.1, fun h => by rcases HKW.out _ h with h | h; (simp [Value.ownBlock] at h); have := HQ4.out; have := FO.out.size; omega, FE2.out.row (FW.out.row HRO.out.1 (by simp [Value.ownBlock])) (fun _ a ha e => by have := HRO.out.2.2 a ha; have := HQ4.out; omega), HRO.out.2.1, fun hne a ha => ⟨Nat.le_trans HQ4.out.2.2.2.1 (HRO.out.2.2 a ha), fun e => by have := HRO.out.2.2 a ha; have := HQ4.out; omega, fun h => by rcases HKW.out _ h with h | h; (simp [Value.ownBlock] at h); have := row_blk HRO.out.1 hne a ha; omega⟩⟩, ((HF4.out.trans (Fr.mono (T := fun k => k = sb) FO.out (fun _ _ h => h.elim))).trans (Fr.mono (T := fun k => k = sb) FW.out (fun _ _ h => by simp [Value.ownBlock] at h))).trans' FE2.out (fun i hi e => by have := HQ4.out; omega)⟩
                  exact AllReadyH.nil
                exact AllReadyH.nil
              exact AllReadyH.nil
            exact AllReadyH.nil
          exact AllReadyH.nil
        exact AllReadyH.nil
      exact AllReadyH.nil
    exact AllReadyH.nil
  refine AllReadyH.cons (o := _) (by rw [List.getElem?_toArray]; rfl) (fun K hK => ?_) ?_
  · go_simp
    go_wp2_with (go_at_call 55; refine (rank_any x _ hx).mono ?_; rintro e w5 ⟨rfl, hw5⟩; subst w5)
    refine hK.out _ _ trivial (fun hHeld => ?_)
    clear hK K
    try simp only [Act.put, List.setIfInBounds_toArray, List.set_cons_zero, List.set_cons_succ]
    refine wpAnyH_take (i := 8) (oi := _) (v := ?_) (by rw [List.getElem?_toArray]; rfl) (by kernel_rfl) (by kernel_rfl) (by kernel_rfl) (fun _ _ _ h => by exact h) (Or.inl ⟨by rfl, ?_⟩) (by assumption) ?_
    rotate_left
    · (intro w hSw; (try dsimp only at hSw); go_simp; (try with_reducible rfl))
    try simp only [Act.put, List.setIfInBounds_toArray, List.set_cons_zero, List.set_cons_succ]
    refine wpAnyH_ready (rs := [4, 9]) (by kernel_rfl) (by simp) ?_
    refine AllReadyH.cons (o := _) (by rw [List.getElem?_toArray]; rfl) (fun K hK => ?_) ?_
    · have ht := HT0.out
      go_simp
      clear ht
      refine hK.out _ _ trivial (fun hHeld => ?_)
      clear hK K
      try simp only [Act.put, List.setIfInBounds_toArray, List.set_cons_zero, List.set_cons_succ]
      refine wpAnyH_ready (rs := [9]) (by kernel_rfl) (by simp) ?_
      refine AllReadyH.cons (o := _) (by rw [List.getElem?_toArray]; rfl) (fun K hK => ?_) ?_
      · go_simp
        refine hK.out _ _ trivial (fun hHeld => ?_)
        clear hK K
        try simp only [Act.put, List.setIfInBounds_toArray, List.set_cons_zero, List.set_cons_succ]
        have FC : Hid (Fr (fun _ => False) W0 (W0.alloc (.cells #[.int .u64 ((Fl.rk x : Nat) : Int), .slice none 0 0] 81))) := (Fr.refl _ _).alloc _
        have HTC : Hid ((W0.alloc (.cells #[.int .u64 ((Fl.rk x : Nat) : Int), .slice none 0 0] 81)).cell? ⟨sb, 0, none⟩ = some (.slice none 0 0)) := FC.out.cell HT0.out (by simp)
        have KI : Hid (Calls _ _ _ _ _) := insertC_nil (Fl.rk x) W0.heap.size (W0.alloc (.cells #[.int .u64 ((Fl.rk x : Nat) : Int), .slice none 0 0] 81)) (by simp) (by simp)
        refine wpAnyH_ready (rs := [10]) (by kernel_rfl) (by simp) ?_
        refine AllReadyH.cons (o := _) (by rw [List.getElem?_toArray]; rfl) (fun K hK => ?_) ?_
        · go_simp
          go_wp2_with (go_at_call 54; refine KI.out.mono ?_; rintro e wI ⟨cb, cp, rfl, hgs, hg2, fI⟩)
          have FI : Hid (Fr (fun _ => False) w wI) := (HF0.out.trans FC.out).trans fI
          have HTI : Hid (wI.cell? ⟨sb, 0, none⟩ = some (.slice none 0 0)) := fI.cell HTC.out (by simp)
          have HZI : Hid (wI.frozen? ⟨sb, 0, none⟩ = false) := (FI.out.frozenEq (a := ⟨sb, 0, none⟩) HSL.out (by simp)).trans HSZ.out
          have HCI : Hid (w.heap.size ≤ cb ∧ C2 wI cb (.int .u64 ((Fl.rk x : Nat) : Int)) (.slice none 0 0)) := ⟨Nat.le_trans (HF0.out.trans FC.out).size hgs, hg2⟩
          have HBC : Hid (bx < cb) := Nat.lt_of_lt_of_le HB0.out.lt (Nat.le_trans FC.out.size hgs)
          have HBI : Hid (C4 wI bx (.int .u64 (e0 : Int)) (.int .u64 (i0 : Int)) (.bool d0) (.slice va l.length vc)) := HB0.out.fr (FC.out.trans fI) (by simp)
          clear hgs hg2 fI
          refine hK.out _ _ trivial (fun hHeld => ?_)
          clear hK K
          try simp only [Act.put, List.setIfInBounds_toArray, List.set_cons_zero, List.set_cons_succ]
          have ht := HTI.out
          have hz := HZI.out
          refine wpAnyH_take (i := 11) (oi := _) (v := ?_) (by rw [List.getElem?_toArray]; rfl) (by kernel_rfl) (by kernel_rfl) (by kernel_rfl) (fun _ _ _ h => by exact h) (Or.inl ⟨by rfl, ?_⟩) (by assumption) ?_
          rotate_left
          · (intro w hSw; (try dsimp only at hSw); go_simp; (try with_reducible rfl))
          try simp only [Act.put, List.setIfInBounds_toArray, List.set_cons_zero, List.set_cons_succ]
          refine wpAnyH_take (i := 12) (oi := _) (v := ?_) (by rw [List.getElem?_toArray]; rfl) (by kernel_rfl) (by kernel_rfl) (by kernel_rfl) (fun _ _ _ h => by exact h) (Or.inl ⟨by rfl, ?_⟩) (by assumption) ?_
          rotate_left
          · (intro w hSw; (try dsimp only at hSw); go_simp; (try with_reducible rfl))
          try simp only [Act.put, List.setIfInBounds_toArray, List.set_cons_zero, List.set_cons_succ]
          refine wpAnyH_ready (rs := [13]) (by kernel_rfl) (by simp) ?_
          refine AllReadyH.cons (o := _) (by rw [List.getElem?_toArray]; rfl) (fun K hK => ?_) ?_
          · go_simp
            refine hK.out _ _ trivial (fun hHeld => ?_)
            clear hK K
            try simp only [Act.put, List.setIfInBounds_toArray, List.set_cons_zero, List.set_cons_succ]
            refine wpAnyH_done (by kernel_rfl) ?_ _
            have FE : Hid (Fr (fun k => k = sb) wI (wI.setCell ⟨sb, 0, none⟩ (.slice (some ⟨cb, 0, none⟩) 1 cp))) := (Fr.refl (fun k => k = sb) wI).setCell (p := ⟨sb, 0, none⟩) (Or.inl rfl) _
            have HC : Hid ((wI.setCell ⟨sb, 0, none⟩ (.slice (some ⟨cb, 0, none⟩) 1 cp)).cell? ⟨sb, 0, none⟩ = some (.slice (some ⟨cb, 0, none⟩) 1 cp)) := World.cell?_setCell_same _ _ _ ht
            clear ht hz
            obtain ⟨w4, Hw4⟩ : ∃ w4, Hid (wI.setCell ⟨sb, 0, none⟩ (.slice (some ⟨cb, 0, none⟩) 1 cp) = w4) := ⟨_, rfl⟩
            rw [Hw4.out] at FE HC ⊢
            have HCB4 : Hid (C2 w4 cb (.int .u64 ((Fl.rk x : Nat) : Int)) (.slice none 0 0)) := HCI.out.2.fr FE.out (by have := HCI.out.1; have := HSL.out; omega)
            have HB4 : Hid (C4 w4 bx (.int .u64 (e0 : Int)) (.int .u64 (i0 : Int)) (.bool d0) (.slice va l.length vc)) := HBI.out.fr FE.out (by have := HBX.out; omega)
            have HF4 : Hid (Fr (fun k => k = sb) w w4) := (Fr.mono (T := fun k => k = sb) FI.out (fun _ _ h => h.elim)).trans FE.out
            have HQ4 : Hid (w.heap.size ≤ cb ∧ cb < w4.heap.size ∧ sb < w.heap.size ∧ w.heap.size ≤ w4.heap.size ∧ bx ≠ cb) := ⟨HCI.out.1, HCB4.out.lt, HSL.out, HF4.out.size, by have := HBC.out; omega⟩
            have HV4 : Hid (Row w4 va l vc) := HF4.out.row HV.out HVS.out
            have HSB4 : Hid (w4.cell? ⟨sb, 0, none⟩ = some (.slice (some ⟨cb, 0, none⟩) 1 cp)) := HC.out
            have HLV4 : Hid (OwnF w4 w.heap.size 60 (.slice none 0 0) ([] : List Vr)) := OwnF.nil _ _ _
            have KSV : Hid (∀ W, Fr (fun _ => False) w4 W → ∀ (y : Vr), y.e = e0 → y.i = i0 → Calls Try.prog 81 #[.slice none 0 0, .agg #[.int .u64 (y.e : Int), .int .u64 (y.i : Int), .bool y.d, .slice y.a y.n y.c], .func (.func 73) #[] #[]] W fun e w' => e = .returned (.tuple #[.int .i64 ((0 : Nat) : Int), .bool false]) ∧ Fr (fun _ => False) W w') := fun W _ y _ _ => searchV_nil y.e y.i y.d y.a y.n y.c W
            have k1 := HCB4.out.c0
            have k2 := HSB4.out
            go_wp2_with fail
            have HB0d : Hid (C4 w4.drew bx (.int .u64 (e0 : Int)) (.int .u64 (i0 : Int)) (.bool d0) (.slice va l.length vc)) := HB4.out.fr ((Fr.refl (fun _ => False) _).drew) (by simp)
            have HC20 : Hid (C2 w4.drew cb (.int .u64 ((Fl.rk x : Nat) : Int)) (.slice none 0 0)) := HCB4.out.fr ((Fr.refl (fun _ => False) _).drew) (by simp)
            have KO : Hid (Calls _ _ _ _ _) := own_any e0 i0 d0 va l vc w4.drew (HV4.out |> Fr.row ((Fr.refl (fun _ => False) _).drew) <| (by simp)) hl
            clear k1 k2
            refine wp_region_held_drew (S := (fun W : World => C4 W bx (.int .u64 (e0 : Int)) (.int .u64 (i0 : Int)) (.bool d0) (.slice va l.length vc))) (by kernel_rfl) HB0d.out (fun hHeld => ?_)
            refine wpAnyH_take (i := 0) (oi := _) (v := ?_) (by rw [List.getElem?_toArray]; rfl) (by kernel_rfl) (by kernel_rfl) (by kernel_rfl) (fun _ _ _ h => by exact h) (Or.inl ⟨by rfl, ?_⟩) (by assumption) ?_
            rotate_left
            · (intro w hSw; (try dsimp only at hSw); go_simp; (try with_reducible rfl))
            try simp only [Act.put, List.setIfInBounds_toArray, List.set_cons_zero, List.set_cons_succ]
            refine wpAnyH_take (i := 1) (oi := _) (v := ?_) (by rw [List.getElem?_toArray]; rfl) (by kernel_rfl) (by kernel_rfl) (by kernel_rfl) (fun _ _ _ h => by exact h) (Or.inl ⟨by rfl, ?_⟩) (by assumption) ?_
            rotate_left
            · (intro w hSw; (try dsimp only at hSw); go_simp; (try with_reducible rfl))
            try simp only [Act.put, List.setIfInBounds_toArray, List.set_cons_zero, List.set_cons_succ]
            refine wpAnyH_take (i := 2) (oi := _) (v := ?_) (by rw [List.getElem?_toArray]; rfl) (by kernel_rfl) (by kernel_rfl) (by kernel_rfl) (fun _ _ _ h => by exact h) (Or.inl ⟨by rfl, ?_⟩) (by assumption) ?_
            rotate_left
            · (intro w hSw; (try dsimp only at hSw); go_simp; (try with_reducible rfl))
            try simp only [Act.put, List.setIfInBounds_toArray, List.set_cons_zero, List.set_cons_succ]
            refine wpAnyH_take (i := 3) (oi := _) (v := ?_) (by rw [List.getElem?_toArray]; rfl) (by kernel_rfl) (by kernel_rfl) (by kernel_rfl) (fun _ _ _ h => by exact h) (Or.inl ⟨by rfl, ?_⟩) (by assumption) ?_
            rotate_left
            · (intro w hSw; (try dsimp only at hSw); go_simp; (try with_reducible rfl))
            try simp only [Act.put, List.setIfInBounds_toArray, List.set_cons_zero, List.set_cons_succ]
            refine wpAnyH_take (i := 5) (oi := _) (v := ?_) (by rw [List.getElem?_toArray]; rfl) (by kernel_rfl) (by kernel_rfl) (by kernel_rfl) (fun _ _ _ h => by exact h) (Or.inl ⟨by rfl, ?_⟩) (by assumption) ?_
            rotate_left
            · (intro w hSw; (try dsimp only at hSw); obtain ⟨x0, x1, x2, x3, _⟩ := hSw; go_simp; (try with_reducible rfl))
            try simp only [Act.put, List.setIfInBounds_toArray, List.set_cons_zero, List.set_cons_succ]
            refine wpAnyH_ready (rs := [4, 6]) (by kernel_rfl) (by simp) ?_
            refine AllReadyH.cons (o := _) (by rw [List.getElem?_toArray]; rfl) (fun K hK => ?_) ?_
            · have ht := HC20.out.c1
              go_simp
              clear ht
              refine hK.out _ _ HB0d.out (fun hHeld => ?_)
              clear hK K
              try simp only [Act.put, List.setIfInBounds_toArray, List.set_cons_zero, List.set_cons_succ]
              refine wpAnyH_ready (rs := [6]) (by kernel_rfl) (by simp) ?_
              refine AllReadyH.cons (o := _) (by rw [List.getElem?_toArray]; rfl) (fun K hK => ?_) ?_
              · go_simp
                go_wp2_with (go_at_call 57; refine KO.out.mono ?_; rintro e wO ⟨a1, l1, c1, rfl, hl1, hr1, hf1, fO⟩)
                have FO : Hid (Fr (fun _ => False) w4 wO) := ((Fr.refl (fun _ => False) w4).drew).trans fO
                have HBO : Hid (C4 wO bx (.int .u64 (e0 : Int)) (.int .u64 (i0 : Int)) (.bool d0) (.slice va l.length vc)) := HB4.out.fr FO.out (by simp)
                have HC2O : Hid (C2 wO cb (.int .u64 ((Fl.rk x : Nat) : Int)) (.slice none 0 0)) := HCB4.out.fr FO.out (by simp)
                have HRO : Hid (Row wO a1 l1 c1 ∧ (d0 = false → l1 = l) ∧ (∀ a, a1 = some a → w4.heap.size ≤ a.block)) := ⟨hr1, hl1, hf1⟩
                have KW : Hid (Calls _ _ _ _ _) := with_end ([] : List Vr) 0 1 rfl rfl ⟨e0, i0, d0, a1, l1.length, c1⟩ (.slice none 0 0) w.heap.size wO (HLV4.out.fr FO.out (by simp)) (Nat.le_trans HQ4.out.2.2.2.1 FO.out.size) (by simp) (fun W f => KSV.out W (FO.out.trans f) ⟨e0, i0, d0, a1, l1.length, c1⟩ rfl rfl)
                clear hl1 hr1 hf1 fO
                refine hK.out _ _ HBO.out (fun hHeld => ?_)
                clear hK K
                try simp only [Act.put, List.setIfInBounds_toArray, List.set_cons_zero, List.set_cons_succ]
                refine wpAnyH_ready (rs := [7]) (by kernel_rfl) (by simp) ?_
                refine AllReadyH.cons (o := _) (by rw [List.getElem?_toArray]; rfl) (fun K hK => ?_) ?_
                · go_simp
                  go_wp2_with (go_at_call 56; refine KW.out.mono ?_; rintro e wW ⟨la, lc, rfl, ho1, hk1, fW⟩)
                  have FW : Hid (Fr (fun k => ((.slice none 0 0) : Value).ownBlock = some k) wO wW) := fW
                  have HBW : Hid (C4 wW bx (.int .u64 (e0 : Int)) (.int .u64 (i0 : Int)) (.bool d0) (.slice va l.length vc)) := HBO.out.fr fW (by simp [Value.ownBlock])
                  have HCW : Hid (C2 wW cb (.int .u64 ((Fl.rk x : Nat) : Int)) (.slice none 0 0)) := HC2O.out.fr fW (by simp [Value.ownBlock])
                  have HOW : Hid (OwnF wW w.heap.size 60 (.slice la 1 lc) (([] : List Vr) ++ [(⟨e0, i0, d0, a1, l1.length, c1⟩ : Vr)])) := ho1
                  have HKW : Hid (∀ k, (Value.slice la 1 lc).ownBlock = some k → ((.slice none 0 0) : Value).ownBlock = some k ∨ wO.heap.size ≤ k) := hk1
                  clear ho1 hk1 fW
                  refine hK.out _ _ HBW.out (fun hHeld => ?_)
                  clear hK K
                  try simp only [Act.put, List.setIfInBounds_toArray, List.set_cons_zero, List.set_cons_succ]
                  have hc1 := HCW.out.c1
                  have hz1 := HCW.out.z 1
                  refine wpAnyH_take (i := 8) (oi := _) (v := ?_) (by rw [List.getElem?_toArray]; rfl) (by kernel_rfl) (by kernel_rfl) (by kernel_rfl) (fun _ _ _ h => by exact h) (Or.inl ⟨by rfl, ?_⟩) (by assumption) ?_
                  rotate_left
                  · (intro w hSw; (try dsimp only at hSw); go_simp; (try with_reducible rfl))
                  try simp only [Act.put, List.setIfInBounds_toArray, List.set_cons_zero, List.set_cons_succ]
                  refine wpAnyH_take (i := 9) (oi := _) (v := ?_) (by rw [List.getElem?_toArray]; rfl) (by kernel_rfl) (by kernel_rfl) (by kernel_rfl) (fun _ _ _ h => by exact h) (Or.inl ⟨by rfl, ?_⟩) (by assumption) ?_
                  rotate_left
                  · (intro w hSw; (try dsimp only at hSw); go_simp; (try with_reducible rfl))
                  try simp only [Act.put, List.setIfInBounds_toArray, List.set_cons_zero, List.set_cons_succ]
                  refine wpAnyH_ready (rs := [10]) (by kernel_rfl) (by simp) ?_
                  refine AllReadyH.cons (o := _) (by rw [List.getElem?_toArray]; rfl) (fun K hK => ?_) ?_
                  · go_simp
                    refine hK.out _ _ (HBW.out.fr ((Fr.refl (fun k => k = cb) wW).setCell (p := ⟨cb, 1, none⟩) (Or.inl rfl) _) (by have := HBX.out; have := HQ4.out; omega)) (fun hHeld => ?_)
                    clear hK K
                    try simp only [Act.put, List.setIfInBounds_toArray, List.set_cons_zero, List.set_cons_succ]
                    refine wpAnyH_done (by kernel_rfl) ?_ _
                    have FE2 : Hid (Fr (fun k => k = cb) wW (wW.setCell ⟨cb, 1, none⟩ (.slice la 1 lc))) := (Fr.refl (fun k => k = cb) wW).setCell (p := ⟨cb, 1, none⟩) (Or.inl rfl) _
                    have HC5 : Hid (C2 (wW.setCell ⟨cb, 1, none⟩ (.slice la 1 lc)) cb (.int .u64 ((Fl.rk x : Nat) : Int)) (.slice la 1 lc)) := ⟨FE_other HCW.out.c0, World.cell?_setCell_same _ _ _ hc1, fun j => by simpa using HCW.out.z j⟩
                    clear hc1 hz1 hHeld
                    go_wp2
                    go_end0
                    exact ⟨rfl, ⟨cb, cp, _, a1, l1, c1, FE2.out.cell (Fr.cell FW.out (FO.out.cell HSB4.out (by simp)) (by simp [Value.ownBlock])) (show ¬ sb = cb by have := HQ4.out; omega), HC5.out, HOW.out.fr FE2.out (fun k hk e => by rcases HKW.out k hk with h | h; (simp [Value.ownBlock] at h); have := HQ4.out; have := FO.out.size; omega), HQ4.out.1, fun h => by rcases HKW.out _ h with h | h; (simp [Value.ownBlock] at h); have := HQ4.out; have := FO.out.size; omega, FE2.out.row (FW.out.row HRO.out.1 (by simp [Value.ownBlock])) (fun _ a ha e => by have := HRO.out.2.2 a ha; have := HQ4.out; omega), HRO.out.2.1, fun hne a ha => ⟨Nat.le_trans HQ4.out.2.2.2.1 (HRO.out.2.2 a ha), fun e => by have := HRO.out.2.2 a ha; have := HQ4.out; omega, fun h => by rcases HKW.out _ h with h | h; (simp [Value.ownBlock] at h); have := row_blk HRO.out.1 hne a ha; omega⟩⟩, ((HF4.out.trans (Fr.mono (T := fun k => k = sb) FO.out (fun _ _ h => h.elim))).trans (Fr.mono (T := fun k => k = sb) FW.out (fun _ _ h => by simp [Value.ownBlock] at h))).trans' FE2.out (fun i hi e => by have := HQ4.out; omega)⟩
                  exact AllReadyH.nil
                exact AllReadyH.nil
              exact AllReadyH.nil
            refine AllReadyH.cons (o := _) (by rw [List.getElem?_toArray]; rfl) (fun K hK => ?_) ?_
            · go_simp
              go_wp2_with (go_at_call 57; refine KO.out.mono ?_; rintro e wO ⟨a1, l1, c1, rfl, hl1, hr1, hf1, fO⟩)
              have FO : Hid (Fr (fun _ => False) w4 wO) := ((Fr.refl (fun _ => False) w4).drew).trans fO
              have HBO : Hid (C4 wO bx (.int .u64 (e0 : Int)) (.int .u64 (i0 : Int)) (.bool d0) (.slice va l.length vc)) := HB4.out.fr FO.out (by simp)
              have HC2O : Hid (C2 wO cb (.int .u64 ((Fl.rk x : Nat) : Int)) (.slice none 0 0)) := HCB4.out.fr FO.out (by simp)
              have HRO : Hid (Row wO a1 l1 c1 ∧ (d0 = false → l1 = l) ∧ (∀ a, a1 = some a → w4.heap.size ≤ a.block)) := ⟨hr1, hl1, hf1⟩
              have KW : Hid (Calls _ _ _ _ _) := with_end ([] : List Vr) 0 1 rfl rfl ⟨e0, i0, d0, a1, l1.length, c1⟩ (.slice none 0 0) w.heap.size wO (HLV4.out.fr FO.out (by simp)) (Nat.le_trans HQ4.out.2.2.2.1 FO.out.size) (by simp) (fun W f => KSV.out W (FO.out.trans f) ⟨e0, i0, d0, a1, l1.length, c1⟩ rfl rfl)
              clear hl1 hr1 hf1 fO
              refine hK.out _ _ HBO.out (fun hHeld => ?_)
              clear hK K
              try simp only [Act.put, List.setIfInBounds_toArray, List.set_cons_zero, List.set_cons_succ]
              refine wpAnyH_ready (rs := [4]) (by kernel_rfl) (by simp) ?_
              refine AllReadyH.cons (o := _) (by rw [List.getElem?_toArray]; rfl) (fun K hK => ?_) ?_
              · have ht := HC2O.out.c1
                go_simp
                clear ht
                refine hK.out _ _ HBO.out (fun hHeld => ?_)
                clear hK K
                try simp only [Act.put, List.setIfInBounds_toArray, List.set_cons_zero, List.set_cons_succ]
                refine wpAnyH_ready (rs := [7]) (by kernel_rfl) (by simp) ?_
                refine AllReadyH.cons (o := _) (by rw [List.getElem?_toArray]; rfl) (fun K hK => ?_) ?_
                · go_simp
                  go_wp2_with (go_at_call 56; refine KW.out.mono ?_; rintro e wW ⟨la, lc, rfl, ho1, hk1, fW⟩)
                  have FW : Hid (Fr (fun k => ((.slice none 0 0) : Value).ownBlock = some k) wO wW) := fW
                  have HBW : Hid (C4 wW bx (.int .u64 (e0 : Int)) (.int .u64 (i0 : Int)) (.bool d0) (.slice va l.length vc)) := HBO.out.fr fW (by simp [Value.ownBlock])
                  have HCW : Hid (C2 wW cb (.int .u64 ((Fl.rk x : Nat) : Int)) (.slice none 0 0)) := HC2O.out.fr fW (by simp [Value.ownBlock])
                  have HOW : Hid (OwnF wW w.heap.size 60 (.slice la 1 lc) (([] : List Vr) ++ [(⟨e0, i0, d0, a1, l1.length, c1⟩ : Vr)])) := ho1
                  have HKW : Hid (∀ k, (Value.slice la 1 lc).ownBlock = some k → ((.slice none 0 0) : Value).ownBlock = some k ∨ wO.heap.size ≤ k) := hk1
                  clear ho1 hk1 fW
                  refine hK.out _ _ HBW.out (fun hHeld => ?_)
                  clear hK K
                  try simp only [Act.put, List.setIfInBounds_toArray, List.set_cons_zero, List.set_cons_succ]
                  have hc1 := HCW.out.c1
                  have hz1 := HCW.out.z 1
                  refine wpAnyH_take (i := 8) (oi := _) (v := ?_) (by rw [List.getElem?_toArray]; rfl) (by kernel_rfl) (by kernel_rfl) (by kernel_rfl) (fun _ _ _ h => by exact h) (Or.inl ⟨by rfl, ?_⟩) (by assumption) ?_
                  rotate_left
                  · (intro w hSw; (try dsimp only at hSw); go_simp; (try with_reducible rfl))
                  try simp only [Act.put, List.setIfInBounds_toArray, List.set_cons_zero, List.set_cons_succ]
                  refine wpAnyH_take (i := 9) (oi := _) (v := ?_) (by rw [List.getElem?_toArray]; rfl) (by kernel_rfl) (by kernel_rfl) (by kernel_rfl) (fun _ _ _ h => by exact h) (Or.inl ⟨by rfl, ?_⟩) (by assumption) ?_
                  rotate_left
                  · (intro w hSw; (try dsimp only at hSw); go_simp; (try with_reducible rfl))
                  try simp only [Act.put, List.setIfInBounds_toArray, List.set_cons_zero, List.set_cons_succ]
                  refine wpAnyH_ready (rs := [10]) (by kernel_rfl) (by simp) ?_
                  refine AllReadyH.cons (o := _) (by rw [List.getElem?_toArray]; rfl) (fun K hK => ?_) ?_
                  · go_simp
                    refine hK.out _ _ (HBW.out.fr ((Fr.refl (fun k => k = cb) wW).setCell (p := ⟨cb, 1, none⟩) (Or.inl rfl) _) (by have := HBX.out; have := HQ4.out; omega)) (fun hHeld => ?_)
                    clear hK K
                    try simp only [Act.put, List.setIfInBounds_toArray, List.set_cons_zero, List.set_cons_succ]
                    refine wpAnyH_done (by kernel_rfl) ?_ _
                    have FE2 : Hid (Fr (fun k => k = cb) wW (wW.setCell ⟨cb, 1, none⟩ (.slice la 1 lc))) := (Fr.refl (fun k => k = cb) wW).setCell (p := ⟨cb, 1, none⟩) (Or.inl rfl) _
                    have HC5 : Hid (C2 (wW.setCell ⟨cb, 1, none⟩ (.slice la 1 lc)) cb (.int .u64 ((Fl.rk x : Nat) : Int)) (.slice la 1 lc)) := ⟨FE_other HCW.out.c0, World.cell?_setCell_same _ _ _ hc1, fun j => by simpa using HCW.out.z j⟩
                    clear hc1 hz1 hHeld
                    go_wp2
                    go_end0
                    exact ⟨rfl, ⟨cb, cp, _, a1, l1, c1, FE2.out.cell (Fr.cell FW.out (FO.out.cell HSB4.out (by simp)) (by simp [Value.ownBlock])) (show ¬ sb = cb by have := HQ4.out; omega), HC5.out, HOW.out.fr FE2.out (fun k hk e => by rcases HKW.out k hk with h | h; (simp [Value.ownBlock] at h); have := HQ4.out; have := FO.out.size; omega), HQ4.out.1, fun h => by rcases HKW.out _ h with h | h; (simp [Value.ownBlock] at h); have := HQ4.out; have := FO.out.size; omega, FE2.out.row (FW.out.row HRO.out.1 (by simp [Value.ownBlock])) (fun _ a ha e => by have := HRO.out.2.2 a ha; have := HQ4.out; omega), HRO.out.2.1, fun hne a ha => ⟨Nat.le_trans HQ4.out.2.2.2.1 (HRO.out.2.2 a ha), fun e => by have := HRO.out.2.2 a ha; have := HQ4.out; omega, fun h => by rcases HKW.out _ h with h | h; (simp [Value.ownBlock] at h); have := row_blk HRO.out.1 hne a ha; omega⟩⟩, ((HF4.out.trans (Fr.mono (T := fun k => k = sb) FO.out (fun _ _ h => h.elim))).trans (Fr.mono (T := fun k => k = sb) FW.out (fun _ _ h => by simp [Value.ownBlock] at h))).trans' FE2.out (fun i hi e => by have := HQ4.out; omega)⟩
                  exact AllReadyH.nil
                exact AllReadyH.nil
              exact AllReadyH.nil
            exact AllReadyH.nil
          exact AllReadyH.nil
        exact AllReadyH.nil
      exact AllReadyH.nil
    refine AllReadyH.cons (o := _) (by rw [List.getElem?_toArray]; rfl) (fun K hK => ?_) ?_
    · go_simp
      refine hK.out _ _ trivial (fun hHeld => ?_)
      clear hK K
      try simp only [Act.put, List.setIfInBounds_toArray, List.set_cons_zero, List.set_cons_succ]
      have FC : Hid (Fr (fun _ => False) W0 (W0.alloc (.cells #[.int .u64 ((Fl.rk x : Nat) : Int), .slice none 0 0] 81))) := (Fr.refl _ _).alloc _
      have HTC : Hid ((W0.alloc (.cells #[.int .u64 ((Fl.rk x : Nat) : Int), .slice none 0 0] 81)).cell? ⟨sb, 0, none⟩ = some (.slice none 0 0)) := FC.out.cell HT0.out (by simp)
      have KI : Hid (Calls _ _ _ _ _) := insertC_nil (Fl.rk x) W0.heap.size (W0.alloc (.cells #[.int .u64 ((Fl.rk x : Nat) : Int), .slice none 0 0] 81)) (by simp) (by simp)
      refine wpAnyH_ready (rs := [4]) (by kernel_rfl) (by simp) ?_
      refine AllReadyH.cons (o := _) (by rw [List.getElem?_toArray]; rfl) (fun K hK => ?_) ?_
      · have ht := HTC.out
        go_simp
        clear ht
        refine hK.out _ _ trivial (fun hHeld => ?_)
        clear hK K
        try simp only [Act.put, List.setIfInBounds_toArray, List.set_cons_zero, List.set_cons_succ]
        refine wpAnyH_ready (rs := [10]) (by kernel_rfl) (by simp) ?_
        refine AllReadyH.cons (o := _) (by rw [List.getElem?_toArray]; rfl) (fun K hK => ?_) ?_
        · go_simp
          go_wp2_with (go_at_call 54; refine KI.out.mono ?_; rintro e wI ⟨cb, cp, rfl, hgs, hg2, fI⟩)
          have FI : Hid (Fr (fun _ => False) w wI) := (HF0.out.trans FC.out).trans fI
          have HTI : Hid (wI.cell? ⟨sb, 0, none⟩ = some (.slice none 0 0)) := fI.cell HTC.out (by simp)
          have HZI : Hid (wI.frozen? ⟨sb, 0, none⟩ = false) := (FI.out.frozenEq (a := ⟨sb, 0, none⟩) HSL.out (by simp)).trans HSZ.out
          have HCI : Hid (w.heap.size ≤ cb ∧ C2 wI cb (.int .u64 ((Fl.rk x : Nat) : Int)) (.slice none 0 0)) := ⟨Nat.le_trans (HF0.out.trans FC.out).size hgs, hg2⟩
          have HBC : Hid (bx < cb) := Nat.lt_of_lt_of_le HB0.out.lt (Nat.le_trans FC.out.size hgs)
          have HBI : Hid (C4 wI bx (.int .u64 (e0 : Int)) (.int .u64 (i0 : Int)) (.bool d0) (.slice va l.length vc)) := HB0.out.fr (FC.out.trans fI) (by simp)
          clear hgs hg2 fI
          refine hK.out _ _ trivial (fun hHeld => ?_)
          clear hK K
          try simp only [Act.put, List.setIfInBounds_toArray, List.set_cons_zero, List.set_cons_succ]
          have ht := HTI.out
          have hz := HZI.out
          refine wpAnyH_take (i := 11) (oi := _) (v := ?_) (by rw [List.getElem?_toArray]; rfl) (by kernel_rfl) (by kernel_rfl) (by kernel_rfl) (fun _ _ _ h => by exact h) (Or.inl ⟨by rfl, ?_⟩) (by assumption) ?_
          rotate_left
          · (intro w hSw; (try dsimp only at hSw); go_simp; (try with_reducible rfl))
          try simp only [Act.put, List.setIfInBounds_toArray, List.set_cons_zero, List.set_cons_succ]
          refine wpAnyH_take (i := 12) (oi := _) (v := ?_) (by rw [List.getElem?_toArray]; rfl) (by kernel_rfl) (by kernel_rfl) (by kernel_rfl) (fun _ _ _ h => by exact h) (Or.inl ⟨by rfl, ?_⟩) (by assumption) ?_
          rotate_left
          · (intro w hSw; (try dsimp only at hSw); go_simp; (try with_reducible rfl))
          try simp only [Act.put, List.setIfInBounds_toArray, List.set_cons_zero, List.set_cons_succ]
          refine wpAnyH_ready (rs := [13]) (by kernel_rfl) (by simp) ?_
          refine AllReadyH.cons (o := _) (by rw [List.getElem?_toArray]; rfl) (fun K hK => ?_) ?_
          · go_simp
            refine hK.out _ _ trivial (fun hHeld => ?_)
            clear hK K
            try simp only [Act.put, List.setIfInBounds_toArray, List.set_cons_zero, List.set_cons_succ]
            refine wpAnyH_done (by kernel_rfl) ?_ _
            have FE : Hid (Fr (fun k => k = sb) wI (wI.setCell ⟨sb, 0, none⟩ (.slice (some ⟨cb, 0, none⟩) 1 cp))) := (Fr.refl (fun k => k = sb) wI).setCell (p := ⟨sb, 0, none⟩) (Or.inl rfl) _
            have HC : Hid ((wI.setCell ⟨sb, 0, none⟩ (.slice (some ⟨cb, 0, none⟩) 1 cp)).cell? ⟨sb, 0, none⟩ = some (.slice (some ⟨cb, 0, none⟩) 1 cp)) := World.cell?_setCell_same _ _ _ ht
            clear ht hz
            obtain ⟨w4, Hw4⟩ : ∃ w4, Hid (wI.setCell ⟨sb, 0, none⟩ (.slice (some ⟨cb, 0, none⟩) 1 cp) = w4) := ⟨_, rfl⟩
            rw [Hw4.out] at FE HC ⊢
            have HCB4 : Hid (C2 w4 cb (.int .u64 ((Fl.rk x : Nat) : Int)) (.slice none 0 0)) := HCI.out.2.fr FE.out (by have := HCI.out.1; have := HSL.out; omega)
            have HB4 : Hid (C4 w4 bx (.int .u64 (e0 : Int)) (.int .u64 (i0 : Int)) (.bool d0) (.slice va l.length vc)) := HBI.out.fr FE.out (by have := HBX.out; omega)
            have HF4 : Hid (Fr (fun k => k = sb) w w4) := (Fr.mono (T := fun k => k = sb) FI.out (fun _ _ h => h.elim)).trans FE.out
            have HQ4 : Hid (w.heap.size ≤ cb ∧ cb < w4.heap.size ∧ sb < w.heap.size ∧ w.heap.size ≤ w4.heap.size ∧ bx ≠ cb) := ⟨HCI.out.1, HCB4.out.lt, HSL.out, HF4.out.size, by have := HBC.out; omega⟩
            have HV4 : Hid (Row w4 va l vc) := HF4.out.row HV.out HVS.out
            have HSB4 : Hid (w4.cell? ⟨sb, 0, none⟩ = some (.slice (some ⟨cb, 0, none⟩) 1 cp)) := HC.out
            have HLV4 : Hid (OwnF w4 w.heap.size 60 (.slice none 0 0) ([] : List Vr)) := OwnF.nil _ _ _
            have KSV : Hid (∀ W, Fr (fun _ => False) w4 W → ∀ (y : Vr), y.e = e0 → y.i = i0 → Calls Try.prog 81 #[.slice none 0 0, .agg #[.int .u64 (y.e : Int), .int .u64 (y.i : Int), .bool y.d, .slice y.a y.n y.c], .func (.func 73) #[] #[]] W fun e w' => e = .returned (.tuple #[.int .i64 ((0 : Nat) : Int), .bool false]) ∧ Fr (fun _ => False) W w') := fun W _ y _ _ => searchV_nil y.e y.i y.d y.a y.n y.c W
            have k1 := HCB4.out.c0
            have k2 := HSB4.out
            go_wp2_with fail
            have HB0d : Hid (C4 w4.drew bx (.int .u64 (e0 : Int)) (.int .u64 (i0 : Int)) (.bool d0) (.slice va l.length vc)) := HB4.out.fr ((Fr.refl (fun _ => False) _).drew) (by simp)
            have HC20 : Hid (C2 w4.drew cb (.int .u64 ((Fl.rk x : Nat) : Int)) (.slice none 0 0)) := HCB4.out.fr ((Fr.refl (fun _ => False) _).drew) (by simp)
            have KO : Hid (Calls _ _ _ _ _) := own_any e0 i0 d0 va l vc w4.drew (HV4.out |> Fr.row ((Fr.refl (fun _ => False) _).drew) <| (by simp)) hl
            clear k1 k2
            refine wp_region_held_drew (S := (fun W : World => C4 W bx (.int .u64 (e0 : Int)) (.int .u64 (i0 : Int)) (.bool d0) (.slice va l.length vc))) (by kernel_rfl) HB0d.out (fun hHeld => ?_)
            refine wpAnyH_take (i := 0) (oi := _) (v := ?_) (by rw [List.getElem?_toArray]; rfl) (by kernel_rfl) (by kernel_rfl) (by kernel_rfl) (fun _ _ _ h => by exact h) (Or.inl ⟨by rfl, ?_⟩) (by assumption) ?_
            rotate_left
            · (intro w hSw; (try dsimp only at hSw); go_simp; (try with_reducible rfl))
            try simp only [Act.put, List.setIfInBounds_toArray, List.set_cons_zero, List.set_cons_succ]
            refine wpAnyH_take (i := 1) (oi := _) (v := ?_) (by rw [List.getElem?_toArray]; rfl) (by kernel_rfl) (by kernel_rfl) (by kernel_rfl) (fun _ _ _ h => by exact h) (Or.inl ⟨by rfl, ?_⟩) (by assumption) ?_
            rotate_left
            · (intro w hSw; (try dsimp only at hSw); go_simp; (try with_reducible rfl))
            try simp only [Act.put, List.setIfInBounds_toArray, List.set_cons_zero, List.set_cons_succ]
            refine wpAnyH_take (i := 2) (oi := _) (v := ?_) (by rw [List.getElem?_toArray]; rfl) (by kernel_rfl) (by kernel_rfl) (by kernel_rfl) (fun _ _ _ h => by exact h) (Or.inl ⟨by rfl, ?_⟩) (by assumption) ?_
            rotate_left
            · (intro w hSw; (try dsimp only at hSw); go_simp; (try with_reducible rfl))
            try simp only [Act.put, List.setIfInBounds_toArray, List.set_cons_zero, List.set_cons_succ]
            refine wpAnyH_take (i := 3) (oi := _) (v := ?_) (by rw [List.getElem?_toArray]; rfl) (by kernel_rfl) (by kernel_rfl) (by kernel_rfl) (fun _ _ _ h => by exact h) (Or.inl ⟨by rfl, ?_⟩) (by assumption) ?_
            rotate_left
            · (intro w hSw; (try dsimp only at hSw); go_simp; (try with_reducible rfl))
            try simp only [Act.put, List.setIfInBounds_toArray, List.set_cons_zero, List.set_cons_succ]
            refine wpAnyH_take (i := 5) (oi := _) (v := ?_) (by rw [List.getElem?_toArray]; rfl) (by kernel_rfl) (by kernel_rfl) (by kernel_rfl) (fun _ _ _ h => by exact h) (Or.inl ⟨by rfl, ?_⟩) (by assumption) ?_
            rotate_left
            · (intro w hSw; (try dsimp only at hSw); obtain ⟨x0, x1, x2, x3, _⟩ := hSw; go_simp; (try with_reducible rfl))
            try simp only [Act.put, List.setIfInBounds_toArray, List.set_cons_zero, List.set_cons_succ]
            refine wpAnyH_ready (rs := [4, 6]) (by kernel_rfl) (by simp) ?_
            refine AllReadyH.cons (o := _) (by rw [List.getElem?_toArray]; rfl) (fun K hK => ?_) ?_
            · have ht := HC20.out.c1
              go_simp
              clear ht
              refine hK.out _ _ HB0d.out (fun hHeld => ?_)
              clear hK K
              try simp only [Act.put, List.setIfInBounds_toArray, List.set_cons_zero, List.set_cons_succ]
              refine wpAnyH_ready (rs := [6]) (by kernel_rfl) (by simp) ?_
              refine AllReadyH.cons (o := _) (by rw [List.getElem?_toArray]; rfl) (fun K hK => ?_) ?_
              · go_simp
                go_wp2_with (go_at_call 57; refine KO.out.mono ?_; rintro e wO ⟨a1, l1, c1, rfl, hl1, hr1, hf1, fO⟩)
                have FO : Hid (Fr (fun _ => False) w4 wO) := ((Fr.refl (fun _ => False) w4).drew).trans fO
                have HBO : Hid (C4 wO bx (.int .u64 (e0 : Int)) (.int .u64 (i0 : Int)) (.bool d0) (.slice va l.length vc)) := HB4.out.fr FO.out (by simp)
                have HC2O : Hid (C2 wO cb (.int .u64 ((Fl.rk x : Nat) : Int)) (.slice none 0 0)) := HCB4.out.fr FO.out (by simp)
                have HRO : Hid (Row wO a1 l1 c1 ∧ (d0 = false → l1 = l) ∧ (∀ a, a1 = some a → w4.heap.size ≤ a.block)) := ⟨hr1, hl1, hf1⟩
                have KW : Hid (Calls _ _ _ _ _) := with_end ([] : List Vr) 0 1 rfl rfl ⟨e0, i0, d0, a1, l1.length, c1⟩ (.slice none 0 0) w.heap.size wO (HLV4.out.fr FO.out (by simp)) (Nat.le_trans HQ4.out.2.2.2.1 FO.out.size) (by simp) (fun W f => KSV.out W (FO.out.trans f) ⟨e0, i0, d0, a1, l1.length, c1⟩ rfl rfl)
                clear hl1 hr1 hf1 fO
                refine hK.out _ _ HBO.out (fun hHeld => ?_)
                clear hK K
                try simp only [Act.put, List.setIfInBounds_toArray, List.set_cons_zero, List.set_cons_succ]
                refine wpAnyH_ready (rs := [7]) (by kernel_rfl) (by simp) ?_
                refine AllReadyH.cons (o := _) (by rw [List.getElem?_toArray]; rfl) (fun K hK => ?_) ?_
                · go_simp
                  go_wp2_with (go_at_call 56; refine KW.out.mono ?_; rintro e wW ⟨la, lc, rfl, ho1, hk1, fW⟩)
                  have FW : Hid (Fr (fun k => ((.slice none 0 0) : Value).ownBlock = some k) wO wW) := fW
                  have HBW : Hid (C4 wW bx (.int .u64 (e0 : Int)) (.int .u64 (i0 : Int)) (.bool d0) (.slice va l.length vc)) := HBO.out.fr fW (by simp [Value.ownBlock])
                  have HCW : Hid (C2 wW cb (.int .u64 ((Fl.rk x : Nat) : Int)) (.slice none 0 0)) := HC2O.out.fr fW (by simp [Value.ownBlock])
                  have HOW : Hid (OwnF wW w.heap.size 60 (.slice la 1 lc) (([] : List Vr) ++ [(⟨e0, i0, d0, a1, l1.length, c1⟩ : Vr)])) := ho1
                  have HKW : Hid (∀ k, (Value.slice la 1 lc).ownBlock = some k → ((.slice none 0 0) : Value).ownBlock = some k ∨ wO.heap.size ≤ k) := hk1
                  clear ho1 hk1 fW
                  refine hK.out _ _ HBW.out (fun hHeld => ?_)
                  clear hK K
                  try simp only [Act.put, List.setIfInBounds_toArray, List.set_cons_zero, List.set_cons_succ]
                  have hc1 := HCW.out.c1
                  have hz1 := HCW.out.z 1
                  refine wpAnyH_take (i := 8) (oi := _) (v := ?_) (by rw [List.getElem?_toArray]; rfl) (by kernel_rfl) (by kernel_rfl) (by kernel_rfl) (fun _ _ _ h => by exact h) (Or.inl ⟨by rfl, ?_⟩) (by assumption) ?_
                  rotate_left
                  · (intro w hSw; (try dsimp only at hSw); go_simp; (try with_reducible rfl))
                  try simp only [Act.put, List.setIfInBounds_toArray, List.set_cons_zero, List.set_cons_succ]
                  refine wpAnyH_take (i := 9) (oi := _) (v := ?_) (by rw [List.getElem?_toArray]; rfl) (by kernel_rfl) (by kernel_rfl) (by kernel_rfl) (fun _ _ _ h => by exact h) (Or.inl ⟨by rfl, ?_⟩) (by assumption) ?_
                  rotate_left
                  · (intro w hSw; (try dsimp only at hSw); go_simp; (try with_reducible rfl))
                  try simp only [Act.put, List.setIfInBounds_toArray, List.set_cons_zero, List.set_cons_succ]
                  refine wpAnyH_ready (rs := [10]) (by kernel_rfl) (by simp) ?_
                  refine AllReadyH.cons (o := _) (by rw [List.getElem?_toArray]; rfl) (fun K hK => ?_) ?_
                  · go_simp
                    refine hK.out _ _ (HBW.out.fr ((Fr.refl (fun k => k = cb) wW).setCell (p := ⟨cb, 1, none⟩) (Or.inl rfl) _) (by have := HBX.out; have := HQ4.out; omega)) (fun hHeld => ?_)
                    clear hK K
                    try simp only [Act.put, List.setIfInBounds_toArray, List.set_cons_zero, List.set_cons_succ]
                    refine wpAnyH_done (by kernel_rfl) ?_ _
                    have FE2 : Hid (Fr (fun k => k = cb) wW (wW.setCell ⟨cb, 1, none⟩ (.slice la 1 lc))) := (Fr.refl (fun k => k = cb) wW).setCell (p := ⟨cb, 1, none⟩) (Or.inl rfl) _
                    have HC5 : Hid (C2 (wW.setCell ⟨cb, 1, none⟩ (.slice la 1 lc)) cb (.int .u64 ((Fl.rk x : Nat) : Int)) (.slice la 1 lc)) := ⟨FE_other HCW.out.c0, World.cell?_setCell_same _ _ _ hc1, fun j => by simpa using HCW.out.z j⟩
                    clear hc1 hz1 hHeld
                    go_wp2
                    go_end0
                    exact ⟨rfl, ⟨cb, cp, _, a1, l1, c1, FE2.out.cell (Fr.cell FW.out (FO.out.cell HSB4.out (by simp)) (by simp [Value.ownBlock])) (show ¬ sb = cb by have := HQ4.out; omega), HC5.out, HOW.out.fr FE2.out (fun k hk e => by rcases HKW.out k hk with h | h; (simp [Value.ownBlock] at h); have := HQ4.out; have := FO.out.size; omega), HQ4.out.1, fun h => by rcases HKW.out _ h with h | h; (simp [Value.ownBlock] at h); have := HQ4.out; have := FO.out.size; omega, FE2.out.row (FW.out.row HRO.out.1 (by simp [Value.ownBlock])) (fun _ a ha e => by have := HRO.out.2.2 a ha; have := HQ4.out; omega), HRO.out.2.1, fun hne a ha => ⟨Nat.le_trans HQ4.out.2.2.2.1 (HRO.out.2.2 a ha), fun e => by have := HRO.out.2.2 a ha; have := HQ4.out; omega, fun h => by rcases HKW.out _ h with h | h; (simp [Value.ownBlock] at h); have := row_blk HRO.out.1 hne a ha; omega⟩⟩, ((HF4.out.trans (Fr.mono (T := fun k => k = sb) FO.out (fun _ _ h => h.elim))).trans (Fr.mono (T := fun k => k = sb) FW.out (fun _ _ h => by simp [Value.ownBlock] at h))).trans' FE2.out (fun i hi e => by have := HQ4.out; omega)⟩
                  exact AllReadyH.nil
                exact AllReadyH.nil
              exact AllReadyH.nil
            refine AllReadyH.cons (o := _) (by rw [List.getElem?_toArray]; rfl) (fun K hK => ?_) ?_
            · go_simp
              go_wp2_with (go_at_call 57; refine KO.out.mono ?_; rintro e wO ⟨a1, l1, c1, rfl, hl1, hr1, hf1, fO⟩)
              have FO : Hid (Fr (fun _ => False) w4 wO) := ((Fr.refl (fun _ => False) w4).drew).trans fO
              have HBO : Hid (C4 wO bx (.int .u64 (e0 : Int)) (.int .u64 (i0 : Int)) (.bool d0) (.slice va l.length vc)) := HB4.out.fr FO.out (by simp)
              have HC2O : Hid (C2 wO cb (.int .u64 ((Fl.rk x : Nat) : Int)) (.slice none 0 0)) := HCB4.out.fr FO.out (by simp)
              have HRO : Hid (Row wO a1 l1 c1 ∧ (d0 = false → l1 = l) ∧ (∀ a, a1 = some a → w4.heap.size ≤ a.block)) := ⟨hr1, hl1, hf1⟩
              have KW : Hid (Calls _ _ _ _ _) := with_end ([] : List Vr) 0 1 rfl rfl ⟨e0, i0, d0, a1, l1.length, c1⟩ (.slice none 0 0) w.heap.size wO (HLV4.out.fr FO.out (by simp)) (Nat.le_trans HQ4.out.2.2.2.1 FO.out.size) (by simp) (fun W f => KSV.out W (FO.out.trans f) ⟨e0, i0, d0, a1, l1.length, c1⟩ rfl rfl)
              clear hl1 hr1 hf1 fO
              refine hK.out _ _ HBO.out (fun hHeld => ?_)
              clear hK K
              try simp only [Act.put, List.setIfInBounds_toArray, List.set_cons_zero, List.set_cons_succ]
              refine wpAnyH_ready (rs := [4]) (by kernel_rfl) (by simp) ?_
              refine AllReadyH.cons (o := _) (by rw [List.getElem?_toArray]; rfl) (fun K hK => ?_) ?_
              · have ht := HC2O.out.c1
                go_simp
                clear ht
                refine hK.out _ _ HBO.out (fun hHeld => ?_)
                clear hK K
                try simp only [Act.put, List.setIfInBounds_toArray, List.set_cons_zero, List.set_cons_succ]
                refine wpAnyH_ready (rs := [7]) (by kernel_rfl) (by simp) ?_
                refine AllReadyH.cons (o := _) (by rw [List.getElem?_toArray]; rfl) (fun K hK => ?_) ?_
                · go_simp
                  go_wp2_with (go_at_call 56; refine KW.out.mono ?_; rintro e wW ⟨la, lc, rfl, ho1, hk1, fW⟩)
                  have FW : Hid (Fr (fun k => ((.slice none 0 0) : Value).ownBlock = some k) wO wW) := fW
                  have HBW : Hid (C4 wW bx (.int .u64 (e0 : Int)) (.int .u64 (i0 : Int)) (.bool d0) (.slice va l.length vc)) := HBO.out.fr fW (by simp [Value.ownBlock])
                  have HCW : Hid (C2 wW cb (.int .u64 ((Fl.rk x : Nat) : Int)) (.slice none 0 0)) := HC2O.out.fr fW (by simp [Value.ownBlock])
                  have HOW : Hid (OwnF wW w.heap.size 60 (.slice la 1 lc) (([] : List Vr) ++ [(⟨e0, i0, d0, a1, l1.length, c1⟩ : Vr)])) := ho1
                  have HKW : Hid (∀ k, (Value.slice la 1 lc).ownBlock = some k → ((.slice none 0 0) : Value).ownBlock = some k ∨ wO.heap.size ≤ k) := hk1
                  clear ho1 hk1 fW
                  refine hK.out _ _ HBW.out (fun hHeld => ?_)
                  clear hK K
                  try simp only [Act.put, List.setIfInBounds_toArray, List.set_cons_zero, List.set_cons_succ]
                  have hc1 := HCW.out.c1
                  have hz1 := HCW.out.z 1
                  refine wpAnyH_take (i := 8) (oi := _) (v := ?_) (by rw [List.getElem?_toArray]; rfl) (by kernel_rfl) (by kernel_rfl) (by kernel_rfl) (fun _ _ _ h => by exact h) (Or.inl ⟨by rfl, ?_⟩) (by assumption) ?_
                  rotate_left
                  · (intro w hSw; (try dsimp only at hSw); go_simp; (try with_reducible rfl))
                  try simp only [Act.put, List.setIfInBounds_toArray, List.set_cons_zero, List.set_cons_succ]
                  refine wpAnyH_take (i := 9) (oi := _) (v := ?_) (by rw [List.getElem?_toArray]; rfl) (by kernel_rfl) (by kernel_rfl) (by kernel_rfl) (fun _ _ _ h => by exact h) (Or.inl ⟨by rfl, ?_⟩) (by assumption) ?_
                  rotate_left
                  · (intro w hSw; (try dsimp only at hSw); go_simp; (try with_reducible rfl))
                  try simp only [Act.put, List.setIfInBounds_toArray, List.set_cons_zero, List.set_cons_succ]
                  refine wpAnyH_ready (rs := [10]) (by kernel_rfl) (by simp) ?_
                  refine AllReadyH.cons (o := _) (by rw [List.getElem?_toArray]; rfl) (fun K hK => ?_) ?_
                  · go_simp
                    refine hK.out _ _ (HBW.out.fr ((Fr.refl (fun k => k = cb) wW).setCell (p := ⟨cb, 1, none⟩) (Or.inl rfl) _) (by have := HBX.out; have := HQ4.out; omega)) (fun hHeld => ?_)
                    clear hK K
                    try simp only [Act.put, List.setIfInBounds_toArray, List.set_cons_zero, List.set_cons_succ]
                    refine wpAnyH_done (by kernel_rfl) ?_ _
                    have FE2 : Hid (Fr (fun k => k = cb) wW (wW.setCell ⟨cb, 1, none⟩ (.slice la 1 lc))) := (Fr.refl (fun k => k = cb) wW).setCell (p := ⟨cb, 1, none⟩) (Or.inl rfl) _
                    have HC5 : Hid (C2 (wW.setCell ⟨cb, 1, none⟩ (.slice la 1 lc)) cb (.int .u64 ((Fl.rk x : Nat) : Int)) (.slice la 1 lc)) := ⟨FE_other HCW.out.c0, World.cell?_setCell_same _ _ _ hc1, fun j => by simpa using HCW.out.z j⟩
                    clear hc1 hz1 hHeld
                    go_wp2
                    go_end0
                    exact ⟨rfl, ⟨cb, cp, _, a1, l1, c1, FE2.out.cell (Fr.cell FW.out (FO.out.cell HSB4.out (by simp)) (by simp [Value.ownBlock])) (show ¬ sb = cb by have := HQ4.out; omega), HC5.out, HOW.out.fr FE2.out (fun k hk e => by rcases HKW.out k hk with h | h; (simp [Value.ownBlock] at h); have := HQ4.out; have := FO.out.size; omega), HQ4.out.1, fun h => by rcases HKW.out _ h with h | h; (simp [Value.ownBlock] at h); have := HQ4.out; have := FO.out.size; omega, FE2.out.row (FW.out.row HRO.out.1 (by simp [Value.ownBlock])) (fun _ a ha e => by have := HRO.out.2.2 a ha; have := HQ4.out; omega), HRO.out.2.1, fun hne a ha => ⟨Nat.le_trans HQ4.out.2.2.2.1 (HRO.out.2.2 a ha), fun e => by have := HRO.out.2.2 a ha; have := HQ4.out; omega, fun h => by rcases HKW.out _ h with h | h; (simp [Value.ownBlock] at h); have := row_blk HRO.out.1 hne a ha; omega⟩⟩, ((HF4.out.trans (Fr.mono (T := fun k => k = sb) FO.out (fun _ _ h => h.elim))).trans (Fr.mono (T := fun k => k = sb) FW.out (fun _ _ h => by simp [Value.ownBlock] at h))).trans' FE2.out (fun i hi e => by have := HQ4.out; omega)⟩
                  exact AllReadyH.nil
                exact AllReadyH.nil
              exact AllReadyH.nil
            exact AllReadyH.nil
          exact AllReadyH.nil
        exact AllReadyH.nil
      exact AllReadyH.nil
    exact AllReadyH.nil
  exact AllReadyH.nil
end Go.Proofs.Ytmjkipdflhbgdaa
