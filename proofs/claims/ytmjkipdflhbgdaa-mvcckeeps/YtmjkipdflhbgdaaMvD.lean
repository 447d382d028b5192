/- One version that is a row's own, two; Put onto one version. -/
import Derived.Test.YtmjkipdflhbgdaaMvC
namespace Go.Proofs.Ytmjkipdflhbgdaa
open Go.RowKit
/-- one version that is a row's own, two of them. -/
theorem own_one {w : World} {base : Nat} {y : Vr} {la : Option Addr} {lc : Nat} (h : OwnF w base 60 (.slice la 1 lc) [y]) : ∃ g, la = some ⟨g, 0, none⟩ ∧ C4 w g (.int .u64 (y.e : Int)) (.int .u64 (y.i : Int)) (.bool y.d) (.slice y.a y.n y.c) := by
  obtain ⟨_, hn | ⟨g, cap, cur, he, hbg, hgg, hn, hm, hs, ht⟩⟩ := h
  · cases hn.2
  · cases he
    have hc : ∀ j u, j < 4 → (flat [y])[j]? = some u → w.cell? ⟨g, j, none⟩ = some u := fun j u hlt hj => by
      rw [cell_of_row w _ j cur 60 (0, 0) hgg]
      have : (flat [y])[j]? = (List.take (1 * 4) cur.toList)[j]? := by rw [← ht]; rfl
      rw [← hj, this, List.getElem?_take, if_pos (by omega)]
      simp
    exact ⟨g, rfl, hc 0 _ (by omega) rfl, hc 1 _ (by omega) rfl, hc 2 _ (by omega) rfl, hc 3 _ (by omega) rfl, fun j => by simp [World.frozen?, hgg]⟩
theorem own_two {w : World} {base : Nat} {y z : Vr} {la : Option Addr} {lc : Nat} (h : OwnF w base 60 (.slice la 2 lc) ([y] ++ [z])) : ∃ g, la = some ⟨g, 0, none⟩ ∧ C4 w g (.int .u64 (y.e : Int)) (.int .u64 (y.i : Int)) (.bool y.d) (.slice y.a y.n y.c) ∧ w.cell? ⟨g, 4, none⟩ = some (.int .u64 (z.e : Int)) ∧ w.cell? ⟨g, 6, none⟩ = some (.bool z.d) := by
  obtain ⟨_, hn | ⟨g, cap, cur, he, hbg, hgg, hn, hm, hs, ht⟩⟩ := h
  · cases hn.2
  · cases he
    have hc : ∀ j u, j < 8 → (flat ([y] ++ [z]))[j]? = some u → w.cell? ⟨g, j, none⟩ = some u := fun j u hlt hj => by
      rw [cell_of_row w _ j cur 60 (0, 0) hgg]
      have : (flat ([y] ++ [z]))[j]? = (List.take (2 * 4) cur.toList)[j]? := by rw [← ht]; rfl
      rw [← hj, this, List.getElem?_take, if_pos (by omega)]
      simp
    exact ⟨g, rfl, ⟨hc 0 _ (by omega) rfl, hc 1 _ (by omega) rfl, hc 2 _ (by omega) rfl, hc 3 _ (by omega) rfl, fun j => by simp [World.frozen?, hgg]⟩, hc 4 _ (by omega) rfl, hc 6 _ (by omega) rfl⟩
set_option maxRecDepth 100000 in
theorem put_nil (x e0 i0 : Nat) (d0 : Bool) (va : Option Addr) (vn vc : Nat) (w : World) : Calls Try.prog 24 #[.pointer none, .float .f64 x, .agg #[.int .u64 (e0 : Int), .int .u64 (i0 : Int), .bool d0, .slice va vn vc]] w fun e w' => e = .returned (.tuple #[]) ∧ Fr (fun _ => False) w w' := by
  have F0 : Hid (Fr (fun _ => False) w (w.alloc (.cells #[.int .u64 (e0 : Int), .int .u64 (i0 : Int), .bool d0, .slice va vn vc] 60))) := (Fr.refl (fun _ => False) w).alloc _
  go_enter Try.func24, Try.ntmps24
  go_wp2
  refine bodyPost_ret (results_none rfl _ _ _) rfl ?_
  exact ⟨rfl, F0.out⟩
set_option maxRecDepth 100000 in
set_option maxHeartbeats 8000000 in
theorem put_more (x sb cb cc b0 e0 i0 : Nat) (d0 : Bool) (y : Vr) (hlt : y.e < e0) (hyi : y.i = i0) (ga : Option Addr) (gc : Nat) (va : Option Addr) (l : List Nat) (vc : Nat) (hx : x < 18446744073709551616) (hl : l.length ≤ 1000) (w : World) (hc : w.cell? ⟨sb, 0, none⟩ = some (.slice (some ⟨cb, 0, none⟩) 1 cc)) (h2 : C2 w cb (.int .u64 ((Fl.rk x : Nat) : Int)) (.slice ga 1 gc)) (ho : OwnF w b0 60 (.slice ga 1 gc) [y]) (hb0 : b0 ≤ w.heap.size) (hv : Row w va l vc) (NSC : ¬ sb = cb) (NCB : ¬ (Value.slice ga 1 gc).ownBlock = some cb) (NSB : ¬ (Value.slice ga 1 gc).ownBlock = some sb) :
    Calls Try.prog 24 #[.pointer (some ⟨sb, 0, none⟩), .float .f64 x, .agg #[.int .u64 (e0 : Int), .int .u64 (i0 : Int), .bool d0, .slice va l.length vc]] w fun e w' => e = .returned (.tuple #[]) ∧ (∃ (la : Option Addr) (lc : Nat) (a1 : Option Addr) (l1 : List Nat) (c1 : Nat), w'.cell? ⟨sb, 0, none⟩ = some (.slice (some ⟨cb, 0, none⟩) 1 cc) ∧ C2 w' cb (.int .u64 ((Fl.rk x : Nat) : Int)) (.slice la 2 lc) ∧ OwnF w' b0 60 (.slice la 2 lc) ([y] ++ [(⟨e0, i0, d0, a1, l1.length, c1⟩ : Vr)])) ∧ Fr (fun k => k = cb ∨ (Value.slice ga 1 gc).ownBlock = some k) w w' := by
  have NBX : ¬ (Value.slice ga 1 gc).ownBlock = some w.heap.size := fun e => by have := (ho.lt _ e).2; omega
  have HV : Hid (Row w va l vc) := hv
  have F0 : Hid (Fr (fun _ => False) w (w.alloc (.cells #[.int .u64 (e0 : Int), .int .u64 (i0 : Int), .bool d0, .slice va l.length vc] 60))) := (Fr.refl (fun _ => False) w).alloc _
  have HB : Hid (C4 (w.alloc (.cells #[.int .u64 (e0 : Int), .int .u64 (i0 : Int), .bool d0, .slice va l.length vc] 60)) w.heap.size (.int .u64 (e0 : Int)) (.int .u64 (i0 : Int)) (.bool d0) (.slice va l.length vc)) := C4.new w 60 _ _ _ _
  have KP : Hid (Calls _ _ _ _ _) := place_gen x sb 1 cc (some ⟨cb, 0, none⟩) true hx (w.alloc (.cells #[.int .u64 (e0 : Int), .int .u64 (i0 : Int), .bool d0, .slice va l.length vc] 60)) (F0.out.cell hc (by simp)) (fun W f => searchC_one (Fl.rk x) 1 gc cb cc ga W (h2.fr (F0.out.trans f) (by simp)))
  have HT : Hid (w.cell? ⟨sb, 0, none⟩ = some (.slice (some ⟨cb, 0, none⟩) 1 cc)) := hc
  have H2 : Hid (C2 w cb (.int .u64 ((Fl.rk x : Nat) : Int)) (.slice ga 1 gc)) := h2
  have HO : Hid (OwnF w b0 60 (.slice ga 1 gc) [y]) := ho
  have HSL : Hid (sb < w.heap.size ∧ cb < w.heap.size) := ⟨World.block_lt_of_cell? _ _ hc, h2.lt⟩
  clear hc h2 ho hv
  go_enter Try.func24, Try.ntmps24
  go_wp2_with fail
  refine KP.out.mono ?_
  rintro e w4 ⟨rfl, f4⟩
  have HF4 : Hid (Fr (fun _ => False) w w4) := F0.out.trans f4
  have HB4 : Hid (C4 w4 w.heap.size (.int .u64 (e0 : Int)) (.int .u64 (i0 : Int)) (.bool d0) (.slice va l.length vc)) := HB.out.fr f4 (by simp)
  have HCB4 : Hid (C2 w4 cb (.int .u64 ((Fl.rk x : Nat) : Int)) (.slice ga 1 gc)) := H2.out.fr HF4.out (by simp)
  have HSB4 : Hid (w4.cell? ⟨sb, 0, none⟩ = some (.slice (some ⟨cb, 0, none⟩) 1 cc)) := HF4.out.cell HT.out (by simp)
  have HV4 : Hid (Row w4 va l vc) := HF4.out.row HV.out (by simp)
  have HLV4 : Hid (OwnF w4 b0 60 (.slice ga 1 gc) [y]) := HO.out.fr HF4.out (by simp)
  obtain ⟨bx, Hbx⟩ : ∃ bx, Hid (w.heap.size = bx) := ⟨_, rfl⟩
  have HBX : Hid (sb < bx ∧ w.heap.size = bx) := ⟨by have := HSL.out; have := Hbx.out; omega, Hbx.out⟩
  have HQ4 : Hid (True ∧ cb < w4.heap.size ∧ sb < w.heap.size ∧ b0 ≤ w4.heap.size ∧ bx ≠ cb) := ⟨trivial, HCB4.out.lt, HSL.out.1, Nat.le_trans hb0 HF4.out.size, by have := HSL.out; have := Hbx.out; omega⟩
  have KSV : Hid (∀ W, Fr (fun _ => False) w4 W → ∀ (z : Vr), z.e = e0 → z.i = i0 → Calls Try.prog 81 #[.slice ga 1 gc, .agg #[.int .u64 (z.e : Int), .int .u64 (z.i : Int), .bool z.d, .slice z.a z.n z.c], .func (.func 73) #[] #[]] W fun e w' => e = .returned (.tuple #[.int .i64 ((1 : Nat) : Int), .bool false]) ∧ Fr (fun _ => False) W w') := fun W f z hz1 hz2 => by
    obtain ⟨g, hg, h4⟩ := own_one (HLV4.out.fr f (by simp))
    subst hg
    have := searchV_one y.e z.e y.i y.d z.d y.a y.n y.c z.a z.n z.c (by rw [hz1]; exact hlt) g gc W h4
    rw [hyi, ← hz2] at this
    exact this
  rw [Hbx.out] at HB4 NBX
  have k1 := HCB4.out.c0
  have k2 := HSB4.out
  clear f4 KP
  go_wp2_with fail
  rw [Hbx.out]
  have HB0d : Hid (C4 w4.drew bx (.int .u64 (e0 : Int)) (.int .u64 (i0 : Int)) (.bool d0) (.slice va l.length vc)) := HB4.out.fr ((Fr.refl (fun _ => False) _).drew) (by simp)
  have HC20 : Hid (C2 w4.drew cb (.int .u64 ((Fl.rk x : Nat) : Int)) (.slice ga 1 gc)) := HCB4.out.fr ((Fr.refl (fun _ => False) _).drew) (by simp)
  have KO : Hid (Calls _ _ _ _ _) := own_any e0 i0 d0 va l vc w4.drew (HV4.out |> Fr.row ((Fr.refl (fun _ => False) _).drew) <| (by simp)) hl
  clear k1 k2
  refine wp_region_held_drew (S := (fun W : World => C4 W bx (.int .u64 (e0 : Int)) (.int .u64 (i0 : Int)) (.bool d0) (.slice va l.length vc))) (by kernel_rfl) HB0d.out (fun hHeld => ?_)
  refine wpAnyH_take (i := 0) (oi := _) (v := ?_) (by rw [List.getElem?_toArray]; rfl) (by kernel_rfl) (by kernel_rfl) (by kernel_rfl) (fun _ _ _ h => by exact h) (Or.inl ⟨by rfl, ?_⟩) (by assumption) ?_
  rotate_left
  · (intro w hSw; (try dsimp only at hSw); go_simp; (try with_reducible rfl))
  try simp only [Act.put, List.setIfInBounds_toArray, List.set_cons_zero, List.set_cons_succ]
  refine wpAnyH_take (i := 1) (oi := _) (v := ?_) (by rw [List.getElem?_toArray]; rfl) (by kernel_rfl) (by kernel_rfl) (by kernel_rfl) (fun _ _ _ h => by exact h) (Or.inl ⟨by rfl, ?_⟩) (by assumption) ?_
  rotate_left
  · (intro w hSw; (try dsimp only at hSw); go_simp; (try with_reducible rfl))
  try simp only [Act.put, List.setIfInBounds_toArray, List.set_cons_zero, List.set_cons_succ]
  refine wpAnyH_take (i := 2) (oi := _) (v := ?_) (by rw [List.getElem?_toArray]; rfl) (by kernel_rfl) (by kernel_rfl) (by kernel_rfl) (fun _ _ _ h => by exact h) (Or.inl ⟨by rfl, ?_⟩) (by assumption) ?_
  rotate_left
  · (intro w hSw; (try dsimp only at hSw); go_simp; (try with_reducible rfl))
  try simp only [Act.put, List.setIfInBounds_toArray, List.set_cons_zero, List.set_cons_succ]
  refine wpAnyH_take (i := 3) (oi := _) (v := ?_) (by rw [List.getElem?_toArray]; rfl) (by kernel_rfl) (by kernel_rfl) (by kernel_rfl) (fun _ _ _ h => by exact h) (Or.inl ⟨by rfl, ?_⟩) (by assumption) ?_
  rotate_left
  · (intro w hSw; (try dsimp only at hSw); go_simp; (try with_reducible rfl))
  try simp only [Act.put, List.setIfInBounds_toArray, List.set_cons_zero, List.set_cons_succ]
  refine wpAnyH_take (i := 5) (oi := _) (v := ?_) (by rw [List.getElem?_toArray]; rfl) (by kernel_rfl) (by kernel_rfl) (by kernel_rfl) (fun _ _ _ h => by exact h) (Or.inl ⟨by rfl, ?_⟩) (by assumption) ?_
  rotate_left
  · (intro w hSw; (try dsimp only at hSw); obtain ⟨x0, x1, x2, x3, _⟩ := hSw; go_simp; (try with_reducible rfl))
  try simp only [Act.put, List.setIfInBounds_toArray, List.set_cons_zero, List.set_cons_succ]
  refine wpAnyH_ready (rs := [4, 6]) (by kernel_rfl) (by simp) ?_
  refine AllReadyH.cons (o := _) (by rw [List.getElem?_toArray]; rfl) (fun K hK => ?_) ?_
  · have ht := HC20.out.c1
    go_simp
    clear ht
    refine hK.out _ _ HB0d.out (fun hHeld => ?_)
    clear hK K
    try simp only [Act.put, List.setIfInBounds_toArray, List.set_cons_zero, List.set_cons_succ]
    refine wpAnyH_ready (rs := [6]) (by kernel_rfl) (by simp) ?_
    refine AllReadyH.cons (o := _) (by rw [List.getElem?_toArray]; rfl) (fun K hK => ?_) ?_
    · go_simp
      go_wp2_with (go_at_call 57; refine KO.out.mono ?_; rintro e wO ⟨a1, l1, c1, rfl, hl1, hr1, hf1, fO⟩)
      have FO : Hid (Fr (fun _ => False) w4 wO) := ((Fr.refl (fun _ => False) w4).drew).trans fO
      have HBO : Hid (C4 wO bx (.int .u64 (e0 : Int)) (.int .u64 (i0 : Int)) (.bool d0) (.slice va l.length vc)) := HB4.out.fr FO.out (by simp)
      have HC2O : Hid (C2 wO cb (.int .u64 ((Fl.rk x : Nat) : Int)) (.slice ga 1 gc)) := HCB4.out.fr FO.out (by simp)
      have HRO : Hid (Row wO a1 l1 c1 ∧ (d0 = false → l1 = l) ∧ (∀ a, a1 = some a → w4.heap.size ≤ a.block)) := ⟨hr1, hl1, hf1⟩
      have KW : Hid (Calls _ _ _ _ _) := with_end [y] 1 2 rfl rfl ⟨e0, i0, d0, a1, l1.length, c1⟩ (.slice ga 1 gc) b0 wO (HLV4.out.fr FO.out (by simp)) (Nat.le_trans HQ4.out.2.2.2.1 FO.out.size) (by simp) (fun W f => KSV.out W (FO.out.trans f) ⟨e0, i0, d0, a1, l1.length, c1⟩ rfl rfl)
      clear hl1 hr1 hf1 fO
      refine hK.out _ _ HBO.out (fun hHeld => ?_)
      clear hK K
      try simp only [Act.put, List.setIfInBounds_toArray, List.set_cons_zero, List.set_cons_succ]
      refine wpAnyH_ready (rs := [7]) (by kernel_rfl) (by simp) ?_
      refine AllReadyH.cons (o := _) (by rw [List.getElem?_toArray]; rfl) (fun K hK => ?_) ?_
      · go_simp
        go_wp2_with (go_at_call 56; refine KW.out.mono ?_; rintro e wW ⟨la, lc, rfl, ho1, hk1, fW⟩)
        have FW : Hid (Fr (fun k => ((.slice ga 1 gc) : Value).ownBlock = some k) wO wW) := fW
        have HBW : Hid (C4 wW bx (.int .u64 (e0 : Int)) (.int .u64 (i0 : Int)) (.bool d0) (.slice va l.length vc)) := HBO.out.fr fW (by exact NBX)
        have HCW : Hid (C2 wW cb (.int .u64 ((Fl.rk x : Nat) : Int)) (.slice ga 1 gc)) := HC2O.out.fr fW (by exact NCB)
        have HOW : Hid (OwnF wW b0 60 (.slice la 2 lc) ([y] ++ [(⟨e0, i0, d0, a1, l1.length, c1⟩ : Vr)])) := ho1
        have HKW : Hid (∀ k, (Value.slice la 2 lc).ownBlock = some k → ((.slice ga 1 gc) : Value).ownBlock = some k ∨ wO.heap.size ≤ k) := hk1
        clear ho1 hk1 fW
        refine hK.out _ _ HBW.out (fun hHeld => ?_)
        clear hK K
        try simp only [Act.put, List.setIfInBounds_toArray, List.set_cons_zero, List.set_cons_succ]
        have hc1 := HCW.out.c1
        have hz1 := HCW.out.z 1
        refine wpAnyH_take (i := 8) (oi := _) (v := ?_) (by rw [List.getElem?_toArray]; rfl) (by kernel_rfl) (by kernel_rfl) (by kernel_rfl) (fun _ _ _ h => by exact h) (Or.inl ⟨by rfl, ?_⟩) (by assumption) ?_
        rotate_left
        · (intro w hSw; (try dsimp only at hSw); go_simp; (try with_reducible rfl))
        try simp only [Act.put, List.setIfInBounds_toArray, List.set_cons_zero, List.set_cons_succ]
        refine wpAnyH_take (i := 9) (oi := _) (v := ?_) (by rw [List.getElem?_toArray]; rfl) (by kernel_rfl) (by kernel_rfl) (by kernel_rfl) (fun _ _ _ h => by exact h) (Or.inl ⟨by rfl, ?_⟩) (by assumption) ?_
        rotate_left
        · (intro w hSw; (try dsimp only at hSw); go_simp; (try with_reducible rfl))
        try simp only [Act.put, List.setIfInBounds_toArray, List.set_cons_zero, List.set_cons_succ]
        refine wpAnyH_ready (rs := [10]) (by kernel_rfl) (by simp) ?_
        refine AllReadyH.cons (o := _) (by rw [List.getElem?_toArray]; rfl) (fun K hK => ?_) ?_
        · go_simp
          refine hK.out _ _ (HBW.out.fr ((Fr.refl (fun k => k = cb) wW).setCell (p := ⟨cb, 1, none⟩) (Or.inl rfl) _) (by have := HBX.out; have := HQ4.out; omega)) (fun hHeld => ?_)
          clear hK K
          try simp only [Act.put, List.setIfInBounds_toArray, List.set_cons_zero, List.set_cons_succ]
          refine wpAnyH_done (by kernel_rfl) ?_ _
          have FE2 : Hid (Fr (fun k => k = cb) wW (wW.setCell ⟨cb, 1, none⟩ (.slice la 2 lc))) := (Fr.refl (fun k => k = cb) wW).setCell (p := ⟨cb, 1, none⟩) (Or.inl rfl) _
          have HC5 : Hid (C2 (wW.setCell ⟨cb, 1, none⟩ (.slice la 2 lc)) cb (.int .u64 ((Fl.rk x : Nat) : Int)) (.slice la 2 lc)) := ⟨FE_other HCW.out.c0, World.cell?_setCell_same _ _ _ hc1, fun j => by simpa using HCW.out.z j⟩
          clear hc1 hz1 hHeld
          go_wp2
          go_end0
          have HQQ := HQ4.out
          exact ⟨rfl, ⟨la, lc, a1, l1, c1, FE2.out.cell (FW.out.cell (FO.out.cell HSB4.out (by simp)) NSB) (show ¬ sb = cb from NSC), HC5.out, HOW.out.fr FE2.out (fun k hk e => by rcases HKW.out k hk with h | h; (exact NCB (e ▸ h)); have := FO.out.size; omega)⟩, (((Fr.mono (T := fun k => k = cb ∨ (Value.slice ga 1 gc).ownBlock = some k) (HF4.out.trans FO.out) (fun _ _ h => h.elim))).trans (Fr.mono (T := fun k => k = cb ∨ (Value.slice ga 1 gc).ownBlock = some k) FW.out (fun _ _ h => .inr h))).trans (Fr.mono (T := fun k => k = cb ∨ (Value.slice ga 1 gc).ownBlock = some k) FE2.out (fun _ _ h => .inl h))⟩
        exact AllReadyH.nil
      exact AllReadyH.nil
    exact AllReadyH.nil
  refine AllReadyH.cons (o := _) (by rw [List.getElem?_toArray]; rfl) (fun K hK => ?_) ?_
  · go_simp
    go_wp2_with (go_at_call 57; refine KO.out.mono ?_; rintro e wO ⟨a1, l1, c1, rfl, hl1, hr1, hf1, fO⟩)
    have FO : Hid (Fr (fun _ => False) w4 wO) := ((Fr.refl (fun _ => False) w4).drew).trans fO
    have HBO : Hid (C4 wO bx (.int .u64 (e0 : Int)) (.int .u64 (i0 : Int)) (.bool d0) (.slice va l.length vc)) := HB4.out.fr FO.out (by simp)
    have HC2O : Hid (C2 wO cb (.int .u64 ((Fl.rk x : Nat) : Int)) (.slice ga 1 gc)) := HCB4.out.fr FO.out (by simp)
    have HRO : Hid (Row wO a1 l1 c1 ∧ (d0 = false → l1 = l) ∧ (∀ a, a1 = some a → w4.heap.size ≤ a.block)) := ⟨hr1, hl1, hf1⟩
    have KW : Hid (Calls _ _ _ _ _) := with_end [y] 1 2 rfl rfl ⟨e0, i0, d0, a1, l1.length, c1⟩ (.slice ga 1 gc) b0 wO (HLV4.out.fr FO.out (by simp)) (Nat.le_trans HQ4.out.2.2.2.1 FO.out.size) (by simp) (fun W f => KSV.out W (FO.out.trans f) ⟨e0, i0, d0, a1, l1.length, c1⟩ rfl rfl)
    clear hl1 hr1 hf1 fO
    refine hK.out _ _ HBO.out (fun hHeld => ?_)
    clear hK K
    try simp only [Act.put, List.setIfInBounds_toArray, List.set_cons_zero, List.set_cons_succ]
    refine wpAnyH_ready (rs := [4]) (by kernel_rfl) (by simp) ?_
    refine AllReadyH.cons (o := _) (by rw [List.getElem?_toArray]; rfl) (fun K hK => ?_) ?_
    · have ht := HC2O.out.c1
      go_simp
      clear ht
      refine hK.out _ _ HBO.out (fun hHeld => ?_)
      clear hK K
      try simp only [Act.put, List.setIfInBounds_toArray, List.set_cons_zero, List.set_cons_succ]
      refine wpAnyH_ready (rs := [7]) (by kernel_rfl) (by simp) ?_
      refine AllReadyH.cons (o := _) (by rw [List.getElem?_toArray]; rfl) (fun K hK => ?_) ?_
      · go_simp
        go_wp2_with (go_at_call 56; refine KW.out.mono ?_; rintro e wW ⟨la, lc, rfl, ho1, hk1, fW⟩)
        have FW : Hid (Fr (fun k => ((.slice ga 1 gc) : Value).ownBlock = some k) wO wW) := fW
        have HBW : Hid (C4 wW bx (.int .u64 (e0 : Int)) (.int .u64 (i0 : Int)) (.bool d0) (.slice va l.length vc)) := HBO.out.fr fW (by exact NBX)
        have HCW : Hid (C2 wW cb (.int .u64 ((Fl.rk x : Nat) : Int)) (.slice ga 1 gc)) := HC2O.out.fr fW (by exact NCB)
        have HOW : Hid (OwnF wW b0 60 (.slice la 2 lc) ([y] ++ [(⟨e0, i0, d0, a1, l1.length, c1⟩ : Vr)])) := ho1
        have HKW : Hid (∀ k, (Value.slice la 2 lc).ownBlock = some k → ((.slice ga 1 gc) : Value).ownBlock = some k ∨ wO.heap.size ≤ k) := hk1
        clear ho1 hk1 fW
        refine hK.out _ _ HBW.out (fun hHeld => ?_)
        clear hK K
        try simp only [Act.put, List.setIfInBounds_toArray, List.set_cons_zero, List.set_cons_succ]
        have hc1 := HCW.out.c1
        have hz1 := HCW.out.z 1
        refine wpAnyH_take (i := 8) (oi := _) (v := ?_) (by rw [List.getElem?_toArray]; rfl) (by kernel_rfl) (by kernel_rfl) (by kernel_rfl) (fun _ _ _ h => by exact h) (Or.inl ⟨by rfl, ?_⟩) (by assumption) ?_
        rotate_left
        · (intro w hSw; (try dsimp only at hSw); go_simp; (try with_reducible rfl))
        try simp only [Act.put, List.setIfInBounds_toArray, List.set_cons_zero, List.set_cons_succ]
        refine wpAnyH_take (i := 9) (oi := _) (v := ?_) (by rw [List.getElem?_toArray]; rfl) (by kernel_rfl) (by kernel_rfl) (by kernel_rfl) (fun _ _ _ h => by exact h) (Or.inl ⟨by rfl, ?_⟩) (by assumption) ?_
        rotate_left
        · (intro w hSw; (try dsimp only at hSw); go_simp; (try with_reducible rfl))
        try simp only [Act.put, List.setIfInBounds_toArray, List.set_cons_zero, List.set_cons_succ]
        refine wpAnyH_ready (rs := [10]) (by kernel_rfl) (by simp) ?_
        refine AllReadyH.cons (o := _) (by rw [List.getElem?_toArray]; rfl) (fun K hK => ?_) ?_
        · go_simp
          refine hK.out _ _ (HBW.out.fr ((Fr.refl (fun k => k = cb) wW).setCell (p := ⟨cb, 1, none⟩) (Or.inl rfl) _) (by have := HBX.out; have := HQ4.out; omega)) (fun hHeld => ?_)
          clear hK K
          try simp only [Act.put, List.setIfInBounds_toArray, List.set_cons_zero, List.set_cons_succ]
          refine wpAnyH_done (by kernel_rfl) ?_ _
          have FE2 : Hid (Fr (fun k => k = cb) wW (wW.setCell ⟨cb, 1, none⟩ (.slice la 2 lc))) := (Fr.refl (fun k => k = cb) wW).setCell (p := ⟨cb, 1, none⟩) (Or.inl rfl) _
          have HC5 : Hid (C2 (wW.setCell ⟨cb, 1, none⟩ (.slice la 2 lc)) cb (.int .u64 ((Fl.rk x : Nat) : Int)) (.slice la 2 lc)) := ⟨FE_other HCW.out.c0, World.cell?_setCell_same _ _ _ hc1, fun j => by simpa using HCW.out.z j⟩
          clear hc1 hz1 hHeld
          go_wp2
          go_end0
          have HQQ := HQ4.out
          exact ⟨rfl, ⟨la, lc, a1, l1, c1, FE2.out.cell (FW.out.cell (FO.out.cell HSB4.out (by simp)) NSB) (show ¬ sb = cb from NSC), HC5.out, HOW.out.fr FE2.out (fun k hk e => by rcases HKW.out k hk with h | h; (exact NCB (e ▸ h)); have := FO.out.size; omega)⟩, (((Fr.mono (T := fun k => k = cb ∨ (Value.slice ga 1 gc).ownBlock = some k) (HF4.out.trans FO.out) (fun _ _ h => h.elim))).trans (Fr.mono (T := fun k => k = cb ∨ (Value.slice ga 1 gc).ownBlock = some k) FW.out (fun _ _ h => .inr h))).trans (Fr.mono (T := fun k => k = cb ∨ (Value.slice ga 1 gc).ownBlock = some k) FE2.out (fun _ _ h => .inl h))⟩
        exact AllReadyH.nil
      exact AllReadyH.nil
    exact AllReadyH.nil
  exact AllReadyH.nil
end Go.Proofs.Ytmjkipdflhbgdaa
