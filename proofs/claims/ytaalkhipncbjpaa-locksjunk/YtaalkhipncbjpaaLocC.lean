/- Copies of numbers and of bytes; a hold of one's own. -/
import Derived.Test.YtaalkhipncbjpaaLocB
namespace Go.Proofs.Ytaalkhipncbjpaa
open Go.RowKit
/-- a float is stored in a cell (the kit's laws on stores name no floats). -/
theorem run_store_float {P : Program} {w : World} {a : Addr} {m : Mode} (k : FloatKind) (n : Nat) : (store a (.float k n) m).run P w = stored P w a (.float k n) m := run_store P w a _ m rfl
attribute [local go_sem] run_store_float
theorem row_nil (w : World) : Row w none [] 0 := ⟨Nat.le_refl _, Nat.zero_le _, by simp, fun _ => rfl, fun h => absurd rfl h⟩
set_option maxHeartbeats 400000 in
theorem cloneB_any (ao : Option Addr) (l : List Nat) (cap : Nat) (w : World) (hr : Row w ao l cap) (hlen : l.length ≤ 1000000) :
    Calls Try.prog 92 #[.slice ao l.length cap] w fun e w' => ∃ a1 c1, e = .returned (.slice a1 l.length c1) ∧ Row w' a1 l c1 ∧ (∀ a, a1 = some a → w.heap.size ≤ a.block) ∧ Fr (fun _ => False) w w' := by
  have q := fun (w : World) (a : Option Addr) (n c n' c' : Nat) => Lib.run_eql_slice_nil (P := Try.prog) w 27 _ a n c n' c' Try.underlying27
  cases ao with
  | none =>
    have hc := hr.2.2.2.1 rfl
    subst hc
    have hl : l = [] := List.eq_nil_of_length_eq_zero (by have := hr.1; omega)
    subst hl
    simp only [List.length_nil]
    go_enter Try.func92, Try.ntmps92
    go_wp2
    go_ret
    exact ⟨none, 0, rfl, row_nil _, fun a ha => (by cases ha), Fr.refl _ _⟩
  | some a =>
    have f0 := (Fr.refl (fun _ => False) w).alloc (.cells #[] 5)
    have hown : Own (w.alloc (.cells #[] 5)) w.heap.size (.slice (some ⟨w.heap.size, 0, none⟩) 0 0) [] := ⟨World.ownsRow_made w #[] 0 (Nat.le_refl _) (Nat.zero_le _) (by simp), by simp⟩
    have hr1 := f0.row hr (by simp)
    have HR : Hid (Row _ _ _ _) := hr1
    clear hr hr1
    go_enter Try.func92, Try.ntmps92
    go_wp2_with (at_builtin; refine wpList_append_bytes rfl (.tmp 5) (.tmp 6) rfl w.heap.size _ [] rfl hown (some a) l cap rfl HR.out (by simp; omega) (by simp) ?_)
    intro v1 w1 ho1 hg1 _
    have f1 : Fr (fun _ => False) w w1 := f0.grown hg1 (fun k hk => by simp [Value.ownBlock] at hk; omega)
    obtain ⟨a1, c1, hv, hr1, hb1⟩ := ho1.row
    subst hv
    go_wp2
    go_ret
    exact ⟨a1, c1, rfl, hr1, fun a ha => (hb1 a ha).1, f1⟩

theorem cloneF_nil (w : World) (n cap : Nat) : Calls Try.prog 90 #[.slice none n cap] w fun e w' => e = .returned (.slice none 0 0) ∧ w' = w := by
  have q := fun (w : World) (a : Option Addr) (n c n' c' : Nat) => Lib.run_eql_slice_nil (P := Try.prog) w 25 _ a n c n' c' Try.underlying25
  go_enter Try.func90, Try.ntmps90
  go_wp2
  go_ret
  exact ⟨rfl, rfl⟩
theorem cloneG_nil (w : World) (n cap : Nat) : Calls Try.prog 91 #[.slice none n cap] w fun e w' => e = .returned (.slice none 0 0) ∧ w' = w := by
  have q := fun (w : World) (a : Option Addr) (n c n' c' : Nat) => Lib.run_eql_slice_nil (P := Try.prog) w 26 _ a n c n' c' Try.underlying26
  go_enter Try.func91, Try.ntmps91
  go_wp2
  go_ret
  exact ⟨rfl, rfl⟩
theorem Try.info71 : (Try.prog.info? 71).map (fun i => (i.zero, i.size, i.bytes)) = some (some (.float .f64 0), 1, 8) := by kernel_rfl
set_option maxHeartbeats 400000 in
theorem cloneF_one (p pc x : Nat) (w : World) (hc : w.cell? ⟨p, 0, none⟩ = some (.float .f64 x)) :
    Calls Try.prog 90 #[.slice (some ⟨p, 0, none⟩) 1 pc] w fun e w' => ∃ g c, e = .returned (.slice (some ⟨g, 0, none⟩) 1 c) ∧ w.heap.size ≤ g ∧ w'.cell? ⟨g, 0, none⟩ = some (.float .f64 x) ∧ Fr (fun _ => False) w w' := by
  have q := fun (w : World) (a : Option Addr) (n c n' c' : Nat) => Lib.run_eql_slice_nil (P := Try.prog) w 25 _ a n c n' c' Try.underlying25
  obtain ⟨i, hi, hz0, hz1, hz2⟩ := info_parts Try.info71
  have hO : (w.alloc (.cells #[] 71)).ownsRow w.heap.size 71 1 (.slice (some ⟨w.heap.size, 0, none⟩) 0 0) 0 [] := World.ownsRow_made w #[] 0 (Nat.le_refl _) (Nat.zero_le _) (by simp)
  have hA := ((Fr.refl (fun _ => False) w).alloc (.cells #[] 71)).cell hc (by simp)
  have hnews : ∀ j u, [Value.float .f64 x][j]? = some u → (w.alloc (.cells #[] 71)).cell? ((⟨p, 0, none⟩ : Addr).add j) = some u := by
    intro j u hu
    have hj : j < 1 := (List.getElem?_eq_some_iff.1 hu).1
    obtain rfl : j = 0 := by omega
    cases hu
    exact hA
  have HN : Hid _ := hnews
  clear hc hA hnews
  go_enter Try.func90, Try.ntmps90
  go_wp2_with (refine wpList_append_own _ rfl _ _ 25 rfl w.heap.size 71 i (.float .f64 0) 1 8 Try.underlying25 hi hz0 hz1 hz2 rfl (by decide) _ _ _ rfl hO ⟨p, 0, none⟩ 1 pc [Value.float .f64 x] rfl rfl HN.out (by simp; rfl) (by unfold maxLen; omega) (by omega) (by simp) ?_)
  intro v' w' ho hg hnil
  have f1 : Fr (fun _ => False) w w' := ((Fr.refl (fun _ => False) w).alloc _).grown hg (fun j hj => by simp [Value.ownBlock] at hj; omega)
  rcases ho with ⟨_, ⟨rfl, h0⟩ | ⟨g, cp, cur, rfl, hbg, hgg, hn, hm, hs, ht⟩⟩
  · cases h0
  · have hA2 : w'.cell? ⟨g, 0, none⟩ = some (.float .f64 x) := by
      rw [cell_of_row w' g 0 cur 71 (0, 0) hgg]
      have ht' : cur.toList.take 1 = [Value.float .f64 x] := by simpa using ht
      have : (cur.toList.take 1)[0]? = some (.float .f64 x) := by rw [ht']; rfl
      rw [List.getElem?_take, if_pos (by omega)] at this
      simpa using this
    go_wp2
    go_ret
    exact ⟨g, cp, by simp, hbg, hA2, f1⟩
/-- a box of seven cells that may be written. -/
structure Z7 (w : World) (g : Nat) (v0 v1 v2 v3 v4 v5 v6 : Value) : Prop extends C7 w g v0 v1 v2 v3 v4 v5 v6 where
  z : ∀ j, w.frozen? ⟨g, j, none⟩ = false
section
variable {w w1 : World} {g : Nat} {v0 v1 v2 v3 v4 v5 v6 : Value} {S : Nat → Prop}
theorem Z7.lt (h : Z7 w g v0 v1 v2 v3 v4 v5 v6) : g < w.heap.size := h.toC7.lt
theorem Z7.fr (h : Z7 w g v0 v1 v2 v3 v4 v5 v6) (f : Fr S w w1) (hs : ¬ S g) : Z7 w1 g v0 v1 v2 v3 v4 v5 v6 :=
  ⟨h.toC7.fr f hs, fun j => (f.frozenEq (a := ⟨g, j, none⟩) h.lt hs).trans (h.z j)⟩
theorem Z7.put4 (h : Z7 w g v0 v1 v2 v3 v4 v5 v6) (u3 u4 u5 u6 : Value) :
    Z7 ((((w.setCell ⟨g, 3, none⟩ u3).setCell ⟨g, 4, none⟩ u4).setCell ⟨g, 5, none⟩ u5).setCell ⟨g, 6, none⟩ u6) g v0 v1 v2 u3 u4 u5 u6 ∧ Fr (fun k => k = g) w ((((w.setCell ⟨g, 3, none⟩ u3).setCell ⟨g, 4, none⟩ u4).setCell ⟨g, 5, none⟩ u5).setCell ⟨g, 6, none⟩ u6) := by
  obtain ⟨⟨h0, h1, h2, h3, h4, h5, h6⟩, hz⟩ := h
  refine ⟨⟨?_, fun j => by simpa using hz j⟩, ((((Fr.refl (fun k => k = g) w).setCell (p := ⟨g, 3, none⟩) (Or.inl rfl) _).setCell (p := ⟨g, 4, none⟩) (Or.inl rfl) _).setCell (p := ⟨g, 5, none⟩) (Or.inl rfl) _).setCell (p := ⟨g, 6, none⟩) (Or.inl rfl) _⟩
  constructor <;> simp [World.cell?_setCell_same', World.cell?_setCell_other, *]
theorem Z7.put7 (h : Z7 w g v0 v1 v2 v3 v4 v5 v6) (u0 u1 u2 u3 u4 u5 u6 : Value) :
    Z7 (((((((w.setCell ⟨g, 0, none⟩ u0).setCell ⟨g, 1, none⟩ u1).setCell ⟨g, 2, none⟩ u2).setCell ⟨g, 3, none⟩ u3).setCell ⟨g, 4, none⟩ u4).setCell ⟨g, 5, none⟩ u5).setCell ⟨g, 6, none⟩ u6) g u0 u1 u2 u3 u4 u5 u6 ∧ Fr (fun k => k = g) w (((((((w.setCell ⟨g, 0, none⟩ u0).setCell ⟨g, 1, none⟩ u1).setCell ⟨g, 2, none⟩ u2).setCell ⟨g, 3, none⟩ u3).setCell ⟨g, 4, none⟩ u4).setCell ⟨g, 5, none⟩ u5).setCell ⟨g, 6, none⟩ u6) := by
  obtain ⟨⟨h0, h1, h2, h3, h4, h5, h6⟩, hz⟩ := h
  refine ⟨⟨?_, fun j => by simpa using hz j⟩, (((((((Fr.refl (fun k => k = g) w).setCell (p := ⟨g, 0, none⟩) (Or.inl rfl) _).setCell (p := ⟨g, 1, none⟩) (Or.inl rfl) _).setCell (p := ⟨g, 2, none⟩) (Or.inl rfl) _).setCell (p := ⟨g, 3, none⟩) (Or.inl rfl) _).setCell (p := ⟨g, 4, none⟩) (Or.inl rfl) _).setCell (p := ⟨g, 5, none⟩) (Or.inl rfl) _).setCell (p := ⟨g, 6, none⟩) (Or.inl rfl) _⟩
  constructor <;> simp [World.cell?_setCell_same', World.cell?_setCell_other, *]
theorem Z7.new (w : World) (t : TypeId) (v0 v1 v2 v3 v4 v5 v6 : Value) : Z7 (w.alloc (.cells #[v0, v1, v2, v3, v4, v5, v6] t)) w.heap.size v0 v1 v2 v3 v4 v5 v6 := ⟨C7.new w t _ _ _ _ _ _ _, fun j => by simp⟩
end
set_option maxRecDepth 100000 in
set_option maxHeartbeats 20000000 in
theorem own_any (s q e0 p pc x : Nat) (da : Option Addr) (l : List Nat) (dc : Nat) (w : World) (hp : w.cell? ⟨p, 0, none⟩ = some (.float .f64 x)) (hd : Row w da l dc) (hl : l.length ≤ 1000) :
    Calls Try.prog 54 #[.agg #[.int .u64 (s : Int), .int .u64 (q : Int), .int .u64 (e0 : Int), .slice none 0 0, .slice none 0 0, .slice (some ⟨p, 0, none⟩) 1 pc, .slice da l.length dc]] w fun e w' => ∃ g gc a1 c1, e = .returned (.agg #[.int .u64 (s : Int), .int .u64 (q : Int), .int .u64 (e0 : Int), .slice none 0 0, .slice none 0 0, .slice (some ⟨g, 0, none⟩) 1 gc, .slice a1 l.length c1]) ∧ w.heap.size ≤ g ∧ w'.cell? ⟨g, 0, none⟩ = some (.float .f64 x) ∧ Row w' a1 l c1 ∧ (∀ a, a1 = some a → w.heap.size ≤ a.block) ∧ Fr (fun _ => False) w w' := by
  obtain ⟨W0, HW⟩ : ∃ W0, Hid (W0 = (w.alloc (.cells #[.int .u64 (s : Int), .int .u64 (q : Int), .int .u64 (e0 : Int), .slice none 0 0, .slice none 0 0, .slice (some ⟨p, 0, none⟩) 1 pc, .slice da l.length dc] 29)).alloc (.cells #[.int .u64 0, .int .u64 0, .int .u64 0, .slice none 0 0, .slice none 0 0, .slice none 0 0, .slice none 0 0] 29)) := ⟨_, rfl⟩
  have HF0 : Hid (Fr (fun _ => False) w W0.drew) := (show Fr _ _ _ by rw [HW.out]; exact (((Fr.refl (fun _ => False) w).alloc _).alloc _).drew)
  have HB0 : Hid (Z7 W0.drew w.heap.size (.int .u64 (s : Int)) (.int .u64 (q : Int)) (.int .u64 (e0 : Int)) (.slice none 0 0) (.slice none 0 0) (.slice (some ⟨p, 0, none⟩) 1 pc) (.slice da l.length dc)) := (show Z7 _ _ _ _ _ _ _ _ _ by rw [HW.out]; exact (Z7.new w 29 _ _ _ _ _ _ _).fr (((Fr.refl (fun _ => False) _).alloc (.cells #[.int .u64 0, .int .u64 0, .int .u64 0, .slice none 0 0, .slice none 0 0, .slice none 0 0, .slice none 0 0] 29)).drew) (by simp))
  have HR0 : Hid (Z7 W0.drew (w.heap.size + 1) (.int .u64 0) (.int .u64 0) (.int .u64 0) (.slice none 0 0) (.slice none 0 0) (.slice none 0 0) (.slice none 0 0)) := (show Z7 _ _ _ _ _ _ _ _ _ by rw [HW.out]; have := (Z7.new (w.alloc (.cells #[.int .u64 (s : Int), .int .u64 (q : Int), .int .u64 (e0 : Int), .slice none 0 0, .slice none 0 0, .slice (some ⟨p, 0, none⟩) 1 pc, .slice da l.length dc] 29)) 29 (.int .u64 0) (.int .u64 0) (.int .u64 0) (.slice none 0 0) (.slice none 0 0) (.slice none 0 0) (.slice none 0 0)).fr ((Fr.refl (fun _ => False) _).drew) (by simp); simpa using this)
  have KF : Hid (∀ W, Fr (fun _ => False) w W → Calls Try.prog 90 #[.slice (some ⟨p, 0, none⟩) 1 pc] W fun e w' => ∃ g c, e = .returned (.slice (some ⟨g, 0, none⟩) 1 c) ∧ W.heap.size ≤ g ∧ w'.cell? ⟨g, 0, none⟩ = some (.float .f64 x) ∧ Fr (fun _ => False) W w') := fun W f => cloneF_one p pc x W (f.cell hp (by simp))
  have KB : Hid (∀ W, Fr (fun _ => False) w W → Calls Try.prog 92 #[.slice da l.length dc] W fun e w' => ∃ a1 c1, e = .returned (.slice a1 l.length c1) ∧ Row w' a1 l c1 ∧ (∀ a, a1 = some a → W.heap.size ≤ a.block) ∧ Fr (fun _ => False) W w') := fun W f => cloneB_any da l dc W (f.row hd (by simp)) (by omega)
  obtain ⟨bx, Hbx⟩ : ∃ bx, Hid (w.heap.size = bx) := ⟨_, rfl⟩
  obtain ⟨rx, Hrx⟩ : ∃ rx, Hid (w.heap.size + 1 = rx) := ⟨_, rfl⟩
  have HBX : Hid (w.heap.size = bx ∧ rx = bx + 1) := ⟨Hbx.out, by have := Hbx.out; have := Hrx.out; omega⟩
  rw [Hbx.out] at HB0
  rw [Hrx.out] at HR0
  clear hp hd
  go_enter Try.func54, Try.ntmps54
  go_wp2_with fail
  rw [← HW.out, Hrx.out, Hbx.out]
  refine wp_region_held_drew (S := (fun W : World => W.cell? ⟨bx, 3, none⟩ = some (.slice none 0 0) ∧ W.cell? ⟨bx, 4, none⟩ = some (.slice none 0 0))) (by kernel_rfl) ⟨HB0.out.c3, HB0.out.c4⟩ (fun hHeld => ?_)
  refine wpAnyH_take (i := 0) (oi := _) (v := ?_) (by rw [List.getElem?_toArray]; rfl) (by kernel_rfl) (by kernel_rfl) (by kernel_rfl) (fun _ _ _ h => by exact h) (Or.inl ⟨by rfl, ?_⟩) (by assumption) ?_
  rotate_left
  · (intro w hSw; (try dsimp only at hSw); go_simp; (try with_reducible rfl))
  try simp only [Act.put, List.setIfInBounds_toArray, List.set_cons_zero, List.set_cons_succ]
  refine wpAnyH_take (i := 1) (oi := _) (v := ?_) (by rw [List.getElem?_toArray]; rfl) (by kernel_rfl) (by kernel_rfl) (by kernel_rfl) (fun _ _ _ h => by exact h) (Or.inl ⟨by rfl, ?_⟩) (by assumption) ?_
  rotate_left
  · (intro w hSw; (try dsimp only at hSw); obtain ⟨s1, s2⟩ := hSw; go_simp; (try with_reducible rfl))
  try simp only [Act.put, List.setIfInBounds_toArray, List.set_cons_zero, List.set_cons_succ]
  refine wpAnyH_take (i := 3) (oi := _) (v := ?_) (by rw [List.getElem?_toArray]; rfl) (by kernel_rfl) (by kernel_rfl) (by kernel_rfl) (fun _ _ _ h => by exact h) (Or.inl ⟨by rfl, ?_⟩) (by assumption) ?_
  rotate_left
  · (intro w hSw; (try dsimp only at hSw); go_simp; (try with_reducible rfl))
  try simp only [Act.put, List.setIfInBounds_toArray, List.set_cons_zero, List.set_cons_succ]
  refine wpAnyH_take (i := 4) (oi := _) (v := ?_) (by rw [List.getElem?_toArray]; rfl) (by kernel_rfl) (by kernel_rfl) (by kernel_rfl) (fun _ _ _ h => by exact h) (Or.inl ⟨by rfl, ?_⟩) (by assumption) ?_
  rotate_left
  · (intro w hSw; (try dsimp only at hSw); obtain ⟨s1, s2⟩ := hSw; go_simp; (try with_reducible rfl))
  try simp only [Act.put, List.setIfInBounds_toArray, List.set_cons_zero, List.set_cons_succ]
  refine wpAnyH_take (i := 6) (oi := _) (v := ?_) (by rw [List.getElem?_toArray]; rfl) (by kernel_rfl) (by kernel_rfl) (by kernel_rfl) (fun _ _ _ h => by exact h) (Or.inl ⟨by rfl, ?_⟩) (by assumption) ?_
  rotate_left
  · (intro w hSw; (try dsimp only at hSw); go_simp; (try with_reducible rfl))
  try simp only [Act.put, List.setIfInBounds_toArray, List.set_cons_zero, List.set_cons_succ]
  refine wpAnyH_take (i := 9) (oi := _) (v := ?_) (by rw [List.getElem?_toArray]; rfl) (by kernel_rfl) (by kernel_rfl) (by kernel_rfl) (fun _ _ _ h => by exact h) (Or.inl ⟨by rfl, ?_⟩) (by assumption) ?_
  rotate_left
  · (intro w hSw; (try dsimp only at hSw); go_simp; (try with_reducible rfl))
  try simp only [Act.put, List.setIfInBounds_toArray, List.set_cons_zero, List.set_cons_succ]
  refine wpAnyH_ready (rs := [2, 7, 10]) (by kernel_rfl) (by simp) ?_
  refine AllReadyH.cons (o := _) (by rw [List.getElem?_toArray]; rfl) (fun K hK => ?_) ?_
  · go_simp
    go_wp2_with (go_at_call 90; refine (cloneF_nil _ 0 0).mono ?_; rintro e w5 ⟨rfl, rfl⟩)
    refine hK.out _ _ ⟨HB0.out.c3, HB0.out.c4⟩ (fun hHeld => ?_)
    clear hK K
    try simp only [Act.put, List.setIfInBounds_toArray, List.set_cons_zero, List.set_cons_succ]
    refine wpAnyH_ready (rs := [5, 7, 10]) (by kernel_rfl) (by simp) ?_
    refine AllReadyH.cons (o := _) (by rw [List.getElem?_toArray]; rfl) (fun K hK => ?_) ?_
    · go_simp
      go_wp2_with (go_at_call 91; refine (cloneG_nil _ 0 0).mono ?_; rintro e w5 ⟨rfl, rfl⟩)
      refine hK.out _ _ ⟨HB0.out.c3, HB0.out.c4⟩ (fun hHeld => ?_)
      clear hK K
      try simp only [Act.put, List.setIfInBounds_toArray, List.set_cons_zero, List.set_cons_succ]
      refine wpAnyH_ready (rs := [7, 10]) (by kernel_rfl) (by simp) ?_
      refine AllReadyH.cons (o := _) (by rw [List.getElem?_toArray]; rfl) (fun K hK => ?_) ?_
      · obtain ⟨⟨k0, k1, k2, k3, k4, k5, k6⟩, kz⟩ := HB0.out
        go_simp
        clear k0 k1 k2 k3 k4 k5 k6 kz
        refine hK.out _ _ ⟨HB0.out.c3, HB0.out.c4⟩ (fun hHeld => ?_)
        clear hK K
        try simp only [Act.put, List.setIfInBounds_toArray, List.set_cons_zero, List.set_cons_succ]
        refine wpAnyH_ready (rs := [8, 10]) (by kernel_rfl) (by simp) ?_
        refine AllReadyH.cons (o := _) (by rw [List.getElem?_toArray]; rfl) (fun K hK => ?_) ?_
        · go_simp
          go_wp2_with (go_at_call 90; refine (KF.out _ HF0.out).mono ?_; rintro e wA ⟨g, gc, rfl, hgb, hgc, fA⟩)
          have FA : Hid (Fr (fun _ => False) w wA) := HF0.out.trans fA
          have HBA : Hid (Z7 wA bx (.int .u64 (s : Int)) (.int .u64 (q : Int)) (.int .u64 (e0 : Int)) (.slice none 0 0) (.slice none 0 0) (.slice (some ⟨p, 0, none⟩) 1 pc) (.slice da l.length dc)) := HB0.out.fr fA (by simp)
          have HRA : Hid (Z7 wA rx (.int .u64 0) (.int .u64 0) (.int .u64 0) (.slice none 0 0) (.slice none 0 0) (.slice none 0 0) (.slice none 0 0)) := HR0.out.fr fA (by simp)
          have HG : Hid (w.heap.size ≤ g ∧ bx < g ∧ rx < g ∧ wA.cell? ⟨g, 0, none⟩ = some (.float .f64 x)) := ⟨Nat.le_trans HF0.out.size hgb, Nat.lt_of_lt_of_le HB0.out.lt hgb, Nat.lt_of_lt_of_le HR0.out.lt hgb, hgc⟩
          clear fA hgb hgc
          refine hK.out _ _ ⟨HBA.out.c3, HBA.out.c4⟩ (fun hHeld => ?_)
          clear hK K
          try simp only [Act.put, List.setIfInBounds_toArray, List.set_cons_zero, List.set_cons_succ]
          refine wpAnyH_ready (rs := [10]) (by kernel_rfl) (by simp) ?_
          refine AllReadyH.cons (o := _) (by rw [List.getElem?_toArray]; rfl) (fun K hK => ?_) ?_
          · obtain ⟨⟨k0, k1, k2, k3, k4, k5, k6⟩, kz⟩ := HBA.out
            go_simp
            clear k0 k1 k2 k3 k4 k5 k6 kz
            refine hK.out _ _ ⟨HBA.out.c3, HBA.out.c4⟩ (fun hHeld => ?_)
            clear hK K
            try simp only [Act.put, List.setIfInBounds_toArray, List.set_cons_zero, List.set_cons_succ]
            refine wpAnyH_take (i := 12) (oi := _) (v := ?_) (by rw [List.getElem?_toArray]; rfl) (by kernel_rfl) (by kernel_rfl) (by kernel_rfl) (fun _ _ _ h => by exact h) (Or.inl ⟨by rfl, ?_⟩) (by assumption) ?_
            rotate_left
            · (intro w hSw; (try dsimp only at hSw); go_simp; (try with_reducible rfl))
            try simp only [Act.put, List.setIfInBounds_toArray, List.set_cons_zero, List.set_cons_succ]
            refine wpAnyH_ready (rs := [11]) (by kernel_rfl) (by simp) ?_
            refine AllReadyH.cons (o := _) (by rw [List.getElem?_toArray]; rfl) (fun K hK => ?_) ?_
            · go_simp
              go_wp2_with (go_at_call 92; refine (KB.out _ FA.out).mono ?_; rintro e wB ⟨a1, c1, rfl, hrb, hfb, fB⟩)
              have FB : Hid (Fr (fun _ => False) w wB) := FA.out.trans fB
              have HBB : Hid (Z7 wB bx (.int .u64 (s : Int)) (.int .u64 (q : Int)) (.int .u64 (e0 : Int)) (.slice none 0 0) (.slice none 0 0) (.slice (some ⟨p, 0, none⟩) 1 pc) (.slice da l.length dc)) := HBA.out.fr fB (by simp)
              have HRB : Hid (Z7 wB rx (.int .u64 0) (.int .u64 0) (.int .u64 0) (.slice none 0 0) (.slice none 0 0) (.slice none 0 0) (.slice none 0 0)) := HRA.out.fr fB (by simp)
              have HGB : Hid (w.heap.size ≤ g ∧ bx < g ∧ rx < g ∧ wB.cell? ⟨g, 0, none⟩ = some (.float .f64 x)) := ⟨HG.out.1, HG.out.2.1, HG.out.2.2.1, fB.cell HG.out.2.2.2 (by simp)⟩
              have HRW : Hid (Row wB a1 l c1 ∧ ∀ a, a1 = some a → wA.heap.size ≤ a.block) := ⟨hrb, hfb⟩
              have HSZ : Hid (w.heap.size ≤ wA.heap.size ∧ bx < wA.heap.size ∧ rx < wA.heap.size) := ⟨FA.out.size, HBA.out.lt, HRA.out.lt⟩
              clear fB hrb hfb
              refine hK.out _ _ ⟨HBB.out.c3, HBB.out.c4⟩ (fun hHeld => ?_)
              clear hK K
              try simp only [Act.put, List.setIfInBounds_toArray, List.set_cons_zero, List.set_cons_succ]
              obtain ⟨⟨k0, k1, k2, k3, k4, k5, k6⟩, kz⟩ := HBB.out
              refine wpAnyH_ready (rs := [13]) (by kernel_rfl) (by simp) ?_
              refine AllReadyH.cons (o := _) (by rw [List.getElem?_toArray]; rfl) (fun K hK => ?_) ?_
              · go_simp
                refine hK.out _ _ ⟨World.cell?_setCell_same _ _ _ hHeld.1, (World.cell?_setCell_other _ _ _ _ (by simp)).trans hHeld.2⟩ (fun hHeld => ?_)
                clear hK K
                try simp only [Act.put, List.setIfInBounds_toArray, List.set_cons_zero, List.set_cons_succ]
                refine wpAnyH_take (i := 14) (oi := _) (v := ?_) (by rw [List.getElem?_toArray]; rfl) (by kernel_rfl) (by kernel_rfl) (by kernel_rfl) (fun _ _ _ h => by exact h) (Or.inl ⟨by rfl, ?_⟩) (by assumption) ?_
                rotate_left
                · (intro w hSw; (try dsimp only at hSw); go_simp; (try with_reducible rfl))
                try simp only [Act.put, List.setIfInBounds_toArray, List.set_cons_zero, List.set_cons_succ]
                refine wpAnyH_ready (rs := [15]) (by kernel_rfl) (by simp) ?_
                refine AllReadyH.cons (o := _) (by rw [List.getElem?_toArray]; rfl) (fun K hK => ?_) ?_
                · go_simp
                  refine hK.out _ _ ⟨(World.cell?_setCell_other _ _ _ _ (by simp)).trans hHeld.1, World.cell?_setCell_same _ _ _ hHeld.2⟩ (fun hHeld => ?_)
                  clear hK K
                  try simp only [Act.put, List.setIfInBounds_toArray, List.set_cons_zero, List.set_cons_succ]
                  refine wpAnyH_take (i := 16) (oi := _) (v := ?_) (by rw [List.getElem?_toArray]; rfl) (by kernel_rfl) (by kernel_rfl) (by kernel_rfl) (fun _ _ _ h => by exact h) (Or.inl ⟨by rfl, ?_⟩) (by assumption) ?_
                  rotate_left
                  · (intro w hSw; (try dsimp only at hSw); go_simp; (try with_reducible rfl))
                  try simp only [Act.put, List.setIfInBounds_toArray, List.set_cons_zero, List.set_cons_succ]
                  refine wpAnyH_ready (rs := [17]) (by kernel_rfl) (by simp) ?_
                  refine AllReadyH.cons (o := _) (by rw [List.getElem?_toArray]; rfl) (fun K hK => ?_) ?_
                  · go_simp
                    refine hK.out _ _ ⟨(World.cell?_setCell_other _ _ _ _ (by simp)).trans hHeld.1, (World.cell?_setCell_other _ _ _ _ (by simp)).trans hHeld.2⟩ (fun hHeld => ?_)
                    clear hK K
                    try simp only [Act.put, List.setIfInBounds_toArray, List.set_cons_zero, List.set_cons_succ]
                    refine wpAnyH_take (i := 18) (oi := _) (v := ?_) (by rw [List.getElem?_toArray]; rfl) (by kernel_rfl) (by kernel_rfl) (by kernel_rfl) (fun _ _ _ h => by exact h) (Or.inl ⟨by rfl, ?_⟩) (by assumption) ?_
                    rotate_left
                    · (intro w hSw; (try dsimp only at hSw); go_simp; (try with_reducible rfl))
                    try simp only [Act.put, List.setIfInBounds_toArray, List.set_cons_zero, List.set_cons_succ]
                    refine wpAnyH_ready (rs := [19]) (by kernel_rfl) (by simp) ?_
                    refine AllReadyH.cons (o := _) (by rw [List.getElem?_toArray]; rfl) (fun K hK => ?_) ?_
                    · go_simp
                      refine hK.out _ _ ⟨(World.cell?_setCell_other _ _ _ _ (by simp)).trans hHeld.1, (World.cell?_setCell_other _ _ _ _ (by simp)).trans hHeld.2⟩ (fun hHeld => ?_)
                      clear hK K
                      try simp only [Act.put, List.setIfInBounds_toArray, List.set_cons_zero, List.set_cons_succ]
                      clear k0 k1 k2 k3 k4 k5 k6 kz
                      refine wpAnyH_done (by kernel_rfl) ?_ _
                      obtain ⟨hz, fz⟩ := HBB.out.put4 (.slice none 0 0) (.slice none 0 0) (.slice (some ⟨g, 0, none⟩) 1 gc) (.slice a1 l.length c1)
                      have HE : Hid (Z7 ((((wB.setCell ⟨bx, 3, none⟩ (.slice none 0 0)).setCell ⟨bx, 4, none⟩ (.slice none 0 0)).setCell ⟨bx, 5, none⟩ (.slice (some ⟨g, 0, none⟩) 1 gc)).setCell ⟨bx, 6, none⟩ (.slice a1 l.length c1)) bx (.int .u64 (s : Int)) (.int .u64 (q : Int)) (.int .u64 (e0 : Int)) (.slice none 0 0) (.slice none 0 0) (.slice (some ⟨g, 0, none⟩) 1 gc) (.slice a1 l.length c1)) := hz
                      have FE : Hid (Fr (fun k => k = bx) wB ((((wB.setCell ⟨bx, 3, none⟩ (.slice none 0 0)).setCell ⟨bx, 4, none⟩ (.slice none 0 0)).setCell ⟨bx, 5, none⟩ (.slice (some ⟨g, 0, none⟩) 1 gc)).setCell ⟨bx, 6, none⟩ (.slice a1 l.length c1))) := fz
                      clear hz fz hHeld
                      obtain ⟨WE, HWE⟩ : ∃ WE, Hid ((((wB.setCell ⟨bx, 3, none⟩ (.slice none 0 0)).setCell ⟨bx, 4, none⟩ (.slice none 0 0)).setCell ⟨bx, 5, none⟩ (.slice (some ⟨g, 0, none⟩) 1 gc)).setCell ⟨bx, 6, none⟩ (.slice a1 l.length c1) = WE) := ⟨_, rfl⟩
                      rw [HWE.out] at HE FE ⊢
                      have HRE : Hid (Z7 WE rx (.int .u64 0) (.int .u64 0) (.int .u64 0) (.slice none 0 0) (.slice none 0 0) (.slice none 0 0) (.slice none 0 0)) := HRB.out.fr FE.out (by have := HBX.out; omega)
                      obtain ⟨⟨k0, k1, k2, k3, k4, k5, k6⟩, kz⟩ := HE.out
                      obtain ⟨⟨y0, y1, y2, y3, y4, y5, y6⟩, yz⟩ := HRE.out
                      go_wp2
                      obtain ⟨hq, fq⟩ := HRE.out.put7 (.int .u64 (s : Int)) (.int .u64 (q : Int)) (.int .u64 (e0 : Int)) (.slice none 0 0) (.slice none 0 0) (.slice (some ⟨g, 0, none⟩) 1 gc) (.slice a1 l.length c1)
                      clear k0 k1 k2 k3 k4 k5 k6 kz y0 y1 y2 y3 y4 y5 y6 yz
                      refine bodyPost_ret (v := .agg #[.int .u64 (s : Int), .int .u64 (q : Int), .int .u64 (e0 : Int), .slice none 0 0, .slice none 0 0, .slice (some ⟨g, 0, none⟩) 1 gc, .slice a1 l.length c1]) ?_ rfl ⟨g, gc, a1, c1, rfl, HGB.out.1, fq.cell (FE.out.cell HGB.out.2.2.2 (show ¬ g = bx by have := HGB.out; omega)) (show ¬ g = rx by have := HGB.out; omega), fq.row (FE.out.row HRW.out.1 (fun _ a ha e => by have := HRW.out.2 a ha; have := HSZ.out; omega)) (fun _ a ha e => by have := HRW.out.2 a ha; have := HSZ.out; omega), fun a ha => Nat.le_trans HSZ.out.1 (HRW.out.2 a ha), FB.out.trans' (Fr.trans (Fr.mono (T := fun k => k = bx ∨ k = rx) FE.out (fun _ _ h => .inl h)) (Fr.mono (T := fun k => k = bx ∨ k = rx) fq (fun _ _ h => .inr h))) (fun i hi h => show False by have := HBX.out; rcases h with h | h <;> omega)⟩
                      revert hq
                      generalize (((((((WE.setCell _ _).setCell _ _).setCell _ _).setCell _ _).setCell _ _).setCell _ _).setCell _ _) = WQ
                      intro hq
                      obtain ⟨⟨d0, d1, d2, d3, d4, d5, d6⟩, _⟩ := hq
                      simp [results, Try.results54, go_sem, *]
                    exact AllReadyH.nil
                  exact AllReadyH.nil
                exact AllReadyH.nil
              exact AllReadyH.nil
            exact AllReadyH.nil
          exact AllReadyH.nil
        refine AllReadyH.cons (o := _) (by rw [List.getElem?_toArray]; rfl) (fun K hK => ?_) ?_
        · obtain ⟨⟨k0, k1, k2, k3, k4, k5, k6⟩, kz⟩ := HB0.out
          go_simp
          clear k0 k1 k2 k3 k4 k5 k6 kz
          refine hK.out _ _ ⟨HB0.out.c3, HB0.out.c4⟩ (fun hHeld => ?_)
          clear hK K
          try simp only [Act.put, List.setIfInBounds_toArray, List.set_cons_zero, List.set_cons_succ]
          refine wpAnyH_take (i := 12) (oi := _) (v := ?_) (by rw [List.getElem?_toArray]; rfl) (by kernel_rfl) (by kernel_rfl) (by kernel_rfl) (fun _ _ _ h => by exact h) (Or.inl ⟨by rfl, ?_⟩) (by assumption) ?_
          rotate_left
          · (intro w hSw; (try dsimp only at hSw); go_simp; (try with_reducible rfl))
          try simp only [Act.put, List.setIfInBounds_toArray, List.set_cons_zero, List.set_cons_succ]
          refine wpAnyH_ready (rs := [8]) (by kernel_rfl) (by simp) ?_
          refine AllReadyH.cons (o := _) (by rw [List.getElem?_toArray]; rfl) (fun K hK => ?_) ?_
          · go_simp
            go_wp2_with (go_at_call 90; refine (KF.out _ HF0.out).mono ?_; rintro e wA ⟨g, gc, rfl, hgb, hgc, fA⟩)
            have FA : Hid (Fr (fun _ => False) w wA) := HF0.out.trans fA
            have HBA : Hid (Z7 wA bx (.int .u64 (s : Int)) (.int .u64 (q : Int)) (.int .u64 (e0 : Int)) (.slice none 0 0) (.slice none 0 0) (.slice (some ⟨p, 0, none⟩) 1 pc) (.slice da l.length dc)) := HB0.out.fr fA (by simp)
            have HRA : Hid (Z7 wA rx (.int .u64 0) (.int .u64 0) (.int .u64 0) (.slice none 0 0) (.slice none 0 0) (.slice none 0 0) (.slice none 0 0)) := HR0.out.fr fA (by simp)
            have HG : Hid (w.heap.size ≤ g ∧ bx < g ∧ rx < g ∧ wA.cell? ⟨g, 0, none⟩ = some (.float .f64 x)) := ⟨Nat.le_trans HF0.out.size hgb, Nat.lt_of_lt_of_le HB0.out.lt hgb, Nat.lt_of_lt_of_le HR0.out.lt hgb, hgc⟩
            clear fA hgb hgc
            refine hK.out _ _ ⟨HBA.out.c3, HBA.out.c4⟩ (fun hHeld => ?_)
            clear hK K
            try simp only [Act.put, List.setIfInBounds_toArray, List.set_cons_zero, List.set_cons_succ]
            refine wpAnyH_ready (rs := [11]) (by kernel_rfl) (by simp) ?_
            refine AllReadyH.cons (o := _) (by rw [List.getElem?_toArray]; rfl) (fun K hK => ?_) ?_
            · go_simp
              go_wp2_with (go_at_call 92; refine (KB.out _ FA.out).mono ?_; rintro e wB ⟨a1, c1, rfl, hrb, hfb, fB⟩)
              have FB : Hid (Fr (fun _ => False) w wB) := FA.out.trans fB
              have HBB : Hid (Z7 wB bx (.int .u64 (s : Int)) (.int .u64 (q : Int)) (.int .u64 (e0 : Int)) (.slice none 0 0) (.slice none 0 0) (.slice (some ⟨p, 0, none⟩) 1 pc) (.slice da l.length dc)) := HBA.out.fr fB (by simp)
              have HRB : Hid (Z7 wB rx (.int .u64 0) (.int .u64 0) (.int .u64 0) (.slice none 0 0) (.slice none 0 0) (.slice none 0 0) (.slice none 0 0)) := HRA.out.fr fB (by simp)
              have HGB : Hid (w.heap.size ≤ g ∧ bx < g ∧ rx < g ∧ wB.cell? ⟨g, 0, none⟩ = some (.float .f64 x)) := ⟨HG.out.1, HG.out.2.1, HG.out.2.2.1, fB.cell HG.out.2.2.2 (by simp)⟩
              have HRW : Hid (Row wB a1 l c1 ∧ ∀ a, a1 = some a → wA.heap.size ≤ a.block) := ⟨hrb, hfb⟩
              have HSZ : Hid (w.heap.size ≤ wA.heap.size ∧ bx < wA.heap.size ∧ rx < wA.heap.size) := ⟨FA.out.size, HBA.out.lt, HRA.out.lt⟩
              clear fB hrb hfb
              refine hK.out _ _ ⟨HBB.out.c3, HBB.out.c4⟩ (fun hHeld => ?_)
              clear hK K
              try simp only [Act.put, List.setIfInBounds_toArray, List.set_cons_zero, List.set_cons_succ]
              obtain ⟨⟨k0, k1, k2, k3, k4, k5, k6⟩, kz⟩ := HBB.out
              refine wpAnyH_ready (rs := [13]) (by kernel_rfl) (by simp) ?_
              refine AllReadyH.cons (o := _) (by rw [List.getElem?_toArray]; rfl) (fun K hK => ?_) ?_
              · go_simp
                refine hK.out _ _ ⟨World.cell?_setCell_same _ _ _ hHeld.1, (World.cell?_setCell_other _ _ _ _ (by simp)).trans hHeld.2⟩ (fun hHeld => ?_)
                clear hK K
                try simp only [Act.put, List.setIfInBounds_toArray, List.set_cons_zero, List.set_cons_succ]
                refine wpAnyH_take (i := 14) (oi := _) (v := ?_) (by rw [List.getElem?_toArray]; rfl) (by kernel_rfl) (by kernel_rfl) (by kernel_rfl) (fun _ _ _ h => by exact h) (Or.inl ⟨by rfl, ?_⟩) (by assumption) ?_
                rotate_left
                · (intro w hSw; (try dsimp only at hSw); go_simp; (try with_reducible rfl))
                try simp only [Act.put, List.setIfInBounds_toArray, List.set_cons_zero, List.set_cons_succ]
                refine wpAnyH_ready (rs := [15]) (by kernel_rfl) (by simp) ?_
                refine AllReadyH.cons (o := _) (by rw [List.getElem?_toArray]; rfl) (fun K hK => ?_) ?_
                · go_simp
                  refine hK.out _ _ ⟨(World.cell?_setCell_other _ _ _ _ (by simp)).trans hHeld.1, World.cell?_setCell_same _ _ _ hHeld.2⟩ (fun hHeld => ?_)
                  clear hK K
                  try simp only [Act.put, List.setIfInBounds_toArray, List.set_cons_zero, List.set_cons_succ]
                  refine wpAnyH_take (i := 16) (oi := _) (v := ?_) (by rw [List.getElem?_toArray]; rfl) (by kernel_rfl) (by kernel_rfl) (by kernel_rfl) (fun _ _ _ h => by exact h) (Or.inl ⟨by rfl, ?_⟩) (by assumption) ?_
                  rotate_left
                  · (intro w hSw; (try dsimp only at hSw); go_simp; (try with_reducible rfl))
                  try simp only [Act.put, List.setIfInBounds_toArray, List.set_cons_zero, List.set_cons_succ]
                  refine wpAnyH_ready (rs := [17]) (by kernel_rfl) (by simp) ?_
                  refine AllReadyH.cons (o := _) (by rw [List.getElem?_toArray]; rfl) (fun K hK => ?_) ?_
                  · go_simp
                    refine hK.out _ _ ⟨(World.cell?_setCell_other _ _ _ _ (by simp)).trans hHeld.1, (World.cell?_setCell_other _ _ _ _ (by simp)).trans hHeld.2⟩ (fun hHeld => ?_)
                    clear hK K
                    try simp only [Act.put, List.setIfInBounds_toArray, List.set_cons_zero, List.set_cons_succ]
                    refine wpAnyH_take (i := 18) (oi := _) (v := ?_) (by rw [List.getElem?_toArray]; rfl) (by kernel_rfl) (by kernel_rfl) (by kernel_rfl) (fun _ _ _ h => by exact h) (Or.inl ⟨by rfl, ?_⟩) (by assumption) ?_
                    rotate_left
                    · (intro w hSw; (try dsimp only at hSw); go_simp; (try with_reducible rfl))
                    try simp only [Act.put, List.setIfInBounds_toArray, List.set_cons_zero, List.set_cons_succ]
                    refine wpAnyH_ready (rs := [19]) (by kernel_rfl) (by simp) ?_
                    refine AllReadyH.cons (o := _) (by rw [List.getElem?_toArray]; rfl) (fun K hK => ?_) ?_
                    · go_simp
                      refine hK.out _ _ ⟨(World.cell?_setCell_other _ _ _ _ (by simp)).trans hHeld.1, (World.cell?_setCell_other _ _ _ _ (by simp)).trans hHeld.2⟩ (fun hHeld => ?_)
                      clear hK K
                      try simp only [Act.put, List.setIfInBounds_toArray, List.set_cons_zero, List.set_cons_succ]
                      clear k0 k1 k2 k3 k4 k5 k6 kz
                      refine wpAnyH_done (by kernel_rfl) ?_ _
                      obtain ⟨hz, fz⟩ := HBB.out.put4 (.slice none 0 0) (.slice none 0 0) (.slice (some ⟨g, 0, none⟩) 1 gc) (.slice a1 l.length c1)
                      have HE : Hid (Z7 ((((wB.setCell ⟨bx, 3, none⟩ (.slice none 0 0)).setCell ⟨bx, 4, none⟩ (.slice none 0 0)).setCell ⟨bx, 5, none⟩ (.slice (some ⟨g, 0, none⟩) 1 gc)).setCell ⟨bx, 6, none⟩ (.slice a1 l.length c1)) bx (.int .u64 (s : Int)) (.int .u64 (q : Int)) (.int .u64 (e0 : Int)) (.slice none 0 0) (.slice none 0 0) (.slice (some ⟨g, 0, none⟩) 1 gc) (.slice a1 l.length c1)) := hz
                      have FE : Hid (Fr (fun k => k = bx) wB ((((wB.setCell ⟨bx, 3, none⟩ (.slice none 0 0)).setCell ⟨bx, 4, none⟩ (.slice none 0 0)).setCell ⟨bx, 5, none⟩ (.slice (some ⟨g, 0, none⟩) 1 gc)).setCell ⟨bx, 6, none⟩ (.slice a1 l.length c1))) := fz
                      clear hz fz hHeld
                      obtain ⟨WE, HWE⟩ : ∃ WE, Hid ((((wB.setCell ⟨bx, 3, none⟩ (.slice none 0 0)).setCell ⟨bx, 4, none⟩ (.slice none 0 0)).setCell ⟨bx, 5, none⟩ (.slice (some ⟨g, 0, none⟩) 1 gc)).setCell ⟨bx, 6, none⟩ (.slice a1 l.length c1) = WE) := ⟨_, rfl⟩
                      rw [HWE.out] at HE FE ⊢
                      have HRE : Hid (Z7 WE rx (.int .u64 0) (.int .u64 0) (.int .u64 0) (.slice none 0 0) (.slice none 0 0) (.slice none 0 0) (.slice none 0 0)) := HRB.out.fr FE.out (by have := HBX.out; omega)
                      obtain ⟨⟨k0, k1, k2, k3, k4, k5, k6⟩, kz⟩ := HE.out
                      obtain ⟨⟨y0, y1, y2, y3, y4, y5, y6⟩, yz⟩ := HRE.out
                      go_wp2
                      obtain ⟨hq, fq⟩ := HRE.out.put7 (.int .u64 (s : Int)) (.int .u64 (q : Int)) (.int .u64 (e0 : Int)) (.slice none 0 0) (.slice none 0 0) (.slice (some ⟨g, 0, none⟩) 1 gc) (.slice a1 l.length c1)
                      clear k0 k1 k2 k3 k4 k5 k6 kz y0 y1 y2 y3 y4 y5 y6 yz
                      refine bodyPost_ret (v := .agg #[.int .u64 (s : Int), .int .u64 (q : Int), .int .u64 (e0 : Int), .slice none 0 0, .slice none 0 0, .slice (some ⟨g, 0, none⟩) 1 gc, .slice a1 l.length c1]) ?_ rfl ⟨g, gc, a1, c1, rfl, HGB.out.1, fq.cell (FE.out.cell HGB.out.2.2.2 (show ¬ g = bx by have := HGB.out; omega)) (show ¬ g = rx by have := HGB.out; omega), fq.row (FE.out.row HRW.out.1 (fun _ a ha e => by have := HRW.out.2 a ha; have := HSZ.out; omega)) (fun _ a ha e => by have := HRW.out.2 a ha; have := HSZ.out; omega), fun a ha => Nat.le_trans HSZ.out.1 (HRW.out.2 a ha), FB.out.trans' (Fr.trans (Fr.mono (T := fun k => k = bx ∨ k = rx) FE.out (fun _ _ h => .inl h)) (Fr.mono (T := fun k => k = bx ∨ k = rx) fq (fun _ _ h => .inr h))) (fun i hi h => show False by have := HBX.out; rcases h with h | h <;> omega)⟩
                      revert hq
                      generalize (((((((WE.setCell _ _).setCell _ _).setCell _ _).setCell _ _).setCell _ _).setCell _ _).setCell _ _) = WQ
                      intro hq
                      obtain ⟨⟨d0, d1, d2, d3, d4, d5, d6⟩, _⟩ := hq
                      simp [results, Try.results54, go_sem, *]
                    exact AllReadyH.nil
                  exact AllReadyH.nil
                exact AllReadyH.nil
              exact AllReadyH.nil
            exact AllReadyH.nil
          exact AllReadyH.nil
        exact AllReadyH.nil
      refine AllReadyH.cons (o := _) (by rw [List.getElem?_toArray]; rfl) (fun K hK => ?_) ?_
      · obtain ⟨⟨k0, k1, k2, k3, k4, k5, k6⟩, kz⟩ := HB0.out
        go_simp
        clear k0 k1 k2 k3 k4 k5 k6 kz
        refine hK.out _ _ ⟨HB0.out.c3, HB0.out.c4⟩ (fun hHeld => ?_)
        clear hK K
        try simp only [Act.put, List.setIfInBounds_toArray, List.set_cons_zero, List.set_cons_succ]
        refine wpAnyH_ready (rs := [7]) (by kernel_rfl) (by simp) ?_
        refine AllReadyH.cons (o := _) (by rw [List.getElem?_toArray]; rfl) (fun K hK => ?_) ?_
        · obtain ⟨⟨k0, k1, k2, k3, k4, k5, k6⟩, kz⟩ := HB0.out
          go_simp
          clear k0 k1 k2 k3 k4 k5 k6 kz
          refine hK.out _ _ ⟨HB0.out.c3, HB0.out.c4⟩ (fun hHeld => ?_)
          clear hK K
          try simp only [Act.put, List.setIfInBounds_toArray, List.set_cons_zero, List.set_cons_succ]
          refine wpAnyH_take (i := 12) (oi := _) (v := ?_) (by rw [List.getElem?_toArray]; rfl) (by kernel_rfl) (by kernel_rfl) (by kernel_rfl) (fun _ _ _ h => by exact h) (Or.inl ⟨by rfl, ?_⟩) (by assumption) ?_
          rotate_left
          · (intro w hSw; (try dsimp only at hSw); go_simp; (try with_reducible rfl))
          try simp only [Act.put, List.setIfInBounds_toArray, List.set_cons_zero, List.set_cons_succ]
          refine wpAnyH_ready (rs := [8]) (by kernel_rfl) (by simp) ?_
          refine AllReadyH.cons (o := _) (by rw [List.getElem?_toArray]; rfl) (fun K hK => ?_) ?_
          · go_simp
            go_wp2_with (go_at_call 90; refine (KF.out _ HF0.out).mono ?_; rintro e wA ⟨g, gc, rfl, hgb, hgc, fA⟩)
            have FA : Hid (Fr (fun _ => False) w wA) := HF0.out.trans fA
            have HBA : Hid (Z7 wA bx (.int .u64 (s : Int)) (.int .u64 (q : Int)) (.int .u64 (e0 : Int)) (.slice none 0 0) (.slice none 0 0) (.slice (some ⟨p, 0, none⟩) 1 pc) (.slice da l.length dc)) := HB0.out.fr fA (by simp)
            have HRA : Hid (Z7 wA rx (.int .u64 0) (.int .u64 0) (.int .u64 0) (.slice none 0 0) (.slice none 0 0) (.slice none 0 0) (.slice none 0 0)) := HR0.out.fr fA (by simp)
            have HG : Hid (w.heap.size ≤ g ∧ bx < g ∧ rx < g ∧ wA.cell? ⟨g, 0, none⟩ = some (.float .f64 x)) := ⟨Nat.le_trans HF0.out.size hgb, Nat.lt_of_lt_of_le HB0.out.lt hgb, Nat.lt_of_lt_of_le HR0.out.lt hgb, hgc⟩
            clear fA hgb hgc
            refine hK.out _ _ ⟨HBA.out.c3, HBA.out.c4⟩ (fun hHeld => ?_)
            clear hK K
            try simp only [Act.put, List.setIfInBounds_toArray, List.set_cons_zero, List.set_cons_succ]
            refine wpAnyH_ready (rs := [11]) (by kernel_rfl) (by simp) ?_
            refine AllReadyH.cons (o := _) (by rw [List.getElem?_toArray]; rfl) (fun K hK => ?_) ?_
            · go_simp
              go_wp2_with (go_at_call 92; refine (KB.out _ FA.out).mono ?_; rintro e wB ⟨a1, c1, rfl, hrb, hfb, fB⟩)
              have FB : Hid (Fr (fun _ => False) w wB) := FA.out.trans fB
              have HBB : Hid (Z7 wB bx (.int .u64 (s : Int)) (.int .u64 (q : Int)) (.int .u64 (e0 : Int)) (.slice none 0 0) (.slice none 0 0) (.slice (some ⟨p, 0, none⟩) 1 pc) (.slice da l.length dc)) := HBA.out.fr fB (by simp)
              have HRB : Hid (Z7 wB rx (.int .u64 0) (.int .u64 0) (.int .u64 0) (.slice none 0 0) (.slice none 0 0) (.slice none 0 0) (.slice none 0 0)) := HRA.out.fr fB (by simp)
              have HGB : Hid (w.heap.size ≤ g ∧ bx < g ∧ rx < g ∧ wB.cell? ⟨g, 0, none⟩ = some (.float .f64 x)) := ⟨HG.out.1, HG.out.2.1, HG.out.2.2.1, fB.cell HG.out.2.2.2 (by simp)⟩
              have HRW : Hid (Row wB a1 l c1 ∧ ∀ a, a1 = some a → wA.heap.size ≤ a.block) := ⟨hrb, hfb⟩
              have HSZ : Hid (w.heap.size ≤ wA.heap.size ∧ bx < wA.heap.size ∧ rx < wA.heap.size) := ⟨FA.out.size, HBA.out.lt, HRA.out.lt⟩
              clear fB hrb hfb
              refine hK.out _ _ ⟨HBB.out.c3, HBB.out.c4⟩ (fun hHeld => ?_)
              clear hK K
              try simp only [Act.put, List.setIfInBounds_toArray, List.set_cons_zero, List.set_cons_succ]
              obtain ⟨⟨k0, k1, k2, k3, k4, k5, k6⟩, kz⟩ := HBB.out
              refine wpAnyH_ready (rs := [13]) (by kernel_rfl) (by simp) ?_
              refine AllReadyH.cons (o := _) (by rw [List.getElem?_toArray]; rfl) (fun K hK => ?_) ?_
              · go_simp
                refine hK.out _ _ ⟨World.cell?_setCell_same _ _ _ hHeld.1, (World.cell?_setCell_other _ _ _ _ (by simp)).trans hHeld.2⟩ (fun hHeld => ?_)
                clear hK K
                try simp only [Act.put, List.setIfInBounds_toArray, List.set_cons_zero, List.set_cons_succ]
                refine wpAnyH_take (i := 14) (oi := _) (v := ?_) (by rw [List.getElem?_toArray]; rfl) (by kernel_rfl) (by kernel_rfl) (by kernel_rfl) (fun _ _ _ h => by exact h) (Or.inl ⟨by rfl, ?_⟩) (by assumption) ?_
                rotate_left
                · (intro w hSw; (try dsimp only at hSw); go_simp; (try with_reducible rfl))
                try simp only [Act.put, List.setIfInBounds_toArray, List.set_cons_zero, List.set_cons_succ]
                refine wpAnyH_ready (rs := [15]) (by kernel_rfl) (by simp) ?_
                refine AllReadyH.cons (o := _) (by rw [List.getElem?_toArray]; rfl) (fun K hK => ?_) ?_
                · go_simp
                  refine hK.out _ _ ⟨(World.cell?_setCell_other _ _ _ _ (by simp)).trans hHeld.1, World.cell?_setCell_same _ _ _ hHeld.2⟩ (fun hHeld => ?_)
                  clear hK K
                  try simp only [Act.put, List.setIfInBounds_toArray, List.set_cons_zero, List.set_cons_succ]
                  refine wpAnyH_take (i := 16) (oi := _) (v := ?_) (by rw [List.getElem?_toArray]; rfl) (by kernel_rfl) (by kernel_rfl) (by kernel_rfl) (fun _ _ _ h => by exact h) (Or.inl ⟨by rfl, ?_⟩) (by assumption) ?_
                  rotate_left
                  · (intro w hSw; (try dsimp only at hSw); go_simp; (try with_reducible rfl))
                  try simp only [Act.put, List.setIfInBounds_toArray, List.set_cons_zero, List.set_cons_succ]
                  refine wpAnyH_ready (rs := [17]) (by kernel_rfl) (by simp) ?_
                  refine AllReadyH.cons (o := _) (by rw [List.getElem?_toArray]; rfl) (fun K hK => ?_) ?_
                  · go_simp
                    refine hK.out _ _ ⟨(World.cell?_setCell_other _ _ _ _ (by simp)).trans hHeld.1, (World.cell?_setCell_other _ _ _ _ (by simp)).trans hHeld.2⟩ (fun hHeld => ?_)
                    clear hK K
                    try simp only [Act.put, List.setIfInBounds_toArray, List.set_cons_zero, List.set_cons_succ]
                    refine wpAnyH_take (i := 18) (oi := _) (v := ?_) (by rw [List.getElem?_toArray]; rfl) (by kernel_rfl) (by kernel_rfl) (by kernel_rfl) (fun _ _ _ h => by exact h) (Or.inl ⟨by rfl, ?_⟩) (by assumption) ?_
                    rotate_left
                    · (intro w hSw; (try dsimp only at hSw); go_simp; (try with_reducible rfl))
                    try simp only [Act.put, List.setIfInBounds_toArray, List.set_cons_zero, List.set_cons_succ]
                    refine wpAnyH_ready (rs := [19]) (by kernel_rfl) (by simp) ?_
                    refine AllReadyH.cons (o := _) (by rw [List.getElem?_toArray]; rfl) (fun K hK => ?_) ?_
                    · go_simp
                      refine hK.out _ _ ⟨(World.cell?_setCell_other _ _ _ _ (by simp)).trans hHeld.1, (World.cell?_setCell_other _ _ _ _ (by simp)).trans hHeld.2⟩ (fun hHeld => ?_)
                      clear hK K
                      try simp only [Act.put, List.setIfInBounds_toArray, List.set_cons_zero, List.set_cons_succ]
                      clear k0 k1 k2 k3 k4 k5 k6 kz
                      refine wpAnyH_done (by kernel_rfl) ?_ _
                      obtain ⟨hz, fz⟩ := HBB.out.put4 (.slice none 0 0) (.slice none 0 0) (.slice (some ⟨g, 0, none⟩) 1 gc) (.slice a1 l.length c1)
                      have HE : Hid (Z7 ((((wB.setCell ⟨bx, 3, none⟩ (.slice none 0 0)).setCell ⟨bx, 4, none⟩ (.slice none 0 0)).setCell ⟨bx, 5, none⟩ (.slice (some ⟨g, 0, none⟩) 1 gc)).setCell ⟨bx, 6, none⟩ (.slice a1 l.length c1)) bx (.int .u64 (s : Int)) (.int .u64 (q : Int)) (.int .u64 (e0 : Int)) (.slice none 0 0) (.slice none 0 0) (.slice (some ⟨g, 0, none⟩) 1 gc) (.slice a1 l.length c1)) := hz
                      have FE : Hid (Fr (fun k => k = bx) wB ((((wB.setCell ⟨bx, 3, none⟩ (.slice none 0 0)).setCell ⟨bx, 4, none⟩ (.slice none 0 0)).setCell ⟨bx, 5, none⟩ (.slice (some ⟨g, 0, none⟩) 1 gc)).setCell ⟨bx, 6, none⟩ (.slice a1 l.length c1))) := fz
                      clear hz fz hHeld
                      obtain ⟨WE, HWE⟩ : ∃ WE, Hid ((((wB.setCell ⟨bx, 3, none⟩ (.slice none 0 0)).setCell ⟨bx, 4, none⟩ (.slice none 0 0)).setCell ⟨bx, 5, none⟩ (.slice (some ⟨g, 0, none⟩) 1 gc)).setCell ⟨bx, 6, none⟩ (.slice a1 l.length c1) = WE) := ⟨_, rfl⟩
                      rw [HWE.out] at HE FE ⊢
                      have HRE : Hid (Z7 WE rx (.int .u64 0) (.int .u64 0) (.int .u64 0) (.slice none 0 0) (.slice none 0 0) (.slice none 0 0) (.slice none 0 0)) := HRB.out.fr FE.out (by have := HBX.out; omega)
                      obtain ⟨⟨k0, k1, k2, k3, k4, k5, k6⟩, kz⟩ := HE.out
                      obtain ⟨⟨y0, y1, y2, y3, y4, y5, y6⟩, yz⟩ := HRE.out
                      go_wp2
                      obtain ⟨hq, fq⟩ := HRE.out.put7 (.int .u64 (s : Int)) (.int .u64 (q : Int)) (.int .u64 (e0 : Int)) (.slice none 0 0) (.slice none 0 0) (.slice (some ⟨g, 0, none⟩) 1 gc) (.slice a1 l.length c1)
                      clear k0 k1 k2 k3 k4 k5 k6 kz y0 y1 y2 y3 y4 y5 y6 yz
                      refine bodyPost_ret (v := .agg #[.int .u64 (s : Int), .int .u64 (q : Int), .int .u64 (e0 : Int), .slice none 0 0, .slice none 0 0, .slice (some ⟨g, 0, none⟩) 1 gc, .slice a1 l.length c1]) ?_ rfl ⟨g, gc, a1, c1, rfl, HGB.out.1, fq.cell (FE.out.cell HGB.out.2.2.2 (show ¬ g = bx by have := HGB.out; omega)) (show ¬ g = rx by have := HGB.out; omega), fq.row (FE.out.row HRW.out.1 (fun _ a ha e => by have := HRW.out.2 a ha; have := HSZ.out; omega)) (fun _ a ha e => by have := HRW.out.2 a ha; have := HSZ.out; omega), fun a ha => Nat.le_trans HSZ.out.1 (HRW.out.2 a ha), FB.out.trans' (Fr.trans (Fr.mono (T := fun k => k = bx ∨ k = rx) FE.out (fun _ _ h => .inl h)) (Fr.mono (T := fun k => k = bx ∨ k = rx) fq (fun _ _ h => .inr h))) (fun i hi h => show False by have := HBX.out; rcases h with h | h <;> omega)⟩
                      revert hq
                      generalize (((((((WE.setCell _ _).setCell _ _).setCell _ _).setCell _ _).setCell _ _).setCell _ _).setCell _ _) = WQ
                      intro hq
                      obtain ⟨⟨d0, d1, d2, d3, d4, d5, d6⟩, _⟩ := hq
                      simp [results, Try.results54, go_sem, *]
                    exact AllReadyH.nil
                  exact AllReadyH.nil
                exact AllReadyH.nil
              exact AllReadyH.nil
            exact AllReadyH.nil
          exact AllReadyH.nil
        exact AllReadyH.nil
      exact AllReadyH.nil
    refine AllReadyH.cons (o := _) (by rw [List.getElem?_toArray]; rfl) (fun K hK => ?_) ?_
    · obtain ⟨⟨k0, k1, k2, k3, k4, k5, k6⟩, kz⟩ := HB0.out
      go_simp
      clear k0 k1 k2 k3 k4 k5 k6 kz
      refine hK.out _ _ ⟨HB0.out.c3, HB0.out.c4⟩ (fun hHeld => ?_)
      clear hK K
      try simp only [Act.put, List.setIfInBounds_toArray, List.set_cons_zero, List.set_cons_succ]
      refine wpAnyH_ready (rs := [5, 10]) (by kernel_rfl) (by simp) ?_
      refine AllReadyH.cons (o := _) (by rw [List.getElem?_toArray]; rfl) (fun K hK => ?_) ?_
      · go_simp
        go_wp2_with (go_at_call 91; refine (cloneG_nil _ 0 0).mono ?_; rintro e w5 ⟨rfl, rfl⟩)
        refine hK.out _ _ ⟨HB0.out.c3, HB0.out.c4⟩ (fun hHeld => ?_)
        clear hK K
        try simp only [Act.put, List.setIfInBounds_toArray, List.set_cons_zero, List.set_cons_succ]
        refine wpAnyH_ready (rs := [8, 10]) (by kernel_rfl) (by simp) ?_
        refine AllReadyH.cons (o := _) (by rw [List.getElem?_toArray]; rfl) (fun K hK => ?_) ?_
        · go_simp
          go_wp2_with (go_at_call 90; refine (KF.out _ HF0.out).mono ?_; rintro e wA ⟨g, gc, rfl, hgb, hgc, fA⟩)
          have FA : Hid (Fr (fun _ => False) w wA) := HF0.out.trans fA
          have HBA : Hid (Z7 wA bx (.int .u64 (s : Int)) (.int .u64 (q : Int)) (.int .u64 (e0 : Int)) (.slice none 0 0) (.slice none 0 0) (.slice (some ⟨p, 0, none⟩) 1 pc) (.slice da l.length dc)) := HB0.out.fr fA (by simp)
          have HRA : Hid (Z7 wA rx (.int .u64 0) (.int .u64 0) (.int .u64 0) (.slice none 0 0) (.slice none 0 0) (.slice none 0 0) (.slice none 0 0)) := HR0.out.fr fA (by simp)
          have HG : Hid (w.heap.size ≤ g ∧ bx < g ∧ rx < g ∧ wA.cell? ⟨g, 0, none⟩ = some (.float .f64 x)) := ⟨Nat.le_trans HF0.out.size hgb, Nat.lt_of_lt_of_le HB0.out.lt hgb, Nat.lt_of_lt_of_le HR0.out.lt hgb, hgc⟩
          clear fA hgb hgc
          refine hK.out _ _ ⟨HBA.out.c3, HBA.out.c4⟩ (fun hHeld => ?_)
          clear hK K
          try simp only [Act.put, List.setIfInBounds_toArray, List.set_cons_zero, List.set_cons_succ]
          refine wpAnyH_ready (rs := [10]) (by kernel_rfl) (by simp) ?_
          refine AllReadyH.cons (o := _) (by rw [List.getElem?_toArray]; rfl) (fun K hK => ?_) ?_
          · obtain ⟨⟨k0, k1, k2, k3, k4, k5, k6⟩, kz⟩ := HBA.out
            go_simp
            clear k0 k1 k2 k3 k4 k5 k6 kz
            refine hK.out _ _ ⟨HBA.out.c3, HBA.out.c4⟩ (fun hHeld => ?_)
            clear hK K
            try simp only [Act.put, List.setIfInBounds_toArray, List.set_cons_zero, List.set_cons_succ]
            refine wpAnyH_take (i := 12) (oi := _) (v := ?_) (by rw [List.getElem?_toArray]; rfl) (by kernel_rfl) (by kernel_rfl) (by kernel_rfl) (fun _ _ _ h => by exact h) (Or.inl ⟨by rfl, ?_⟩) (by assumption) ?_
            rotate_left
            · (intro w hSw; (try dsimp only at hSw); go_simp; (try with_reducible rfl))
            try simp only [Act.put, List.setIfInBounds_toArray, List.set_cons_zero, List.set_cons_succ]
            refine wpAnyH_ready (rs := [11]) (by kernel_rfl) (by simp) ?_
            refine AllReadyH.cons (o := _) (by rw [List.getElem?_toArray]; rfl) (fun K hK => ?_) ?_
            · go_simp
              go_wp2_with (go_at_call 92; refine (KB.out _ FA.out).mono ?_; rintro e wB ⟨a1, c1, rfl, hrb, hfb, fB⟩)
              have FB : Hid (Fr (fun _ => False) w wB) := FA.out.trans fB
              have HBB : Hid (Z7 wB bx (.int .u64 (s : Int)) (.int .u64 (q : Int)) (.int .u64 (e0 : Int)) (.slice none 0 0) (.slice none 0 0) (.slice (some ⟨p, 0, none⟩) 1 pc) (.slice da l.length dc)) := HBA.out.fr fB (by simp)
              have HRB : Hid (Z7 wB rx (.int .u64 0) (.int .u64 0) (.int .u64 0) (.slice none 0 0) (.slice none 0 0) (.slice none 0 0) (.slice none 0 0)) := HRA.out.fr fB (by simp)
              have HGB : Hid (w.heap.size ≤ g ∧ bx < g ∧ rx < g ∧ wB.cell? ⟨g, 0, none⟩ = some (.float .f64 x)) := ⟨HG.out.1, HG.out.2.1, HG.out.2.2.1, fB.cell HG.out.2.2.2 (by simp)⟩
              have HRW : Hid (Row wB a1 l c1 ∧ ∀ a, a1 = some a → wA.heap.size ≤ a.block) := ⟨hrb, hfb⟩
              have HSZ : Hid (w.heap.size ≤ wA.heap.size ∧ bx < wA.heap.size ∧ rx < wA.heap.size) := ⟨FA.out.size, HBA.out.lt, HRA.out.lt⟩
              clear fB hrb hfb
              refine hK.out _ _ ⟨HBB.out.c3, HBB.out.c4⟩ (fun hHeld => ?_)
              clear hK K
              try simp only [Act.put, List.setIfInBounds_toArray, List.set_cons_zero, List.set_cons_succ]
              obtain ⟨⟨k0, k1, k2, k3, k4, k5, k6⟩, kz⟩ := HBB.out
              refine wpAnyH_ready (rs := [13]) (by kernel_rfl) (by simp) ?_
              refine AllReadyH.cons (o := _) (by rw [List.getElem?_toArray]; rfl) (fun K hK => ?_) ?_
              · go_simp
                refine hK.out _ _ ⟨World.cell?_setCell_same _ _ _ hHeld.1, (World.cell?_setCell_other _ _ _ _ (by simp)).trans hHeld.2⟩ (fun hHeld => ?_)
                clear hK K
                try simp only [Act.put, List.setIfInBounds_toArray, List.set_cons_zero, List.set_cons_succ]
                refine wpAnyH_take (i := 14) (oi := _) (v := ?_) (by rw [List.getElem?_toArray]; rfl) (by kernel_rfl) (by kernel_rfl) (by kernel_rfl) (fun _ _ _ h => by exact h) (Or.inl ⟨by rfl, ?_⟩) (by assumption) ?_
                rotate_left
                · (intro w hSw; (try dsimp only at hSw); go_simp; (try with_reducible rfl))
                try simp only [Act.put, List.setIfInBounds_toArray, List.set_cons_zero, List.set_cons_succ]
                refine wpAnyH_ready (rs := [15]) (by kernel_rfl) (by simp) ?_
                refine AllReadyH.cons (o := _) (by rw [List.getElem?_toArray]; rfl) (fun K hK => ?_) ?_
                · go_simp
                  refine hK.out _ _ ⟨(World.cell?_setCell_other _ _ _ _ (by simp)).trans hHeld.1, World.cell?_setCell_same _ _ _ hHeld.2⟩ (fun hHeld => ?_)
                  clear hK K
                  try simp only [Act.put, List.setIfInBounds_toArray, List.set_cons_zero, List.set_cons_succ]
                  refine wpAnyH_take (i := 16) (oi := _) (v := ?_) (by rw [List.getElem?_toArray]; rfl) (by kernel_rfl) (by kernel_rfl) (by kernel_rfl) (fun _ _ _ h => by exact h) (Or.inl ⟨by rfl, ?_⟩) (by assumption) ?_
                  rotate_left
                  · (intro w hSw; (try dsimp only at hSw); go_simp; (try with_reducible rfl))
                  try simp only [Act.put, List.setIfInBounds_toArray, List.set_cons_zero, List.set_cons_succ]
                  refine wpAnyH_ready (rs := [17]) (by kernel_rfl) (by simp) ?_
                  refine AllReadyH.cons (o := _) (by rw [List.getElem?_toArray]; rfl) (fun K hK => ?_) ?_
                  · go_simp
                    refine hK.out _ _ ⟨(World.cell?_setCell_other _ _ _ _ (by simp)).trans hHeld.1, (World.cell?_setCell_other _ _ _ _ (by simp)).trans hHeld.2⟩ (fun hHeld => ?_)
                    clear hK K
                    try simp only [Act.put, List.setIfInBounds_toArray, List.set_cons_zero, List.set_cons_succ]
                    refine wpAnyH_take (i := 18) (oi := _) (v := ?_) (by rw [List.getElem?_toArray]; rfl) (by kernel_rfl) (by kernel_rfl) (by kernel_rfl) (fun _ _ _ h => by exact h) (Or.inl ⟨by rfl, ?_⟩) (by assumption) ?_
                    rotate_left
                    · (intro w hSw; (try dsimp only at hSw); go_simp; (try with_reducible rfl))
                    try simp only [Act.put, List.setIfInBounds_toArray, List.set_cons_zero, List.set_cons_succ]
                    refine wpAnyH_ready (rs := [19]) (by kernel_rfl) (by simp) ?_
                    refine AllReadyH.cons (o := _) (by rw [List.getElem?_toArray]; rfl) (fun K hK => ?_) ?_
                    · go_simp
                      refine hK.out _ _ ⟨(World.cell?_setCell_other _ _ _ _ (by simp)).trans hHeld.1, (World.cell?_setCell_other _ _ _ _ (by simp)).trans hHeld.2⟩ (fun hHeld => ?_)
                      clear hK K
                      try simp only [Act.put, List.setIfInBounds_toArray, List.set_cons_zero, List.set_cons_succ]
                      clear k0 k1 k2 k3 k4 k5 k6 kz
                      refine wpAnyH_done (by kernel_rfl) ?_ _
                      obtain ⟨hz, fz⟩ := HBB.out.put4 (.slice none 0 0) (.slice none 0 0) (.slice (some ⟨g, 0, none⟩) 1 gc) (.slice a1 l.length c1)
                      have HE : Hid (Z7 ((((wB.setCell ⟨bx, 3, none⟩ (.slice none 0 0)).setCell ⟨bx, 4, none⟩ (.slice none 0 0)).setCell ⟨bx, 5, none⟩ (.slice (some ⟨g, 0, none⟩) 1 gc)).setCell ⟨bx, 6, none⟩ (.slice a1 l.length c1)) bx (.int .u64 (s : Int)) (.int .u64 (q : Int)) (.int .u64 (e0 : Int)) (.slice none 0 0) (.slice none 0 0) (.slice (some ⟨g, 0, none⟩) 1 gc) (.slice a1 l.length c1)) := hz
                      have FE : Hid (Fr (fun k => k = bx) wB ((((wB.setCell ⟨bx, 3, none⟩ (.slice none 0 0)).setCell ⟨bx, 4, none⟩ (.slice none 0 0)).setCell ⟨bx, 5, none⟩ (.slice (some ⟨g, 0, none⟩) 1 gc)).setCell ⟨bx, 6, none⟩ (.slice a1 l.length c1))) := fz
                      clear hz fz hHeld
                      obtain ⟨WE, HWE⟩ : ∃ WE, Hid ((((wB.setCell ⟨bx, 3, none⟩ (.slice none 0 0)).setCell ⟨bx, 4, none⟩ (.slice none 0 0)).setCell ⟨bx, 5, none⟩ (.slice (some ⟨g, 0, none⟩) 1 gc)).setCell ⟨bx, 6, none⟩ (.slice a1 l.length c1) = WE) := ⟨_, rfl⟩
                      rw [HWE.out] at HE FE ⊢
                      have HRE : Hid (Z7 WE rx (.int .u64 0) (.int .u64 0) (.int .u64 0) (.slice none 0 0) (.slice none 0 0) (.slice none 0 0) (.slice none 0 0)) := HRB.out.fr FE.out (by have := HBX.out; omega)
                      obtain ⟨⟨k0, k1, k2, k3, k4, k5, k6⟩, kz⟩ := HE.out
                      obtain ⟨⟨y0, y1, y2, y3, y4, y5, y6⟩, yz⟩ := HRE.out
                      go_wp2
                      obtain ⟨hq, fq⟩ := HRE.out.put7 (.int .u64 (s : Int)) (.int .u64 (q : Int)) (.int .u64 (e0 : Int)) (.slice none 0 0) (.slice none 0 0) (.slice (some ⟨g, 0, none⟩) 1 gc) (.slice a1 l.length c1)
                      clear k0 k1 k2 k3 k4 k5 k6 kz y0 y1 y2 y3 y4 y5 y6 yz
                      refine bodyPost_ret (v := .agg #[.int .u64 (s : Int), .int .u64 (q : Int), .int .u64 (e0 : Int), .slice none 0 0, .slice none 0 0, .slice (some ⟨g, 0, none⟩) 1 gc, .slice a1 l.length c1]) ?_ rfl ⟨g, gc, a1, c1, rfl, HGB.out.1, fq.cell (FE.out.cell HGB.out.2.2.2 (show ¬ g = bx by have := HGB.out; omega)) (show ¬ g = rx by have := HGB.out; omega), fq.row (FE.out.row HRW.out.1 (fun _ a ha e => by have := HRW.out.2 a ha; have := HSZ.out; omega)) (fun _ a ha e => by have := HRW.out.2 a ha; have := HSZ.out; omega), fun a ha => Nat.le_trans HSZ.out.1 (HRW.out.2 a ha), FB.out.trans' (Fr.trans (Fr.mono (T := fun k => k = bx ∨ k = rx) FE.out (fun _ _ h => .inl h)) (Fr.mono (T := fun k => k = bx ∨ k = rx) fq (fun _ _ h => .inr h))) (fun i hi h => show False by have := HBX.out; rcases h with h | h <;> omega)⟩
                      revert hq
                      generalize (((((((WE.setCell _ _).setCell _ _).setCell _ _).setCell _ _).setCell _ _).setCell _ _).setCell _ _) = WQ
                      intro hq
                      obtain ⟨⟨d0, d1, d2, d3, d4, d5, d6⟩, _⟩ := hq
                      simp [results, Try.results54, go_sem, *]
                    exact AllReadyH.nil
                  exact AllReadyH.nil
                exact AllReadyH.nil
              exact AllReadyH.nil
            exact AllReadyH.nil
          exact AllReadyH.nil
        refine AllReadyH.cons (o := _) (by rw [List.getElem?_toArray]; rfl) (fun K hK => ?_) ?_
        · obtain ⟨⟨k0, k1, k2, k3, k4, k5, k6⟩, kz⟩ := HB0.out
          go_simp
          clear k0 k1 k2 k3 k4 k5 k6 kz
          refine hK.out _ _ ⟨HB0.out.c3, HB0.out.c4⟩ (fun hHeld => ?_)
          clear hK K
          try simp only [Act.put, List.setIfInBounds_toArray, List.set_cons_zero, List.set_cons_succ]
          refine wpAnyH_take (i := 12) (oi := _) (v := ?_) (by rw [List.getElem?_toArray]; rfl) (by kernel_rfl) (by kernel_rfl) (by kernel_rfl) (fun _ _ _ h => by exact h) (Or.inl ⟨by rfl, ?_⟩) (by assumption) ?_
          rotate_left
          · (intro w hSw; (try dsimp only at hSw); go_simp; (try with_reducible rfl))
          try simp only [Act.put, List.setIfInBounds_toArray, List.set_cons_zero, List.set_cons_succ]
          refine wpAnyH_ready (rs := [8]) (by kernel_rfl) (by simp) ?_
          refine AllReadyH.cons (o := _) (by rw [List.getElem?_toArray]; rfl) (fun K hK => ?_) ?_
          · go_simp
            go_wp2_with (go_at_call 90; refine (KF.out _ HF0.out).mono ?_; rintro e wA ⟨g, gc, rfl, hgb, hgc, fA⟩)
            have FA : Hid (Fr (fun _ => False) w wA) := HF0.out.trans fA
            have HBA : Hid (Z7 wA bx (.int .u64 (s : Int)) (.int .u64 (q : Int)) (.int .u64 (e0 : Int)) (.slice none 0 0) (.slice none 0 0) (.slice (some ⟨p, 0, none⟩) 1 pc) (.slice da l.length dc)) := HB0.out.fr fA (by simp)
            have HRA : Hid (Z7 wA rx (.int .u64 0) (.int .u64 0) (.int .u64 0) (.slice none 0 0) (.slice none 0 0) (.slice none 0 0) (.slice none 0 0)) := HR0.out.fr fA (by simp)
            have HG : Hid (w.heap.size ≤ g ∧ bx < g ∧ rx < g ∧ wA.cell? ⟨g, 0, none⟩ = some (.float .f64 x)) := ⟨Nat.le_trans HF0.out.size hgb, Nat.lt_of_lt_of_le HB0.out.lt hgb, Nat.lt_of_lt_of_le HR0.out.lt hgb, hgc⟩
            clear fA hgb hgc
            refine hK.out _ _ ⟨HBA.out.c3, HBA.out.c4⟩ (fun hHeld => ?_)
            clear hK K
            try simp only [Act.put, List.setIfInBounds_toArray, List.set_cons_zero, List.set_cons_succ]
            refine wpAnyH_ready (rs := [11]) (by kernel_rfl) (by simp) ?_
            refine AllReadyH.cons (o := _) (by rw [List.getElem?_toArray]; rfl) (fun K hK => ?_) ?_
            · go_simp
              go_wp2_with (go_at_call 92; refine (KB.out _ FA.out).mono ?_; rintro e wB ⟨a1, c1, rfl, hrb, hfb, fB⟩)
              have FB : Hid (Fr (fun _ => False) w wB) := FA.out.trans fB
              have HBB : Hid (Z7 wB bx (.int .u64 (s : Int)) (.int .u64 (q : Int)) (.int .u64 (e0 : Int)) (.slice none 0 0) (.slice none 0 0) (.slice (some ⟨p, 0, none⟩) 1 pc) (.slice da l.length dc)) := HBA.out.fr fB (by simp)
              have HRB : Hid (Z7 wB rx (.int .u64 0) (.int .u64 0) (.int .u64 0) (.slice none 0 0) (.slice none 0 0) (.slice none 0 0) (.slice none 0 0)) := HRA.out.fr fB (by simp)
              have HGB : Hid (w.heap.size ≤ g ∧ bx < g ∧ rx < g ∧ wB.cell? ⟨g, 0, none⟩ = some (.float .f64 x)) := ⟨HG.out.1, HG.out.2.1, HG.out.2.2.1, fB.cell HG.out.2.2.2 (by simp)⟩
              have HRW : Hid (Row wB a1 l c1 ∧ ∀ a, a1 = some a → wA.heap.size ≤ a.block) := ⟨hrb, hfb⟩
              have HSZ : Hid (w.heap.size ≤ wA.heap.size ∧ bx < wA.heap.size ∧ rx < wA.heap.size) := ⟨FA.out.size, HBA.out.lt, HRA.out.lt⟩
              clear fB hrb hfb
              refine hK.out _ _ ⟨HBB.out.c3, HBB.out.c4⟩ (fun hHeld => ?_)
              clear hK K
              try simp only [Act.put, List.setIfInBounds_toArray, List.set_cons_zero, List.set_cons_succ]
              obtain ⟨⟨k0, k1, k2, k3, k4, k5, k6⟩, kz⟩ := HBB.out
              refine wpAnyH_ready (rs := [13]) (by kernel_rfl) (by simp) ?_
              refine AllReadyH.cons (o := _) (by rw [List.getElem?_toArray]; rfl) (fun K hK => ?_) ?_
              · go_simp
                refine hK.out _ _ ⟨World.cell?_setCell_same _ _ _ hHeld.1, (World.cell?_setCell_other _ _ _ _ (by simp)).trans hHeld.2⟩ (fun hHeld => ?_)
                clear hK K
                try simp only [Act.put, List.setIfInBounds_toArray, List.set_cons_zero, List.set_cons_succ]
                refine wpAnyH_take (i := 14) (oi := _) (v := ?_) (by rw [List.getElem?_toArray]; rfl) (by kernel_rfl) (by kernel_rfl) (by kernel_rfl) (fun _ _ _ h => by exact h) (Or.inl ⟨by rfl, ?_⟩) (by assumption) ?_
                rotate_left
                · (intro w hSw; (try dsimp only at hSw); go_simp; (try with_reducible rfl))
                try simp only [Act.put, List.setIfInBounds_toArray, List.set_cons_zero, List.set_cons_succ]
                refine wpAnyH_ready (rs := [15]) (by kernel_rfl) (by simp) ?_
                refine AllReadyH.cons (o := _) (by rw [List.getElem?_toArray]; rfl) (fun K hK => ?_) ?_
                · go_simp
                  refine hK.out _ _ ⟨(World.cell?_setCell_other _ _ _ _ (by simp)).trans hHeld.1, World.cell?_setCell_same _ _ _ hHeld.2⟩ (fun hHeld => ?_)
                  clear hK K
                  try simp only [Act.put, List.setIfInBounds_toArray, List.set_cons_zero, List.set_cons_succ]
                  refine wpAnyH_take (i := 16) (oi := _) (v := ?_) (by rw [List.getElem?_toArray]; rfl) (by kernel_rfl) (by kernel_rfl) (by kernel_rfl) (fun _ _ _ h => by exact h) (Or.inl ⟨by rfl, ?_⟩) (by assumption) ?_
                  rotate_left
                  · (intro w hSw; (try dsimp only at hSw); go_simp; (try with_reducible rfl))
                  try simp only [Act.put, List.setIfInBounds_toArray, List.set_cons_zero, List.set_cons_succ]
                  refine wpAnyH_ready (rs := [17]) (by kernel_rfl) (by simp) ?_
                  refine AllReadyH.cons (o := _) (by rw [List.getElem?_toArray]; rfl) (fun K hK => ?_) ?_
                  · go_simp
                    refine hK.out _ _ ⟨(World.cell?_setCell_other _ _ _ _ (by simp)).trans hHeld.1, (World.cell?_setCell_other _ _ _ _ (by simp)).trans hHeld.2⟩ (fun hHeld => ?_)
                    clear hK K
                    try simp only [Act.put, List.setIfInBounds_toArray, List.set_cons_zero, List.set_cons_succ]
                    refine wpAnyH_take (i := 18) (oi := _) (v := ?_) (by rw [List.getElem?_toArray]; rfl) (by kernel_rfl) (by kernel_rfl) (by kernel_rfl) (fun _ _ _ h => by exact h) (Or.inl ⟨by rfl, ?_⟩) (by assumption) ?_
                    rotate_left
                    · (intro w hSw; (try dsimp only at hSw); go_simp; (try with_reducible rfl))
                    try simp only [Act.put, List.setIfInBounds_toArray, List.set_cons_zero, List.set_cons_succ]
                    refine wpAnyH_ready (rs := [19]) (by kernel_rfl) (by simp) ?_
                    refine AllReadyH.cons (o := _) (by rw [List.getElem?_toArray]; rfl) (fun K hK => ?_) ?_
                    · go_simp
                      refine hK.out _ _ ⟨(World.cell?_setCell_other _ _ _ _ (by simp)).trans hHeld.1, (World.cell?_setCell_other _ _ _ _ (by simp)).trans hHeld.2⟩ (fun hHeld => ?_)
                      clear hK K
                      try simp only [Act.put, List.setIfInBounds_toArray, List.set_cons_zero, List.set_cons_succ]
                      clear k0 k1 k2 k3 k4 k5 k6 kz
                      refine wpAnyH_done (by kernel_rfl) ?_ _
                      obtain ⟨hz, fz⟩ := HBB.out.put4 (.slice none 0 0) (.slice none 0 0) (.slice (some ⟨g, 0, none⟩) 1 gc) (.slice a1 l.length c1)
                      have HE : Hid (Z7 ((((wB.setCell ⟨bx, 3, none⟩ (.slice none 0 0)).setCell ⟨bx, 4, none⟩ (.slice none 0 0)).setCell ⟨bx, 5, none⟩ (.slice (some ⟨g, 0, none⟩) 1 gc)).setCell ⟨bx, 6, none⟩ (.slice a1 l.length c1)) bx (.int .u64 (s : Int)) (.int .u64 (q : Int)) (.int .u64 (e0 : Int)) (.slice none 0 0) (.slice none 0 0) (.slice (some ⟨g, 0, none⟩) 1 gc) (.slice a1 l.length c1)) := hz
                      have FE : Hid (Fr (fun k => k = bx) wB ((((wB.setCell ⟨bx, 3, none⟩ (.slice none 0 0)).setCell ⟨bx, 4, none⟩ (.slice none 0 0)).setCell ⟨bx, 5, none⟩ (.slice (some ⟨g, 0, none⟩) 1 gc)).setCell ⟨bx, 6, none⟩ (.slice a1 l.length c1))) := fz
                      clear hz fz hHeld
                      obtain ⟨WE, HWE⟩ : ∃ WE, Hid ((((wB.setCell ⟨bx, 3, none⟩ (.slice none 0 0)).setCell ⟨bx, 4, none⟩ (.slice none 0 0)).setCell ⟨bx, 5, none⟩ (.slice (some ⟨g, 0, none⟩) 1 gc)).setCell ⟨bx, 6, none⟩ (.slice a1 l.length c1) = WE) := ⟨_, rfl⟩
                      rw [HWE.out] at HE FE ⊢
                      have HRE : Hid (Z7 WE rx (.int .u64 0) (.int .u64 0) (.int .u64 0) (.slice none 0 0) (.slice none 0 0) (.slice none 0 0) (.slice none 0 0)) := HRB.out.fr FE.out (by have := HBX.out; omega)
                      obtain ⟨⟨k0, k1, k2, k3, k4, k5, k6⟩, kz⟩ := HE.out
                      obtain ⟨⟨y0, y1, y2, y3, y4, y5, y6⟩, yz⟩ := HRE.out
                      go_wp2
                      obtain ⟨hq, fq⟩ := HRE.out.put7 (.int .u64 (s : Int)) (.int .u64 (q : Int)) (.int .u64 (e0 : Int)) (.slice none 0 0) (.slice none 0 0) (.slice (some ⟨g, 0, none⟩) 1 gc) (.slice a1 l.length c1)
                      clear k0 k1 k2 k3 k4 k5 k6 kz y0 y1 y2 y3 y4 y5 y6 yz
                      refine bodyPost_ret (v := .agg #[.int .u64 (s : Int), .int .u64 (q : Int), .int .u64 (e0 : Int), .slice none 0 0, .slice none 0 0, .slice (some ⟨g, 0, none⟩) 1 gc, .slice a1 l.length c1]) ?_ rfl ⟨g, gc, a1, c1, rfl, HGB.out.1, fq.cell (FE.out.cell HGB.out.2.2.2 (show ¬ g = bx by have := HGB.out; omega)) (show ¬ g = rx by have := HGB.out; omega), fq.row (FE.out.row HRW.out.1 (fun _ a ha e => by have := HRW.out.2 a ha; have := HSZ.out; omega)) (fun _ a ha e => by have := HRW.out.2 a ha; have := HSZ.out; omega), fun a ha => Nat.le_trans HSZ.out.1 (HRW.out.2 a ha), FB.out.trans' (Fr.trans (Fr.mono (T := fun k => k = bx ∨ k = rx) FE.out (fun _ _ h => .inl h)) (Fr.mono (T := fun k => k = bx ∨ k = rx) fq (fun _ _ h => .inr h))) (fun i hi h => show False by have := HBX.out; rcases h with h | h <;> omega)⟩
                      revert hq
                      generalize (((((((WE.setCell _ _).setCell _ _).setCell _ _).setCell _ _).setCell _ _).setCell _ _).setCell _ _) = WQ
                      intro hq
                      obtain ⟨⟨d0, d1, d2, d3, d4, d5, d6⟩, _⟩ := hq
                      simp [results, Try.results54, go_sem, *]
                    exact AllReadyH.nil
                  exact AllReadyH.nil
                exact AllReadyH.nil
              exact AllReadyH.nil
            exact AllReadyH.nil
          exact AllReadyH.nil
        exact AllReadyH.nil
      refine AllReadyH.cons (o := _) (by rw [List.getElem?_toArray]; rfl) (fun K hK => ?_) ?_
      · obtain ⟨⟨k0, k1, k2, k3, k4, k5, k6⟩, kz⟩ := HB0.out
        go_simp
        clear k0 k1 k2 k3 k4 k5 k6 kz
        refine hK.out _ _ ⟨HB0.out.c3, HB0.out.c4⟩ (fun hHeld => ?_)
        clear hK K
        try simp only [Act.put, List.setIfInBounds_toArray, List.set_cons_zero, List.set_cons_succ]
        refine wpAnyH_take (i := 12) (oi := _) (v := ?_) (by rw [List.getElem?_toArray]; rfl) (by kernel_rfl) (by kernel_rfl) (by kernel_rfl) (fun _ _ _ h => by exact h) (Or.inl ⟨by rfl, ?_⟩) (by assumption) ?_
        rotate_left
        · (intro w hSw; (try dsimp only at hSw); go_simp; (try with_reducible rfl))
        try simp only [Act.put, List.setIfInBounds_toArray, List.set_cons_zero, List.set_cons_succ]
        refine wpAnyH_ready (rs := [5]) (by kernel_rfl) (by simp) ?_
        refine AllReadyH.cons (o := _) (by rw [List.getElem?_toArray]; rfl) (fun K hK => ?_) ?_
        · go_simp
          go_wp2_with (go_at_call 91; refine (cloneG_nil _ 0 0).mono ?_; rintro e w5 ⟨rfl, rfl⟩)
          refine hK.out _ _ ⟨HB0.out.c3, HB0.out.c4⟩ (fun hHeld => ?_)
          clear hK K
          try simp only [Act.put, List.setIfInBounds_toArray, List.set_cons_zero, List.set_cons_succ]
          refine wpAnyH_ready (rs := [8]) (by kernel_rfl) (by simp) ?_
          refine AllReadyH.cons (o := _) (by rw [List.getElem?_toArray]; rfl) (fun K hK => ?_) ?_
          · go_simp
            go_wp2_with (go_at_call 90; refine (KF.out _ HF0.out).mono ?_; rintro e wA ⟨g, gc, rfl, hgb, hgc, fA⟩)
            have FA : Hid (Fr (fun _ => False) w wA) := HF0.out.trans fA
            have HBA : Hid (Z7 wA bx (.int .u64 (s : Int)) (.int .u64 (q : Int)) (.int .u64 (e0 : Int)) (.slice none 0 0) (.slice none 0 0) (.slice (some ⟨p, 0, none⟩) 1 pc) (.slice da l.length dc)) := HB0.out.fr fA (by simp)
            have HRA : Hid (Z7 wA rx (.int .u64 0) (.int .u64 0) (.int .u64 0) (.slice none 0 0) (.slice none 0 0) (.slice none 0 0) (.slice none 0 0)) := HR0.out.fr fA (by simp)
            have HG : Hid (w.heap.size ≤ g ∧ bx < g ∧ rx < g ∧ wA.cell? ⟨g, 0, none⟩ = some (.float .f64 x)) := ⟨Nat.le_trans HF0.out.size hgb, Nat.lt_of_lt_of_le HB0.out.lt hgb, Nat.lt_of_lt_of_le HR0.out.lt hgb, hgc⟩
            clear fA hgb hgc
            refine hK.out _ _ ⟨HBA.out.c3, HBA.out.c4⟩ (fun hHeld => ?_)
            clear hK K
            try simp only [Act.put, List.setIfInBounds_toArray, List.set_cons_zero, List.set_cons_succ]
            refine wpAnyH_ready (rs := [11]) (by kernel_rfl) (by simp) ?_
            refine AllReadyH.cons (o := _) (by rw [List.getElem?_toArray]; rfl) (fun K hK => ?_) ?_
            · go_simp
              go_wp2_with (go_at_call 92; refine (KB.out _ FA.out).mono ?_; rintro e wB ⟨a1, c1, rfl, hrb, hfb, fB⟩)
              have FB : Hid (Fr (fun _ => False) w wB) := FA.out.trans fB
              have HBB : Hid (Z7 wB bx (.int .u64 (s : Int)) (.int .u64 (q : Int)) (.int .u64 (e0 : Int)) (.slice none 0 0) (.slice none 0 0) (.slice (some ⟨p, 0, none⟩) 1 pc) (.slice da l.length dc)) := HBA.out.fr fB (by simp)
              have HRB : Hid (Z7 wB rx (.int .u64 0) (.int .u64 0) (.int .u64 0) (.slice none 0 0) (.slice none 0 0) (.slice none 0 0) (.slice none 0 0)) := HRA.out.fr fB (by simp)
              have HGB : Hid (w.heap.size ≤ g ∧ bx < g ∧ rx < g ∧ wB.cell? ⟨g, 0, none⟩ = some (.float .f64 x)) := ⟨HG.out.1, HG.out.2.1, HG.out.2.2.1, fB.cell HG.out.2.2.2 (by simp)⟩
              have HRW : Hid (Row wB a1 l c1 ∧ ∀ a, a1 = some a → wA.heap.size ≤ a.block) := ⟨hrb, hfb⟩
              have HSZ : Hid (w.heap.size ≤ wA.heap.size ∧ bx < wA.heap.size ∧ rx < wA.heap.size) := ⟨FA.out.size, HBA.out.lt, HRA.out.lt⟩
              clear fB hrb hfb
              refine hK.out _ _ ⟨HBB.out.c3, HBB.out.c4⟩ (fun hHeld => ?_)
              clear hK K
              try simp only [Act.put, List.setIfInBounds_toArray, List.set_cons_zero, List.set_cons_succ]
              obtain ⟨⟨k0, k1, k2, k3, k4, k5, k6⟩, kz⟩ := HBB.out
              refine wpAnyH_ready (rs := [13]) (by kernel_rfl) (by simp) ?_
              refine AllReadyH.cons (o := _) (by rw [List.getElem?_toArray]; rfl) (fun K hK => ?_) ?_
              · go_simp
                refine hK.out _ _ ⟨World.cell?_setCell_same _ _ _ hHeld.1, (World.cell?_setCell_other _ _ _ _ (by simp)).trans hHeld.2⟩ (fun hHeld => ?_)
                clear hK K
                try simp only [Act.put, List.setIfInBounds_toArray, List.set_cons_zero, List.set_cons_succ]
                refine wpAnyH_take (i := 14) (oi := _) (v := ?_) (by rw [List.getElem?_toArray]; rfl) (by kernel_rfl) (by kernel_rfl) (by kernel_rfl) (fun _ _ _ h => by exact h) (Or.inl ⟨by rfl, ?_⟩) (by assumption) ?_
                rotate_left
                · (intro w hSw; (try dsimp only at hSw); go_simp; (try with_reducible rfl))
                try simp only [Act.put, List.setIfInBounds_toArray, List.set_cons_zero, List.set_cons_succ]
                refine wpAnyH_ready (rs := [15]) (by kernel_rfl) (by simp) ?_
                refine AllReadyH.cons (o := _) (by rw [List.getElem?_toArray]; rfl) (fun K hK => ?_) ?_
                · go_simp
                  refine hK.out _ _ ⟨(World.cell?_setCell_other _ _ _ _ (by simp)).trans hHeld.1, World.cell?_setCell_same _ _ _ hHeld.2⟩ (fun hHeld => ?_)
                  clear hK K
                  try simp only [Act.put, List.setIfInBounds_toArray, List.set_cons_zero, List.set_cons_succ]
                  refine wpAnyH_take (i := 16) (oi := _) (v := ?_) (by rw [List.getElem?_toArray]; rfl) (by kernel_rfl) (by kernel_rfl) (by kernel_rfl) (fun _ _ _ h => by exact h) (Or.inl ⟨by rfl, ?_⟩) (by assumption) ?_
                  rotate_left
                  · (intro w hSw; (try dsimp only at hSw); go_simp; (try with_reducible rfl))
                  try simp only [Act.put, List.setIfInBounds_toArray, List.set_cons_zero, List.set_cons_succ]
                  refine wpAnyH_ready (rs := [17]) (by kernel_rfl) (by simp) ?_
                  refine AllReadyH.cons (o := _) (by rw [List.getElem?_toArray]; rfl) (fun K hK => ?_) ?_
                  · go_simp
                    refine hK.out _ _ ⟨(World.cell?_setCell_other _ _ _ _ (by simp)).trans hHeld.1, (World.cell?_setCell_other _ _ _ _ (by simp)).trans hHeld.2⟩ (fun hHeld => ?_)
                    clear hK K
                    try simp only [Act.put, List.setIfInBounds_toArray, List.set_cons_zero, List.set_cons_succ]
                    refine wpAnyH_take (i := 18) (oi := _) (v := ?_) (by rw [List.getElem?_toArray]; rfl) (by kernel_rfl) (by kernel_rfl) (by kernel_rfl) (fun _ _ _ h => by exact h) (Or.inl ⟨by rfl, ?_⟩) (by assumption) ?_
                    rotate_left
                    · (intro w hSw; (try dsimp only at hSw); go_simp; (try with_reducible rfl))
                    try simp only [Act.put, List.setIfInBounds_toArray, List.set_cons_zero, List.set_cons_succ]
                    refine wpAnyH_ready (rs := [19]) (by kernel_rfl) (by simp) ?_
                    refine AllReadyH.cons (o := _) (by rw [List.getElem?_toArray]; rfl) (fun K hK => ?_) ?_
                    · go_simp
                      refine hK.out _ _ ⟨(World.cell?_setCell_other _ _ _ _ (by simp)).trans hHeld.1, (World.cell?_setCell_other _ _ _ _ (by simp)).trans hHeld.2⟩ (fun hHeld => ?_)
                      clear hK K
                      try simp only [Act.put, List.setIfInBounds_toArray, List.set_cons_zero, List.set_cons_succ]
                      clear k0 k1 k2 k3 k4 k5 k6 kz
                      refine wpAnyH_done (by kernel_rfl) ?_ _
                      obtain ⟨hz, fz⟩ := HBB.out.put4 (.slice none 0 0) (.slice none 0 0) (.slice (some ⟨g, 0, none⟩) 1 gc) (.slice a1 l.length c1)
                      have HE : Hid (Z7 ((((wB.setCell ⟨bx, 3, none⟩ (.slice none 0 0)).setCell ⟨bx, 4, none⟩ (.slice none 0 0)).setCell ⟨bx, 5, none⟩ (.slice (some ⟨g, 0, none⟩) 1 gc)).setCell ⟨bx, 6, none⟩ (.slice a1 l.length c1)) bx (.int .u64 (s : Int)) (.int .u64 (q : Int)) (.int .u64 (e0 : Int)) (.slice none 0 0) (.slice none 0 0) (.slice (some ⟨g, 0, none⟩) 1 gc) (.slice a1 l.length c1)) := hz
                      have FE : Hid (Fr (fun k => k = bx) wB ((((wB.setCell ⟨bx, 3, none⟩ (.slice none 0 0)).setCell ⟨bx, 4, none⟩ (.slice none 0 0)).setCell ⟨bx, 5, none⟩ (.slice (some ⟨g, 0, none⟩) 1 gc)).setCell ⟨bx, 6, none⟩ (.slice a1 l.length c1))) := fz
                      clear hz fz hHeld
                      obtain ⟨WE, HWE⟩ : ∃ WE, Hid ((((wB.setCell ⟨bx, 3, none⟩ (.slice none 0 0)).setCell ⟨bx, 4, none⟩ (.slice none 0 0)).setCell ⟨bx, 5, none⟩ (.slice (some ⟨g, 0, none⟩) 1 gc)).setCell ⟨bx, 6, none⟩ (.slice a1 l.length c1) = WE) := ⟨_, rfl⟩
                      rw [HWE.out] at HE FE ⊢
                      have HRE : Hid (Z7 WE rx (.int .u64 0) (.int .u64 0) (.int .u64 0) (.slice none 0 0) (.slice none 0 0) (.slice none 0 0) (.slice none 0 0)) := HRB.out.fr FE.out (by have := HBX.out; omega)
                      obtain ⟨⟨k0, k1, k2, k3, k4, k5, k6⟩, kz⟩ := HE.out
                      obtain ⟨⟨y0, y1, y2, y3, y4, y5, y6⟩, yz⟩ := HRE.out
                      go_wp2
                      obtain ⟨hq, fq⟩ := HRE.out.put7 (.int .u64 (s : Int)) (.int .u64 (q : Int)) (.int .u64 (e0 : Int)) (.slice none 0 0) (.slice none 0 0) (.slice (some ⟨g, 0, none⟩) 1 gc) (.slice a1 l.length c1)
                      clear k0 k1 k2 k3 k4 k5 k6 kz y0 y1 y2 y3 y4 y5 y6 yz
                      refine bodyPost_ret (v := .agg #[.int .u64 (s : Int), .int .u64 (q : Int), .int .u64 (e0 : Int), .slice none 0 0, .slice none 0 0, .slice (some ⟨g, 0, none⟩) 1 gc, .slice a1 l.length c1]) ?_ rfl ⟨g, gc, a1, c1, rfl, HGB.out.1, fq.cell (FE.out.cell HGB.out.2.2.2 (show ¬ g = bx by have := HGB.out; omega)) (show ¬ g = rx by have := HGB.out; omega), fq.row (FE.out.row HRW.out.1 (fun _ a ha e => by have := HRW.out.2 a ha; have := HSZ.out; omega)) (fun _ a ha e => by have := HRW.out.2 a ha; have := HSZ.out; omega), fun a ha => Nat.le_trans HSZ.out.1 (HRW.out.2 a ha), FB.out.trans' (Fr.trans (Fr.mono (T := fun k => k = bx ∨ k = rx) FE.out (fun _ _ h => .inl h)) (Fr.mono (T := fun k => k = bx ∨ k = rx) fq (fun _ _ h => .inr h))) (fun i hi h => show False by have := HBX.out; rcases h with h | h <;> omega)⟩
                      revert hq
                      generalize (((((((WE.setCell _ _).setCell _ _).setCell _ _).setCell _ _).setCell _ _).setCell _ _).setCell _ _) = WQ
                      intro hq
                      obtain ⟨⟨d0, d1, d2, d3, d4, d5, d6⟩, _⟩ := hq
                      simp [results, Try.results54, go_sem, *]
                    exact AllReadyH.nil
                  exact AllReadyH.nil
                exact AllReadyH.nil
              exact AllReadyH.nil
            exact AllReadyH.nil
          exact AllReadyH.nil
        exact AllReadyH.nil
      exact AllReadyH.nil
    refine AllReadyH.cons (o := _) (by rw [List.getElem?_toArray]; rfl) (fun K hK => ?_) ?_
    · obtain ⟨⟨k0, k1, k2, k3, k4, k5, k6⟩, kz⟩ := HB0.out
      go_simp
      clear k0 k1 k2 k3 k4 k5 k6 kz
      refine hK.out _ _ ⟨HB0.out.c3, HB0.out.c4⟩ (fun hHeld => ?_)
      clear hK K
      try simp only [Act.put, List.setIfInBounds_toArray, List.set_cons_zero, List.set_cons_succ]
      refine wpAnyH_ready (rs := [5, 7]) (by kernel_rfl) (by simp) ?_
      refine AllReadyH.cons (o := _) (by rw [List.getElem?_toArray]; rfl) (fun K hK => ?_) ?_
      · go_simp
        go_wp2_with (go_at_call 91; refine (cloneG_nil _ 0 0).mono ?_; rintro e w5 ⟨rfl, rfl⟩)
        refine hK.out _ _ ⟨HB0.out.c3, HB0.out.c4⟩ (fun hHeld => ?_)
        clear hK K
        try simp only [Act.put, List.setIfInBounds_toArray, List.set_cons_zero, List.set_cons_succ]
        refine wpAnyH_ready (rs := [7]) (by kernel_rfl) (by simp) ?_
        refine AllReadyH.cons (o := _) (by rw [List.getElem?_toArray]; rfl) (fun K hK => ?_) ?_
        · obtain ⟨⟨k0, k1, k2, k3, k4, k5, k6⟩, kz⟩ := HB0.out
          go_simp
          clear k0 k1 k2 k3 k4 k5 k6 kz
          refine hK.out _ _ ⟨HB0.out.c3, HB0.out.c4⟩ (fun hHeld => ?_)
          clear hK K
          try simp only [Act.put, List.setIfInBounds_toArray, List.set_cons_zero, List.set_cons_succ]
          refine wpAnyH_take (i := 12) (oi := _) (v := ?_) (by rw [List.getElem?_toArray]; rfl) (by kernel_rfl) (by kernel_rfl) (by kernel_rfl) (fun _ _ _ h => by exact h) (Or.inl ⟨by rfl, ?_⟩) (by assumption) ?_
          rotate_left
          · (intro w hSw; (try dsimp only at hSw); go_simp; (try with_reducible rfl))
          try simp only [Act.put, List.setIfInBounds_toArray, List.set_cons_zero, List.set_cons_succ]
          refine wpAnyH_ready (rs := [8]) (by kernel_rfl) (by simp) ?_
          refine AllReadyH.cons (o := _) (by rw [List.getElem?_toArray]; rfl) (fun K hK => ?_) ?_
          · go_simp
            go_wp2_with (go_at_call 90; refine (KF.out _ HF0.out).mono ?_; rintro e wA ⟨g, gc, rfl, hgb, hgc, fA⟩)
            have FA : Hid (Fr (fun _ => False) w wA) := HF0.out.trans fA
            have HBA : Hid (Z7 wA bx (.int .u64 (s : Int)) (.int .u64 (q : Int)) (.int .u64 (e0 : Int)) (.slice none 0 0) (.slice none 0 0) (.slice (some ⟨p, 0, none⟩) 1 pc) (.slice da l.length dc)) := HB0.out.fr fA (by simp)
            have HRA : Hid (Z7 wA rx (.int .u64 0) (.int .u64 0) (.int .u64 0) (.slice none 0 0) (.slice none 0 0) (.slice none 0 0) (.slice none 0 0)) := HR0.out.fr fA (by simp)
            have HG : Hid (w.heap.size ≤ g ∧ bx < g ∧ rx < g ∧ wA.cell? ⟨g, 0, none⟩ = some (.float .f64 x)) := ⟨Nat.le_trans HF0.out.size hgb, Nat.lt_of_lt_of_le HB0.out.lt hgb, Nat.lt_of_lt_of_le HR0.out.lt hgb, hgc⟩
            clear fA hgb hgc
            refine hK.out _ _ ⟨HBA.out.c3, HBA.out.c4⟩ (fun hHeld => ?_)
            clear hK K
            try simp only [Act.put, List.setIfInBounds_toArray, List.set_cons_zero, List.set_cons_succ]
            refine wpAnyH_ready (rs := [11]) (by kernel_rfl) (by simp) ?_
            refine AllReadyH.cons (o := _) (by rw [List.getElem?_toArray]; rfl) (fun K hK => ?_) ?_
            · go_simp
              go_wp2_with (go_at_call 92; refine (KB.out _ FA.out).mono ?_; rintro e wB ⟨a1, c1, rfl, hrb, hfb, fB⟩)
              have FB : Hid (Fr (fun _ => False) w wB) := FA.out.trans fB
              have HBB : Hid (Z7 wB bx (.int .u64 (s : Int)) (.int .u64 (q : Int)) (.int .u64 (e0 : Int)) (.slice none 0 0) (.slice none 0 0) (.slice (some ⟨p, 0, none⟩) 1 pc) (.slice da l.length dc)) := HBA.out.fr fB (by simp)
              have HRB : Hid (Z7 wB rx (.int .u64 0) (.int .u64 0) (.int .u64 0) (.slice none 0 0) (.slice none 0 0) (.slice none 0 0) (.slice none 0 0)) := HRA.out.fr fB (by simp)
              have HGB : Hid (w.heap.size ≤ g ∧ bx < g ∧ rx < g ∧ wB.cell? ⟨g, 0, none⟩ = some (.float .f64 x)) := ⟨HG.out.1, HG.out.2.1, HG.out.2.2.1, fB.cell HG.out.2.2.2 (by simp)⟩
              have HRW : Hid (Row wB a1 l c1 ∧ ∀ a, a1 = some a → wA.heap.size ≤ a.block) := ⟨hrb, hfb⟩
              have HSZ : Hid (w.heap.size ≤ wA.heap.size ∧ bx < wA.heap.size ∧ rx < wA.heap.size) := ⟨FA.out.size, HBA.out.lt, HRA.out.lt⟩
              clear fB hrb hfb
              refine hK.out _ _ ⟨HBB.out.c3, HBB.out.c4⟩ (fun hHeld => ?_)
              clear hK K
              try simp only [Act.put, List.setIfInBounds_toArray, List.set_cons_zero, List.set_cons_succ]
              obtain ⟨⟨k0, k1, k2, k3, k4, k5, k6⟩, kz⟩ := HBB.out
              refine wpAnyH_ready (rs := [13]) (by kernel_rfl) (by simp) ?_
              refine AllReadyH.cons (o := _) (by rw [List.getElem?_toArray]; rfl) (fun K hK => ?_) ?_
              · go_simp
                refine hK.out _ _ ⟨World.cell?_setCell_same _ _ _ hHeld.1, (World.cell?_setCell_other _ _ _ _ (by simp)).trans hHeld.2⟩ (fun hHeld => ?_)
                clear hK K
                try simp only [Act.put, List.setIfInBounds_toArray, List.set_cons_zero, List.set_cons_succ]
                refine wpAnyH_take (i := 14) (oi := _) (v := ?_) (by rw [List.getElem?_toArray]; rfl) (by kernel_rfl) (by kernel_rfl) (by kernel_rfl) (fun _ _ _ h => by exact h) (Or.inl ⟨by rfl, ?_⟩) (by assumption) ?_
                rotate_left
                · (intro w hSw; (try dsimp only at hSw); go_simp; (try with_reducible rfl))
                try simp only [Act.put, List.setIfInBounds_toArray, List.set_cons_zero, List.set_cons_succ]
                refine wpAnyH_ready (rs := [15]) (by kernel_rfl) (by simp) ?_
                refine AllReadyH.cons (o := _) (by rw [List.getElem?_toArray]; rfl) (fun K hK => ?_) ?_
                · go_simp
                  refine hK.out _ _ ⟨(World.cell?_setCell_other _ _ _ _ (by simp)).trans hHeld.1, World.cell?_setCell_same _ _ _ hHeld.2⟩ (fun hHeld => ?_)
                  clear hK K
                  try simp only [Act.put, List.setIfInBounds_toArray, List.set_cons_zero, List.set_cons_succ]
                  refine wpAnyH_take (i := 16) (oi := _) (v := ?_) (by rw [List.getElem?_toArray]; rfl) (by kernel_rfl) (by kernel_rfl) (by kernel_rfl) (fun _ _ _ h => by exact h) (Or.inl ⟨by rfl, ?_⟩) (by assumption) ?_
                  rotate_left
                  · (intro w hSw; (try dsimp only at hSw); go_simp; (try with_reducible rfl))
                  try simp only [Act.put, List.setIfInBounds_toArray, List.set_cons_zero, List.set_cons_succ]
                  refine wpAnyH_ready (rs := [17]) (by kernel_rfl) (by simp) ?_
                  refine AllReadyH.cons (o := _) (by rw [List.getElem?_toArray]; rfl) (fun K hK => ?_) ?_
                  · go_simp
                    refine hK.out _ _ ⟨(World.cell?_setCell_other _ _ _ _ (by simp)).trans hHeld.1, (World.cell?_setCell_other _ _ _ _ (by simp)).trans hHeld.2⟩ (fun hHeld => ?_)
                    clear hK K
                    try simp only [Act.put, List.setIfInBounds_toArray, List.set_cons_zero, List.set_cons_succ]
                    refine wpAnyH_take (i := 18) (oi := _) (v := ?_) (by rw [List.getElem?_toArray]; rfl) (by kernel_rfl) (by kernel_rfl) (by kernel_rfl) (fun _ _ _ h => by exact h) (Or.inl ⟨by rfl, ?_⟩) (by assumption) ?_
                    rotate_left
                    · (intro w hSw; (try dsimp only at hSw); go_simp; (try with_reducible rfl))
                    try simp only [Act.put, List.setIfInBounds_toArray, List.set_cons_zero, List.set_cons_succ]
                    refine wpAnyH_ready (rs := [19]) (by kernel_rfl) (by simp) ?_
                    refine AllReadyH.cons (o := _) (by rw [List.getElem?_toArray]; rfl) (fun K hK => ?_) ?_
                    · go_simp
                      refine hK.out _ _ ⟨(World.cell?_setCell_other _ _ _ _ (by simp)).trans hHeld.1, (World.cell?_setCell_other _ _ _ _ (by simp)).trans hHeld.2⟩ (fun hHeld => ?_)
                      clear hK K
                      try simp only [Act.put, List.setIfInBounds_toArray, List.set_cons_zero, List.set_cons_succ]
                      clear k0 k1 k2 k3 k4 k5 k6 kz
                      refine wpAnyH_done (by kernel_rfl) ?_ _
                      obtain ⟨hz, fz⟩ := HBB.out.put4 (.slice none 0 0) (.slice none 0 0) (.slice (some ⟨g, 0, none⟩) 1 gc) (.slice a1 l.length c1)
                      have HE : Hid (Z7 ((((wB.setCell ⟨bx, 3, none⟩ (.slice none 0 0)).setCell ⟨bx, 4, none⟩ (.slice none 0 0)).setCell ⟨bx, 5, none⟩ (.slice (some ⟨g, 0, none⟩) 1 gc)).setCell ⟨bx, 6, none⟩ (.slice a1 l.length c1)) bx (.int .u64 (s : Int)) (.int .u64 (q : Int)) (.int .u64 (e0 : Int)) (.slice none 0 0) (.slice none 0 0) (.slice (some ⟨g, 0, none⟩) 1 gc) (.slice a1 l.length c1)) := hz
                      have FE : Hid (Fr (fun k => k = bx) wB ((((wB.setCell ⟨bx, 3, none⟩ (.slice none 0 0)).setCell ⟨bx, 4, none⟩ (.slice none 0 0)).setCell ⟨bx, 5, none⟩ (.slice (some ⟨g, 0, none⟩) 1 gc)).setCell ⟨bx, 6, none⟩ (.slice a1 l.length c1))) := fz
                      clear hz fz hHeld
                      obtain ⟨WE, HWE⟩ : ∃ WE, Hid ((((wB.setCell ⟨bx, 3, none⟩ (.slice none 0 0)).setCell ⟨bx, 4, none⟩ (.slice none 0 0)).setCell ⟨bx, 5, none⟩ (.slice (some ⟨g, 0, none⟩) 1 gc)).setCell ⟨bx, 6, none⟩ (.slice a1 l.length c1) = WE) := ⟨_, rfl⟩
                      rw [HWE.out] at HE FE ⊢
                      have HRE : Hid (Z7 WE rx (.int .u64 0) (.int .u64 0) (.int .u64 0) (.slice none 0 0) (.slice none 0 0) (.slice none 0 0) (.slice none 0 0)) := HRB.out.fr FE.out (by have := HBX.out; omega)
                      obtain ⟨⟨k0, k1, k2, k3, k4, k5, k6⟩, kz⟩ := HE.out
                      obtain ⟨⟨y0, y1, y2, y3, y4, y5, y6⟩, yz⟩ := HRE.out
                      go_wp2
                      obtain ⟨hq, fq⟩ := HRE.out.put7 (.int .u64 (s : Int)) (.int .u64 (q : Int)) (.int .u64 (e0 : Int)) (.slice none 0 0) (.slice none 0 0) (.slice (some ⟨g, 0, none⟩) 1 gc) (.slice a1 l.length c1)
                      clear k0 k1 k2 k3 k4 k5 k6 kz y0 y1 y2 y3 y4 y5 y6 yz
                      refine bodyPost_ret (v := .agg #[.int .u64 (s : Int), .int .u64 (q : Int), .int .u64 (e0 : Int), .slice none 0 0, .slice none 0 0, .slice (some ⟨g, 0, none⟩) 1 gc, .slice a1 l.length c1]) ?_ rfl ⟨g, gc, a1, c1, rfl, HGB.out.1, fq.cell (FE.out.cell HGB.out.2.2.2 (show ¬ g = bx by have := HGB.out; omega)) (show ¬ g = rx by have := HGB.out; omega), fq.row (FE.out.row HRW.out.1 (fun _ a ha e => by have := HRW.out.2 a ha; have := HSZ.out; omega)) (fun _ a ha e => by have := HRW.out.2 a ha; have := HSZ.out; omega), fun a ha => Nat.le_trans HSZ.out.1 (HRW.out.2 a ha), FB.out.trans' (Fr.trans (Fr.mono (T := fun k => k = bx ∨ k = rx) FE.out (fun _ _ h => .inl h)) (Fr.mono (T := fun k => k = bx ∨ k = rx) fq (fun _ _ h => .inr h))) (fun i hi h => show False by have := HBX.out; rcases h with h | h <;> omega)⟩
                      revert hq
                      generalize (((((((WE.setCell _ _).setCell _ _).setCell _ _).setCell _ _).setCell _ _).setCell _ _).setCell _ _) = WQ
                      intro hq
                      obtain ⟨⟨d0, d1, d2, d3, d4, d5, d6⟩, _⟩ := hq
                      simp [results, Try.results54, go_sem, *]
                    exact AllReadyH.nil
                  exact AllReadyH.nil
                exact AllReadyH.nil
              exact AllReadyH.nil
            exact AllReadyH.nil
          exact AllReadyH.nil
        exact AllReadyH.nil
      refine AllReadyH.cons (o := _) (by rw [List.getElem?_toArray]; rfl) (fun K hK => ?_) ?_
      · obtain ⟨⟨k0, k1, k2, k3, k4, k5, k6⟩, kz⟩ := HB0.out
        go_simp
        clear k0 k1 k2 k3 k4 k5 k6 kz
        refine hK.out _ _ ⟨HB0.out.c3, HB0.out.c4⟩ (fun hHeld => ?_)
        clear hK K
        try simp only [Act.put, List.setIfInBounds_toArray, List.set_cons_zero, List.set_cons_succ]
        refine wpAnyH_take (i := 12) (oi := _) (v := ?_) (by rw [List.getElem?_toArray]; rfl) (by kernel_rfl) (by kernel_rfl) (by kernel_rfl) (fun _ _ _ h => by exact h) (Or.inl ⟨by rfl, ?_⟩) (by assumption) ?_
        rotate_left
        · (intro w hSw; (try dsimp only at hSw); go_simp; (try with_reducible rfl))
        try simp only [Act.put, List.setIfInBounds_toArray, List.set_cons_zero, List.set_cons_succ]
        refine wpAnyH_ready (rs := [5]) (by kernel_rfl) (by simp) ?_
        refine AllReadyH.cons (o := _) (by rw [List.getElem?_toArray]; rfl) (fun K hK => ?_) ?_
        · go_simp
          go_wp2_with (go_at_call 91; refine (cloneG_nil _ 0 0).mono ?_; rintro e w5 ⟨rfl, rfl⟩)
          refine hK.out _ _ ⟨HB0.out.c3, HB0.out.c4⟩ (fun hHeld => ?_)
          clear hK K
          try simp only [Act.put, List.setIfInBounds_toArray, List.set_cons_zero, List.set_cons_succ]
          refine wpAnyH_ready (rs := [8]) (by kernel_rfl) (by simp) ?_
          refine AllReadyH.cons (o := _) (by rw [List.getElem?_toArray]; rfl) (fun K hK => ?_) ?_
          · go_simp
            go_wp2_with (go_at_call 90; refine (KF.out _ HF0.out).mono ?_; rintro e wA ⟨g, gc, rfl, hgb, hgc, fA⟩)
            have FA : Hid (Fr (fun _ => False) w wA) := HF0.out.trans fA
            have HBA : Hid (Z7 wA bx (.int .u64 (s : Int)) (.int .u64 (q : Int)) (.int .u64 (e0 : Int)) (.slice none 0 0) (.slice none 0 0) (.slice (some ⟨p, 0, none⟩) 1 pc) (.slice da l.length dc)) := HB0.out.fr fA (by simp)
            have HRA : Hid (Z7 wA rx (.int .u64 0) (.int .u64 0) (.int .u64 0) (.slice none 0 0) (.slice none 0 0) (.slice none 0 0) (.slice none 0 0)) := HR0.out.fr fA (by simp)
            have HG : Hid (w.heap.size ≤ g ∧ bx < g ∧ rx < g ∧ wA.cell? ⟨g, 0, none⟩ = some (.float .f64 x)) := ⟨Nat.le_trans HF0.out.size hgb, Nat.lt_of_lt_of_le HB0.out.lt hgb, Nat.lt_of_lt_of_le HR0.out.lt hgb, hgc⟩
            clear fA hgb hgc
            refine hK.out _ _ ⟨HBA.out.c3, HBA.out.c4⟩ (fun hHeld => ?_)
            clear hK K
            try simp only [Act.put, List.setIfInBounds_toArray, List.set_cons_zero, List.set_cons_succ]
            refine wpAnyH_ready (rs := [11]) (by kernel_rfl) (by simp) ?_
            refine AllReadyH.cons (o := _) (by rw [List.getElem?_toArray]; rfl) (fun K hK => ?_) ?_
            · go_simp
              go_wp2_with (go_at_call 92; refine (KB.out _ FA.out).mono ?_; rintro e wB ⟨a1, c1, rfl, hrb, hfb, fB⟩)
              have FB : Hid (Fr (fun _ => False) w wB) := FA.out.trans fB
              have HBB : Hid (Z7 wB bx (.int .u64 (s : Int)) (.int .u64 (q : Int)) (.int .u64 (e0 : Int)) (.slice none 0 0) (.slice none 0 0) (.slice (some ⟨p, 0, none⟩) 1 pc) (.slice da l.length dc)) := HBA.out.fr fB (by simp)
              have HRB : Hid (Z7 wB rx (.int .u64 0) (.int .u64 0) (.int .u64 0) (.slice none 0 0) (.slice none 0 0) (.slice none 0 0) (.slice none 0 0)) := HRA.out.fr fB (by simp)
              have HGB : Hid (w.heap.size ≤ g ∧ bx < g ∧ rx < g ∧ wB.cell? ⟨g, 0, none⟩ = some (.float .f64 x)) := ⟨HG.out.1, HG.out.2.1, HG.out.2.2.1, fB.cell HG.out.2.2.2 (by simp)⟩
              have HRW : Hid (Row wB a1 l c1 ∧ ∀ a, a1 = some a → wA.heap.size ≤ a.block) := ⟨hrb, hfb⟩
              have HSZ : Hid (w.heap.size ≤ wA.heap.size ∧ bx < wA.heap.size ∧ rx < wA.heap.size) := ⟨FA.out.size, HBA.out.lt, HRA.out.lt⟩
              clear fB hrb hfb
              refine hK.out _ _ ⟨HBB.out.c3, HBB.out.c4⟩ (fun hHeld => ?_)
              clear hK K
              try simp only [Act.put, List.setIfInBounds_toArray, List.set_cons_zero, List.set_cons_succ]
              obtain ⟨⟨k0, k1, k2, k3, k4, k5, k6⟩, kz⟩ := HBB.out
              refine wpAnyH_ready (rs := [13]) (by kernel_rfl) (by simp) ?_
              refine AllReadyH.cons (o := _) (by rw [List.getElem?_toArray]; rfl) (fun K hK => ?_) ?_
              · go_simp
                refine hK.out _ _ ⟨World.cell?_setCell_same _ _ _ hHeld.1, (World.cell?_setCell_other _ _ _ _ (by simp)).trans hHeld.2⟩ (fun hHeld => ?_)
                clear hK K
                try simp only [Act.put, List.setIfInBounds_toArray, List.set_cons_zero, List.set_cons_succ]
                refine wpAnyH_take (i := 14) (oi := _) (v := ?_) (by rw [List.getElem?_toArray]; rfl) (by kernel_rfl) (by kernel_rfl) (by kernel_rfl) (fun _ _ _ h => by exact h) (Or.inl ⟨by rfl, ?_⟩) (by assumption) ?_
                rotate_left
                · (intro w hSw; (try dsimp only at hSw); go_simp; (try with_reducible rfl))
                try simp only [Act.put, List.setIfInBounds_toArray, List.set_cons_zero, List.set_cons_succ]
                refine wpAnyH_ready (rs := [15]) (by kernel_rfl) (by simp) ?_
                refine AllReadyH.cons (o := _) (by rw [List.getElem?_toArray]; rfl) (fun K hK => ?_) ?_
                · go_simp
                  refine hK.out _ _ ⟨(World.cell?_setCell_other _ _ _ _ (by simp)).trans hHeld.1, World.cell?_setCell_same _ _ _ hHeld.2⟩ (fun hHeld => ?_)
                  clear hK K
                  try simp only [Act.put, List.setIfInBounds_toArray, List.set_cons_zero, List.set_cons_succ]
                  refine wpAnyH_take (i := 16) (oi := _) (v := ?_) (by rw [List.getElem?_toArray]; rfl) (by kernel_rfl) (by kernel_rfl) (by kernel_rfl) (fun _ _ _ h => by exact h) (Or.inl ⟨by rfl, ?_⟩) (by assumption) ?_
                  rotate_left
                  · (intro w hSw; (try dsimp only at hSw); go_simp; (try with_reducible rfl))
                  try simp only [Act.put, List.setIfInBounds_toArray, List.set_cons_zero, List.set_cons_succ]
                  refine wpAnyH_ready (rs := [17]) (by kernel_rfl) (by simp) ?_
                  refine AllReadyH.cons (o := _) (by rw [List.getElem?_toArray]; rfl) (fun K hK => ?_) ?_
                  · go_simp
                    refine hK.out _ _ ⟨(World.cell?_setCell_other _ _ _ _ (by simp)).trans hHeld.1, (World.cell?_setCell_other _ _ _ _ (by simp)).trans hHeld.2⟩ (fun hHeld => ?_)
                    clear hK K
                    try simp only [Act.put, List.setIfInBounds_toArray, List.set_cons_zero, List.set_cons_succ]
                    refine wpAnyH_take (i := 18) (oi := _) (v := ?_) (by rw [List.getElem?_toArray]; rfl) (by kernel_rfl) (by kernel_rfl) (by kernel_rfl) (fun _ _ _ h => by exact h) (Or.inl ⟨by rfl, ?_⟩) (by assumption) ?_
                    rotate_left
                    · (intro w hSw; (try dsimp only at hSw); go_simp; (try with_reducible rfl))
                    try simp only [Act.put, List.setIfInBounds_toArray, List.set_cons_zero, List.set_cons_succ]
                    refine wpAnyH_ready (rs := [19]) (by kernel_rfl) (by simp) ?_
                    refine AllReadyH.cons (o := _) (by rw [List.getElem?_toArray]; rfl) (fun K hK => ?_) ?_
                    · go_simp
                      refine hK.out _ _ ⟨(World.cell?_setCell_other _ _ _ _ (by simp)).trans hHeld.1, (World.cell?_setCell_other _ _ _ _ (by simp)).trans hHeld.2⟩ (fun hHeld => ?_)
                      clear hK K
                      try simp only [Act.put, List.setIfInBounds_toArray, List.set_cons_zero, List.set_cons_succ]
                      clear k0 k1 k2 k3 k4 k5 k6 kz
                      refine wpAnyH_done (by kernel_rfl) ?_ _
                      obtain ⟨hz, fz⟩ := HBB.out.put4 (.slice none 0 0) (.slice none 0 0) (.slice (some ⟨g, 0, none⟩) 1 gc) (.slice a1 l.length c1)
                      have HE : Hid (Z7 ((((wB.setCell ⟨bx, 3, none⟩ (.slice none 0 0)).setCell ⟨bx, 4, none⟩ (.slice none 0 0)).setCell ⟨bx, 5, none⟩ (.slice (some ⟨g, 0, none⟩) 1 gc)).setCell ⟨bx, 6, none⟩ (.slice a1 l.length c1)) bx (.int .u64 (s : Int)) (.int .u64 (q : Int)) (.int .u64 (e0 : Int)) (.slice none 0 0) (.slice none 0 0) (.slice (some ⟨g, 0, none⟩) 1 gc) (.slice a1 l.length c1)) := hz
                      have FE : Hid (Fr (fun k => k = bx) wB ((((wB.setCell ⟨bx, 3, none⟩ (.slice none 0 0)).setCell ⟨bx, 4, none⟩ (.slice none 0 0)).setCell ⟨bx, 5, none⟩ (.slice (some ⟨g, 0, none⟩) 1 gc)).setCell ⟨bx, 6, none⟩ (.slice a1 l.length c1))) := fz
                      clear hz fz hHeld
                      obtain ⟨WE, HWE⟩ : ∃ WE, Hid ((((wB.setCell ⟨bx, 3, none⟩ (.slice none 0 0)).setCell ⟨bx, 4, none⟩ (.slice none 0 0)).setCell ⟨bx, 5, none⟩ (.slice (some ⟨g, 0, none⟩) 1 gc)).setCell ⟨bx, 6, none⟩ (.slice a1 l.length c1) = WE) := ⟨_, rfl⟩
                      rw [HWE.out] at HE FE ⊢
                      have HRE : Hid (Z7 WE rx (.int .u64 0) (.int .u64 0) (.int .u64 0) (.slice none 0 0) (.slice none 0 0) (.slice none 0 0) (.slice none 0 0)) := HRB.out.fr FE.out (by have := HBX.out; omega)
                      obtain ⟨⟨k0, k1, k2, k3, k4, k5, k6⟩, kz⟩ := HE.out
                      obtain ⟨⟨y0, y1, y2, y3, y4, y5, y6⟩, yz⟩ := HRE.out
                      go_wp2
                      obtain ⟨hq, fq⟩ := HRE.out.put7 (.int .u64 (s : Int)) (.int .u64 (q : Int)) (.int .u64 (e0 : Int)) (.slice none 0 0) (.slice none 0 0) (.slice (some ⟨g, 0, none⟩) 1 gc) (.slice a1 l.length c1)
                      clear k0 k1 k2 k3 k4 k5 k6 kz y0 y1 y2 y3 y4 y5 y6 yz
                      refine bodyPost_ret (v := .agg #[.int .u64 (s : Int), .int .u64 (q : Int), .int .u64 (e0 : Int), .slice none 0 0, .slice none 0 0, .slice (some ⟨g, 0, none⟩) 1 gc, .slice a1 l.length c1]) ?_ rfl ⟨g, gc, a1, c1, rfl, HGB.out.1, fq.cell (FE.out.cell HGB.out.2.2.2 (show ¬ g = bx by have := HGB.out; omega)) (show ¬ g = rx by have := HGB.out; omega), fq.row (FE.out.row HRW.out.1 (fun _ a ha e => by have := HRW.out.2 a ha; have := HSZ.out; omega)) (fun _ a ha e => by have := HRW.out.2 a ha; have := HSZ.out; omega), fun a ha => Nat.le_trans HSZ.out.1 (HRW.out.2 a ha), FB.out.trans' (Fr.trans (Fr.mono (T := fun k => k = bx ∨ k = rx) FE.out (fun _ _ h => .inl h)) (Fr.mono (T := fun k => k = bx ∨ k = rx) fq (fun _ _ h => .inr h))) (fun i hi h => show False by have := HBX.out; rcases h with h | h <;> omega)⟩
                      revert hq
                      generalize (((((((WE.setCell _ _).setCell _ _).setCell _ _).setCell _ _).setCell _ _).setCell _ _).setCell _ _) = WQ
                      intro hq
                      obtain ⟨⟨d0, d1, d2, d3, d4, d5, d6⟩, _⟩ := hq
                      simp [results, Try.results54, go_sem, *]
                    exact AllReadyH.nil
                  exact AllReadyH.nil
                exact AllReadyH.nil
              exact AllReadyH.nil
            exact AllReadyH.nil
          exact AllReadyH.nil
        exact AllReadyH.nil
      exact AllReadyH.nil
    exact AllReadyH.nil
  refine AllReadyH.cons (o := _) (by rw [List.getElem?_toArray]; rfl) (fun K hK => ?_) ?_
  · obtain ⟨⟨k0, k1, k2, k3, k4, k5, k6⟩, kz⟩ := HB0.out
    go_simp
    clear k0 k1 k2 k3 k4 k5 k6 kz
    refine hK.out _ _ ⟨HB0.out.c3, HB0.out.c4⟩ (fun hHeld => ?_)
    clear hK K
    try simp only [Act.put, List.setIfInBounds_toArray, List.set_cons_zero, List.set_cons_succ]
    refine wpAnyH_ready (rs := [2, 10]) (by kernel_rfl) (by simp) ?_
    refine AllReadyH.cons (o := _) (by rw [List.getElem?_toArray]; rfl) (fun K hK => ?_) ?_
    · go_simp
      go_wp2_with (go_at_call 90; refine (cloneF_nil _ 0 0).mono ?_; rintro e w5 ⟨rfl, rfl⟩)
      refine hK.out _ _ ⟨HB0.out.c3, HB0.out.c4⟩ (fun hHeld => ?_)
      clear hK K
      try simp only [Act.put, List.setIfInBounds_toArray, List.set_cons_zero, List.set_cons_succ]
      refine wpAnyH_ready (rs := [5, 10]) (by kernel_rfl) (by simp) ?_
      refine AllReadyH.cons (o := _) (by rw [List.getElem?_toArray]; rfl) (fun K hK => ?_) ?_
      · go_simp
        go_wp2_with (go_at_call 91; refine (cloneG_nil _ 0 0).mono ?_; rintro e w5 ⟨rfl, rfl⟩)
        refine hK.out _ _ ⟨HB0.out.c3, HB0.out.c4⟩ (fun hHeld => ?_)
        clear hK K
        try simp only [Act.put, List.setIfInBounds_toArray, List.set_cons_zero, List.set_cons_succ]
        refine wpAnyH_ready (rs := [8, 10]) (by kernel_rfl) (by simp) ?_
        refine AllReadyH.cons (o := _) (by rw [List.getElem?_toArray]; rfl) (fun K hK => ?_) ?_
        · go_simp
          go_wp2_with (go_at_call 90; refine (KF.out _ HF0.out).mono ?_; rintro e wA ⟨g, gc, rfl, hgb, hgc, fA⟩)
          have FA : Hid (Fr (fun _ => False) w wA) := HF0.out.trans fA
          have HBA : Hid (Z7 wA bx (.int .u64 (s : Int)) (.int .u64 (q : Int)) (.int .u64 (e0 : Int)) (.slice none 0 0) (.slice none 0 0) (.slice (some ⟨p, 0, none⟩) 1 pc) (.slice da l.length dc)) := HB0.out.fr fA (by simp)
          have HRA : Hid (Z7 wA rx (.int .u64 0) (.int .u64 0) (.int .u64 0) (.slice none 0 0) (.slice none 0 0) (.slice none 0 0) (.slice none 0 0)) := HR0.out.fr fA (by simp)
          have HG : Hid (w.heap.size ≤ g ∧ bx < g ∧ rx < g ∧ wA.cell? ⟨g, 0, none⟩ = some (.float .f64 x)) := ⟨Nat.le_trans HF0.out.size hgb, Nat.lt_of_lt_of_le HB0.out.lt hgb, Nat.lt_of_lt_of_le HR0.out.lt hgb, hgc⟩
          clear fA hgb hgc
          refine hK.out _ _ ⟨HBA.out.c3, HBA.out.c4⟩ (fun hHeld => ?_)
          clear hK K
          try simp only [Act.put, List.setIfInBounds_toArray, List.set_cons_zero, List.set_cons_succ]
          refine wpAnyH_ready (rs := [10]) (by kernel_rfl) (by simp) ?_
          refine AllReadyH.cons (o := _) (by rw [List.getElem?_toArray]; rfl) (fun K hK => ?_) ?_
          · obtain ⟨⟨k0, k1, k2, k3, k4, k5, k6⟩, kz⟩ := HBA.out
            go_simp
            clear k0 k1 k2 k3 k4 k5 k6 kz
            refine hK.out _ _ ⟨HBA.out.c3, HBA.out.c4⟩ (fun hHeld => ?_)
            clear hK K
            try simp only [Act.put, List.setIfInBounds_toArray, List.set_cons_zero, List.set_cons_succ]
            refine wpAnyH_take (i := 12) (oi := _) (v := ?_) (by rw [List.getElem?_toArray]; rfl) (by kernel_rfl) (by kernel_rfl) (by kernel_rfl) (fun _ _ _ h => by exact h) (Or.inl ⟨by rfl, ?_⟩) (by assumption) ?_
            rotate_left
            · (intro w hSw; (try dsimp only at hSw); go_simp; (try with_reducible rfl))
            try simp only [Act.put, List.setIfInBounds_toArray, List.set_cons_zero, List.set_cons_succ]
            refine wpAnyH_ready (rs := [11]) (by kernel_rfl) (by simp) ?_
            refine AllReadyH.cons (o := _) (by rw [List.getElem?_toArray]; rfl) (fun K hK => ?_) ?_
            · go_simp
              go_wp2_with (go_at_call 92; refine (KB.out _ FA.out).mono ?_; rintro e wB ⟨a1, c1, rfl, hrb, hfb, fB⟩)
              have FB : Hid (Fr (fun _ => False) w wB) := FA.out.trans fB
              have HBB : Hid (Z7 wB bx (.int .u64 (s : Int)) (.int .u64 (q : Int)) (.int .u64 (e0 : Int)) (.slice none 0 0) (.slice none 0 0) (.slice (some ⟨p, 0, none⟩) 1 pc) (.slice da l.length dc)) := HBA.out.fr fB (by simp)
              have HRB : Hid (Z7 wB rx (.int .u64 0) (.int .u64 0) (.int .u64 0) (.slice none 0 0) (.slice none 0 0) (.slice none 0 0) (.slice none 0 0)) := HRA.out.fr fB (by simp)
              have HGB : Hid (w.heap.size ≤ g ∧ bx < g ∧ rx < g ∧ wB.cell? ⟨g, 0, none⟩ = some (.float .f64 x)) := ⟨HG.out.1, HG.out.2.1, HG.out.2.2.1, fB.cell HG.out.2.2.2 (by simp)⟩
              have HRW : Hid (Row wB a1 l c1 ∧ ∀ a, a1 = some a → wA.heap.size ≤ a.block) := ⟨hrb, hfb⟩
              have HSZ : Hid (w.heap.size ≤ wA.heap.size ∧ bx < wA.heap.size ∧ rx < wA.heap.size) := ⟨FA.out.size, HBA.out.lt, HRA.out.lt⟩
              clear fB hrb hfb
              refine hK.out _ _ ⟨HBB.out.c3, HBB.out.c4⟩ (fun hHeld => ?_)
              clear hK K
              try simp only [Act.put, List.setIfInBounds_toArray, List.set_cons_zero, List.set_cons_succ]
              obtain ⟨⟨k0, k1, k2, k3, k4, k5, k6⟩, kz⟩ := HBB.out
              refine wpAnyH_ready (rs := [13]) (by kernel_rfl) (by simp) ?_
              refine AllReadyH.cons (o := _) (by rw [List.getElem?_toArray]; rfl) (fun K hK => ?_) ?_
              · go_simp
                refine hK.out _ _ ⟨World.cell?_setCell_same _ _ _ hHeld.1, (World.cell?_setCell_other _ _ _ _ (by simp)).trans hHeld.2⟩ (fun hHeld => ?_)
                clear hK K
                try simp only [Act.put, List.setIfInBounds_toArray, List.set_cons_zero, List.set_cons_succ]
                refine wpAnyH_take (i := 14) (oi := _) (v := ?_) (by rw [List.getElem?_toArray]; rfl) (by kernel_rfl) (by kernel_rfl) (by kernel_rfl) (fun _ _ _ h => by exact h) (Or.inl ⟨by rfl, ?_⟩) (by assumption) ?_
                rotate_left
                · (intro w hSw; (try dsimp only at hSw); go_simp; (try with_reducible rfl))
                try simp only [Act.put, List.setIfInBounds_toArray, List.set_cons_zero, List.set_cons_succ]
                refine wpAnyH_ready (rs := [15]) (by kernel_rfl) (by simp) ?_
                refine AllReadyH.cons (o := _) (by rw [List.getElem?_toArray]; rfl) (fun K hK => ?_) ?_
                · go_simp
                  refine hK.out _ _ ⟨(World.cell?_setCell_other _ _ _ _ (by simp)).trans hHeld.1, World.cell?_setCell_same _ _ _ hHeld.2⟩ (fun hHeld => ?_)
                  clear hK K
                  try simp only [Act.put, List.setIfInBounds_toArray, List.set_cons_zero, List.set_cons_succ]
                  refine wpAnyH_take (i := 16) (oi := _) (v := ?_) (by rw [List.getElem?_toArray]; rfl) (by kernel_rfl) (by kernel_rfl) (by kernel_rfl) (fun _ _ _ h => by exact h) (Or.inl ⟨by rfl, ?_⟩) (by assumption) ?_
                  rotate_left
                  · (intro w hSw; (try dsimp only at hSw); go_simp; (try with_reducible rfl))
                  try simp only [Act.put, List.setIfInBounds_toArray, List.set_cons_zero, List.set_cons_succ]
                  refine wpAnyH_ready (rs := [17]) (by kernel_rfl) (by simp) ?_
                  refine AllReadyH.cons (o := _) (by rw [List.getElem?_toArray]; rfl) (fun K hK => ?_) ?_
                  · go_simp
                    refine hK.out _ _ ⟨(World.cell?_setCell_other _ _ _ _ (by simp)).trans hHeld.1, (World.cell?_setCell_other _ _ _ _ (by simp)).trans hHeld.2⟩ (fun hHeld => ?_)
                    clear hK K
                    try simp only [Act.put, List.setIfInBounds_toArray, List.set_cons_zero, List.set_cons_succ]
                    refine wpAnyH_take (i := 18) (oi := _) (v := ?_) (by rw [List.getElem?_toArray]; rfl) (by kernel_rfl) (by kernel_rfl) (by kernel_rfl) (fun _ _ _ h => by exact h) (Or.inl ⟨by rfl, ?_⟩) (by assumption) ?_
                    rotate_left
                    · (intro w hSw; (try dsimp only at hSw); go_simp; (try with_reducible rfl))
                    try simp only [Act.put, List.setIfInBounds_toArray, List.set_cons_zero, List.set_cons_succ]
                    refine wpAnyH_ready (rs := [19]) (by kernel_rfl) (by simp) ?_
                    refine AllReadyH.cons (o := _) (by rw [List.getElem?_toArray]; rfl) (fun K hK => ?_) ?_
                    · go_simp
                      refine hK.out _ _ ⟨(World.cell?_setCell_other _ _ _ _ (by simp)).trans hHeld.1, (World.cell?_setCell_other _ _ _ _ (by simp)).trans hHeld.2⟩ (fun hHeld => ?_)
                      clear hK K
                      try simp only [Act.put, List.setIfInBounds_toArray, List.set_cons_zero, List.set_cons_succ]
                      clear k0 k1 k2 k3 k4 k5 k6 kz
                      refine wpAnyH_done (by kernel_rfl) ?_ _
                      obtain ⟨hz, fz⟩ := HBB.out.put4 (.slice none 0 0) (.slice none 0 0) (.slice (some ⟨g, 0, none⟩) 1 gc) (.slice a1 l.length c1)
                      have HE : Hid (Z7 ((((wB.setCell ⟨bx, 3, none⟩ (.slice none 0 0)).setCell ⟨bx, 4, none⟩ (.slice none 0 0)).setCell ⟨bx, 5, none⟩ (.slice (some ⟨g, 0, none⟩) 1 gc)).setCell ⟨bx, 6, none⟩ (.slice a1 l.length c1)) bx (.int .u64 (s : Int)) (.int .u64 (q : Int)) (.int .u64 (e0 : Int)) (.slice none 0 0) (.slice none 0 0) (.slice (some ⟨g, 0, none⟩) 1 gc) (.slice a1 l.length c1)) := hz
                      have FE : Hid (Fr (fun k => k = bx) wB ((((wB.setCell ⟨bx, 3, none⟩ (.slice none 0 0)).setCell ⟨bx, 4, none⟩ (.slice none 0 0)).setCell ⟨bx, 5, none⟩ (.slice (some ⟨g, 0, none⟩) 1 gc)).setCell ⟨bx, 6, none⟩ (.slice a1 l.length c1))) := fz
                      clear hz fz hHeld
                      obtain ⟨WE, HWE⟩ : ∃ WE, Hid ((((wB.setCell ⟨bx, 3, none⟩ (.slice none 0 0)).setCell ⟨bx, 4, none⟩ (.slice none 0 0)).setCell ⟨bx, 5, none⟩ (.slice (some ⟨g, 0, none⟩) 1 gc)).setCell ⟨bx, 6, none⟩ (.slice a1 l.length c1) = WE) := ⟨_, rfl⟩
                      rw [HWE.out] at HE FE ⊢
                      have HRE : Hid (Z7 WE rx (.int .u64 0) (.int .u64 0) (.int .u64 0) (.slice none 0 0) (.slice none 0 0) (.slice none 0 0) (.slice none 0 0)) := HRB.out.fr FE.out (by have := HBX.out; omega)
                      obtain ⟨⟨k0, k1, k2, k3, k4, k5, k6⟩, kz⟩ := HE.out
                      obtain ⟨⟨y0, y1, y2, y3, y4, y5, y6⟩, yz⟩ := HRE.out
                      go_wp2
                      obtain ⟨hq, fq⟩ := HRE.out.put7 (.int .u64 (s : Int)) (.int .u64 (q : Int)) (.int .u64 (e0 : Int)) (.slice none 0 0) (.slice none 0 0) (.slice (some ⟨g, 0, none⟩) 1 gc) (.slice a1 l.length c1)
                      clear k0 k1 k2 k3 k4 k5 k6 kz y0 y1 y2 y3 y4 y5 y6 yz
                      refine bodyPost_ret (v := .agg #[.int .u64 (s : Int), .int .u64 (q : Int), .int .u64 (e0 : Int), .slice none 0 0, .slice none 0 0, .slice (some ⟨g, 0, none⟩) 1 gc, .slice a1 l.length c1]) ?_ rfl ⟨g, gc, a1, c1, rfl, HGB.out.1, fq.cell (FE.out.cell HGB.out.2.2.2 (show ¬ g = bx by have := HGB.out; omega)) (show ¬ g = rx by have := HGB.out; omega), fq.row (FE.out.row HRW.out.1 (fun _ a ha e => by have := HRW.out.2 a ha; have := HSZ.out; omega)) (fun _ a ha e => by have := HRW.out.2 a ha; have := HSZ.out; omega), fun a ha => Nat.le_trans HSZ.out.1 (HRW.out.2 a ha), FB.out.trans' (Fr.trans (Fr.mono (T := fun k => k = bx ∨ k = rx) FE.out (fun _ _ h => .inl h)) (Fr.mono (T := fun k => k = bx ∨ k = rx) fq (fun _ _ h => .inr h))) (fun i hi h => show False by have := HBX.out; rcases h with h | h <;> omega)⟩
                      revert hq
                      generalize (((((((WE.setCell _ _).setCell _ _).setCell _ _).setCell _ _).setCell _ _).setCell _ _).setCell _ _) = WQ
                      intro hq
                      obtain ⟨⟨d0, d1, d2, d3, d4, d5, d6⟩, _⟩ := hq
                      simp [results, Try.results54, go_sem, *]
                    exact AllReadyH.nil
                  exact AllReadyH.nil
                exact AllReadyH.nil
              exact AllReadyH.nil
            exact AllReadyH.nil
          exact AllReadyH.nil
        refine AllReadyH.cons (o := _) (by rw [List.getElem?_toArray]; rfl) (fun K hK => ?_) ?_
        · obtain ⟨⟨k0, k1, k2, k3, k4, k5, k6⟩, kz⟩ := HB0.out
          go_simp
          clear k0 k1 k2 k3 k4 k5 k6 kz
          refine hK.out _ _ ⟨HB0.out.c3, HB0.out.c4⟩ (fun hHeld => ?_)
          clear hK K
          try simp only [Act.put, List.setIfInBounds_toArray, List.set_cons_zero, List.set_cons_succ]
          refine wpAnyH_take (i := 12) (oi := _) (v := ?_) (by rw [List.getElem?_toArray]; rfl) (by kernel_rfl) (by kernel_rfl) (by kernel_rfl) (fun _ _ _ h => by exact h) (Or.inl ⟨by rfl, ?_⟩) (by assumption) ?_
          rotate_left
          · (intro w hSw; (try dsimp only at hSw); go_simp; (try with_reducible rfl))
          try simp only [Act.put, List.setIfInBounds_toArray, List.set_cons_zero, List.set_cons_succ]
          refine wpAnyH_ready (rs := [8]) (by kernel_rfl) (by simp) ?_
          refine AllReadyH.cons (o := _) (by rw [List.getElem?_toArray]; rfl) (fun K hK => ?_) ?_
          · go_simp
            go_wp2_with (go_at_call 90; refine (KF.out _ HF0.out).mono ?_; rintro e wA ⟨g, gc, rfl, hgb, hgc, fA⟩)
            have FA : Hid (Fr (fun _ => False) w wA) := HF0.out.trans fA
            have HBA : Hid (Z7 wA bx (.int .u64 (s : Int)) (.int .u64 (q : Int)) (.int .u64 (e0 : Int)) (.slice none 0 0) (.slice none 0 0) (.slice (some ⟨p, 0, none⟩) 1 pc) (.slice da l.length dc)) := HB0.out.fr fA (by simp)
            have HRA : Hid (Z7 wA rx (.int .u64 0) (.int .u64 0) (.int .u64 0) (.slice none 0 0) (.slice none 0 0) (.slice none 0 0) (.slice none 0 0)) := HR0.out.fr fA (by simp)
            have HG : Hid (w.heap.size ≤ g ∧ bx < g ∧ rx < g ∧ wA.cell? ⟨g, 0, none⟩ = some (.float .f64 x)) := ⟨Nat.le_trans HF0.out.size hgb, Nat.lt_of_lt_of_le HB0.out.lt hgb, Nat.lt_of_lt_of_le HR0.out.lt hgb, hgc⟩
            clear fA hgb hgc
            refine hK.out _ _ ⟨HBA.out.c3, HBA.out.c4⟩ (fun hHeld => ?_)
            clear hK K
            try simp only [Act.put, List.setIfInBounds_toArray, List.set_cons_zero, List.set_cons_succ]
            refine wpAnyH_ready (rs := [11]) (by kernel_rfl) (by simp) ?_
            refine AllReadyH.cons (o := _) (by rw [List.getElem?_toArray]; rfl) (fun K hK => ?_) ?_
            · go_simp
              go_wp2_with (go_at_call 92; refine (KB.out _ FA.out).mono ?_; rintro e wB ⟨a1, c1, rfl, hrb, hfb, fB⟩)
              have FB : Hid (Fr (fun _ => False) w wB) := FA.out.trans fB
              have HBB : Hid (Z7 wB bx (.int .u64 (s : Int)) (.int .u64 (q : Int)) (.int .u64 (e0 : Int)) (.slice none 0 0) (.slice none 0 0) (.slice (some ⟨p, 0, none⟩) 1 pc) (.slice da l.length dc)) := HBA.out.fr fB (by simp)
              have HRB : Hid (Z7 wB rx (.int .u64 0) (.int .u64 0) (.int .u64 0) (.slice none 0 0) (.slice none 0 0) (.slice none 0 0) (.slice none 0 0)) := HRA.out.fr fB (by simp)
              have HGB : Hid (w.heap.size ≤ g ∧ bx < g ∧ rx < g ∧ wB.cell? ⟨g, 0, none⟩ = some (.float .f64 x)) := ⟨HG.out.1, HG.out.2.1, HG.out.2.2.1, fB.cell HG.out.2.2.2 (by simp)⟩
              have HRW : Hid (Row wB a1 l c1 ∧ ∀ a, a1 = some a → wA.heap.size ≤ a.block) := ⟨hrb, hfb⟩
              have HSZ : Hid (w.heap.size ≤ wA.heap.size ∧ bx < wA.heap.size ∧ rx < wA.heap.size) := ⟨FA.out.size, HBA.out.lt, HRA.out.lt⟩
              clear fB hrb hfb
              refine hK.out _ _ ⟨HBB.out.c3, HBB.out.c4⟩ (fun hHeld => ?_)
              clear hK K
              try simp only [Act.put, List.setIfInBounds_toArray, List.set_cons_zero, List.set_cons_succ]
              obtain ⟨⟨k0, k1, k2, k3, k4, k5, k6⟩, kz⟩ := HBB.out
              refine wpAnyH_ready (rs := [13]) (by kernel_rfl) (by simp) ?_
              refine AllReadyH.cons (o := _) (by rw [List.getElem?_toArray]; rfl) (fun K hK => ?_) ?_
              · go_simp
                refine hK.out _ _ ⟨World.cell?_setCell_same _ _ _ hHeld.1, (World.cell?_setCell_other _ _ _ _ (by simp)).trans hHeld.2⟩ (fun hHeld => ?_)
                clear hK K
                try simp only [Act.put, List.setIfInBounds_toArray, List.set_cons_zero, List.set_cons_succ]
                refine wpAnyH_take (i := 14) (oi := _) (v := ?_) (by rw [List.getElem?_toArray]; rfl) (by kernel_rfl) (by kernel_rfl) (by kernel_rfl) (fun _ _ _ h => by exact h) (Or.inl ⟨by rfl, ?_⟩) (by assumption) ?_
                rotate_left
                · (intro w hSw; (try dsimp only at hSw); go_simp; (try with_reducible rfl))
                try simp only [Act.put, List.setIfInBounds_toArray, List.set_cons_zero, List.set_cons_succ]
                refine wpAnyH_ready (rs := [15]) (by kernel_rfl) (by simp) ?_
                refine AllReadyH.cons (o := _) (by rw [List.getElem?_toArray]; rfl) (fun K hK => ?_) ?_
                · go_simp
                  refine hK.out _ _ ⟨(World.cell?_setCell_other _ _ _ _ (by simp)).trans hHeld.1, World.cell?_setCell_same _ _ _ hHeld.2⟩ (fun hHeld => ?_)
                  clear hK K
                  try simp only [Act.put, List.setIfInBounds_toArray, List.set_cons_zero, List.set_cons_succ]
                  refine wpAnyH_take (i := 16) (oi := _) (v := ?_) (by rw [List.getElem?_toArray]; rfl) (by kernel_rfl) (by kernel_rfl) (by kernel_rfl) (fun _ _ _ h => by exact h) (Or.inl ⟨by rfl, ?_⟩) (by assumption) ?_
                  rotate_left
                  · (intro w hSw; (try dsimp only at hSw); go_simp; (try with_reducible rfl))
                  try simp only [Act.put, List.setIfInBounds_toArray, List.set_cons_zero, List.set_cons_succ]
                  refine wpAnyH_ready (rs := [17]) (by kernel_rfl) (by simp) ?_
                  refine AllReadyH.cons (o := _) (by rw [List.getElem?_toArray]; rfl) (fun K hK => ?_) ?_
                  · go_simp
                    refine hK.out _ _ ⟨(World.cell?_setCell_other _ _ _ _ (by simp)).trans hHeld.1, (World.cell?_setCell_other _ _ _ _ (by simp)).trans hHeld.2⟩ (fun hHeld => ?_)
                    clear hK K
                    try simp only [Act.put, List.setIfInBounds_toArray, List.set_cons_zero, List.set_cons_succ]
                    refine wpAnyH_take (i := 18) (oi := _) (v := ?_) (by rw [List.getElem?_toArray]; rfl) (by kernel_rfl) (by kernel_rfl) (by kernel_rfl) (fun _ _ _ h => by exact h) (Or.inl ⟨by rfl, ?_⟩) (by assumption) ?_
                    rotate_left
                    · (intro w hSw; (try dsimp only at hSw); go_simp; (try with_reducible rfl))
                    try simp only [Act.put, List.setIfInBounds_toArray, List.set_cons_zero, List.set_cons_succ]
                    refine wpAnyH_ready (rs := [19]) (by kernel_rfl) (by simp) ?_
                    refine AllReadyH.cons (o := _) (by rw [List.getElem?_toArray]; rfl) (fun K hK => ?_) ?_
                    · go_simp
                      refine hK.out _ _ ⟨(World.cell?_setCell_other _ _ _ _ (by simp)).trans hHeld.1, (World.cell?_setCell_other _ _ _ _ (by simp)).trans hHeld.2⟩ (fun hHeld => ?_)
                      clear hK K
                      try simp only [Act.put, List.setIfInBounds_toArray, List.set_cons_zero, List.set_cons_succ]
                      clear k0 k1 k2 k3 k4 k5 k6 kz
                      refine wpAnyH_done (by kernel_rfl) ?_ _
                      obtain ⟨hz, fz⟩ := HBB.out.put4 (.slice none 0 0) (.slice none 0 0) (.slice (some ⟨g, 0, none⟩) 1 gc) (.slice a1 l.length c1)
                      have HE : Hid (Z7 ((((wB.setCell ⟨bx, 3, none⟩ (.slice none 0 0)).setCell ⟨bx, 4, none⟩ (.slice none 0 0)).setCell ⟨bx, 5, none⟩ (.slice (some ⟨g, 0, none⟩) 1 gc)).setCell ⟨bx, 6, none⟩ (.slice a1 l.length c1)) bx (.int .u64 (s : Int)) (.int .u64 (q : Int)) (.int .u64 (e0 : Int)) (.slice none 0 0) (.slice none 0 0) (.slice (some ⟨g, 0, none⟩) 1 gc) (.slice a1 l.length c1)) := hz
                      have FE : Hid (Fr (fun k => k = bx) wB ((((wB.setCell ⟨bx, 3, none⟩ (.slice none 0 0)).setCell ⟨bx, 4, none⟩ (.slice none 0 0)).setCell ⟨bx, 5, none⟩ (.slice (some ⟨g, 0, none⟩) 1 gc)).setCell ⟨bx, 6, none⟩ (.slice a1 l.length c1))) := fz
                      clear hz fz hHeld
                      obtain ⟨WE, HWE⟩ : ∃ WE, Hid ((((wB.setCell ⟨bx, 3, none⟩ (.slice none 0 0)).setCell ⟨bx, 4, none⟩ (.slice none 0 0)).setCell ⟨bx, 5, none⟩ (.slice (some ⟨g, 0, none⟩) 1 gc)).setCell ⟨bx, 6, none⟩ (.slice a1 l.length c1) = WE) := ⟨_, rfl⟩
                      rw [HWE.out] at HE FE ⊢
                      have HRE : Hid (Z7 WE rx (.int .u64 0) (.int .u64 0) (.int .u64 0) (.slice none 0 0) (.slice none 0 0) (.slice none 0 0) (.slice none 0 0)) := HRB.out.fr FE.out (by have := HBX.out; omega)
                      obtain ⟨⟨k0, k1, k2, k3, k4, k5, k6⟩, kz⟩ := HE.out
                      obtain ⟨⟨y0, y1, y2, y3, y4, y5, y6⟩, yz⟩ := HRE.out
                      go_wp2
                      obtain ⟨hq, fq⟩ := HRE.out.put7 (.int .u64 (s : Int)) (.int .u64 (q : Int)) (.int .u64 (e0 : Int)) (.slice none 0 0) (.slice none 0 0) (.slice (some ⟨g, 0, none⟩) 1 gc) (.slice a1 l.length c1)
                      clear k0 k1 k2 k3 k4 k5 k6 kz y0 y1 y2 y3 y4 y5 y6 yz
                      refine bodyPost_ret (v := .agg #[.int .u64 (s : Int), .int .u64 (q : Int), .int .u64 (e0 : Int), .slice none 0 0, .slice none 0 0, .slice (some ⟨g, 0, none⟩) 1 gc, .slice a1 l.length c1]) ?_ rfl ⟨g, gc, a1, c1, rfl, HGB.out.1, fq.cell (FE.out.cell HGB.out.2.2.2 (show ¬ g = bx by have := HGB.out; omega)) (show ¬ g = rx by have := HGB.out; omega), fq.row (FE.out.row HRW.out.1 (fun _ a ha e => by have := HRW.out.2 a ha; have := HSZ.out; omega)) (fun _ a ha e => by have := HRW.out.2 a ha; have := HSZ.out; omega), fun a ha => Nat.le_trans HSZ.out.1 (HRW.out.2 a ha), FB.out.trans' (Fr.trans (Fr.mono (T := fun k => k = bx ∨ k = rx) FE.out (fun _ _ h => .inl h)) (Fr.mono (T := fun k => k = bx ∨ k = rx) fq (fun _ _ h => .inr h))) (fun i hi h => show False by have := HBX.out; rcases h with h | h <;> omega)⟩
                      revert hq
                      generalize (((((((WE.setCell _ _).setCell _ _).setCell _ _).setCell _ _).setCell _ _).setCell _ _).setCell _ _) = WQ
                      intro hq
                      obtain ⟨⟨d0, d1, d2, d3, d4, d5, d6⟩, _⟩ := hq
                      simp [results, Try.results54, go_sem, *]
                    exact AllReadyH.nil
                  exact AllReadyH.nil
                exact AllReadyH.nil
              exact AllReadyH.nil
            exact AllReadyH.nil
          exact AllReadyH.nil
        exact AllReadyH.nil
      refine AllReadyH.cons (o := _) (by rw [List.getElem?_toArray]; rfl) (fun K hK => ?_) ?_
      · obtain ⟨⟨k0, k1, k2, k3, k4, k5, k6⟩, kz⟩ := HB0.out
        go_simp
        clear k0 k1 k2 k3 k4 k5 k6 kz
        refine hK.out _ _ ⟨HB0.out.c3, HB0.out.c4⟩ (fun hHeld => ?_)
        clear hK K
        try simp only [Act.put, List.setIfInBounds_toArray, List.set_cons_zero, List.set_cons_succ]
        refine wpAnyH_take (i := 12) (oi := _) (v := ?_) (by rw [List.getElem?_toArray]; rfl) (by kernel_rfl) (by kernel_rfl) (by kernel_rfl) (fun _ _ _ h => by exact h) (Or.inl ⟨by rfl, ?_⟩) (by assumption) ?_
        rotate_left
        · (intro w hSw; (try dsimp only at hSw); go_simp; (try with_reducible rfl))
        try simp only [Act.put, List.setIfInBounds_toArray, List.set_cons_zero, List.set_cons_succ]
        refine wpAnyH_ready (rs := [5]) (by kernel_rfl) (by simp) ?_
        refine AllReadyH.cons (o := _) (by rw [List.getElem?_toArray]; rfl) (fun K hK => ?_) ?_
        · go_simp
          go_wp2_with (go_at_call 91; refine (cloneG_nil _ 0 0).mono ?_; rintro e w5 ⟨rfl, rfl⟩)
          refine hK.out _ _ ⟨HB0.out.c3, HB0.out.c4⟩ (fun hHeld => ?_)
          clear hK K
          try simp only [Act.put, List.setIfInBounds_toArray, List.set_cons_zero, List.set_cons_succ]
          refine wpAnyH_ready (rs := [8]) (by kernel_rfl) (by simp) ?_
          refine AllReadyH.cons (o := _) (by rw [List.getElem?_toArray]; rfl) (fun K hK => ?_) ?_
          · go_simp
            go_wp2_with (go_at_call 90; refine (KF.out _ HF0.out).mono ?_; rintro e wA ⟨g, gc, rfl, hgb, hgc, fA⟩)
            have FA : Hid (Fr (fun _ => False) w wA) := HF0.out.trans fA
            have HBA : Hid (Z7 wA bx (.int .u64 (s : Int)) (.int .u64 (q : Int)) (.int .u64 (e0 : Int)) (.slice none 0 0) (.slice none 0 0) (.slice (some ⟨p, 0, none⟩) 1 pc) (.slice da l.length dc)) := HB0.out.fr fA (by simp)
            have HRA : Hid (Z7 wA rx (.int .u64 0) (.int .u64 0) (.int .u64 0) (.slice none 0 0) (.slice none 0 0) (.slice none 0 0) (.slice none 0 0)) := HR0.out.fr fA (by simp)
            have HG : Hid (w.heap.size ≤ g ∧ bx < g ∧ rx < g ∧ wA.cell? ⟨g, 0, none⟩ = some (.float .f64 x)) := ⟨Nat.le_trans HF0.out.size hgb, Nat.lt_of_lt_of_le HB0.out.lt hgb, Nat.lt_of_lt_of_le HR0.out.lt hgb, hgc⟩
            clear fA hgb hgc
            refine hK.out _ _ ⟨HBA.out.c3, HBA.out.c4⟩ (fun hHeld => ?_)
            clear hK K
            try simp only [Act.put, List.setIfInBounds_toArray, List.set_cons_zero, List.set_cons_succ]
            refine wpAnyH_ready (rs := [11]) (by kernel_rfl) (by simp) ?_
            refine AllReadyH.cons (o := _) (by rw [List.getElem?_toArray]; rfl) (fun K hK => ?_) ?_
            · go_simp
              go_wp2_with (go_at_call 92; refine (KB.out _ FA.out).mono ?_; rintro e wB ⟨a1, c1, rfl, hrb, hfb, fB⟩)
              have FB : Hid (Fr (fun _ => False) w wB) := FA.out.trans fB
              have HBB : Hid (Z7 wB bx (.int .u64 (s : Int)) (.int .u64 (q : Int)) (.int .u64 (e0 : Int)) (.slice none 0 0) (.slice none 0 0) (.slice (some ⟨p, 0, none⟩) 1 pc) (.slice da l.length dc)) := HBA.out.fr fB (by simp)
              have HRB : Hid (Z7 wB rx (.int .u64 0) (.int .u64 0) (.int .u64 0) (.slice none 0 0) (.slice none 0 0) (.slice none 0 0) (.slice none 0 0)) := HRA.out.fr fB (by simp)
              have HGB : Hid (w.heap.size ≤ g ∧ bx < g ∧ rx < g ∧ wB.cell? ⟨g, 0, none⟩ = some (.float .f64 x)) := ⟨HG.out.1, HG.out.2.1, HG.out.2.2.1, fB.cell HG.out.2.2.2 (by simp)⟩
              have HRW : Hid (Row wB a1 l c1 ∧ ∀ a, a1 = some a → wA.heap.size ≤ a.block) := ⟨hrb, hfb⟩
              have HSZ : Hid (w.heap.size ≤ wA.heap.size ∧ bx < wA.heap.size ∧ rx < wA.heap.size) := ⟨FA.out.size, HBA.out.lt, HRA.out.lt⟩
              clear fB hrb hfb
              refine hK.out _ _ ⟨HBB.out.c3, HBB.out.c4⟩ (fun hHeld => ?_)
              clear hK K
              try simp only [Act.put, List.setIfInBounds_toArray, List.set_cons_zero, List.set_cons_succ]
              obtain ⟨⟨k0, k1, k2, k3, k4, k5, k6⟩, kz⟩ := HBB.out
              refine wpAnyH_ready (rs := [13]) (by kernel_rfl) (by simp) ?_
              refine AllReadyH.cons (o := _) (by rw [List.getElem?_toArray]; rfl) (fun K hK => ?_) ?_
              · go_simp
                refine hK.out _ _ ⟨World.cell?_setCell_same _ _ _ hHeld.1, (World.cell?_setCell_other _ _ _ _ (by simp)).trans hHeld.2⟩ (fun hHeld => ?_)
                clear hK K
                try simp only [Act.put, List.setIfInBounds_toArray, List.set_cons_zero, List.set_cons_succ]
                refine wpAnyH_take (i := 14) (oi := _) (v := ?_) (by rw [List.getElem?_toArray]; rfl) (by kernel_rfl) (by kernel_rfl) (by kernel_rfl) (fun _ _ _ h => by exact h) (Or.inl ⟨by rfl, ?_⟩) (by assumption) ?_
                rotate_left
                · (intro w hSw; (try dsimp only at hSw); go_simp; (try with_reducible rfl))
                try simp only [Act.put, List.setIfInBounds_toArray, List.set_cons_zero, List.set_cons_succ]
                refine wpAnyH_ready (rs := [15]) (by kernel_rfl) (by simp) ?_
                refine AllReadyH.cons (o := _) (by rw [List.getElem?_toArray]; rfl) (fun K hK => ?_) ?_
                · go_simp
                  refine hK.out _ _ ⟨(World.cell?_setCell_other _ _ _ _ (by simp)).trans hHeld.1, World.cell?_setCell_same _ _ _ hHeld.2⟩ (fun hHeld => ?_)
                  clear hK K
                  try simp only [Act.put, List.setIfInBounds_toArray, List.set_cons_zero, List.set_cons_succ]
                  refine wpAnyH_take (i := 16) (oi := _) (v := ?_) (by rw [List.getElem?_toArray]; rfl) (by kernel_rfl) (by kernel_rfl) (by kernel_rfl) (fun _ _ _ h => by exact h) (Or.inl ⟨by rfl, ?_⟩) (by assumption) ?_
                  rotate_left
                  · (intro w hSw; (try dsimp only at hSw); go_simp; (try with_reducible rfl))
                  try simp only [Act.put, List.setIfInBounds_toArray, List.set_cons_zero, List.set_cons_succ]
                  refine wpAnyH_ready (rs := [17]) (by kernel_rfl) (by simp) ?_
                  refine AllReadyH.cons (o := _) (by rw [List.getElem?_toArray]; rfl) (fun K hK => ?_) ?_
                  · go_simp
                    refine hK.out _ _ ⟨(World.cell?_setCell_other _ _ _ _ (by simp)).trans hHeld.1, (World.cell?_setCell_other _ _ _ _ (by simp)).trans hHeld.2⟩ (fun hHeld => ?_)
                    clear hK K
                    try simp only [Act.put, List.setIfInBounds_toArray, List.set_cons_zero, List.set_cons_succ]
                    refine wpAnyH_take (i := 18) (oi := _) (v := ?_) (by rw [List.getElem?_toArray]; rfl) (by kernel_rfl) (by kernel_rfl) (by kernel_rfl) (fun _ _ _ h => by exact h) (Or.inl ⟨by rfl, ?_⟩) (by assumption) ?_
                    rotate_left
                    · (intro w hSw; (try dsimp only at hSw); go_simp; (try with_reducible rfl))
                    try simp only [Act.put, List.setIfInBounds_toArray, List.set_cons_zero, List.set_cons_succ]
                    refine wpAnyH_ready (rs := [19]) (by kernel_rfl) (by simp) ?_
                    refine AllReadyH.cons (o := _) (by rw [List.getElem?_toArray]; rfl) (fun K hK => ?_) ?_
                    · go_simp
                      refine hK.out _ _ ⟨(World.cell?_setCell_other _ _ _ _ (by simp)).trans hHeld.1, (World.cell?_setCell_other _ _ _ _ (by simp)).trans hHeld.2⟩ (fun hHeld => ?_)
                      clear hK K
                      try simp only [Act.put, List.setIfInBounds_toArray, List.set_cons_zero, List.set_cons_succ]
                      clear k0 k1 k2 k3 k4 k5 k6 kz
                      refine wpAnyH_done (by kernel_rfl) ?_ _
                      obtain ⟨hz, fz⟩ := HBB.out.put4 (.slice none 0 0) (.slice none 0 0) (.slice (some ⟨g, 0, none⟩) 1 gc) (.slice a1 l.length c1)
                      have HE : Hid (Z7 ((((wB.setCell ⟨bx, 3, none⟩ (.slice none 0 0)).setCell ⟨bx, 4, none⟩ (.slice none 0 0)).setCell ⟨bx, 5, none⟩ (.slice (some ⟨g, 0, none⟩) 1 gc)).setCell ⟨bx, 6, none⟩ (.slice a1 l.length c1)) bx (.int .u64 (s : Int)) (.int .u64 (q : Int)) (.int .u64 (e0 : Int)) (.slice none 0 0) (.slice none 0 0) (.slice (some ⟨g, 0, none⟩) 1 gc) (.slice a1 l.length c1)) := hz
                      have FE : Hid (Fr (fun k => k = bx) wB ((((wB.setCell ⟨bx, 3, none⟩ (.slice none 0 0)).setCell ⟨bx, 4, none⟩ (.slice none 0 0)).setCell ⟨bx, 5, none⟩ (.slice (some ⟨g, 0, none⟩) 1 gc)).setCell ⟨bx, 6, none⟩ (.slice a1 l.length c1))) := fz
                      clear hz fz hHeld
                      obtain ⟨WE, HWE⟩ : ∃ WE, Hid ((((wB.setCell ⟨bx, 3, none⟩ (.slice none 0 0)).setCell ⟨bx, 4, none⟩ (.slice none 0 0)).setCell ⟨bx, 5, none⟩ (.slice (some ⟨g, 0, none⟩) 1 gc)).setCell ⟨bx, 6, none⟩ (.slice a1 l.length c1) = WE) := ⟨_, rfl⟩
                      rw [HWE.out] at HE FE ⊢
                      have HRE : Hid (Z7 WE rx (.int .u64 0) (.int .u64 0) (.int .u64 0) (.slice none 0 0) (.slice none 0 0) (.slice none 0 0) (.slice none 0 0)) := HRB.out.fr FE.out (by have := HBX.out; omega)
                      obtain ⟨⟨k0, k1, k2, k3, k4, k5, k6⟩, kz⟩ := HE.out
                      obtain ⟨⟨y0, y1, y2, y3, y4, y5, y6⟩, yz⟩ := HRE.out
                      go_wp2
                      obtain ⟨hq, fq⟩ := HRE.out.put7 (.int .u64 (s : Int)) (.int .u64 (q : Int)) (.int .u64 (e0 : Int)) (.slice none 0 0) (.slice none 0 0) (.slice (some ⟨g, 0, none⟩) 1 gc) (.slice a1 l.length c1)
                      clear k0 k1 k2 k3 k4 k5 k6 kz y0 y1 y2 y3 y4 y5 y6 yz
                      refine bodyPost_ret (v := .agg #[.int .u64 (s : Int), .int .u64 (q : Int), .int .u64 (e0 : Int), .slice none 0 0, .slice none 0 0, .slice (some ⟨g, 0, none⟩) 1 gc, .slice a1 l.length c1]) ?_ rfl ⟨g, gc, a1, c1, rfl, HGB.out.1, fq.cell (FE.out.cell HGB.out.2.2.2 (show ¬ g = bx by have := HGB.out; omega)) (show ¬ g = rx by have := HGB.out; omega), fq.row (FE.out.row HRW.out.1 (fun _ a ha e => by have := HRW.out.2 a ha; have := HSZ.out; omega)) (fun _ a ha e => by have := HRW.out.2 a ha; have := HSZ.out; omega), fun a ha => Nat.le_trans HSZ.out.1 (HRW.out.2 a ha), FB.out.trans' (Fr.trans (Fr.mono (T := fun k => k = bx ∨ k = rx) FE.out (fun _ _ h => .inl h)) (Fr.mono (T := fun k => k = bx ∨ k = rx) fq (fun _ _ h => .inr h))) (fun i hi h => show False by have := HBX.out; rcases h with h | h <;> omega)⟩
                      revert hq
                      generalize (((((((WE.setCell _ _).setCell _ _).setCell _ _).setCell _ _).setCell _ _).setCell _ _).setCell _ _) = WQ
                      intro hq
                      obtain ⟨⟨d0, d1, d2, d3, d4, d5, d6⟩, _⟩ := hq
                      simp [results, Try.results54, go_sem, *]
                    exact AllReadyH.nil
                  exact AllReadyH.nil
                exact AllReadyH.nil
              exact AllReadyH.nil
            exact AllReadyH.nil
          exact AllReadyH.nil
        exact AllReadyH.nil
      exact AllReadyH.nil
    refine AllReadyH.cons (o := _) (by rw [List.getElem?_toArray]; rfl) (fun K hK => ?_) ?_
    · obtain ⟨⟨k0, k1, k2, k3, k4, k5, k6⟩, kz⟩ := HB0.out
      go_simp
      clear k0 k1 k2 k3 k4 k5 k6 kz
      refine hK.out _ _ ⟨HB0.out.c3, HB0.out.c4⟩ (fun hHeld => ?_)
      clear hK K
      try simp only [Act.put, List.setIfInBounds_toArray, List.set_cons_zero, List.set_cons_succ]
      refine wpAnyH_ready (rs := [2]) (by kernel_rfl) (by simp) ?_
      refine AllReadyH.cons (o := _) (by rw [List.getElem?_toArray]; rfl) (fun K hK => ?_) ?_
      · go_simp
        go_wp2_with (go_at_call 90; refine (cloneF_nil _ 0 0).mono ?_; rintro e w5 ⟨rfl, rfl⟩)
        refine hK.out _ _ ⟨HB0.out.c3, HB0.out.c4⟩ (fun hHeld => ?_)
        clear hK K
        try simp only [Act.put, List.setIfInBounds_toArray, List.set_cons_zero, List.set_cons_succ]
        refine wpAnyH_take (i := 12) (oi := _) (v := ?_) (by rw [List.getElem?_toArray]; rfl) (by kernel_rfl) (by kernel_rfl) (by kernel_rfl) (fun _ _ _ h => by exact h) (Or.inl ⟨by rfl, ?_⟩) (by assumption) ?_
        rotate_left
        · (intro w hSw; (try dsimp only at hSw); go_simp; (try with_reducible rfl))
        try simp only [Act.put, List.setIfInBounds_toArray, List.set_cons_zero, List.set_cons_succ]
        refine wpAnyH_ready (rs := [5]) (by kernel_rfl) (by simp) ?_
        refine AllReadyH.cons (o := _) (by rw [List.getElem?_toArray]; rfl) (fun K hK => ?_) ?_
        · go_simp
          go_wp2_with (go_at_call 91; refine (cloneG_nil _ 0 0).mono ?_; rintro e w5 ⟨rfl, rfl⟩)
          refine hK.out _ _ ⟨HB0.out.c3, HB0.out.c4⟩ (fun hHeld => ?_)
          clear hK K
          try simp only [Act.put, List.setIfInBounds_toArray, List.set_cons_zero, List.set_cons_succ]
          refine wpAnyH_ready (rs := [8]) (by kernel_rfl) (by simp) ?_
          refine AllReadyH.cons (o := _) (by rw [List.getElem?_toArray]; rfl) (fun K hK => ?_) ?_
          · go_simp
            go_wp2_with (go_at_call 90; refine (KF.out _ HF0.out).mono ?_; rintro e wA ⟨g, gc, rfl, hgb, hgc, fA⟩)
            have FA : Hid (Fr (fun _ => False) w wA) := HF0.out.trans fA
            have HBA : Hid (Z7 wA bx (.int .u64 (s : Int)) (.int .u64 (q : Int)) (.int .u64 (e0 : Int)) (.slice none 0 0) (.slice none 0 0) (.slice (some ⟨p, 0, none⟩) 1 pc) (.slice da l.length dc)) := HB0.out.fr fA (by simp)
            have HRA : Hid (Z7 wA rx (.int .u64 0) (.int .u64 0) (.int .u64 0) (.slice none 0 0) (.slice none 0 0) (.slice none 0 0) (.slice none 0 0)) := HR0.out.fr fA (by simp)
            have HG : Hid (w.heap.size ≤ g ∧ bx < g ∧ rx < g ∧ wA.cell? ⟨g, 0, none⟩ = some (.float .f64 x)) := ⟨Nat.le_trans HF0.out.size hgb, Nat.lt_of_lt_of_le HB0.out.lt hgb, Nat.lt_of_lt_of_le HR0.out.lt hgb, hgc⟩
            clear fA hgb hgc
            refine hK.out _ _ ⟨HBA.out.c3, HBA.out.c4⟩ (fun hHeld => ?_)
            clear hK K
            try simp only [Act.put, List.setIfInBounds_toArray, List.set_cons_zero, List.set_cons_succ]
            refine wpAnyH_ready (rs := [11]) (by kernel_rfl) (by simp) ?_
            refine AllReadyH.cons (o := _) (by rw [List.getElem?_toArray]; rfl) (fun K hK => ?_) ?_
            · go_simp
              go_wp2_with (go_at_call 92; refine (KB.out _ FA.out).mono ?_; rintro e wB ⟨a1, c1, rfl, hrb, hfb, fB⟩)
              have FB : Hid (Fr (fun _ => False) w wB) := FA.out.trans fB
              have HBB : Hid (Z7 wB bx (.int .u64 (s : Int)) (.int .u64 (q : Int)) (.int .u64 (e0 : Int)) (.slice none 0 0) (.slice none 0 0) (.slice (some ⟨p, 0, none⟩) 1 pc) (.slice da l.length dc)) := HBA.out.fr fB (by simp)
              have HRB : Hid (Z7 wB rx (.int .u64 0) (.int .u64 0) (.int .u64 0) (.slice none 0 0) (.slice none 0 0) (.slice none 0 0) (.slice none 0 0)) := HRA.out.fr fB (by simp)
              have HGB : Hid (w.heap.size ≤ g ∧ bx < g ∧ rx < g ∧ wB.cell? ⟨g, 0, none⟩ = some (.float .f64 x)) := ⟨HG.out.1, HG.out.2.1, HG.out.2.2.1, fB.cell HG.out.2.2.2 (by simp)⟩
              have HRW : Hid (Row wB a1 l c1 ∧ ∀ a, a1 = some a → wA.heap.size ≤ a.block) := ⟨hrb, hfb⟩
              have HSZ : Hid (w.heap.size ≤ wA.heap.size ∧ bx < wA.heap.size ∧ rx < wA.heap.size) := ⟨FA.out.size, HBA.out.lt, HRA.out.lt⟩
              clear fB hrb hfb
              refine hK.out _ _ ⟨HBB.out.c3, HBB.out.c4⟩ (fun hHeld => ?_)
              clear hK K
              try simp only [Act.put, List.setIfInBounds_toArray, List.set_cons_zero, List.set_cons_succ]
              obtain ⟨⟨k0, k1, k2, k3, k4, k5, k6⟩, kz⟩ := HBB.out
              refine wpAnyH_ready (rs := [13]) (by kernel_rfl) (by simp) ?_
              refine AllReadyH.cons (o := _) (by rw [List.getElem?_toArray]; rfl) (fun K hK => ?_) ?_
              · go_simp
                refine hK.out _ _ ⟨World.cell?_setCell_same _ _ _ hHeld.1, (World.cell?_setCell_other _ _ _ _ (by simp)).trans hHeld.2⟩ (fun hHeld => ?_)
                clear hK K
                try simp only [Act.put, List.setIfInBounds_toArray, List.set_cons_zero, List.set_cons_succ]
                refine wpAnyH_take (i := 14) (oi := _) (v := ?_) (by rw [List.getElem?_toArray]; rfl) (by kernel_rfl) (by kernel_rfl) (by kernel_rfl) (fun _ _ _ h => by exact h) (Or.inl ⟨by rfl, ?_⟩) (by assumption) ?_
                rotate_left
                · (intro w hSw; (try dsimp only at hSw); go_simp; (try with_reducible rfl))
                try simp only [Act.put, List.setIfInBounds_toArray, List.set_cons_zero, List.set_cons_succ]
                refine wpAnyH_ready (rs := [15]) (by kernel_rfl) (by simp) ?_
                refine AllReadyH.cons (o := _) (by rw [List.getElem?_toArray]; rfl) (fun K hK => ?_) ?_
                · go_simp
                  refine hK.out _ _ ⟨(World.cell?_setCell_other _ _ _ _ (by simp)).trans hHeld.1, World.cell?_setCell_same _ _ _ hHeld.2⟩ (fun hHeld => ?_)
                  clear hK K
                  try simp only [Act.put, List.setIfInBounds_toArray, List.set_cons_zero, List.set_cons_succ]
                  refine wpAnyH_take (i := 16) (oi := _) (v := ?_) (by rw [List.getElem?_toArray]; rfl) (by kernel_rfl) (by kernel_rfl) (by kernel_rfl) (fun _ _ _ h => by exact h) (Or.inl ⟨by rfl, ?_⟩) (by assumption) ?_
                  rotate_left
                  · (intro w hSw; (try dsimp only at hSw); go_simp; (try with_reducible rfl))
                  try simp only [Act.put, List.setIfInBounds_toArray, List.set_cons_zero, List.set_cons_succ]
                  refine wpAnyH_ready (rs := [17]) (by kernel_rfl) (by simp) ?_
                  refine AllReadyH.cons (o := _) (by rw [List.getElem?_toArray]; rfl) (fun K hK => ?_) ?_
                  · go_simp
                    refine hK.out _ _ ⟨(World.cell?_setCell_other _ _ _ _ (by simp)).trans hHeld.1, (World.cell?_setCell_other _ _ _ _ (by simp)).trans hHeld.2⟩ (fun hHeld => ?_)
                    clear hK K
                    try simp only [Act.put, List.setIfInBounds_toArray, List.set_cons_zero, List.set_cons_succ]
                    refine wpAnyH_take (i := 18) (oi := _) (v := ?_) (by rw [List.getElem?_toArray]; rfl) (by kernel_rfl) (by kernel_rfl) (by kernel_rfl) (fun _ _ _ h => by exact h) (Or.inl ⟨by rfl, ?_⟩) (by assumption) ?_
                    rotate_left
                    · (intro w hSw; (try dsimp only at hSw); go_simp; (try with_reducible rfl))
                    try simp only [Act.put, List.setIfInBounds_toArray, List.set_cons_zero, List.set_cons_succ]
                    refine wpAnyH_ready (rs := [19]) (by kernel_rfl) (by simp) ?_
                    refine AllReadyH.cons (o := _) (by rw [List.getElem?_toArray]; rfl) (fun K hK => ?_) ?_
                    · go_simp
                      refine hK.out _ _ ⟨(World.cell?_setCell_other _ _ _ _ (by simp)).trans hHeld.1, (World.cell?_setCell_other _ _ _ _ (by simp)).trans hHeld.2⟩ (fun hHeld => ?_)
                      clear hK K
                      try simp only [Act.put, List.setIfInBounds_toArray, List.set_cons_zero, List.set_cons_succ]
                      clear k0 k1 k2 k3 k4 k5 k6 kz
                      refine wpAnyH_done (by kernel_rfl) ?_ _
                      obtain ⟨hz, fz⟩ := HBB.out.put4 (.slice none 0 0) (.slice none 0 0) (.slice (some ⟨g, 0, none⟩) 1 gc) (.slice a1 l.length c1)
                      have HE : Hid (Z7 ((((wB.setCell ⟨bx, 3, none⟩ (.slice none 0 0)).setCell ⟨bx, 4, none⟩ (.slice none 0 0)).setCell ⟨bx, 5, none⟩ (.slice (some ⟨g, 0, none⟩) 1 gc)).setCell ⟨bx, 6, none⟩ (.slice a1 l.length c1)) bx (.int .u64 (s : Int)) (.int .u64 (q : Int)) (.int .u64 (e0 : Int)) (.slice none 0 0) (.slice none 0 0) (.slice (some ⟨g, 0, none⟩) 1 gc) (.slice a1 l.length c1)) := hz
                      have FE : Hid (Fr (fun k => k = bx) wB ((((wB.setCell ⟨bx, 3, none⟩ (.slice none 0 0)).setCell ⟨bx, 4, none⟩ (.slice none 0 0)).setCell ⟨bx, 5, none⟩ (.slice (some ⟨g, 0, none⟩) 1 gc)).setCell ⟨bx, 6, none⟩ (.slice a1 l.length c1))) := fz
                      clear hz fz hHeld
                      obtain ⟨WE, HWE⟩ : ∃ WE, Hid ((((wB.setCell ⟨bx, 3, none⟩ (.slice none 0 0)).setCell ⟨bx, 4, none⟩ (.slice none 0 0)).setCell ⟨bx, 5, none⟩ (.slice (some ⟨g, 0, none⟩) 1 gc)).setCell ⟨bx, 6, none⟩ (.slice a1 l.length c1) = WE) := ⟨_, rfl⟩
                      rw [HWE.out] at HE FE ⊢
                      have HRE : Hid (Z7 WE rx (.int .u64 0) (.int .u64 0) (.int .u64 0) (.slice none 0 0) (.slice none 0 0) (.slice none 0 0) (.slice none 0 0)) := HRB.out.fr FE.out (by have := HBX.out; omega)
                      obtain ⟨⟨k0, k1, k2, k3, k4, k5, k6⟩, kz⟩ := HE.out
                      obtain ⟨⟨y0, y1, y2, y3, y4, y5, y6⟩, yz⟩ := HRE.out
                      go_wp2
                      obtain ⟨hq, fq⟩ := HRE.out.put7 (.int .u64 (s : Int)) (.int .u64 (q : Int)) (.int .u64 (e0 : Int)) (.slice none 0 0) (.slice none 0 0) (.slice (some ⟨g, 0, none⟩) 1 gc) (.slice a1 l.length c1)
                      clear k0 k1 k2 k3 k4 k5 k6 kz y0 y1 y2 y3 y4 y5 y6 yz
                      refine bodyPost_ret (v := .agg #[.int .u64 (s : Int), .int .u64 (q : Int), .int .u64 (e0 : Int), .slice none 0 0, .slice none 0 0, .slice (some ⟨g, 0, none⟩) 1 gc, .slice a1 l.length c1]) ?_ rfl ⟨g, gc, a1, c1, rfl, HGB.out.1, fq.cell (FE.out.cell HGB.out.2.2.2 (show ¬ g = bx by have := HGB.out; omega)) (show ¬ g = rx by have := HGB.out; omega), fq.row (FE.out.row HRW.out.1 (fun _ a ha e => by have := HRW.out.2 a ha; have := HSZ.out; omega)) (fun _ a ha e => by have := HRW.out.2 a ha; have := HSZ.out; omega), fun a ha => Nat.le_trans HSZ.out.1 (HRW.out.2 a ha), FB.out.trans' (Fr.trans (Fr.mono (T := fun k => k = bx ∨ k = rx) FE.out (fun _ _ h => .inl h)) (Fr.mono (T := fun k => k = bx ∨ k = rx) fq (fun _ _ h => .inr h))) (fun i hi h => show False by have := HBX.out; rcases h with h | h <;> omega)⟩
                      revert hq
                      generalize (((((((WE.setCell _ _).setCell _ _).setCell _ _).setCell _ _).setCell _ _).setCell _ _).setCell _ _) = WQ
                      intro hq
                      obtain ⟨⟨d0, d1, d2, d3, d4, d5, d6⟩, _⟩ := hq
                      simp [results, Try.results54, go_sem, *]
                    exact AllReadyH.nil
                  exact AllReadyH.nil
                exact AllReadyH.nil
              exact AllReadyH.nil
            exact AllReadyH.nil
          exact AllReadyH.nil
        exact AllReadyH.nil
      exact AllReadyH.nil
    exact AllReadyH.nil
  refine AllReadyH.cons (o := _) (by rw [List.getElem?_toArray]; rfl) (fun K hK => ?_) ?_
  · obtain ⟨⟨k0, k1, k2, k3, k4, k5, k6⟩, kz⟩ := HB0.out
    go_simp
    clear k0 k1 k2 k3 k4 k5 k6 kz
    refine hK.out _ _ ⟨HB0.out.c3, HB0.out.c4⟩ (fun hHeld => ?_)
    clear hK K
    try simp only [Act.put, List.setIfInBounds_toArray, List.set_cons_zero, List.set_cons_succ]
    refine wpAnyH_ready (rs := [2, 7]) (by kernel_rfl) (by simp) ?_
    refine AllReadyH.cons (o := _) (by rw [List.getElem?_toArray]; rfl) (fun K hK => ?_) ?_
    · go_simp
      go_wp2_with (go_at_call 90; refine (cloneF_nil _ 0 0).mono ?_; rintro e w5 ⟨rfl, rfl⟩)
      refine hK.out _ _ ⟨HB0.out.c3, HB0.out.c4⟩ (fun hHeld => ?_)
      clear hK K
      try simp only [Act.put, List.setIfInBounds_toArray, List.set_cons_zero, List.set_cons_succ]
      refine wpAnyH_ready (rs := [5, 7]) (by kernel_rfl) (by simp) ?_
      refine AllReadyH.cons (o := _) (by rw [List.getElem?_toArray]; rfl) (fun K hK => ?_) ?_
      · go_simp
        go_wp2_with (go_at_call 91; refine (cloneG_nil _ 0 0).mono ?_; rintro e w5 ⟨rfl, rfl⟩)
        refine hK.out _ _ ⟨HB0.out.c3, HB0.out.c4⟩ (fun hHeld => ?_)
        clear hK K
        try simp only [Act.put, List.setIfInBounds_toArray, List.set_cons_zero, List.set_cons_succ]
        refine wpAnyH_ready (rs := [7]) (by kernel_rfl) (by simp) ?_
        refine AllReadyH.cons (o := _) (by rw [List.getElem?_toArray]; rfl) (fun K hK => ?_) ?_
        · obtain ⟨⟨k0, k1, k2, k3, k4, k5, k6⟩, kz⟩ := HB0.out
          go_simp
          clear k0 k1 k2 k3 k4 k5 k6 kz
          refine hK.out _ _ ⟨HB0.out.c3, HB0.out.c4⟩ (fun hHeld => ?_)
          clear hK K
          try simp only [Act.put, List.setIfInBounds_toArray, List.set_cons_zero, List.set_cons_succ]
          refine wpAnyH_take (i := 12) (oi := _) (v := ?_) (by rw [List.getElem?_toArray]; rfl) (by kernel_rfl) (by kernel_rfl) (by kernel_rfl) (fun _ _ _ h => by exact h) (Or.inl ⟨by rfl, ?_⟩) (by assumption) ?_
          rotate_left
          · (intro w hSw; (try dsimp only at hSw); go_simp; (try with_reducible rfl))
          try simp only [Act.put, List.setIfInBounds_toArray, List.set_cons_zero, List.set_cons_succ]
          refine wpAnyH_ready (rs := [8]) (by kernel_rfl) (by simp) ?_
          refine AllReadyH.cons (o := _) (by rw [List.getElem?_toArray]; rfl) (fun K hK => ?_) ?_
          · go_simp
            go_wp2_with (go_at_call 90; refine (KF.out _ HF0.out).mono ?_; rintro e wA ⟨g, gc, rfl, hgb, hgc, fA⟩)
            have FA : Hid (Fr (fun _ => False) w wA) := HF0.out.trans fA
            have HBA : Hid (Z7 wA bx (.int .u64 (s : Int)) (.int .u64 (q : Int)) (.int .u64 (e0 : Int)) (.slice none 0 0) (.slice none 0 0) (.slice (some ⟨p, 0, none⟩) 1 pc) (.slice da l.length dc)) := HB0.out.fr fA (by simp)
            have HRA : Hid (Z7 wA rx (.int .u64 0) (.int .u64 0) (.int .u64 0) (.slice none 0 0) (.slice none 0 0) (.slice none 0 0) (.slice none 0 0)) := HR0.out.fr fA (by simp)
            have HG : Hid (w.heap.size ≤ g ∧ bx < g ∧ rx < g ∧ wA.cell? ⟨g, 0, none⟩ = some (.float .f64 x)) := ⟨Nat.le_trans HF0.out.size hgb, Nat.lt_of_lt_of_le HB0.out.lt hgb, Nat.lt_of_lt_of_le HR0.out.lt hgb, hgc⟩
            clear fA hgb hgc
            refine hK.out _ _ ⟨HBA.out.c3, HBA.out.c4⟩ (fun hHeld => ?_)
            clear hK K
            try simp only [Act.put, List.setIfInBounds_toArray, List.set_cons_zero, List.set_cons_succ]
            refine wpAnyH_ready (rs := [11]) (by kernel_rfl) (by simp) ?_
            refine AllReadyH.cons (o := _) (by rw [List.getElem?_toArray]; rfl) (fun K hK => ?_) ?_
            · go_simp
              go_wp2_with (go_at_call 92; refine (KB.out _ FA.out).mono ?_; rintro e wB ⟨a1, c1, rfl, hrb, hfb, fB⟩)
              have FB : Hid (Fr (fun _ => False) w wB) := FA.out.trans fB
              have HBB : Hid (Z7 wB bx (.int .u64 (s : Int)) (.int .u64 (q : Int)) (.int .u64 (e0 : Int)) (.slice none 0 0) (.slice none 0 0) (.slice (some ⟨p, 0, none⟩) 1 pc) (.slice da l.length dc)) := HBA.out.fr fB (by simp)
              have HRB : Hid (Z7 wB rx (.int .u64 0) (.int .u64 0) (.int .u64 0) (.slice none 0 0) (.slice none 0 0) (.slice none 0 0) (.slice none 0 0)) := HRA.out.fr fB (by simp)
              have HGB : Hid (w.heap.size ≤ g ∧ bx < g ∧ rx < g ∧ wB.cell? ⟨g, 0, none⟩ = some (.float .f64 x)) := ⟨HG.out.1, HG.out.2.1, HG.out.2.2.1, fB.cell HG.out.2.2.2 (by simp)⟩
              have HRW : Hid (Row wB a1 l c1 ∧ ∀ a, a1 = some a → wA.heap.size ≤ a.block) := ⟨hrb, hfb⟩
              have HSZ : Hid (w.heap.size ≤ wA.heap.size ∧ bx < wA.heap.size ∧ rx < wA.heap.size) := ⟨FA.out.size, HBA.out.lt, HRA.out.lt⟩
              clear fB hrb hfb
              refine hK.out _ _ ⟨HBB.out.c3, HBB.out.c4⟩ (fun hHeld => ?_)
              clear hK K
              try simp only [Act.put, List.setIfInBounds_toArray, List.set_cons_zero, List.set_cons_succ]
              obtain ⟨⟨k0, k1, k2, k3, k4, k5, k6⟩, kz⟩ := HBB.out
              refine wpAnyH_ready (rs := [13]) (by kernel_rfl) (by simp) ?_
              refine AllReadyH.cons (o := _) (by rw [List.getElem?_toArray]; rfl) (fun K hK => ?_) ?_
              · go_simp
                refine hK.out _ _ ⟨World.cell?_setCell_same _ _ _ hHeld.1, (World.cell?_setCell_other _ _ _ _ (by simp)).trans hHeld.2⟩ (fun hHeld => ?_)
                clear hK K
                try simp only [Act.put, List.setIfInBounds_toArray, List.set_cons_zero, List.set_cons_succ]
                refine wpAnyH_take (i := 14) (oi := _) (v := ?_) (by rw [List.getElem?_toArray]; rfl) (by kernel_rfl) (by kernel_rfl) (by kernel_rfl) (fun _ _ _ h => by exact h) (Or.inl ⟨by rfl, ?_⟩) (by assumption) ?_
                rotate_left
                · (intro w hSw; (try dsimp only at hSw); go_simp; (try with_reducible rfl))
                try simp only [Act.put, List.setIfInBounds_toArray, List.set_cons_zero, List.set_cons_succ]
                refine wpAnyH_ready (rs := [15]) (by kernel_rfl) (by simp) ?_
                refine AllReadyH.cons (o := _) (by rw [List.getElem?_toArray]; rfl) (fun K hK => ?_) ?_
                · go_simp
                  refine hK.out _ _ ⟨(World.cell?_setCell_other _ _ _ _ (by simp)).trans hHeld.1, World.cell?_setCell_same _ _ _ hHeld.2⟩ (fun hHeld => ?_)
                  clear hK K
                  try simp only [Act.put, List.setIfInBounds_toArray, List.set_cons_zero, List.set_cons_succ]
                  refine wpAnyH_take (i := 16) (oi := _) (v := ?_) (by rw [List.getElem?_toArray]; rfl) (by kernel_rfl) (by kernel_rfl) (by kernel_rfl) (fun _ _ _ h => by exact h) (Or.inl ⟨by rfl, ?_⟩) (by assumption) ?_
                  rotate_left
                  · (intro w hSw; (try dsimp only at hSw); go_simp; (try with_reducible rfl))
                  try simp only [Act.put, List.setIfInBounds_toArray, List.set_cons_zero, List.set_cons_succ]
                  refine wpAnyH_ready (rs := [17]) (by kernel_rfl) (by simp) ?_
                  refine AllReadyH.cons (o := _) (by rw [List.getElem?_toArray]; rfl) (fun K hK => ?_) ?_
                  · go_simp
                    refine hK.out _ _ ⟨(World.cell?_setCell_other _ _ _ _ (by simp)).trans hHeld.1, (World.cell?_setCell_other _ _ _ _ (by simp)).trans hHeld.2⟩ (fun hHeld => ?_)
                    clear hK K
                    try simp only [Act.put, List.setIfInBounds_toArray, List.set_cons_zero, List.set_cons_succ]
                    refine wpAnyH_take (i := 18) (oi := _) (v := ?_) (by rw [List.getElem?_toArray]; rfl) (by kernel_rfl) (by kernel_rfl) (by kernel_rfl) (fun _ _ _ h => by exact h) (Or.inl ⟨by rfl, ?_⟩) (by assumption) ?_
                    rotate_left
                    · (intro w hSw; (try dsimp only at hSw); go_simp; (try with_reducible rfl))
                    try simp only [Act.put, List.setIfInBounds_toArray, List.set_cons_zero, List.set_cons_succ]
                    refine wpAnyH_ready (rs := [19]) (by kernel_rfl) (by simp) ?_
                    refine AllReadyH.cons (o := _) (by rw [List.getElem?_toArray]; rfl) (fun K hK => ?_) ?_
                    · go_simp
                      refine hK.out _ _ ⟨(World.cell?_setCell_other _ _ _ _ (by simp)).trans hHeld.1, (World.cell?_setCell_other _ _ _ _ (by simp)).trans hHeld.2⟩ (fun hHeld => ?_)
                      clear hK K
                      try simp only [Act.put, List.setIfInBounds_toArray, List.set_cons_zero, List.set_cons_succ]
                      clear k0 k1 k2 k3 k4 k5 k6 kz
                      refine wpAnyH_done (by kernel_rfl) ?_ _
                      obtain ⟨hz, fz⟩ := HBB.out.put4 (.slice none 0 0) (.slice none 0 0) (.slice (some ⟨g, 0, none⟩) 1 gc) (.slice a1 l.length c1)
                      have HE : Hid (Z7 ((((wB.setCell ⟨bx, 3, none⟩ (.slice none 0 0)).setCell ⟨bx, 4, none⟩ (.slice none 0 0)).setCell ⟨bx, 5, none⟩ (.slice (some ⟨g, 0, none⟩) 1 gc)).setCell ⟨bx, 6, none⟩ (.slice a1 l.length c1)) bx (.int .u64 (s : Int)) (.int .u64 (q : Int)) (.int .u64 (e0 : Int)) (.slice none 0 0) (.slice none 0 0) (.slice (some ⟨g, 0, none⟩) 1 gc) (.slice a1 l.length c1)) := hz
                      have FE : Hid (Fr (fun k => k = bx) wB ((((wB.setCell ⟨bx, 3, none⟩ (.slice none 0 0)).setCell ⟨bx, 4, none⟩ (.slice none 0 0)).setCell ⟨bx, 5, none⟩ (.slice (some ⟨g, 0, none⟩) 1 gc)).setCell ⟨bx, 6, none⟩ (.slice a1 l.length c1))) := fz
                      clear hz fz hHeld
                      obtain ⟨WE, HWE⟩ : ∃ WE, Hid ((((wB.setCell ⟨bx, 3, none⟩ (.slice none 0 0)).setCell ⟨bx, 4, none⟩ (.slice none 0 0)).setCell ⟨bx, 5, none⟩ (.slice (some ⟨g, 0, none⟩) 1 gc)).setCell ⟨bx, 6, none⟩ (.slice a1 l.length c1) = WE) := ⟨_, rfl⟩
                      rw [HWE.out] at HE FE ⊢
                      have HRE : Hid (Z7 WE rx (.int .u64 0) (.int .u64 0) (.int .u64 0) (.slice none 0 0) (.slice none 0 0) (.slice none 0 0) (.slice none 0 0)) := HRB.out.fr FE.out (by have := HBX.out; omega)
                      obtain ⟨⟨k0, k1, k2, k3, k4, k5, k6⟩, kz⟩ := HE.out
                      obtain ⟨⟨y0, y1, y2, y3, y4, y5, y6⟩, yz⟩ := HRE.out
                      go_wp2
                      obtain ⟨hq, fq⟩ := HRE.out.put7 (.int .u64 (s : Int)) (.int .u64 (q : Int)) (.int .u64 (e0 : Int)) (.slice none 0 0) (.slice none 0 0) (.slice (some ⟨g, 0, none⟩) 1 gc) (.slice a1 l.length c1)
                      clear k0 k1 k2 k3 k4 k5 k6 kz y0 y1 y2 y3 y4 y5 y6 yz
                      refine bodyPost_ret (v := .agg #[.int .u64 (s : Int), .int .u64 (q : Int), .int .u64 (e0 : Int), .slice none 0 0, .slice none 0 0, .slice (some ⟨g, 0, none⟩) 1 gc, .slice a1 l.length c1]) ?_ rfl ⟨g, gc, a1, c1, rfl, HGB.out.1, fq.cell (FE.out.cell HGB.out.2.2.2 (show ¬ g = bx by have := HGB.out; omega)) (show ¬ g = rx by have := HGB.out; omega), fq.row (FE.out.row HRW.out.1 (fun _ a ha e => by have := HRW.out.2 a ha; have := HSZ.out; omega)) (fun _ a ha e => by have := HRW.out.2 a ha; have := HSZ.out; omega), fun a ha => Nat.le_trans HSZ.out.1 (HRW.out.2 a ha), FB.out.trans' (Fr.trans (Fr.mono (T := fun k => k = bx ∨ k = rx) FE.out (fun _ _ h => .inl h)) (Fr.mono (T := fun k => k = bx ∨ k = rx) fq (fun _ _ h => .inr h))) (fun i hi h => show False by have := HBX.out; rcases h with h | h <;> omega)⟩
                      revert hq
                      generalize (((((((WE.setCell _ _).setCell _ _).setCell _ _).setCell _ _).setCell _ _).setCell _ _).setCell _ _) = WQ
                      intro hq
                      obtain ⟨⟨d0, d1, d2, d3, d4, d5, d6⟩, _⟩ := hq
                      simp [results, Try.results54, go_sem, *]
                    exact AllReadyH.nil
                  exact AllReadyH.nil
                exact AllReadyH.nil
              exact AllReadyH.nil
            exact AllReadyH.nil
          exact AllReadyH.nil
        exact AllReadyH.nil
      refine AllReadyH.cons (o := _) (by rw [List.getElem?_toArray]; rfl) (fun K hK => ?_) ?_
      · obtain ⟨⟨k0, k1, k2, k3, k4, k5, k6⟩, kz⟩ := HB0.out
        go_simp
        clear k0 k1 k2 k3 k4 k5 k6 kz
        refine hK.out _ _ ⟨HB0.out.c3, HB0.out.c4⟩ (fun hHeld => ?_)
        clear hK K
        try simp only [Act.put, List.setIfInBounds_toArray, List.set_cons_zero, List.set_cons_succ]
        refine wpAnyH_take (i := 12) (oi := _) (v := ?_) (by rw [List.getElem?_toArray]; rfl) (by kernel_rfl) (by kernel_rfl) (by kernel_rfl) (fun _ _ _ h => by exact h) (Or.inl ⟨by rfl, ?_⟩) (by assumption) ?_
        rotate_left
        · (intro w hSw; (try dsimp only at hSw); go_simp; (try with_reducible rfl))
        try simp only [Act.put, List.setIfInBounds_toArray, List.set_cons_zero, List.set_cons_succ]
        refine wpAnyH_ready (rs := [5]) (by kernel_rfl) (by simp) ?_
        refine AllReadyH.cons (o := _) (by rw [List.getElem?_toArray]; rfl) (fun K hK => ?_) ?_
        · go_simp
          go_wp2_with (go_at_call 91; refine (cloneG_nil _ 0 0).mono ?_; rintro e w5 ⟨rfl, rfl⟩)
          refine hK.out _ _ ⟨HB0.out.c3, HB0.out.c4⟩ (fun hHeld => ?_)
          clear hK K
          try simp only [Act.put, List.setIfInBounds_toArray, List.set_cons_zero, List.set_cons_succ]
          refine wpAnyH_ready (rs := [8]) (by kernel_rfl) (by simp) ?_
          refine AllReadyH.cons (o := _) (by rw [List.getElem?_toArray]; rfl) (fun K hK => ?_) ?_
          · go_simp
            go_wp2_with (go_at_call 90; refine (KF.out _ HF0.out).mono ?_; rintro e wA ⟨g, gc, rfl, hgb, hgc, fA⟩)
            have FA : Hid (Fr (fun _ => False) w wA) := HF0.out.trans fA
            have HBA : Hid (Z7 wA bx (.int .u64 (s : Int)) (.int .u64 (q : Int)) (.int .u64 (e0 : Int)) (.slice none 0 0) (.slice none 0 0) (.slice (some ⟨p, 0, none⟩) 1 pc) (.slice da l.length dc)) := HB0.out.fr fA (by simp)
            have HRA : Hid (Z7 wA rx (.int .u64 0) (.int .u64 0) (.int .u64 0) (.slice none 0 0) (.slice none 0 0) (.slice none 0 0) (.slice none 0 0)) := HR0.out.fr fA (by simp)
            have HG : Hid (w.heap.size ≤ g ∧ bx < g ∧ rx < g ∧ wA.cell? ⟨g, 0, none⟩ = some (.float .f64 x)) := ⟨Nat.le_trans HF0.out.size hgb, Nat.lt_of_lt_of_le HB0.out.lt hgb, Nat.lt_of_lt_of_le HR0.out.lt hgb, hgc⟩
            clear fA hgb hgc
            refine hK.out _ _ ⟨HBA.out.c3, HBA.out.c4⟩ (fun hHeld => ?_)
            clear hK K
            try simp only [Act.put, List.setIfInBounds_toArray, List.set_cons_zero, List.set_cons_succ]
            refine wpAnyH_ready (rs := [11]) (by kernel_rfl) (by simp) ?_
            refine AllReadyH.cons (o := _) (by rw [List.getElem?_toArray]; rfl) (fun K hK => ?_) ?_
            · go_simp
              go_wp2_with (go_at_call 92; refine (KB.out _ FA.out).mono ?_; rintro e wB ⟨a1, c1, rfl, hrb, hfb, fB⟩)
              have FB : Hid (Fr (fun _ => False) w wB) := FA.out.trans fB
              have HBB : Hid (Z7 wB bx (.int .u64 (s : Int)) (.int .u64 (q : Int)) (.int .u64 (e0 : Int)) (.slice none 0 0) (.slice none 0 0) (.slice (some ⟨p, 0, none⟩) 1 pc) (.slice da l.length dc)) := HBA.out.fr fB (by simp)
              have HRB : Hid (Z7 wB rx (.int .u64 0) (.int .u64 0) (.int .u64 0) (.slice none 0 0) (.slice none 0 0) (.slice none 0 0) (.slice none 0 0)) := HRA.out.fr fB (by simp)
              have HGB : Hid (w.heap.size ≤ g ∧ bx < g ∧ rx < g ∧ wB.cell? ⟨g, 0, none⟩ = some (.float .f64 x)) := ⟨HG.out.1, HG.out.2.1, HG.out.2.2.1, fB.cell HG.out.2.2.2 (by simp)⟩
              have HRW : Hid (Row wB a1 l c1 ∧ ∀ a, a1 = some a → wA.heap.size ≤ a.block) := ⟨hrb, hfb⟩
              have HSZ : Hid (w.heap.size ≤ wA.heap.size ∧ bx < wA.heap.size ∧ rx < wA.heap.size) := ⟨FA.out.size, HBA.out.lt, HRA.out.lt⟩
              clear fB hrb hfb
              refine hK.out _ _ ⟨HBB.out.c3, HBB.out.c4⟩ (fun hHeld => ?_)
              clear hK K
              try simp only [Act.put, List.setIfInBounds_toArray, List.set_cons_zero, List.set_cons_succ]
              obtain ⟨⟨k0, k1, k2, k3, k4, k5, k6⟩, kz⟩ := HBB.out
              refine wpAnyH_ready (rs := [13]) (by kernel_rfl) (by simp) ?_
              refine AllReadyH.cons (o := _) (by rw [List.getElem?_toArray]; rfl) (fun K hK => ?_) ?_
              · go_simp
                refine hK.out _ _ ⟨World.cell?_setCell_same _ _ _ hHeld.1, (World.cell?_setCell_other _ _ _ _ (by simp)).trans hHeld.2⟩ (fun hHeld => ?_)
                clear hK K
                try simp only [Act.put, List.setIfInBounds_toArray, List.set_cons_zero, List.set_cons_succ]
                refine wpAnyH_take (i := 14) (oi := _) (v := ?_) (by rw [List.getElem?_toArray]; rfl) (by kernel_rfl) (by kernel_rfl) (by kernel_rfl) (fun _ _ _ h => by exact h) (Or.inl ⟨by rfl, ?_⟩) (by assumption) ?_
                rotate_left
                · (intro w hSw; (try dsimp only at hSw); go_simp; (try with_reducible rfl))
                try simp only [Act.put, List.setIfInBounds_toArray, List.set_cons_zero, List.set_cons_succ]
                refine wpAnyH_ready (rs := [15]) (by kernel_rfl) (by simp) ?_
                refine AllReadyH.cons (o := _) (by rw [List.getElem?_toArray]; rfl) (fun K hK => ?_) ?_
                · go_simp
                  refine hK.out _ _ ⟨(World.cell?_setCell_other _ _ _ _ (by simp)).trans hHeld.1, World.cell?_setCell_same _ _ _ hHeld.2⟩ (fun hHeld => ?_)
                  clear hK K
                  try simp only [Act.put, List.setIfInBounds_toArray, List.set_cons_zero, List.set_cons_succ]
                  refine wpAnyH_take (i := 16) (oi := _) (v := ?_) (by rw [List.getElem?_toArray]; rfl) (by kernel_rfl) (by kernel_rfl) (by kernel_rfl) (fun _ _ _ h => by exact h) (Or.inl ⟨by rfl, ?_⟩) (by assumption) ?_
                  rotate_left
                  · (intro w hSw; (try dsimp only at hSw); go_simp; (try with_reducible rfl))
                  try simp only [Act.put, List.setIfInBounds_toArray, List.set_cons_zero, List.set_cons_succ]
                  refine wpAnyH_ready (rs := [17]) (by kernel_rfl) (by simp) ?_
                  refine AllReadyH.cons (o := _) (by rw [List.getElem?_toArray]; rfl) (fun K hK => ?_) ?_
                  · go_simp
                    refine hK.out _ _ ⟨(World.cell?_setCell_other _ _ _ _ (by simp)).trans hHeld.1, (World.cell?_setCell_other _ _ _ _ (by simp)).trans hHeld.2⟩ (fun hHeld => ?_)
                    clear hK K
                    try simp only [Act.put, List.setIfInBounds_toArray, List.set_cons_zero, List.set_cons_succ]
                    refine wpAnyH_take (i := 18) (oi := _) (v := ?_) (by rw [List.getElem?_toArray]; rfl) (by kernel_rfl) (by kernel_rfl) (by kernel_rfl) (fun _ _ _ h => by exact h) (Or.inl ⟨by rfl, ?_⟩) (by assumption) ?_
                    rotate_left
                    · (intro w hSw; (try dsimp only at hSw); go_simp; (try with_reducible rfl))
                    try simp only [Act.put, List.setIfInBounds_toArray, List.set_cons_zero, List.set_cons_succ]
                    refine wpAnyH_ready (rs := [19]) (by kernel_rfl) (by simp) ?_
                    refine AllReadyH.cons (o := _) (by rw [List.getElem?_toArray]; rfl) (fun K hK => ?_) ?_
                    · go_simp
                      refine hK.out _ _ ⟨(World.cell?_setCell_other _ _ _ _ (by simp)).trans hHeld.1, (World.cell?_setCell_other _ _ _ _ (by simp)).trans hHeld.2⟩ (fun hHeld => ?_)
                      clear hK K
                      try simp only [Act.put, List.setIfInBounds_toArray, List.set_cons_zero, List.set_cons_succ]
                      clear k0 k1 k2 k3 k4 k5 k6 kz
                      refine wpAnyH_done (by kernel_rfl) ?_ _
                      obtain ⟨hz, fz⟩ := HBB.out.put4 (.slice none 0 0) (.slice none 0 0) (.slice (some ⟨g, 0, none⟩) 1 gc) (.slice a1 l.length c1)
                      have HE : Hid (Z7 ((((wB.setCell ⟨bx, 3, none⟩ (.slice none 0 0)).setCell ⟨bx, 4, none⟩ (.slice none 0 0)).setCell ⟨bx, 5, none⟩ (.slice (some ⟨g, 0, none⟩) 1 gc)).setCell ⟨bx, 6, none⟩ (.slice a1 l.length c1)) bx (.int .u64 (s : Int)) (.int .u64 (q : Int)) (.int .u64 (e0 : Int)) (.slice none 0 0) (.slice none 0 0) (.slice (some ⟨g, 0, none⟩) 1 gc) (.slice a1 l.length c1)) := hz
                      have FE : Hid (Fr (fun k => k = bx) wB ((((wB.setCell ⟨bx, 3, none⟩ (.slice none 0 0)).setCell ⟨bx, 4, none⟩ (.slice none 0 0)).setCell ⟨bx, 5, none⟩ (.slice (some ⟨g, 0, none⟩) 1 gc)).setCell ⟨bx, 6, none⟩ (.slice a1 l.length c1))) := fz
                      clear hz fz hHeld
                      obtain ⟨WE, HWE⟩ : ∃ WE, Hid ((((wB.setCell ⟨bx, 3, none⟩ (.slice none 0 0)).setCell ⟨bx, 4, none⟩ (.slice none 0 0)).setCell ⟨bx, 5, none⟩ (.slice (some ⟨g, 0, none⟩) 1 gc)).setCell ⟨bx, 6, none⟩ (.slice a1 l.length c1) = WE) := ⟨_, rfl⟩
                      rw [HWE.out] at HE FE ⊢
                      have HRE : Hid (Z7 WE rx (.int .u64 0) (.int .u64 0) (.int .u64 0) (.slice none 0 0) (.slice none 0 0) (.slice none 0 0) (.slice none 0 0)) := HRB.out.fr FE.out (by have := HBX.out; omega)
                      obtain ⟨⟨k0, k1, k2, k3, k4, k5, k6⟩, kz⟩ := HE.out
                      obtain ⟨⟨y0, y1, y2, y3, y4, y5, y6⟩, yz⟩ := HRE.out
                      go_wp2
                      obtain ⟨hq, fq⟩ := HRE.out.put7 (.int .u64 (s : Int)) (.int .u64 (q : Int)) (.int .u64 (e0 : Int)) (.slice none 0 0) (.slice none 0 0) (.slice (some ⟨g, 0, none⟩) 1 gc) (.slice a1 l.length c1)
                      clear k0 k1 k2 k3 k4 k5 k6 kz y0 y1 y2 y3 y4 y5 y6 yz
                      refine bodyPost_ret (v := .agg #[.int .u64 (s : Int), .int .u64 (q : Int), .int .u64 (e0 : Int), .slice none 0 0, .slice none 0 0, .slice (some ⟨g, 0, none⟩) 1 gc, .slice a1 l.length c1]) ?_ rfl ⟨g, gc, a1, c1, rfl, HGB.out.1, fq.cell (FE.out.cell HGB.out.2.2.2 (show ¬ g = bx by have := HGB.out; omega)) (show ¬ g = rx by have := HGB.out; omega), fq.row (FE.out.row HRW.out.1 (fun _ a ha e => by have := HRW.out.2 a ha; have := HSZ.out; omega)) (fun _ a ha e => by have := HRW.out.2 a ha; have := HSZ.out; omega), fun a ha => Nat.le_trans HSZ.out.1 (HRW.out.2 a ha), FB.out.trans' (Fr.trans (Fr.mono (T := fun k => k = bx ∨ k = rx) FE.out (fun _ _ h => .inl h)) (Fr.mono (T := fun k => k = bx ∨ k = rx) fq (fun _ _ h => .inr h))) (fun i hi h => show False by have := HBX.out; rcases h with h | h <;> omega)⟩
                      revert hq
                      generalize (((((((WE.setCell _ _).setCell _ _).setCell _ _).setCell _ _).setCell _ _).setCell _ _).setCell _ _) = WQ
                      intro hq
                      obtain ⟨⟨d0, d1, d2, d3, d4, d5, d6⟩, _⟩ := hq
                      simp [results, Try.results54, go_sem, *]
                    exact AllReadyH.nil
                  exact AllReadyH.nil
                exact AllReadyH.nil
              exact AllReadyH.nil
            exact AllReadyH.nil
          exact AllReadyH.nil
        exact AllReadyH.nil
      exact AllReadyH.nil
    refine AllReadyH.cons (o := _) (by rw [List.getElem?_toArray]; rfl) (fun K hK => ?_) ?_
    · obtain ⟨⟨k0, k1, k2, k3, k4, k5, k6⟩, kz⟩ := HB0.out
      go_simp
      clear k0 k1 k2 k3 k4 k5 k6 kz
      refine hK.out _ _ ⟨HB0.out.c3, HB0.out.c4⟩ (fun hHeld => ?_)
      clear hK K
      try simp only [Act.put, List.setIfInBounds_toArray, List.set_cons_zero, List.set_cons_succ]
      refine wpAnyH_ready (rs := [2]) (by kernel_rfl) (by simp) ?_
      refine AllReadyH.cons (o := _) (by rw [List.getElem?_toArray]; rfl) (fun K hK => ?_) ?_
      · go_simp
        go_wp2_with (go_at_call 90; refine (cloneF_nil _ 0 0).mono ?_; rintro e w5 ⟨rfl, rfl⟩)
        refine hK.out _ _ ⟨HB0.out.c3, HB0.out.c4⟩ (fun hHeld => ?_)
        clear hK K
        try simp only [Act.put, List.setIfInBounds_toArray, List.set_cons_zero, List.set_cons_succ]
        refine wpAnyH_take (i := 12) (oi := _) (v := ?_) (by rw [List.getElem?_toArray]; rfl) (by kernel_rfl) (by kernel_rfl) (by kernel_rfl) (fun _ _ _ h => by exact h) (Or.inl ⟨by rfl, ?_⟩) (by assumption) ?_
        rotate_left
        · (intro w hSw; (try dsimp only at hSw); go_simp; (try with_reducible rfl))
        try simp only [Act.put, List.setIfInBounds_toArray, List.set_cons_zero, List.set_cons_succ]
        refine wpAnyH_ready (rs := [5]) (by kernel_rfl) (by simp) ?_
        refine AllReadyH.cons (o := _) (by rw [List.getElem?_toArray]; rfl) (fun K hK => ?_) ?_
        · go_simp
          go_wp2_with (go_at_call 91; refine (cloneG_nil _ 0 0).mono ?_; rintro e w5 ⟨rfl, rfl⟩)
          refine hK.out _ _ ⟨HB0.out.c3, HB0.out.c4⟩ (fun hHeld => ?_)
          clear hK K
          try simp only [Act.put, List.setIfInBounds_toArray, List.set_cons_zero, List.set_cons_succ]
          refine wpAnyH_ready (rs := [8]) (by kernel_rfl) (by simp) ?_
          refine AllReadyH.cons (o := _) (by rw [List.getElem?_toArray]; rfl) (fun K hK => ?_) ?_
          · go_simp
            go_wp2_with (go_at_call 90; refine (KF.out _ HF0.out).mono ?_; rintro e wA ⟨g, gc, rfl, hgb, hgc, fA⟩)
            have FA : Hid (Fr (fun _ => False) w wA) := HF0.out.trans fA
            have HBA : Hid (Z7 wA bx (.int .u64 (s : Int)) (.int .u64 (q : Int)) (.int .u64 (e0 : Int)) (.slice none 0 0) (.slice none 0 0) (.slice (some ⟨p, 0, none⟩) 1 pc) (.slice da l.length dc)) := HB0.out.fr fA (by simp)
            have HRA : Hid (Z7 wA rx (.int .u64 0) (.int .u64 0) (.int .u64 0) (.slice none 0 0) (.slice none 0 0) (.slice none 0 0) (.slice none 0 0)) := HR0.out.fr fA (by simp)
            have HG : Hid (w.heap.size ≤ g ∧ bx < g ∧ rx < g ∧ wA.cell? ⟨g, 0, none⟩ = some (.float .f64 x)) := ⟨Nat.le_trans HF0.out.size hgb, Nat.lt_of_lt_of_le HB0.out.lt hgb, Nat.lt_of_lt_of_le HR0.out.lt hgb, hgc⟩
            clear fA hgb hgc
            refine hK.out _ _ ⟨HBA.out.c3, HBA.out.c4⟩ (fun hHeld => ?_)
            clear hK K
            try simp only [Act.put, List.setIfInBounds_toArray, List.set_cons_zero, List.set_cons_succ]
            refine wpAnyH_ready (rs := [11]) (by kernel_rfl) (by simp) ?_
            refine AllReadyH.cons (o := _) (by rw [List.getElem?_toArray]; rfl) (fun K hK => ?_) ?_
            · go_simp
              go_wp2_with (go_at_call 92; refine (KB.out _ FA.out).mono ?_; rintro e wB ⟨a1, c1, rfl, hrb, hfb, fB⟩)
              have FB : Hid (Fr (fun _ => False) w wB) := FA.out.trans fB
              have HBB : Hid (Z7 wB bx (.int .u64 (s : Int)) (.int .u64 (q : Int)) (.int .u64 (e0 : Int)) (.slice none 0 0) (.slice none 0 0) (.slice (some ⟨p, 0, none⟩) 1 pc) (.slice da l.length dc)) := HBA.out.fr fB (by simp)
              have HRB : Hid (Z7 wB rx (.int .u64 0) (.int .u64 0) (.int .u64 0) (.slice none 0 0) (.slice none 0 0) (.slice none 0 0) (.slice none 0 0)) := HRA.out.fr fB (by simp)
              have HGB : Hid (w.heap.size ≤ g ∧ bx < g ∧ rx < g ∧ wB.cell? ⟨g, 0, none⟩ = some (.float .f64 x)) := ⟨HG.out.1, HG.out.2.1, HG.out.2.2.1, fB.cell HG.out.2.2.2 (by simp)⟩
              have HRW : Hid (Row wB a1 l c1 ∧ ∀ a, a1 = some a → wA.heap.size ≤ a.block) := ⟨hrb, hfb⟩
              have HSZ : Hid (w.heap.size ≤ wA.heap.size ∧ bx < wA.heap.size ∧ rx < wA.heap.size) := ⟨FA.out.size, HBA.out.lt, HRA.out.lt⟩
              clear fB hrb hfb
              refine hK.out _ _ ⟨HBB.out.c3, HBB.out.c4⟩ (fun hHeld => ?_)
              clear hK K
              try simp only [Act.put, List.setIfInBounds_toArray, List.set_cons_zero, List.set_cons_succ]
              obtain ⟨⟨k0, k1, k2, k3, k4, k5, k6⟩, kz⟩ := HBB.out
              refine wpAnyH_ready (rs := [13]) (by kernel_rfl) (by simp) ?_
              refine AllReadyH.cons (o := _) (by rw [List.getElem?_toArray]; rfl) (fun K hK => ?_) ?_
              · go_simp
                refine hK.out _ _ ⟨World.cell?_setCell_same _ _ _ hHeld.1, (World.cell?_setCell_other _ _ _ _ (by simp)).trans hHeld.2⟩ (fun hHeld => ?_)
                clear hK K
                try simp only [Act.put, List.setIfInBounds_toArray, List.set_cons_zero, List.set_cons_succ]
                refine wpAnyH_take (i := 14) (oi := _) (v := ?_) (by rw [List.getElem?_toArray]; rfl) (by kernel_rfl) (by kernel_rfl) (by kernel_rfl) (fun _ _ _ h => by exact h) (Or.inl ⟨by rfl, ?_⟩) (by assumption) ?_
                rotate_left
                · (intro w hSw; (try dsimp only at hSw); go_simp; (try with_reducible rfl))
                try simp only [Act.put, List.setIfInBounds_toArray, List.set_cons_zero, List.set_cons_succ]
                refine wpAnyH_ready (rs := [15]) (by kernel_rfl) (by simp) ?_
                refine AllReadyH.cons (o := _) (by rw [List.getElem?_toArray]; rfl) (fun K hK => ?_) ?_
                · go_simp
                  refine hK.out _ _ ⟨(World.cell?_setCell_other _ _ _ _ (by simp)).trans hHeld.1, World.cell?_setCell_same _ _ _ hHeld.2⟩ (fun hHeld => ?_)
                  clear hK K
                  try simp only [Act.put, List.setIfInBounds_toArray, List.set_cons_zero, List.set_cons_succ]
                  refine wpAnyH_take (i := 16) (oi := _) (v := ?_) (by rw [List.getElem?_toArray]; rfl) (by kernel_rfl) (by kernel_rfl) (by kernel_rfl) (fun _ _ _ h => by exact h) (Or.inl ⟨by rfl, ?_⟩) (by assumption) ?_
                  rotate_left
                  · (intro w hSw; (try dsimp only at hSw); go_simp; (try with_reducible rfl))
                  try simp only [Act.put, List.setIfInBounds_toArray, List.set_cons_zero, List.set_cons_succ]
                  refine wpAnyH_ready (rs := [17]) (by kernel_rfl) (by simp) ?_
                  refine AllReadyH.cons (o := _) (by rw [List.getElem?_toArray]; rfl) (fun K hK => ?_) ?_
                  · go_simp
                    refine hK.out _ _ ⟨(World.cell?_setCell_other _ _ _ _ (by simp)).trans hHeld.1, (World.cell?_setCell_other _ _ _ _ (by simp)).trans hHeld.2⟩ (fun hHeld => ?_)
                    clear hK K
                    try simp only [Act.put, List.setIfInBounds_toArray, List.set_cons_zero, List.set_cons_succ]
                    refine wpAnyH_take (i := 18) (oi := _) (v := ?_) (by rw [List.getElem?_toArray]; rfl) (by kernel_rfl) (by kernel_rfl) (by kernel_rfl) (fun _ _ _ h => by exact h) (Or.inl ⟨by rfl, ?_⟩) (by assumption) ?_
                    rotate_left
                    · (intro w hSw; (try dsimp only at hSw); go_simp; (try with_reducible rfl))
                    try simp only [Act.put, List.setIfInBounds_toArray, List.set_cons_zero, List.set_cons_succ]
                    refine wpAnyH_ready (rs := [19]) (by kernel_rfl) (by simp) ?_
                    refine AllReadyH.cons (o := _) (by rw [List.getElem?_toArray]; rfl) (fun K hK => ?_) ?_
                    · go_simp
                      refine hK.out _ _ ⟨(World.cell?_setCell_other _ _ _ _ (by simp)).trans hHeld.1, (World.cell?_setCell_other _ _ _ _ (by simp)).trans hHeld.2⟩ (fun hHeld => ?_)
                      clear hK K
                      try simp only [Act.put, List.setIfInBounds_toArray, List.set_cons_zero, List.set_cons_succ]
                      clear k0 k1 k2 k3 k4 k5 k6 kz
                      refine wpAnyH_done (by kernel_rfl) ?_ _
                      obtain ⟨hz, fz⟩ := HBB.out.put4 (.slice none 0 0) (.slice none 0 0) (.slice (some ⟨g, 0, none⟩) 1 gc) (.slice a1 l.length c1)
                      have HE : Hid (Z7 ((((wB.setCell ⟨bx, 3, none⟩ (.slice none 0 0)).setCell ⟨bx, 4, none⟩ (.slice none 0 0)).setCell ⟨bx, 5, none⟩ (.slice (some ⟨g, 0, none⟩) 1 gc)).setCell ⟨bx, 6, none⟩ (.slice a1 l.length c1)) bx (.int .u64 (s : Int)) (.int .u64 (q : Int)) (.int .u64 (e0 : Int)) (.slice none 0 0) (.slice none 0 0) (.slice (some ⟨g, 0, none⟩) 1 gc) (.slice a1 l.length c1)) := hz
                      have FE : Hid (Fr (fun k => k = bx) wB ((((wB.setCell ⟨bx, 3, none⟩ (.slice none 0 0)).setCell ⟨bx, 4, none⟩ (.slice none 0 0)).setCell ⟨bx, 5, none⟩ (.slice (some ⟨g, 0, none⟩) 1 gc)).setCell ⟨bx, 6, none⟩ (.slice a1 l.length c1))) := fz
                      clear hz fz hHeld
                      obtain ⟨WE, HWE⟩ : ∃ WE, Hid ((((wB.setCell ⟨bx, 3, none⟩ (.slice none 0 0)).setCell ⟨bx, 4, none⟩ (.slice none 0 0)).setCell ⟨bx, 5, none⟩ (.slice (some ⟨g, 0, none⟩) 1 gc)).setCell ⟨bx, 6, none⟩ (.slice a1 l.length c1) = WE) := ⟨_, rfl⟩
                      rw [HWE.out] at HE FE ⊢
                      have HRE : Hid (Z7 WE rx (.int .u64 0) (.int .u64 0) (.int .u64 0) (.slice none 0 0) (.slice none 0 0) (.slice none 0 0) (.slice none 0 0)) := HRB.out.fr FE.out (by have := HBX.out; omega)
                      obtain ⟨⟨k0, k1, k2, k3, k4, k5, k6⟩, kz⟩ := HE.out
                      obtain ⟨⟨y0, y1, y2, y3, y4, y5, y6⟩, yz⟩ := HRE.out
                      go_wp2
                      obtain ⟨hq, fq⟩ := HRE.out.put7 (.int .u64 (s : Int)) (.int .u64 (q : Int)) (.int .u64 (e0 : Int)) (.slice none 0 0) (.slice none 0 0) (.slice (some ⟨g, 0, none⟩) 1 gc) (.slice a1 l.length c1)
                      clear k0 k1 k2 k3 k4 k5 k6 kz y0 y1 y2 y3 y4 y5 y6 yz
                      refine bodyPost_ret (v := .agg #[.int .u64 (s : Int), .int .u64 (q : Int), .int .u64 (e0 : Int), .slice none 0 0, .slice none 0 0, .slice (some ⟨g, 0, none⟩) 1 gc, .slice a1 l.length c1]) ?_ rfl ⟨g, gc, a1, c1, rfl, HGB.out.1, fq.cell (FE.out.cell HGB.out.2.2.2 (show ¬ g = bx by have := HGB.out; omega)) (show ¬ g = rx by have := HGB.out; omega), fq.row (FE.out.row HRW.out.1 (fun _ a ha e => by have := HRW.out.2 a ha; have := HSZ.out; omega)) (fun _ a ha e => by have := HRW.out.2 a ha; have := HSZ.out; omega), fun a ha => Nat.le_trans HSZ.out.1 (HRW.out.2 a ha), FB.out.trans' (Fr.trans (Fr.mono (T := fun k => k = bx ∨ k = rx) FE.out (fun _ _ h => .inl h)) (Fr.mono (T := fun k => k = bx ∨ k = rx) fq (fun _ _ h => .inr h))) (fun i hi h => show False by have := HBX.out; rcases h with h | h <;> omega)⟩
                      revert hq
                      generalize (((((((WE.setCell _ _).setCell _ _).setCell _ _).setCell _ _).setCell _ _).setCell _ _).setCell _ _) = WQ
                      intro hq
                      obtain ⟨⟨d0, d1, d2, d3, d4, d5, d6⟩, _⟩ := hq
                      simp [results, Try.results54, go_sem, *]
                    exact AllReadyH.nil
                  exact AllReadyH.nil
                exact AllReadyH.nil
              exact AllReadyH.nil
            exact AllReadyH.nil
          exact AllReadyH.nil
        exact AllReadyH.nil
      exact AllReadyH.nil
    exact AllReadyH.nil
  exact AllReadyH.nil
end Go.Proofs.Ytaalkhipncbjpaa
