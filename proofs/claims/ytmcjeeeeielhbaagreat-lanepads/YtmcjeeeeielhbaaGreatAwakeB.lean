/- The law's awake: what it calls. -/
import Derived.Test.YtmcjeeeeielhbaaGreatAwake
namespace Go.Proofs.YtmcjeeeeielhbaaGreat
open Go.RowKit
structure Z8 (w : World) (g : Nat) (v0 v1 v2 v3 v4 v5 v6 v7 : Value) : Prop where
  c0 : w.cell? ⟨g, 0, none⟩ = some v0
  c1 : w.cell? ⟨g, 1, none⟩ = some v1
  c2 : w.cell? ⟨g, 2, none⟩ = some v2
  c3 : w.cell? ⟨g, 3, none⟩ = some v3
  c4 : w.cell? ⟨g, 4, none⟩ = some v4
  c5 : w.cell? ⟨g, 5, none⟩ = some v5
  c6 : w.cell? ⟨g, 6, none⟩ = some v6
  c7 : w.cell? ⟨g, 7, none⟩ = some v7
  z : ∀ j, w.frozen? ⟨g, j, none⟩ = false
section
variable {w w1 : World} {g : Nat} {v0 v1 v2 v3 v4 v5 v6 v7 : Value} {S : Nat → Prop}
theorem Z8.lt (h : Z8 w g v0 v1 v2 v3 v4 v5 v6 v7) : g < w.heap.size := World.block_lt_of_cell? _ _ h.c0
theorem Z8.fr (h : Z8 w g v0 v1 v2 v3 v4 v5 v6 v7) (f : Fr S w w1) (hs : ¬ S g) : Z8 w1 g v0 v1 v2 v3 v4 v5 v6 v7 :=
  ⟨f.cell h.c0 hs, f.cell h.c1 hs, f.cell h.c2 hs, f.cell h.c3 hs, f.cell h.c4 hs, f.cell h.c5 hs, f.cell h.c6 hs, f.cell h.c7 hs, fun j => (f.frozenEq (a := ⟨g, j, none⟩) h.lt hs).trans (h.z j)⟩
theorem Z8.new (w : World) (t : TypeId) (v0 v1 v2 v3 v4 v5 v6 v7 : Value) : Z8 (w.alloc (.cells #[v0, v1, v2, v3, v4, v5, v6, v7] t)) w.heap.size v0 v1 v2 v3 v4 v5 v6 v7 := by constructor <;> simp
theorem Z8.put (h : Z8 w g v0 v1 v2 v3 v4 v5 v6 v7) (u0 u1 u2 u3 u4 u5 u6 u7 : Value) : Z8 ((((((((w.setCell ⟨g, 0, none⟩ u0).setCell ⟨g, 1, none⟩ u1).setCell ⟨g, 2, none⟩ u2).setCell ⟨g, 3, none⟩ u3).setCell ⟨g, 4, none⟩ u4).setCell ⟨g, 5, none⟩ u5).setCell ⟨g, 6, none⟩ u6).setCell ⟨g, 7, none⟩ u7) g u0 u1 u2 u3 u4 u5 u6 u7 ∧ Fr (fun k => k = g) w ((((((((w.setCell ⟨g, 0, none⟩ u0).setCell ⟨g, 1, none⟩ u1).setCell ⟨g, 2, none⟩ u2).setCell ⟨g, 3, none⟩ u3).setCell ⟨g, 4, none⟩ u4).setCell ⟨g, 5, none⟩ u5).setCell ⟨g, 6, none⟩ u6).setCell ⟨g, 7, none⟩ u7) := by
  obtain ⟨h0, h1, h2, h3, h4, h5, h6, h7, hz⟩ := h
  refine ⟨⟨?_, ?_, ?_, ?_, ?_, ?_, ?_, ?_, fun j => by simpa using hz j⟩, (((((((((Fr.refl (fun k => k = g) w).setCell (p := ⟨g, 0, none⟩) (Or.inl rfl) _).setCell (p := ⟨g, 1, none⟩) (Or.inl rfl) _).setCell (p := ⟨g, 2, none⟩) (Or.inl rfl) _).setCell (p := ⟨g, 3, none⟩) (Or.inl rfl) _).setCell (p := ⟨g, 4, none⟩) (Or.inl rfl) _).setCell (p := ⟨g, 5, none⟩) (Or.inl rfl) _).setCell (p := ⟨g, 6, none⟩) (Or.inl rfl) _).setCell (p := ⟨g, 7, none⟩) (Or.inl rfl) _)⟩
  all_goals simp [World.cell?_setCell_same', World.cell?_setCell_other, *]
end
structure Z3 (w : World) (g : Nat) (v0 v1 v2 : Value) : Prop where
  c0 : w.cell? ⟨g, 0, none⟩ = some v0
  c1 : w.cell? ⟨g, 1, none⟩ = some v1
  c2 : w.cell? ⟨g, 2, none⟩ = some v2
  z : ∀ j, w.frozen? ⟨g, j, none⟩ = false
section
variable {w w1 : World} {g : Nat} {v0 v1 v2 : Value} {S : Nat → Prop}
theorem Z3.lt (h : Z3 w g v0 v1 v2) : g < w.heap.size := World.block_lt_of_cell? _ _ h.c0
theorem Z3.fr (h : Z3 w g v0 v1 v2) (f : Fr S w w1) (hs : ¬ S g) : Z3 w1 g v0 v1 v2 :=
  ⟨f.cell h.c0 hs, f.cell h.c1 hs, f.cell h.c2 hs, fun j => (f.frozenEq (a := ⟨g, j, none⟩) h.lt hs).trans (h.z j)⟩
theorem Z3.new (w : World) (t : TypeId) (v0 v1 v2 : Value) : Z3 (w.alloc (.cells #[v0, v1, v2] t)) w.heap.size v0 v1 v2 := by constructor <;> simp
theorem Z3.put (h : Z3 w g v0 v1 v2) (u0 u1 u2 : Value) : Z3 (((w.setCell ⟨g, 0, none⟩ u0).setCell ⟨g, 1, none⟩ u1).setCell ⟨g, 2, none⟩ u2) g u0 u1 u2 ∧ Fr (fun k => k = g) w (((w.setCell ⟨g, 0, none⟩ u0).setCell ⟨g, 1, none⟩ u1).setCell ⟨g, 2, none⟩ u2) := by
  obtain ⟨h0, h1, h2, hz⟩ := h
  refine ⟨⟨?_, ?_, ?_, fun j => by simpa using hz j⟩, ((((Fr.refl (fun k => k = g) w).setCell (p := ⟨g, 0, none⟩) (Or.inl rfl) _).setCell (p := ⟨g, 1, none⟩) (Or.inl rfl) _).setCell (p := ⟨g, 2, none⟩) (Or.inl rfl) _)⟩
  all_goals simp [World.cell?_setCell_same', World.cell?_setCell_other, *]
end
set_option maxRecDepth 100000 in
theorem index_nil (fv : Value) (w : World) : Calls Tryz.prog 106 #[.slice none 0 0, fv] w fun e w' => e = .returned (.int .i64 (-1)) ∧ w' = w := by
  go_enter Tryz.func106, Tryz.ntmps106
  go_wp2
  go_loopw [8] (fun iv wr => iv = .int .i64 0 ∧ wr = w) (fun _ _ => 0)
  case atStart => exact ⟨rfl, rfl⟩
  case round =>
    obtain ⟨rfl, rfl⟩ := hrel
    go_wp2
    go_ret
    exact ⟨rfl, rfl⟩
set_option maxRecDepth 100000 in
theorem contains_nil (fv : Value) (w : World) : Calls Tryz.prog 67 #[.slice none 0 0, fv] w fun e w' => e = .returned (.bool false) ∧ w' = w := by
  go_enter Tryz.func67, Tryz.ntmps67
  go_wp2_with fail
  refine (index_nil fv w).mono ?_
  rintro e w1 ⟨rfl, rfl⟩
  go_wp2
  go_ret
  exact ⟨rfl, rfl⟩
set_option maxRecDepth 100000 in
theorem until_nil (sb tb mb : Nat) (ep : Int) (e : Int) (w : World) (h : Nw w sb tb mb ep) : Calls Tryz.prog 40 #[.pointer (some ⟨tb, 0, none⟩), .int .u64 e] w fun e' w' => e' = .returned (.bool false) ∧ Fr (fun _ => False) w w' := by
  have f0 : Fr (fun _ => False) w (w.alloc (.cells #[.int .u64 e] 33)) := (Fr.refl _ w).alloc _
  have F0 : Hid (Fr (fun _ => False) w (w.alloc (.cells #[.int .u64 e] 33))) := f0
  have t0 := f0.cell h.t0 (by simp)
  clear f0 h
  go_enter Tryz.func40, Tryz.ntmps40
  go_wp2_with fail
  refine (contains_nil _ _).mono ?_
  rintro e' w1 ⟨rfl, rfl⟩
  go_wp2
  go_ret
  exact ⟨rfl, F0.out⟩
set_option maxRecDepth 100000 in
set_option maxHeartbeats 2000000 in
theorem may_any (sb tb mb : Nat) (w : World) (h : Nw w sb tb mb 1) : Calls Tryz.prog 24 #[.pointer (some ⟨sb, 0, none⟩)] w fun e w' => e = .returned (.bool true) ∧ Fr (fun _ => False) w w' := by
  go_enter Tryz.func24, Tryz.ntmps24
  go_wp2_with fail
  refine wp_region_held_drew (S := (fun W : World => Nw W sb tb mb 1)) (by kernel_rfl) (h.fr ((Fr.refl (fun _ => False) w).drew) (by simp) (by simp) (by simp)) (fun hHeld => ?_)
  refine wpAnyH_take (i := 0) (oi := _) (v := ?_) (by rw [List.getElem?_toArray]; rfl) (by kernel_rfl) (by kernel_rfl) (by kernel_rfl) (fun _ _ _ h => by exact h) (Or.inl ⟨by rfl, ?_⟩) (by assumption) ?_
  rotate_left
  · (intro w hSw; (try dsimp only at hSw); obtain ⟨k0, kz, k2, k8, kt, km, ne1, ne2⟩ := hSw; go_simp; (try with_reducible rfl))
  try simp only [Act.put, List.setIfInBounds_toArray, List.set_cons_zero, List.set_cons_succ]
  refine wpAnyH_take (i := 1) (oi := _) (v := ?_) (by rw [List.getElem?_toArray]; rfl) (by kernel_rfl) (by kernel_rfl) (by kernel_rfl) (fun _ _ _ h => by exact h) (Or.inl ⟨by rfl, ?_⟩) (by assumption) ?_
  rotate_left
  · (intro w hSw; (try dsimp only at hSw); obtain ⟨k0, kz, k2, k8, kt, km, ne1, ne2⟩ := hSw; go_simp; (try with_reducible rfl))
  try simp only [Act.put, List.setIfInBounds_toArray, List.set_cons_zero, List.set_cons_succ]
  refine wpAnyH_take (i := 2) (oi := _) (v := ?_) (by rw [List.getElem?_toArray]; rfl) (by kernel_rfl) (by kernel_rfl) (by kernel_rfl) (fun _ _ _ h => by exact h) (Or.inl ⟨by rfl, ?_⟩) (by assumption) ?_
  rotate_left
  · (intro w hSw; (try dsimp only at hSw); obtain ⟨k0, kz, k2, k8, kt, km, ne1, ne2⟩ := hSw; go_simp; (try with_reducible rfl))
  try simp only [Act.put, List.setIfInBounds_toArray, List.set_cons_zero, List.set_cons_succ]
  refine wpAnyH_take (i := 3) (oi := _) (v := ?_) (by rw [List.getElem?_toArray]; rfl) (by kernel_rfl) (by kernel_rfl) (by kernel_rfl) (fun _ _ _ h => by exact h) (Or.inl ⟨by rfl, ?_⟩) (by assumption) ?_
  rotate_left
  · (intro w hSw; (try dsimp only at hSw); obtain ⟨k0, kz, k2, k8, kt, km, ne1, ne2⟩ := hSw; go_simp; (try with_reducible rfl))
  try simp only [Act.put, List.setIfInBounds_toArray, List.set_cons_zero, List.set_cons_succ]
  refine wpAnyH_take (i := 4) (oi := _) (v := ?_) (by rw [List.getElem?_toArray]; rfl) (by kernel_rfl) (by kernel_rfl) (by kernel_rfl) (fun _ _ _ h => by exact h) (Or.inl ⟨by rfl, ?_⟩) (by assumption) ?_
  rotate_left
  · (intro w hSw; (try dsimp only at hSw); obtain ⟨k0, kz, k2, k8, kt, km, ne1, ne2⟩ := hSw; go_simp; (try with_reducible rfl))
  try simp only [Act.put, List.setIfInBounds_toArray, List.set_cons_zero, List.set_cons_succ]
  refine wpAnyH_take (i := 5) (oi := _) (v := ?_) (by rw [List.getElem?_toArray]; rfl) (by kernel_rfl) (by kernel_rfl) (by kernel_rfl) (fun _ _ _ h => by exact h) (Or.inl ⟨by rfl, ?_⟩) (by assumption) ?_
  rotate_left
  · (intro w hSw; (try dsimp only at hSw); obtain ⟨k0, kz, k2, k8, kt, km, ne1, ne2⟩ := hSw; go_simp; (try with_reducible rfl))
  try simp only [Act.put, List.setIfInBounds_toArray, List.set_cons_zero, List.set_cons_succ]
  refine wpAnyH_take (i := 6) (oi := _) (v := ?_) (by rw [List.getElem?_toArray]; rfl) (by kernel_rfl) (by kernel_rfl) (by kernel_rfl) (fun _ _ _ h => by exact h) (Or.inl ⟨by rfl, ?_⟩) (by assumption) ?_
  rotate_left
  · (intro w hSw; (try dsimp only at hSw); obtain ⟨k0, kz, k2, k8, kt, km, ne1, ne2⟩ := hSw; go_simp; (try with_reducible rfl))
  try simp only [Act.put, List.setIfInBounds_toArray, List.set_cons_zero, List.set_cons_succ]
  refine wpAnyH_take (i := 7) (oi := _) (v := ?_) (by rw [List.getElem?_toArray]; rfl) (by kernel_rfl) (by kernel_rfl) (by kernel_rfl) (fun _ _ _ h => by exact h) (Or.inl ⟨by rfl, ?_⟩) (by assumption) ?_
  rotate_left
  · (intro w hSw; (try dsimp only at hSw); obtain ⟨k0, kz, k2, k8, kt, km, ne1, ne2⟩ := hSw; go_simp; (try with_reducible rfl))
  try simp only [Act.put, List.setIfInBounds_toArray, List.set_cons_zero, List.set_cons_succ]
  refine wpAnyH_take (i := 8) (oi := _) (v := ?_) (by rw [List.getElem?_toArray]; rfl) (by kernel_rfl) (by kernel_rfl) (by kernel_rfl) (fun _ _ _ h => by exact h) (Or.inl ⟨by rfl, ?_⟩) (by assumption) ?_
  rotate_left
  · (intro w hSw; (try dsimp only at hSw); obtain ⟨k0, kz, k2, k8, kt, km, ne1, ne2⟩ := hSw; go_simp; (try with_reducible rfl))
  try simp only [Act.put, List.setIfInBounds_toArray, List.set_cons_zero, List.set_cons_succ]
  refine wpAnyH_take (i := 9) (oi := _) (v := ?_) (by rw [List.getElem?_toArray]; rfl) (by kernel_rfl) (by kernel_rfl) (by kernel_rfl) (fun _ _ _ h => by exact h) (Or.inl ⟨by rfl, ?_⟩) (by assumption) ?_
  rotate_left
  · (intro w hSw; (try dsimp only at hSw); obtain ⟨k0, kz, k2, k8, kt, km, ne1, ne2⟩ := hSw; go_simp; (try with_reducible rfl))
  try simp only [Act.put, List.setIfInBounds_toArray, List.set_cons_zero, List.set_cons_succ]
  refine wpAnyH_take (i := 10) (oi := _) (v := ?_) (by rw [List.getElem?_toArray]; rfl) (by kernel_rfl) (by kernel_rfl) (by kernel_rfl) (fun _ _ _ h => by exact h) (Or.inl ⟨by rfl, ?_⟩) (by assumption) ?_
  rotate_left
  · (intro w hSw; (try dsimp only at hSw); obtain ⟨k0, kz, k2, k8, kt, km, ne1, ne2⟩ := hSw; go_simp; (try with_reducible rfl))
  try simp only [Act.put, List.setIfInBounds_toArray, List.set_cons_zero, List.set_cons_succ]
  refine wpAnyH_ready (rs := [11]) (by kernel_rfl) (by simp) ?_
  refine AllReadyH.cons (o := _) (by rw [List.getElem?_toArray]; rfl) (fun K hK => ?_) ?_
  · go_simp
    go_wp2_with (go_at_call 40; refine (until_nil sb tb mb 1 1 _ (h.fr ((Fr.refl (fun _ => False) w).drew) (by simp) (by simp) (by simp))).mono ?_; rintro e w5 ⟨rfl, f5⟩)
    refine hK.out _ _ (h.fr (((Fr.refl (fun _ => False) w).drew).trans f5) (by simp) (by simp) (by simp)) (fun hHeld => ?_)
    clear hK K
    try simp only [Act.put, List.setIfInBounds_toArray, List.set_cons_zero, List.set_cons_succ]
    refine wpAnyH_take (i := 12) (oi := _) (v := ?_) (by rw [List.getElem?_toArray]; rfl) (by kernel_rfl) (by kernel_rfl) (by kernel_rfl) (fun _ _ _ h => by exact h) (Or.inl ⟨by rfl, ?_⟩) (by assumption) ?_
    rotate_left
    · (intro w hSw; (try dsimp only at hSw); obtain ⟨k0, kz, k2, k8, kt, km, ne1, ne2⟩ := hSw; go_simp; (try with_reducible rfl))
    try simp only [Act.put, List.setIfInBounds_toArray, List.set_cons_zero, List.set_cons_succ]
    refine wpAnyH_take (i := 13) (oi := _) (v := ?_) (by rw [List.getElem?_toArray]; rfl) (by kernel_rfl) (by kernel_rfl) (by kernel_rfl) (fun _ _ _ h => by exact h) (Or.inl ⟨by rfl, ?_⟩) (by assumption) ?_
    rotate_left
    · (intro w hSw; (try dsimp only at hSw); obtain ⟨k0, kz, k2, k8, kt, km, ne1, ne2⟩ := hSw; go_simp; (try with_reducible rfl))
    try simp only [Act.put, List.setIfInBounds_toArray, List.set_cons_zero, List.set_cons_succ]
    refine wpAnyH_take (i := 14) (oi := _) (v := ?_) (by rw [List.getElem?_toArray]; rfl) (by kernel_rfl) (by kernel_rfl) (by kernel_rfl) (fun _ _ _ h => by exact h) (Or.inl ⟨by rfl, ?_⟩) (by assumption) ?_
    rotate_left
    · (intro w hSw; (try dsimp only at hSw); obtain ⟨k0, kz, k2, k8, kt, km, ne1, ne2⟩ := hSw; go_simp; (try with_reducible rfl))
    try simp only [Act.put, List.setIfInBounds_toArray, List.set_cons_zero, List.set_cons_succ]
    refine wpAnyH_done (by kernel_rfl) ?_ _
    go_wp2
    go_ret
    exact ⟨rfl, ((Fr.refl (fun _ => False) w).drew).trans f5⟩
  exact AllReadyH.nil

set_option maxRecDepth 100000 in
set_option maxHeartbeats 4000000 in
theorem close_any (sb tb mb : Nat) (w : World) (h : Nw w sb tb mb 1) : Calls Tryz.prog 16 #[.pointer (some ⟨sb, 0, none⟩), .int .u64 1] w fun e w' => e = .returned (.agg #[.int .u8 1, .int .u64 0, .int .u64 0, .int .i64 0, .int .u64 0, .int .u64 0, .slice none 0 0, .slice none 0 0]) ∧ w'.cell? ⟨sb, 0, none⟩ = some (.int .u64 2) ∧ Fr (fun k => k = sb) w w' := by
  have H : Hid (Nw w sb tb mb 1) := h
  obtain ⟨W, HW⟩ : ∃ W, Hid (W = w.alloc (.cells #[.int .u8 0, .int .u64 0, .int .u64 0, .int .i64 0, .int .u64 0, .int .u64 0, .slice none 0 0, .slice none 0 0] 42)) := ⟨_, rfl⟩
  have F0 : Hid (Fr (fun _ => False) w W) := (show Fr _ _ _ by rw [HW.out]; exact (Fr.refl _ w).alloc _)
  have H0 : Hid (Nw W sb tb mb 1) := h.fr F0.out (by simp) (by simp) (by simp)
  have HB0 : Hid (Z8 W w.heap.size (.int .u8 0) (.int .u64 0) (.int .u64 0) (.int .i64 0) (.int .u64 0) (.int .u64 0) (.slice none 0 0) (.slice none 0 0)) := (show Z8 _ _ _ _ _ _ _ _ _ _ by rw [HW.out]; exact Z8.new w 42 _ _ _ _ _ _ _ _)
  have HL : Hid (sb < w.heap.size ∧ tb < w.heap.size ∧ mb < w.heap.size) := h.lt
  obtain ⟨k0, kz, k2, k8, kt, km, ne1, ne2⟩ := H0.out
  rw [HW.out] at k0 kz k2 k8 kt km
  clear h
  go_enter Tryz.func16, Tryz.ntmps16
  go_wp2_with fail
  rw [← HW.out]
  refine (may_any sb tb mb W H0.out).mono ?_
  rintro e w1 ⟨rfl, f1⟩
  have H1 : Hid (Nw w1 sb tb mb 1) := H0.out.fr f1 (by simp) (by simp) (by simp)
  have HB1 : Hid (Z8 w1 w.heap.size (.int .u8 0) (.int .u64 0) (.int .u64 0) (.int .i64 0) (.int .u64 0) (.int .u64 0) (.slice none 0 0) (.slice none 0 0)) := HB0.out.fr f1 (by simp)
  have F1 : Hid (Fr (fun _ => False) w w1) := F0.out.trans f1
  obtain ⟨rb, Hrb⟩ : ∃ rb, Hid (w.heap.size = rb) := ⟨_, rfl⟩
  rw [Hrb.out] at HB1
  rw [Hrb.out]
  obtain ⟨W2, HW2⟩ : ∃ W, Hid (W = w1.setCell ⟨sb, 0, none⟩ (.int .u64 2)) := ⟨_, rfl⟩
  have F2 : Hid (Fr (fun k => k = sb) w1 W2) := (show Fr _ _ _ by rw [HW2.out]; exact (Fr.refl (fun k => k = sb) w1).setCell (p := ⟨sb, 0, none⟩) (Or.inl rfl) _)
  have n0 : Hid (W2.cell? ⟨sb, 0, none⟩ = some (.int .u64 2)) := (show _ = _ by rw [HW2.out]; exact World.cell?_setCell_same _ _ _ H1.out.c0)
  have n8 : Hid (W2.cell? ⟨sb, 8, none⟩ = some (.map (some mb))) := (show _ = _ by rw [HW2.out]; exact (World.cell?_setCell_other _ _ _ _ (by simp)).trans H1.out.c8)
  have HB : Hid (Z8 W2 rb (.int .u8 0) (.int .u64 0) (.int .u64 0) (.int .i64 0) (.int .u64 0) (.int .u64 0) (.slice none 0 0) (.slice none 0 0)) := HB1.out.fr F2.out (by have := HL.out; have := Hrb.out; omega)
  have hc0 := run_clear_none W2 0 mb 0 ((F2.out.block mb H1.out.lt.2.2 H1.out.ne2).trans H1.out.m0)
  have HC : Hid _ := hc0
  obtain ⟨k0, kz, k2, k8, kt, km, ne1, ne2⟩ := H1.out
  clear f1 hc0 ne1 ne2
  have hc := HC.out
  have m0 := n0.out
  have m8 := n8.out
  obtain ⟨b0, b1, b2, b3, b4, b5, b6, b7, bz⟩ := HB.out
  rw [HW2.out] at hc m0 m8 b0 b1 b2 b3 b4 b5 b6 b7 bz
  go_wp2
  rw [← HW2.out]
  obtain ⟨hq, fq⟩ := HB.out.put (.int .u8 1) (.int .u64 0) (.int .u64 0) (.int .i64 0) (.int .u64 0) (.int .u64 0) (.slice none 0 0) (.slice none 0 0)
  clear hc m0 m8 b0 b1 b2 b3 b4 b5 b6 b7 bz k0 kz k2 k8 kt km
  refine bodyPost_ret (v := .agg #[.int .u8 1, .int .u64 0, .int .u64 0, .int .i64 0, .int .u64 0, .int .u64 0, .slice none 0 0, .slice none 0 0]) ?_ rfl ⟨rfl, fq.cell n0.out (by show ¬ sb = rb; have := HL.out; have := Hrb.out; omega), ((F1.out.mono (fun _ _ h => h.elim)).trans F2.out).trans' fq (fun i hi e => by have := Hrb.out; omega)⟩
  revert hq
  generalize ((((((((W2.setCell _ _).setCell _ _).setCell _ _).setCell _ _).setCell _ _).setCell _ _).setCell _ _).setCell _ _) = WQ
  intro hq
  obtain ⟨d0, d1, d2, d3, d4, d5, d6, d7, _⟩ := hq
  simp [results, Tryz.results16, go_sem, *]
end Go.Proofs.YtmcjeeeeielhbaaGreat
