/- The program's table: a first answer, and the document's example. -/
import Derived.Test.YtbjefjcpdhnmkaaSess
namespace Go.Proofs.Ytbjefjcpdhnmkaa
open Go.RowKit Go.Maps
theorem nil55 (w : World) : (binOp .eql 55 (.map none) (.map none)).run Try.prog w = .ok (.bool true) w := by kernel_rfl
theorem lookup_none (id : Nat) (hid : id < 18446744073709551616) (w : World) : (Instr.lookup 55 (.map none) (.int .u64 (id : Int)) false).run Try.prog w = .ok (.agg #[.int .u64 0, .int .i64 0, .int .u64 0, .int .u64 0, .slice none 0 0, .slice none 0 0]) w := by
  have hz : (zeroValue 71).run Try.prog w = .ok (.agg #[.int .u64 0, .int .i64 0, .int .u64 0, .int .u64 0, .slice none 0 0, .slice none 0 0]) w := by
    obtain ⟨i, hi, hz0, _, _⟩ := info_parts Try.info71
    simp [zeroValue, typeInfo, hi, hz0]
  rcases Try.keyed.find w (key_nat id hid) [] (fun e hx => by simp at hx) with ⟨h1, _⟩ | ⟨j, e0, _, h2, _⟩
  · simp [Instr.lookup, run_underlying Try.underlying55, Try.keyed.check w _ (key_nat id hid), h1, hz, Result.andThen]
  · simp at h2
set_option maxRecDepth 100000 in
set_option maxHeartbeats 4000000 in
theorem put_first (b id q : Nat) (e0 : Int) (ep ix : Nat) (w : World) (hc : w.cell? ⟨b, 0, none⟩ = some (.map none)) (hz : w.frozen? ⟨b, 0, none⟩ = false) (hid : id < 18446744073709551616) (h0 : 0 < q) :
    Calls Try.prog 13 #[.pointer (some ⟨b, 0, none⟩), .int .u64 (id : Int), .int .u64 (q : Int), .agg #[.int .i64 e0, .int .u64 (ep : Int), .int .u64 (ix : Int), .slice none 0 0, .slice none 0 0]] w fun e w' => e = .returned (.int .i64 0) ∧ (∃ m, w.heap.size ≤ m ∧ w'.cell? ⟨b, 0, none⟩ = some (.map (some m)) ∧ MapAt w' m [(id, .agg #[.int .u64 (q : Int), .int .i64 e0, .int .u64 (ep : Int), .int .u64 (ix : Int), .slice none 0 0, .slice none 0 0])]) ∧ Fr (fun k => k = b) w w' := by
  have hbl : b < w.heap.size := World.block_lt_of_cell? _ _ hc
  have F0 : Hid (Fr (fun _ => False) w _) := (Fr.refl (fun _ => False) w).alloc (.cells #[.int .i64 e0, .int .u64 (ep : Int), .int .u64 (ix : Int), .slice none 0 0, .slice none 0 0] 36)
  have B0 : Hid (B5 _ _ _ _ _ _ _) := B5.new w 36 (.int .i64 e0) (.int .u64 (ep : Int)) (.int .u64 (ix : Int)) (.slice none 0 0) (.slice none 0 0)
  have hc1 := F0.out.cell hc (by simp)
  have K : Hid (Calls _ _ _ _ _) := last_any b id 0 0 0 0 none (w.alloc (.cells #[.int .i64 e0, .int .u64 (ep : Int), .int .u64 (ix : Int), .slice none 0 0, .slice none 0 0] 36)) hc1 (fun W _ => lookup_none id hid W)
  have k0 : ((q : Int) == 0) = false := by simp; omega
  have k1 : ¬ (q : Int) ≤ 0 := by omega
  have h55 := nil55
  go_enter Try.func13, Try.ntmps13
  go_wp2_with fail
  refine K.out.mono ?_
  rintro e w1 ⟨rfl, f1⟩
  have B1 : Hid (B5 _ _ _ _ _ _ _) := B0.out.fr f1 (by simp)
  have F1 : Hid (Fr (fun _ => False) w w1) := F0.out.trans f1
  have c1 := f1.cell hc1 (by simp)
  have z1 : w1.frozen? ⟨b, 0, none⟩ = false := (F1.out.frozenEq (a := ⟨b, 0, none⟩) hbl (by simp)).trans hz
  have km : (Instr.makeMap 55 none).run Try.prog w1 = .ok (.map (some w1.heap.size)) (w1.alloc (.map #[] 0)) := run_makeMap 55 w1
  have fm := F1.out.alloc (.map #[] 0)
  have c2 := fm.cell hc (by simp)
  have z2 : (w1.alloc (.map #[] 0)).frozen? ⟨b, 0, none⟩ = false := (fm.frozenEq (a := ⟨b, 0, none⟩) hbl (by simp)).trans hz
  have HM2 : Hid (MapAt ((w1.alloc (.map #[] 0)).setCell ⟨b, 0, none⟩ (.map (some w1.heap.size))).drew w1.heap.size []) := ((MapAt.made w1).fr ((Fr.refl (fun k => k = b) _).setCell (p := ⟨b, 0, none⟩) (Or.inl rfl) _) (by have := F1.out.size; omega)).fr ((Fr.refl (fun _ => False) _).drew) (by simp)
  have HF2 : Hid (Fr (fun k => k = b) w ((w1.alloc (.map #[] 0)).setCell ⟨b, 0, none⟩ (.map (some w1.heap.size))).drew) := ((Fr.mono (T := fun k => k = b) fm (fun _ _ h => h.elim)).setCell (p := ⟨b, 0, none⟩) (Or.inl rfl) _).drew
  have HC2 : Hid (((w1.alloc (.map #[] 0)).setCell ⟨b, 0, none⟩ (.map (some w1.heap.size))).drew.cell? ⟨b, 0, none⟩ = some (.map (some w1.heap.size))) := World.cell?_setCell_same _ _ _ c2
  have HB2 : Hid (B5 ((w1.alloc (.map #[] 0)).setCell ⟨b, 0, none⟩ (.map (some w1.heap.size))).drew w.heap.size (.int .i64 e0) (.int .u64 (ep : Int)) (.int .u64 (ix : Int)) (.slice none 0 0) (.slice none 0 0)) := B1.out.fr ((((Fr.refl (fun k => k = b) w1).alloc _).setCell (p := ⟨b, 0, none⟩) (Or.inl rfl) _).drew) (by omega)
  have KO : Hid (Calls _ _ _ _ _) := own_nil e0 ep ix ((w1.alloc (.map #[] 0)).setCell ⟨b, 0, none⟩ (.map (some w1.heap.size))).drew
  obtain ⟨bx, Hbx⟩ : ∃ bx, Hid (w.heap.size = bx) := ⟨_, rfl⟩
  obtain ⟨m, Hm⟩ : ∃ m, Hid (w1.heap.size = m) := ⟨_, rfl⟩
  have Hmb : Hid (b < bx ∧ bx < m ∧ w.heap.size = bx) := ⟨by have := Hbx.out; omega, by have := B1.out.lt; have := Hbx.out; have := Hm.out; omega, Hbx.out⟩
  clear hc hz hc1 f1 B0 F0 K B1 F1 fm
  go_wp2_with fail
  rw [Hbx.out, Hm.out]
  rw [Hm.out] at HC2 HM2 HF2 KO
  rw [Hbx.out, Hm.out] at HB2
  refine wp_region_held_drew (S := (fun W => W.cell? ⟨b, 0, none⟩ = some (.map (some m)) ∧ B5 W bx (.int .i64 e0) (.int .u64 (ep : Int)) (.int .u64 (ix : Int)) (.slice none 0 0) (.slice none 0 0))) (by kernel_rfl) ⟨HC2.out, HB2.out⟩ (fun hHeld => ?_)
  refine wpAnyH_take (i := 0) (oi := _) (v := ?_) (by rw [List.getElem?_toArray]; rfl) (by kernel_rfl) (by kernel_rfl) (by kernel_rfl) (fun _ _ _ h => by exact h) (Or.inl ⟨by rfl, ?_⟩) (by assumption) ?_
  rotate_left
  · (intro w hSw; (try dsimp only at hSw); go_simp; (try with_reducible rfl))
  try simp only [Act.put, List.setIfInBounds_toArray, List.set_cons_zero, List.set_cons_succ]
  refine wpAnyH_take (i := 1) (oi := _) (v := ?_) (by rw [List.getElem?_toArray]; rfl) (by kernel_rfl) (by kernel_rfl) (by kernel_rfl) (fun _ _ _ h => by exact h) (Or.inl ⟨by rfl, ?_⟩) (by assumption) ?_
  rotate_left
  · (intro w hSw; (try dsimp only at hSw); go_simp; (try with_reducible rfl))
  try simp only [Act.put, List.setIfInBounds_toArray, List.set_cons_zero, List.set_cons_succ]
  refine wpAnyH_take (i := 2) (oi := _) (v := ?_) (by rw [List.getElem?_toArray]; rfl) (by kernel_rfl) (by kernel_rfl) (by kernel_rfl) (fun _ _ _ h => by exact h) (Or.inl ⟨by rfl, ?_⟩) (by assumption) ?_
  rotate_left
  · (intro w hSw; (try dsimp only at hSw); go_simp; (try with_reducible rfl))
  try simp only [Act.put, List.setIfInBounds_toArray, List.set_cons_zero, List.set_cons_succ]
  refine wpAnyH_take (i := 3) (oi := _) (v := ?_) (by rw [List.getElem?_toArray]; rfl) (by kernel_rfl) (by kernel_rfl) (by kernel_rfl) (fun _ _ _ h => by exact h) (Or.inl ⟨by rfl, ?_⟩) (by assumption) ?_
  rotate_left
  · (intro w hSw; (try dsimp only at hSw); obtain ⟨s0, s1⟩ := hSw; obtain ⟨d0, d1, d2, d3, d4, _⟩ := s1; go_simp; (try with_reducible rfl))
  try simp only [Act.put, List.setIfInBounds_toArray, List.set_cons_zero, List.set_cons_succ]
  refine wpAnyH_take (i := 4) (oi := _) (v := ?_) (by rw [List.getElem?_toArray]; rfl) (by kernel_rfl) (by kernel_rfl) (by kernel_rfl) (fun _ _ _ h => by exact h) (Or.inl ⟨by rfl, ?_⟩) (by assumption) ?_
  rotate_left
  · (intro w hSw; (try dsimp only at hSw); go_simp; (try with_reducible rfl))
  try simp only [Act.put, List.setIfInBounds_toArray, List.set_cons_zero, List.set_cons_succ]
  refine wpAnyH_take (i := 5) (oi := _) (v := ?_) (by rw [List.getElem?_toArray]; rfl) (by kernel_rfl) (by kernel_rfl) (by kernel_rfl) (fun _ _ _ h => by exact h) (Or.inl ⟨by rfl, ?_⟩) (by assumption) ?_
  rotate_left
  · (intro w hSw; (try dsimp only at hSw); go_simp; (try with_reducible rfl))
  try simp only [Act.put, List.setIfInBounds_toArray, List.set_cons_zero, List.set_cons_succ]
  refine wpAnyH_take (i := 6) (oi := _) (v := ?_) (by rw [List.getElem?_toArray]; rfl) (by kernel_rfl) (by kernel_rfl) (by kernel_rfl) (fun _ _ _ h => by exact h) (Or.inl ⟨by rfl, ?_⟩) (by assumption) ?_
  rotate_left
  · (intro w hSw; (try dsimp only at hSw); obtain ⟨s0, s1⟩ := hSw; obtain ⟨d0, d1, d2, d3, d4, _⟩ := s1; go_simp; (try with_reducible rfl))
  try simp only [Act.put, List.setIfInBounds_toArray, List.set_cons_zero, List.set_cons_succ]
  refine wpAnyH_ready (rs := [7]) (by kernel_rfl) (by simp) ?_
  refine AllReadyH.cons (o := _) (by rw [List.getElem?_toArray]; rfl) (fun K hK => ?_) ?_
  · go_simp
    go_wp2_with (go_at_call 24; refine KO.out.mono ?_; rintro e w5 ⟨rfl, f5⟩)
    have HC5 : Hid (w5.cell? ⟨b, 0, none⟩ = some (.map (some m))) := f5.cell HC2.out (by simp)
    have HB5 : Hid (B5 w5 bx (.int .i64 e0) (.int .u64 (ep : Int)) (.int .u64 (ix : Int)) (.slice none 0 0) (.slice none 0 0)) := HB2.out.fr f5 (by simp)
    have HM5 : Hid (MapAt w5 m []) := HM2.out.fr f5 (by simp)
    have HF5 : Hid (Fr (fun k => k = b) w w5) := HF2.out.trans (f5.mono (fun _ _ h => h.elim))
    obtain ⟨w6, hmu, hm6, f6⟩ := map_put HM5.out id (.agg #[.int .u64 (q : Int), .int .i64 e0, .int .u64 (ep : Int), .int .u64 (ix : Int), .slice none 0 0, .slice none 0 0]) hid (by simp)
    have HCM : Hid (w6.cell? ⟨b, 0, none⟩ = some (.map (some m))) := f6.cell HC5.out (by have := Hmb.out; simp; omega)
    have HBM : Hid (B5 w6 bx (.int .i64 e0) (.int .u64 (ep : Int)) (.int .u64 (ix : Int)) (.slice none 0 0) (.slice none 0 0)) := HB5.out.fr f6 (by have := Hmb.out; omega)
    have HFM : Hid (Fr (fun k => k = b) w w6) := HF5.out.trans' f6 (fun i hi e => by have := Hmb.out; omega)
    have hM : w.heap.size ≤ m ∧ MapAt w6 m [(id, .agg #[.int .u64 (q : Int), .int .i64 e0, .int .u64 (ep : Int), .int .u64 (ix : Int), .slice none 0 0, .slice none 0 0])] := ⟨by have := Hmb.out; omega, hm6⟩
    clear f5 f6 hm6 KO HM2 HM5 HF2 HF5
    refine hK.out _ _ ⟨HC5.out, HB5.out⟩ (fun hHeld => ?_)
    clear hK K
    try simp only [Act.put, List.setIfInBounds_toArray, List.set_cons_zero, List.set_cons_succ]
    refine wpAnyH_take (i := 8) (oi := _) (v := ?_) (by rw [List.getElem?_toArray]; rfl) (by kernel_rfl) (by kernel_rfl) (by kernel_rfl) (fun _ _ _ h => by exact h) (Or.inl ⟨by rfl, ?_⟩) (by assumption) ?_
    rotate_left
    · (intro w hSw; (try dsimp only at hSw); go_simp; (try with_reducible rfl))
    try simp only [Act.put, List.setIfInBounds_toArray, List.set_cons_zero, List.set_cons_succ]
    refine wpAnyH_ready (rs := [9]) (by kernel_rfl) (by simp) ?_
    refine AllReadyH.cons (o := _) (by rw [List.getElem?_toArray]; rfl) (fun K hK => ?_) ?_
    · go_simp
      refine hK.out _ _ ⟨HCM.out, HBM.out⟩ (fun hHeld => ?_)
      clear hK K
      try simp only [Act.put, List.setIfInBounds_toArray, List.set_cons_zero, List.set_cons_succ]
      refine wpAnyH_done (by kernel_rfl) ?_ _
      go_wp2
      go_ret
      exact ⟨rfl, ⟨m, hM.1, HCM.out, hM.2⟩, HFM.out⟩
    exact AllReadyH.nil
  exact AllReadyH.nil
theorem get_lit {w : World} {V : Value} {es : List (Nat × Value)} {m : Nat} (hm : MapAt w m es) (hv : (1, V) ∈ es) (hu : ∀ p ∈ es, p.1 = 1 → p.2 = V) : ∀ W, Fr (fun _ => False) w W → (Instr.lookup 55 (.map (some m)) (.int .u64 ((1 : Nat) : Int)) false).run Try.prog W = .ok V W := fun W f => by
  have := map_some (hm.fr f (by simp)) 1 V hv hu false
  simpa using this
set_option maxRecDepth 100000 in
set_option maxHeartbeats 4000000 in
theorem awake_any (w : World) : Calls Try.prog 8 #[] w fun e w' => e = .returned (.bool true) ∧ Fr (fun _ => False) w w' := by
  have F0 : Hid (Fr (fun _ => False) w (w.alloc (.cells #[.map none] 57))) := (Fr.refl (fun _ => False) w).alloc _
  have KP : Hid (Calls Try.prog 13 #[.pointer (some ⟨w.heap.size, 0, none⟩), .int .u64 1, .int .u64 2, .agg #[.int .i64 0, .int .u64 9, .int .u64 0, .slice none 0 0, .slice none 0 0]] _ _) := put_first w.heap.size 1 2 0 9 0 (w.alloc (.cells #[.map none] 57)) (by simp) (by simp) (by decide) (by decide)
  go_enter Try.func8, Try.ntmps8
  go_wp2_with fail
  refine (new_any w).mono ?_
  rintro e w1 ⟨rfl, rfl⟩
  go_wp2_with fail
  refine KP.out.mono ?_
  rintro e w2 ⟨rfl, ⟨m, hm0, hc2, hm2⟩, f2⟩
  have F2 : Hid (Fr (fun _ => False) w w2) := F0.out.trans' f2 (fun i hi e => by omega)
  have HC2 : Hid (w2.cell? ⟨w.heap.size, 0, none⟩ = some (.map (some m))) := hc2
  have HL : Hid (∀ W, Fr (fun _ => False) w2 W → (Instr.lookup 55 (.map (some m)) (.int .u64 ((1 : Nat) : Int)) false).run Try.prog W = .ok (.agg #[.int .u64 2, .int .i64 0, .int .u64 9, .int .u64 0, .slice none 0 0, .slice none 0 0]) W) := get_lit hm2 (by simp) (by simp)
  have K1 : Hid (Calls Try.prog 15 #[.pointer (some ⟨w.heap.size, 0, none⟩), .int .u64 1, .int .u64 2] w2 fun e w' => e = .returned (.tuple #[.agg #[.int .i64 0, .int .u64 9, .int .u64 0, .slice none 0 0, .slice none 0 0], .int .i64 0]) ∧ Fr (fun _ => False) w2 w') := get_ok w.heap.size 1 2 2 0 9 0 (some m) w2 HC2.out HL.out (by decide) rfl
  clear f2 hc2 hm2 KP F0
  go_wp2_with fail
  refine K1.out.mono ?_
  rintro e w3 ⟨rfl, f3⟩
  have f3a : Fr (fun _ => False) w2 (w3.alloc (.cells #[.int .i64 0, .int .u64 9, .int .u64 0, .slice none 0 0, .slice none 0 0] 36)) := f3.alloc _
  have G3 : Hid (Fr (fun _ => False) w2 (w3.alloc (.cells #[.int .i64 0, .int .u64 9, .int .u64 0, .slice none 0 0, .slice none 0 0] 36))) := f3a
  have B3 : Hid (B5 (w3.alloc (.cells #[.int .i64 0, .int .u64 9, .int .u64 0, .slice none 0 0, .slice none 0 0] 36)) w3.heap.size (.int .i64 0) (.int .u64 9) (.int .u64 0) (.slice none 0 0) (.slice none 0 0)) := B5.new w3 36 (.int .i64 0) (.int .u64 9) (.int .u64 0) (.slice none 0 0) (.slice none 0 0)
  have K2 : Hid (Calls Try.prog 15 #[.pointer (some ⟨w.heap.size, 0, none⟩), .int .u64 1, .int .u64 1] (w3.alloc (.cells #[.int .i64 0, .int .u64 9, .int .u64 0, .slice none 0 0, .slice none 0 0] 36)) fun e w' => e = .returned (.tuple #[.agg #[.int .i64 0, .int .u64 0, .int .u64 0, .slice none 0 0, .slice none 0 0], .int .i64 10]) ∧ Fr (fun _ => False) (w3.alloc (.cells #[.int .i64 0, .int .u64 9, .int .u64 0, .slice none 0 0, .slice none 0 0] 36)) w') := get_old w.heap.size 1 1 2 0 9 0 (some m) _ (f3a.cell HC2.out (by simp)) (fun W f => HL.out W (G3.out.trans f)) (by decide) (by decide)
  clear f3 f3a K1
  go_wp2_with fail
  refine K2.out.mono ?_
  rintro e w4 ⟨rfl, f4⟩
  have f4a : Fr (fun _ => False) (w3.alloc (.cells #[.int .i64 0, .int .u64 9, .int .u64 0, .slice none 0 0, .slice none 0 0] 36)) (w4.alloc (.cells #[.int .i64 0, .int .u64 0, .int .u64 0, .slice none 0 0, .slice none 0 0] 36)) := f4.alloc _
  have G4 : Hid (Fr (fun _ => False) w2 (w4.alloc (.cells #[.int .i64 0, .int .u64 0, .int .u64 0, .slice none 0 0, .slice none 0 0] 36))) := G3.out.trans f4a
  have B4 : Hid (B5 (w4.alloc (.cells #[.int .i64 0, .int .u64 0, .int .u64 0, .slice none 0 0, .slice none 0 0] 36)) w3.heap.size (.int .i64 0) (.int .u64 9) (.int .u64 0) (.slice none 0 0) (.slice none 0 0)) := B3.out.fr f4a (by simp)
  have K3 : Hid (Calls Try.prog 15 #[.pointer (some ⟨w.heap.size, 0, none⟩), .int .u64 1, .int .u64 3] (w4.alloc (.cells #[.int .i64 0, .int .u64 0, .int .u64 0, .slice none 0 0, .slice none 0 0] 36)) fun e w' => e = .returned (.tuple #[.agg #[.int .i64 0, .int .u64 0, .int .u64 0, .slice none 0 0, .slice none 0 0], .int .i64 2]) ∧ Fr (fun _ => False) (w4.alloc (.cells #[.int .i64 0, .int .u64 0, .int .u64 0, .slice none 0 0, .slice none 0 0] 36)) w') := get_none w.heap.size 1 3 2 0 9 0 (some m) _ (G4.out.cell HC2.out (by simp)) (fun W f => HL.out W (G4.out.trans f)) (by decide) (by decide)
  clear f4 f4a K2 B3
  go_wp2_with fail
  refine K3.out.mono ?_
  rintro e w5 ⟨rfl, f5⟩
  have f5a : Fr (fun _ => False) (w4.alloc (.cells #[.int .i64 0, .int .u64 0, .int .u64 0, .slice none 0 0, .slice none 0 0] 36)) (w5.alloc (.cells #[.int .i64 0, .int .u64 0, .int .u64 0, .slice none 0 0, .slice none 0 0] 36)) := f5.alloc _
  have c1 := (B4.out.fr f5a (by simp)).c1
  have FF : Hid (Fr (fun _ => False) w (w5.alloc (.cells #[.int .i64 0, .int .u64 0, .int .u64 0, .slice none 0 0, .slice none 0 0] 36))) := F2.out.trans (G4.out.trans f5a)
  clear f5 f5a K3 B4 G4 G3
  go_wp2
  go_ret
  exact ⟨rfl, FF.out⟩
set_option maxRecDepth 100000 in
set_option maxHeartbeats 2000000 in
theorem nil_walk (id q : Nat) (w : World) : Calls Try.prog 7 #[.int .u64 (id : Int), .int .u64 (q : Int)] w fun e w' => e = .returned (.bool true) ∧ Fr (fun _ => False) w w' := by
  have KP : Hid (∀ W, Calls Try.prog 13 #[.pointer none, .int .u64 (id : Int), .int .u64 (q : Int), .agg #[.int .i64 0, .int .u64 0, .int .u64 0, .slice none 0 0, .slice none 0 0]] W fun e w' => e = .returned (.int .i64 2) ∧ Fr (fun _ => False) W w') := fun W => put_nil id q W
  go_enter Try.func7, Try.ntmps7
  go_wp2_with fail
  refine (get_nil id q w).mono ?_
  rintro e w1 ⟨rfl, f1⟩
  have F1 : Hid (Fr (fun _ => False) w (w1.alloc (.cells #[.int .i64 0, .int .u64 0, .int .u64 0, .slice none 0 0, .slice none 0 0] 36))) := f1.alloc _
  clear f1
  go_wp2_with fail
  refine (awake_any _).mono ?_
  rintro e w2 ⟨rfl, f2⟩
  go_wp2_with fail
  refine (KP.out w2).mono ?_
  rintro e w3 ⟨rfl, f3⟩
  go_wp2_with fail
  refine (last_nil id w3).mono ?_
  rintro e w4 ⟨rfl, f4⟩
  go_wp2_with fail
  refine (len_nil w4).mono ?_
  rintro e w5 ⟨rfl, rfl⟩
  go_wp2
  go_ret
  exact ⟨rfl, F1.out.trans (f2.trans (f3.trans f4))⟩
end Go.Proofs.Ytbjefjcpdhnmkaa
