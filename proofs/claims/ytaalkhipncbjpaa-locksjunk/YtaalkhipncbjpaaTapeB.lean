/- The document's tape: names, bytes. -/
import Derived.Test.YtaalkhipncbjpaaTape
import Derived.Test.YtaalkhipncbjpaaFlat
namespace Go.Proofs.Ytaalkhipncbjpaa
open Go.RowKit
attribute [local go_sem] run_store_float
section
variable {w w1 : World} {tb : Nat} {ao : Option Addr} {l : List Nat} {cap i : Nat}
set_option maxRecDepth 100000 in
set_option maxHeartbeats 2000000 in
theorem of_any (h : Tp w tb ao l cap i) (hne : l ≠ [] → ∀ a, ao = some a → a.block < w.heap.size) : Calls Try.prog 18 #[.pointer (some ⟨tb, 0, none⟩)] w fun e w' => ∃ s q : Nat, e = .returned (.agg #[.int .u64 (s : Int), .int .u64 (q : Int)]) ∧ (∃ j, Tp w' tb ao l cap j) ∧ Fr (fun k => k = tb) w w' := by
  have HN : Hid (l ≠ [] → ∀ a, ao = some a → a.block < w.heap.size) := hne
  have HLT : Hid (tb < w.heap.size) := h.lt
  obtain ⟨W, HW⟩ : ∃ W, Hid (W = w.alloc (.cells #[.int .u64 0, .int .u64 0] 24)) := ⟨_, rfl⟩
  have F0 : Hid (Fr (fun k => k = tb) w W) := (show Fr _ _ _ by rw [HW.out]; exact (Fr.refl _ w).alloc _)
  have HT0 : Hid (Tp W tb ao l cap i) := (show Tp _ _ _ _ _ _ by rw [HW.out]; exact h.fr ((Fr.refl (fun _ => False) w).alloc _) (by simp) (by simp))
  have B0 : Hid (W.cell? ⟨w.heap.size, 0, none⟩ = some (.int .u64 0) ∧ W.cell? ⟨w.heap.size, 1, none⟩ = some (.int .u64 0) ∧ W.frozen? ⟨w.heap.size, 0, none⟩ = false ∧ W.frozen? ⟨w.heap.size, 1, none⟩ = false ∧ w.heap.size < W.heap.size) := (show _ ∧ _ by rw [HW.out]; exact ⟨by simp, by simp, by simp, by simp, by simp⟩)
  clear h hne
  go_enter Try.func18, Try.ntmps18
  have K0 : Hid (Calls _ _ _ _ _) := next_any HT0.out 4 (by omega) (by omega)
  go_wp2_with fail
  rw [← HW.out]
  refine K0.out.mono ?_
  rintro e w0 ⟨r0, rfl, hr0, ⟨j0, hj0⟩, f0⟩
  have T0 : Hid (Tp w0 tb ao l cap j0) := hj0
  have G0 : Hid (Fr (fun k => k = tb) W w0) := f0
  have p0 : (0 : Int) ≤ (r0 : Int) := by omega
  have q0 : (r0 : Int) < 4 := by omega
  clear hj0 f0 K0
  have K1 : Hid (Calls _ _ _ _ _) := next_any T0.out 4 (by omega) (by omega)
  go_wp2_with fail
  refine K1.out.mono ?_
  rintro e w1 ⟨r1, rfl, hr1, ⟨j1, hj1⟩, f1⟩
  have T1 : Hid (Tp w1 tb ao l cap j1) := hj1
  have G1 : Hid (Fr (fun k => k = tb) W w1) := G0.out.trans f1
  have p1 : (0 : Int) ≤ (r1 : Int) := by omega
  have q1 : (r1 : Int) < 4 := by omega
  clear hj1 f1 K1
  have hnt : ¬ w.heap.size = tb := by have := HLT.out; omega
  obtain ⟨b0, b1, y0, y1, hsz⟩ := B0.out
  replace y0 := (G1.out.frozenEq (a := ⟨w.heap.size, 0, none⟩) hsz hnt).trans y0
  replace y1 := (G1.out.frozenEq (a := ⟨w.heap.size, 1, none⟩) hsz hnt).trans y1
  replace b0 := G1.out.cell b0 hnt
  replace b1 := G1.out.cell b1 hnt
  obtain ⟨sb, Hsb⟩ : ∃ sb, Hid (w.heap.size = sb) := ⟨_, rfl⟩
  rw [Hsb.out] at b0 b1 y0 y1 hnt hsz
  rw [Hsb.out]
  go_wp2
  have fs : Fr (fun k => k = sb) w1 ((w1.setCell ⟨sb, 0, none⟩ (.int .u64 (r0 : Int))).setCell ⟨sb, 1, none⟩ (.int .u64 (1 + (r1 : Int)))) := ((Fr.refl (fun k => k = sb) w1).setCell (p := ⟨sb, 0, none⟩) (Or.inl rfl) _).setCell (p := ⟨sb, 1, none⟩) (Or.inl rfl) _
  refine bodyPost_ret (v := .agg #[.int .u64 (r0 : Int), .int .u64 (1 + (r1 : Int))]) ?_ rfl ⟨r0, 1 + r1, by push_cast; rfl, ⟨j1, T1.out.fr fs (by omega) (fun hl a ha e => by have := HN.out hl a ha; have := Hsb.out; omega)⟩, (F0.out.trans G1.out).trans' fs (fun i hi e => by have := Hsb.out; omega)⟩
  have c0 : ((w1.setCell ⟨sb, 0, none⟩ (.int .u64 (r0 : Int))).setCell ⟨sb, 1, none⟩ (.int .u64 (1 + (r1 : Int)))).cell? ⟨sb, 0, none⟩ = some (.int .u64 (r0 : Int)) := (World.cell?_setCell_other _ _ _ _ (by simp)).trans (World.cell?_setCell_same _ _ _ b0)
  have c1 : ((w1.setCell ⟨sb, 0, none⟩ (.int .u64 (r0 : Int))).setCell ⟨sb, 1, none⟩ (.int .u64 (1 + (r1 : Int)))).cell? ⟨sb, 1, none⟩ = some (.int .u64 (1 + (r1 : Int))) := World.cell?_setCell_same _ _ _ ((World.cell?_setCell_other _ _ _ _ (by simp)).trans b1)
  generalize ((w1.setCell ⟨sb, 0, none⟩ (.int .u64 (r0 : Int))).setCell ⟨sb, 1, none⟩ (.int .u64 (1 + (r1 : Int)))) = WQ at *
  simp [results, Try.results18, go_sem, *]
set_option maxRecDepth 100000 in
set_option maxHeartbeats 2000000 in
theorem val_any (h : Tp w tb ao l cap i) (hne : l ≠ [] → ∀ a, ao = some a → a.block < w.heap.size) : Calls Try.prog 38 #[.pointer (some ⟨tb, 0, none⟩)] w fun e w' => ∃ (m : List Nat) (v : Value), e = .returned v ∧ m.length ≤ 3 ∧ Own w' w.heap.size v m ∧ (∃ j, Tp w' tb ao l cap j) ∧ Fr (fun k => k = tb) w w' := by
  have HN : Hid (l ≠ [] → ∀ a, ao = some a → a.block < w.heap.size) := hne
  have HLT : Hid (tb < w.heap.size) := h.lt
  have K0 : Hid (Calls _ _ _ _ _) := next_any h 4 (by omega) (by omega)
  clear h hne
  go_enter Try.func38, Try.ntmps38
  go_wp2_with fail
  refine K0.out.mono ?_
  rintro e w0 ⟨n, rfl, hn, ⟨j0, hj0⟩, f0⟩
  have T0 : Hid (Tp w0 tb ao l cap j0) := hj0
  have F0 : Hid (Fr (fun k => k = tb) w w0) := f0
  clear hj0 f0 K0
  go_wp2
  go_loopw [3, 5] (fun u iv wr => ∃ (k : Nat) (m : List Nat) (j : Nat), k ≤ n ∧ iv = .int .i64 (k : Int) ∧ m.length = k ∧ Hid (Own wr w.heap.size u m) ∧ Hid (Tp wr tb ao l cap j) ∧ Hid (Fr (fun k => k = tb) w wr)) (fun _ iv _ => n - (intOf iv).toNat)
  case atStart => exact ⟨0, [], j0, Nat.zero_le _, rfl, rfl, Own.nil _ _, T0.out, F0.out⟩
  case round =>
    obtain ⟨k, m, j, hk, rfl, hm, HO, HT, HF⟩ := hrel
    by_cases hlt : k < n
    · have K1 : Hid (Calls _ _ _ _ _) := next_any HT.out 26 (by omega) (by omega)
      have z1 : (k : Int) < (n : Int) := by omega
      go_wp2_with fail
      refine K1.out.mono ?_
      rintro e w5 ⟨r, rfl, hr, ⟨j5, hj5⟩, f5⟩
      have T5 : Hid (Tp w5 tb ao l cap j5) := hj5
      have F5 : Hid (Fr (fun k => k = tb) w w5) := HF.out.trans f5
      have HO5 : Hid (Own w5 w.heap.size u3 m) := HO.out.fr f5 (fun k hk e => by have := HO.out.lt k hk; have := HLT.out; omega)
      have h0 : (0 : Int) ≤ (r : Int) := by omega
      have h1 : (r : Int) < 26 := by omega
      have hw : IntKind.u8.wrap (97 + (r : Int)) = 97 + (r : Int) := by unfold IntKind.wrap; simp [IntKind.bits, IntKind.signed]; omega
      have FA : Hid (Fr (fun _ => False) w5 (w5.alloc (.cells #[.int .u8 (97 + (r : Int))] 5))) := (Fr.refl _ _).alloc _
      have HR : Hid (Row (w5.alloc (.cells #[.int .u8 (97 + (r : Int))] 5)) (some ⟨w5.heap.size, 0, none⟩) [97 + r] 1) := ⟨by simp, by unfold maxLen; simp, by simp; omega, by simp, fun _ => ⟨w5.heap.size, 0, rfl, fun i hi => by
        have : i = 0 := by simpa using hi
        subst this
        simp⟩⟩
      clear hj5 f5 K1
      go_wp2_with (at_builtin; refine wpList_append_bytes rfl (.tmp 13) (.tmp 18) rfl w.heap.size _ m rfl (HO5.out.fr FA.out (by simp)) (some ⟨w5.heap.size, 0, none⟩) [97 + r] 1 rfl HR.out (by simp; omega) (Nat.le_trans F5.out.size FA.out.size) ?_)
      intro v7 w7 o7 g7 k7
      have O7 : Hid (Own w7 w.heap.size v7 (m ++ [97 + r])) := o7
      have G7 : Hid (Fr (fun k => w.heap.size ≤ k) w5 w7) := (FA.out.mono (fun _ _ h => h.elim)).grown g7 (fun k hk => .inl ((HO5.out.lt k hk).1))
      have T7 : Hid (Tp w7 tb ao l cap j5) := T5.out.fr G7.out (by have := HLT.out; omega) (fun hl a ha e => by have := HN.out hl a ha; omega)
      have F7 : Hid (Fr (fun k => k = tb) w w7) := F5.out.trans' G7.out (fun i hi e => by omega)
      clear o7 g7 k7 hw
      go_wp2
      go_roundw
      case rel => exact ⟨k + 1, m ++ [97 + r], j5, by omega, by go_num, by simp; omega, O7, T7, F7⟩
      case measure => simp [intOf]; omega
    · have z1 : ¬ (k : Int) < (n : Int) := by omega
      go_wp2
      go_ret
      exact ⟨m, _, rfl, by omega, HO.out, ⟨j, HT.out⟩, HF.out⟩
end
end Go.Proofs.Ytaalkhipncbjpaa
