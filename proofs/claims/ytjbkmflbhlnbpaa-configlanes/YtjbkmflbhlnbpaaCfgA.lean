/- Configs in memory: the small ones, and what is asked of their numbers. -/
import Derived.Test.YtjbkmflbhlnbpaaKnownL
import Derived.Deep.RegionWith
namespace Go.Proofs.Ytjbkmflbhlnbpaa
open Go.RowKit

set_option maxHeartbeats 400000 in
theorem in_any (n a b : Int) (w : World) : Calls Try.prog 39 #[.int .i64 n, .int .i64 a, .int .i64 b] w fun e w' => e = .returned (.bool (decide (a ≤ n) && decide (n ≤ b))) ∧ w' = w := by
  by_cases h : a ≤ n
  · rw [decide_eq_true h]
    go_enter Try.func39, Try.ntmps39
    go_wp2
    go_ret
    exact ⟨rfl, rfl⟩
  · rw [decide_eq_false h]
    go_enter Try.func39, Try.ntmps39
    go_wp2
    go_ret
    exact ⟨rfl, rfl⟩
set_option maxHeartbeats 400000 in
theorem rising_short (ao : Option Addr) (n cap : Nat) (w : World) (hn : n ≤ 1) : Calls Try.prog 48 #[.slice ao n cap] w fun e w' => e = .returned (.bool true) ∧ w' = w := by
  have h : ¬ (1 : Int) < (n : Int) := by omega
  go_enter Try.func48, Try.ntmps48
  go_wp2
  refine wp_loop_rounds 1 ?_
  rw [rounds_succ]
  go_wp2
  go_ret
  exact ⟨rfl, rfl⟩
/-- a config's nine cells. -/
def cfg (up : Value) (nodes : Int) (cuts : Value) (frame depth quota wide beat elect : Int) : Array Value := #[up, .int .i64 nodes, cuts, .int .i64 frame, .int .i64 depth, .int .i64 quota, .int .i64 wide, .int .i64 beat, .int .i64 elect]
theorem rowIs_arr {w : World} {b t n : Nat} {f : Nat → Value} (h : w.rowIs b t n f) (cs : Array Value) (hs : cs.size = n) (hc : ∀ i, i < n → cs[i]? = some (f i)) : w.heap[b]? = some (.cells cs t (0, 0)) := by
  obtain ⟨c, hb, hn, hf⟩ := h
  rw [hb]
  have : c = cs := Array.ext_getElem? fun i => by
    by_cases hi : i < n
    · rw [hf i hi, hc i hi]
    · rw [Array.getElem?_eq_none (by omega), Array.getElem?_eq_none (by omega)]
  rw [this]
theorem Laid.fr {S : Nat → Prop} {w w1 : World} {g : Nat} {l : List Nat} (h : Laid w g l) (f : Fr S w w1) (hg : g < w.heap.size) (hs : ¬ S g) : Laid w1 g l :=
  ⟨h.1.fr f hs, fun i => (f.frozenEq (a := ⟨g, i, none⟩) hg hs).trans (h.2 i)⟩
theorem Laid.lt {w : World} {g : Nat} {l : List Nat} (h : Laid w g l) (hl : 0 < l.length) : g < w.heap.size := World.block_lt_of_cell? _ _ (h.1 0 hl)
set_option maxHeartbeats 1000000 in
theorem small0 (w : World) : Calls Try.prog 12 #[.int .u8 0] w fun e w' => ∃ g c, e = .returned (.agg (cfg (.slice (some ⟨g, 0, none⟩) 2 c) 1 (.slice none 0 0) 128 512 1048576 8 2 4)) ∧ w.heap.size ≤ g ∧ Laid w' g [3, 2] ∧ Fr (fun _ => False) w w' := by
  have h0 := fun w => lattices_any 0 w (by omega)
  rw [show lats 0 = [3, 2] by decide] at h0
  have r0 := World.rowIs_alloc w (cfg (.slice none 0 0) 0 (.slice none 0 0) 0 0 0 0 0 0) 25 (fun i => (cfg (.slice none 0 0) 0 (.slice none 0 0) 0 0 0 0 0 0).getD i undef) (fun i hi => by simp [hi])
  go_enter Try.func12, Try.ntmps12
  go_wp2_with fail
  refine (h0 _).mono ?_
  rintro e w1 ⟨g, c, rfl, hg, hA, f1⟩
  have f01 : Fr (fun _ => False) w w1 := ((Fr.refl (fun _ => False) w).alloc _).trans f1
  have r1 := (f1.rowIs r0 (by simp)).alloc (.cells (cfg (.slice (some ⟨g, 0, none⟩) 2 c) 1 (.slice none 0 0) 128 512 1048576 8 2 4) 25)
  unfold cfg at r1
  have c0 := r1.cell (i := 0) (by decide)
  have z0 := r1.frozen 0
  have c1 := r1.cell (i := 1) (by decide)
  have z1 := r1.frozen 1
  have c2 := r1.cell (i := 2) (by decide)
  have z2 := r1.frozen 2
  have c3 := r1.cell (i := 3) (by decide)
  have z3 := r1.frozen 3
  have c4 := r1.cell (i := 4) (by decide)
  have z4 := r1.frozen 4
  have c5 := r1.cell (i := 5) (by decide)
  have z5 := r1.frozen 5
  have c6 := r1.cell (i := 6) (by decide)
  have z6 := r1.frozen 6
  have c7 := r1.cell (i := 7) (by decide)
  have z7 := r1.frozen 7
  have c8 := r1.cell (i := 8) (by decide)
  have z8 := r1.frozen 8
  have hgl : g ≠ w.heap.size := by have := hg; simp at this; omega
  have hA1 := hA
  have HA : Hid (Laid w1 g [3, 2]) := hA
  have r2 := (f1.rowIs r0 (by simp)).alloc (.cells (cfg (.slice (some ⟨g, 0, none⟩) 2 c) 1 (.slice none 0 0) 128 512 1048576 8 2 4) 25)
  have r3 := (((((((((r2.set 0 (.slice (some ⟨g, 0, none⟩) 2 c)).set 1 (.int .i64 1)).set 2 (.slice none 0 0)).set 3 (.int .i64 128)).set 4 (.int .i64 512)).set 5 (.int .i64 1048576)).set 6 (.int .i64 8)).set 7 (.int .i64 2)).set 8 (.int .i64 4))
  have hg3 := rowIs_arr r3 (cfg (.slice (some ⟨g, 0, none⟩) 2 c) 1 (.slice none 0 0) 128 512 1048576 8 2 4) rfl (fun i hi => by
    match i, hi with
    | 0, _ | 1, _ | 2, _ | 3, _ | 4, _ | 5, _ | 6, _ | 7, _ | 8, _ => rfl)
  have f13 := (((((((((((Fr.refl (fun x => x = w.heap.size) w1).alloc (.cells (cfg (.slice (some ⟨g, 0, none⟩) 2 c) 1 (.slice none 0 0) 128 512 1048576 8 2 4) 25)).setCell (p := ⟨w.heap.size, 0, none⟩) (Or.inl rfl) (.slice (some ⟨g, 0, none⟩) 2 c)).setCell (p := ⟨w.heap.size, 1, none⟩) (Or.inl rfl) (.int .i64 1)).setCell (p := ⟨w.heap.size, 2, none⟩) (Or.inl rfl) (.slice none 0 0)).setCell (p := ⟨w.heap.size, 3, none⟩) (Or.inl rfl) (.int .i64 128)).setCell (p := ⟨w.heap.size, 4, none⟩) (Or.inl rfl) (.int .i64 512)).setCell (p := ⟨w.heap.size, 5, none⟩) (Or.inl rfl) (.int .i64 1048576)).setCell (p := ⟨w.heap.size, 6, none⟩) (Or.inl rfl) (.int .i64 8)).setCell (p := ⟨w.heap.size, 7, none⟩) (Or.inl rfl) (.int .i64 2)).setCell (p := ⟨w.heap.size, 8, none⟩) (Or.inl rfl) (.int .i64 4))
  have hL3 := hA.fr f13 (hA.lt (by decide)) hgl
  have f03 := f01.trans' f13 (fun i hi e => by omega)
  have HG : Hid _ := hg3
  have HF : Hid _ := f03
  have HL : Hid _ := hL3
  clear r2 r3 hg3 f13 hL3 f03
  clear h0 r0 hA hA1 r1
  simp only [Array.getD] at c0 c1 c2 c3 c4 c5 c6 c7 c8
  go_wp2
  refine bodyPost_ret (results_cell_row (P := Try.prog) rfl _ _ w.heap.size 25 (cfg (.slice (some ⟨g, 0, none⟩) 2 c) 1 (.slice none 0 0) 128 512 1048576 8 2 4) (0, 0) _ rfl HG.out Try.underlying25 rfl (by kernel_rfl)) rfl ?_
  exact ⟨g, c, rfl, by have := hg; simp at this; omega, HL.out, HF.out⟩
end Go.Proofs.Ytjbkmflbhlnbpaa
