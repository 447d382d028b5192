/- The small configs with a cut: how great the cut's row is. -/
import Derived.Test.YtjbkmflbhlnbpaaSmall2
namespace Go.Proofs.Ytjbkmflbhlnbpaa
open Go.RowKit

/-- cuts as they lie, and how great their row is. -/
def CutsOk (w : World) (cv : Value) (cl : List Nat) : Prop := CutsAt w cv cl ∧ ∀ a n c, cv = .slice (some a) n c → n ≤ c ∧ c ≤ maxLen
set_option maxHeartbeats 2000000 in
theorem small_b2 (k nd : Nat) (hk : k < 256) (en : 1 + (k : Int) / 5 % 3 = (nd : Int)) (h5 : ((k : Int) % 5 == 4) = false) (hc : (k : Int) / 16 % 2 = 1) (w : World) :
    Calls Try.prog 12 #[.int .u8 (k : Int)] w fun e w' => ∃ g c cv, e = .returned (.agg (cfg (.slice (some ⟨g, 0, none⟩) (lats k).length c) (nd : Int) cv 128 512 1048576 8 2 4)) ∧ w.heap.size ≤ g ∧ Laid w' g (lats k) ∧ CutsOk w' cv [0] ∧ Fr (fun _ => False) w w' := by
  have h0 := fun w => lattices_any k w hk
  have hlp := (lats_fine k).1
  generalize lats k = l at *
  have r0 : (w.alloc (.cells #[.slice none 0 0, .int .i64 0, .slice none 0 0, .int .i64 0, .int .i64 0, .int .i64 0, .int .i64 0, .int .i64 0, .int .i64 0] 25)).rowIs w.heap.size 25 9 (fun i => (#[.slice none 0 0, .int .i64 0, .slice none 0 0, .int .i64 0, .int .i64 0, .int .i64 0, .int .i64 0, .int .i64 0, .int .i64 0] : Array Value).getD i undef) := rowIs_lay w #[.slice none 0 0, .int .i64 0, .slice none 0 0, .int .i64 0, .int .i64 0, .int .i64 0, .int .i64 0, .int .i64 0, .int .i64 0] 25
  go_enter Try.func12, Try.ntmps12
  go_wp2_with fail
  refine (h0 _).mono ?_
  rintro e w1 ⟨g, c, rfl, hg, hA, f1⟩
  have hg' : w.heap.size + 1 ≤ g := by simpa using hg
  have s1 : w.heap.size + 1 ≤ w1.heap.size := by have := f1.size; simpa using this
  have f01 : Fr (fun _ => False) w w1 := ((Fr.refl (fun _ => False) w).alloc _).trans f1
  have hne : w.heap.size ≠ w1.heap.size := by omega
  have rW := (((f1.rowIs r0 (by simp)).alloc (.cells #[.slice (some ⟨g, 0, none⟩) l.length c, .int .i64 (nd : Int), .slice (some ⟨w1.heap.size + 1, 0, none⟩) 1 1, .int .i64 128, .int .i64 512, .int .i64 1048576, .int .i64 8, .int .i64 2, .int .i64 4] 25)).alloc (.cells #[.float .f64 0] 34))
  have cc0 : ((w1.alloc (.cells #[.slice (some ⟨g, 0, none⟩) l.length c, .int .i64 (nd : Int), .slice (some ⟨w1.heap.size + 1, 0, none⟩) 1 1, .int .i64 128, .int .i64 512, .int .i64 1048576, .int .i64 8, .int .i64 2, .int .i64 4] 25)).alloc (.cells #[.float .f64 0] 34)).cell? ⟨w.heap.size, 0, none⟩ = some (.slice none 0 0) := rW.cell (i := 0) (by omega)
  have zz0 : ((w1.alloc (.cells #[.slice (some ⟨g, 0, none⟩) l.length c, .int .i64 (nd : Int), .slice (some ⟨w1.heap.size + 1, 0, none⟩) 1 1, .int .i64 128, .int .i64 512, .int .i64 1048576, .int .i64 8, .int .i64 2, .int .i64 4] 25)).alloc (.cells #[.float .f64 0] 34)).frozen? ⟨w.heap.size, 0, none⟩ = false := rW.frozen 0
  have cc1 : ((w1.alloc (.cells #[.slice (some ⟨g, 0, none⟩) l.length c, .int .i64 (nd : Int), .slice (some ⟨w1.heap.size + 1, 0, none⟩) 1 1, .int .i64 128, .int .i64 512, .int .i64 1048576, .int .i64 8, .int .i64 2, .int .i64 4] 25)).alloc (.cells #[.float .f64 0] 34)).cell? ⟨w.heap.size, 1, none⟩ = some (.int .i64 0) := rW.cell (i := 1) (by omega)
  have zz1 : ((w1.alloc (.cells #[.slice (some ⟨g, 0, none⟩) l.length c, .int .i64 (nd : Int), .slice (some ⟨w1.heap.size + 1, 0, none⟩) 1 1, .int .i64 128, .int .i64 512, .int .i64 1048576, .int .i64 8, .int .i64 2, .int .i64 4] 25)).alloc (.cells #[.float .f64 0] 34)).frozen? ⟨w.heap.size, 1, none⟩ = false := rW.frozen 1
  have cc2 : ((w1.alloc (.cells #[.slice (some ⟨g, 0, none⟩) l.length c, .int .i64 (nd : Int), .slice (some ⟨w1.heap.size + 1, 0, none⟩) 1 1, .int .i64 128, .int .i64 512, .int .i64 1048576, .int .i64 8, .int .i64 2, .int .i64 4] 25)).alloc (.cells #[.float .f64 0] 34)).cell? ⟨w.heap.size, 2, none⟩ = some (.slice none 0 0) := rW.cell (i := 2) (by omega)
  have zz2 : ((w1.alloc (.cells #[.slice (some ⟨g, 0, none⟩) l.length c, .int .i64 (nd : Int), .slice (some ⟨w1.heap.size + 1, 0, none⟩) 1 1, .int .i64 128, .int .i64 512, .int .i64 1048576, .int .i64 8, .int .i64 2, .int .i64 4] 25)).alloc (.cells #[.float .f64 0] 34)).frozen? ⟨w.heap.size, 2, none⟩ = false := rW.frozen 2
  have cc3 : ((w1.alloc (.cells #[.slice (some ⟨g, 0, none⟩) l.length c, .int .i64 (nd : Int), .slice (some ⟨w1.heap.size + 1, 0, none⟩) 1 1, .int .i64 128, .int .i64 512, .int .i64 1048576, .int .i64 8, .int .i64 2, .int .i64 4] 25)).alloc (.cells #[.float .f64 0] 34)).cell? ⟨w.heap.size, 3, none⟩ = some (.int .i64 0) := rW.cell (i := 3) (by omega)
  have zz3 : ((w1.alloc (.cells #[.slice (some ⟨g, 0, none⟩) l.length c, .int .i64 (nd : Int), .slice (some ⟨w1.heap.size + 1, 0, none⟩) 1 1, .int .i64 128, .int .i64 512, .int .i64 1048576, .int .i64 8, .int .i64 2, .int .i64 4] 25)).alloc (.cells #[.float .f64 0] 34)).frozen? ⟨w.heap.size, 3, none⟩ = false := rW.frozen 3
  have cc4 : ((w1.alloc (.cells #[.slice (some ⟨g, 0, none⟩) l.length c, .int .i64 (nd : Int), .slice (some ⟨w1.heap.size + 1, 0, none⟩) 1 1, .int .i64 128, .int .i64 512, .int .i64 1048576, .int .i64 8, .int .i64 2, .int .i64 4] 25)).alloc (.cells #[.float .f64 0] 34)).cell? ⟨w.heap.size, 4, none⟩ = some (.int .i64 0) := rW.cell (i := 4) (by omega)
  have zz4 : ((w1.alloc (.cells #[.slice (some ⟨g, 0, none⟩) l.length c, .int .i64 (nd : Int), .slice (some ⟨w1.heap.size + 1, 0, none⟩) 1 1, .int .i64 128, .int .i64 512, .int .i64 1048576, .int .i64 8, .int .i64 2, .int .i64 4] 25)).alloc (.cells #[.float .f64 0] 34)).frozen? ⟨w.heap.size, 4, none⟩ = false := rW.frozen 4
  have cc5 : ((w1.alloc (.cells #[.slice (some ⟨g, 0, none⟩) l.length c, .int .i64 (nd : Int), .slice (some ⟨w1.heap.size + 1, 0, none⟩) 1 1, .int .i64 128, .int .i64 512, .int .i64 1048576, .int .i64 8, .int .i64 2, .int .i64 4] 25)).alloc (.cells #[.float .f64 0] 34)).cell? ⟨w.heap.size, 5, none⟩ = some (.int .i64 0) := rW.cell (i := 5) (by omega)
  have zz5 : ((w1.alloc (.cells #[.slice (some ⟨g, 0, none⟩) l.length c, .int .i64 (nd : Int), .slice (some ⟨w1.heap.size + 1, 0, none⟩) 1 1, .int .i64 128, .int .i64 512, .int .i64 1048576, .int .i64 8, .int .i64 2, .int .i64 4] 25)).alloc (.cells #[.float .f64 0] 34)).frozen? ⟨w.heap.size, 5, none⟩ = false := rW.frozen 5
  have cc6 : ((w1.alloc (.cells #[.slice (some ⟨g, 0, none⟩) l.length c, .int .i64 (nd : Int), .slice (some ⟨w1.heap.size + 1, 0, none⟩) 1 1, .int .i64 128, .int .i64 512, .int .i64 1048576, .int .i64 8, .int .i64 2, .int .i64 4] 25)).alloc (.cells #[.float .f64 0] 34)).cell? ⟨w.heap.size, 6, none⟩ = some (.int .i64 0) := rW.cell (i := 6) (by omega)
  have zz6 : ((w1.alloc (.cells #[.slice (some ⟨g, 0, none⟩) l.length c, .int .i64 (nd : Int), .slice (some ⟨w1.heap.size + 1, 0, none⟩) 1 1, .int .i64 128, .int .i64 512, .int .i64 1048576, .int .i64 8, .int .i64 2, .int .i64 4] 25)).alloc (.cells #[.float .f64 0] 34)).frozen? ⟨w.heap.size, 6, none⟩ = false := rW.frozen 6
  have cc7 : ((w1.alloc (.cells #[.slice (some ⟨g, 0, none⟩) l.length c, .int .i64 (nd : Int), .slice (some ⟨w1.heap.size + 1, 0, none⟩) 1 1, .int .i64 128, .int .i64 512, .int .i64 1048576, .int .i64 8, .int .i64 2, .int .i64 4] 25)).alloc (.cells #[.float .f64 0] 34)).cell? ⟨w.heap.size, 7, none⟩ = some (.int .i64 0) := rW.cell (i := 7) (by omega)
  have zz7 : ((w1.alloc (.cells #[.slice (some ⟨g, 0, none⟩) l.length c, .int .i64 (nd : Int), .slice (some ⟨w1.heap.size + 1, 0, none⟩) 1 1, .int .i64 128, .int .i64 512, .int .i64 1048576, .int .i64 8, .int .i64 2, .int .i64 4] 25)).alloc (.cells #[.float .f64 0] 34)).frozen? ⟨w.heap.size, 7, none⟩ = false := rW.frozen 7
  have cc8 : ((w1.alloc (.cells #[.slice (some ⟨g, 0, none⟩) l.length c, .int .i64 (nd : Int), .slice (some ⟨w1.heap.size + 1, 0, none⟩) 1 1, .int .i64 128, .int .i64 512, .int .i64 1048576, .int .i64 8, .int .i64 2, .int .i64 4] 25)).alloc (.cells #[.float .f64 0] 34)).cell? ⟨w.heap.size, 8, none⟩ = some (.int .i64 0) := rW.cell (i := 8) (by omega)
  have zz8 : ((w1.alloc (.cells #[.slice (some ⟨g, 0, none⟩) l.length c, .int .i64 (nd : Int), .slice (some ⟨w1.heap.size + 1, 0, none⟩) 1 1, .int .i64 128, .int .i64 512, .int .i64 1048576, .int .i64 8, .int .i64 2, .int .i64 4] 25)).alloc (.cells #[.float .f64 0] 34)).frozen? ⟨w.heap.size, 8, none⟩ = false := rW.frozen 8
  have r3 := (((((((((rW.set 0 (.slice (some ⟨g, 0, none⟩) l.length c)).set 1 (.int .i64 (nd : Int))).set 2 (.slice (some ⟨w1.heap.size + 1, 0, none⟩) 1 1)).set 3 (.int .i64 128)).set 4 (.int .i64 512)).set 5 (.int .i64 1048576)).set 6 (.int .i64 8)).set 7 (.int .i64 2)).set 8 (.int .i64 4))
  have hg3 := rowIs_arr r3 (cfg (.slice (some ⟨g, 0, none⟩) l.length c) (nd : Int) (.slice (some ⟨w1.heap.size + 1, 0, none⟩) 1 1) 128 512 1048576 8 2 4) rfl (fun i hi => by
    match i, hi with
    | 0, _ | 1, _ | 2, _ | 3, _ | 4, _ | 5, _ | 6, _ | 7, _ | 8, _ => rfl)
  have f13 := ((((((((((((Fr.refl (fun x => x = w.heap.size) w1).alloc (.cells #[.slice (some ⟨g, 0, none⟩) l.length c, .int .i64 (nd : Int), .slice (some ⟨w1.heap.size + 1, 0, none⟩) 1 1, .int .i64 128, .int .i64 512, .int .i64 1048576, .int .i64 8, .int .i64 2, .int .i64 4] 25)).alloc (.cells #[.float .f64 0] 34)).setCell (p := ⟨w.heap.size, 0, none⟩) (Or.inl rfl) (.slice (some ⟨g, 0, none⟩) l.length c)).setCell (p := ⟨w.heap.size, 1, none⟩) (Or.inl rfl) (.int .i64 (nd : Int))).setCell (p := ⟨w.heap.size, 2, none⟩) (Or.inl rfl) (.slice (some ⟨w1.heap.size + 1, 0, none⟩) 1 1)).setCell (p := ⟨w.heap.size, 3, none⟩) (Or.inl rfl) (.int .i64 128)).setCell (p := ⟨w.heap.size, 4, none⟩) (Or.inl rfl) (.int .i64 512)).setCell (p := ⟨w.heap.size, 5, none⟩) (Or.inl rfl) (.int .i64 1048576)).setCell (p := ⟨w.heap.size, 6, none⟩) (Or.inl rfl) (.int .i64 8)).setCell (p := ⟨w.heap.size, 7, none⟩) (Or.inl rfl) (.int .i64 2)).setCell (p := ⟨w.heap.size, 8, none⟩) (Or.inl rfl) (.int .i64 4))
  have hL3 := hA.fr f13 (hA.lt (by exact hlp)) (by omega)
  have f03 := f01.trans' f13 (fun i hi e => by omega)
  have hcu : AtF ((w1.alloc (.cells #[.slice (some ⟨g, 0, none⟩) l.length c, .int .i64 (nd : Int), .slice (some ⟨w1.heap.size + 1, 0, none⟩) 1 1, .int .i64 128, .int .i64 512, .int .i64 1048576, .int .i64 8, .int .i64 2, .int .i64 4] 25)).alloc (.cells #[.float .f64 0] 34)) (w1.heap.size + 1) 0 [0] := by
    have := atF_one (w1.alloc (.cells #[.slice (some ⟨g, 0, none⟩) l.length c, .int .i64 (nd : Int), .slice (some ⟨w1.heap.size + 1, 0, none⟩) 1 1, .int .i64 128, .int .i64 512, .int .i64 1048576, .int .i64 8, .int .i64 2, .int .i64 4] 25)) 0 34
    simpa using this
  have hcu2 := hcu.fr ((((((((((Fr.refl (fun x => x = w.heap.size) _).setCell (p := ⟨w.heap.size, 0, none⟩) (Or.inl rfl) (.slice (some ⟨g, 0, none⟩) l.length c)).setCell (p := ⟨w.heap.size, 1, none⟩) (Or.inl rfl) (.int .i64 (nd : Int))).setCell (p := ⟨w.heap.size, 2, none⟩) (Or.inl rfl) (.slice (some ⟨w1.heap.size + 1, 0, none⟩) 1 1)).setCell (p := ⟨w.heap.size, 3, none⟩) (Or.inl rfl) (.int .i64 128)).setCell (p := ⟨w.heap.size, 4, none⟩) (Or.inl rfl) (.int .i64 512)).setCell (p := ⟨w.heap.size, 5, none⟩) (Or.inl rfl) (.int .i64 1048576)).setCell (p := ⟨w.heap.size, 6, none⟩) (Or.inl rfl) (.int .i64 8)).setCell (p := ⟨w.heap.size, 7, none⟩) (Or.inl rfl) (.int .i64 2)).setCell (p := ⟨w.heap.size, 8, none⟩) (Or.inl rfl) (.int .i64 4)) (by omega)
  have HC : Hid _ := hcu2
  clear hcu hcu2
  have HG : Hid _ := hg3
  have HF : Hid (Fr _ _ _) := f03
  have HLd : Hid (Laid _ _ _) := hL3
  clear r3 hg3 f13 hL3 f03 rW r0 hA h0 f1 f01 hg
  go_wp2
  refine bodyPost_ret (results_cell_row (P := Try.prog) rfl _ _ w.heap.size 25 (cfg (.slice (some ⟨g, 0, none⟩) l.length c) (nd : Int) (.slice (some ⟨w1.heap.size + 1, 0, none⟩) 1 1) 128 512 1048576 8 2 4) (0, 0) _ rfl HG.out Try.underlying25 rfl (by kernel_rfl)) rfl ?_
  exact ⟨g, c, _, rfl, by omega, HLd.out, ⟨.inr ⟨by decide, _, _, rfl, HC.out⟩, fun a n c h => by cases h; exact ⟨Nat.le_refl _, by unfold maxLen; omega⟩⟩, HF.out⟩

set_option maxHeartbeats 2000000 in
theorem small_d2 (k nd : Nat) (hk : k < 256) (en : 1 + (k : Int) / 5 % 3 = (nd : Int)) (h5 : (k : Int) % 5 = 4) (hc : (k : Int) / 16 % 2 = 1) (w : World) :
    Calls Try.prog 12 #[.int .u8 (k : Int)] w fun e w' => ∃ g c cv, e = .returned (.agg (cfg (.slice (some ⟨g, 0, none⟩) ([3, 2]).length c) (nd : Int) cv 128 512 1048576 8 2 4)) ∧ w.heap.size ≤ g ∧ Laid w' g ([3, 2]) ∧ CutsOk w' cv [0] ∧ Fr (fun _ => False) w w' := by
  have h0 := fun w => lattices_any k w hk
  have h0' := fun w => lattices_any 0 w (by omega)
  rw [show lats 0 = [3, 2] by decide] at h0'
  have hlp := (lats_fine k).1
  generalize lats k = l at *
  have r0 : (w.alloc (.cells #[.slice none 0 0, .int .i64 0, .slice none 0 0, .int .i64 0, .int .i64 0, .int .i64 0, .int .i64 0, .int .i64 0, .int .i64 0] 25)).rowIs w.heap.size 25 9 (fun i => (#[.slice none 0 0, .int .i64 0, .slice none 0 0, .int .i64 0, .int .i64 0, .int .i64 0, .int .i64 0, .int .i64 0, .int .i64 0] : Array Value).getD i undef) := rowIs_lay w #[.slice none 0 0, .int .i64 0, .slice none 0 0, .int .i64 0, .int .i64 0, .int .i64 0, .int .i64 0, .int .i64 0, .int .i64 0] 25
  go_enter Try.func12, Try.ntmps12
  go_wp2_with fail
  refine (h0 _).mono ?_
  rintro e w1 ⟨g, c, rfl, hg, hA, f1⟩
  have hg' : w.heap.size + 1 ≤ g := by simpa using hg
  have s1 : w.heap.size + 1 ≤ w1.heap.size := by have := f1.size; simpa using this
  have f01 : Fr (fun _ => False) w w1 := ((Fr.refl (fun _ => False) w).alloc _).trans f1
  have hne : w.heap.size ≠ w1.heap.size := by omega
  have q1 : (w1.alloc (.cells #[.slice (some ⟨g, 0, none⟩) l.length c, .int .i64 (nd : Int), .slice none 0 0, .int .i64 128, .int .i64 512, .int .i64 1048576, .int .i64 8, .int .i64 2, .int .i64 4] 25)).rowIs w1.heap.size 25 9 (fun i => (#[.slice (some ⟨g, 0, none⟩) l.length c, .int .i64 (nd : Int), .slice none 0 0, .int .i64 128, .int .i64 512, .int .i64 1048576, .int .i64 8, .int .i64 2, .int .i64 4] : Array Value).getD i undef) := rowIs_lay w1 #[.slice (some ⟨g, 0, none⟩) l.length c, .int .i64 (nd : Int), .slice none 0 0, .int .i64 128, .int .i64 512, .int .i64 1048576, .int .i64 8, .int .i64 2, .int .i64 4] 25
  have HR0 : Hid (World.rowIs _ _ _ _ _) := r0
  have HQ1 : Hid (World.rowIs _ _ _ _ _) := q1
  have HA0 : Hid (Laid w1 g l) := hA
  clear hA r0 q1
  go_wp2_with fail
  refine (h0' _).mono ?_
  rintro e w2 ⟨g2, c2, rfl, hg2, hA, f2⟩
  have hg2' : w1.heap.size + 1 ≤ g2 := by simpa using hg2
  have r0 := HR0.out
  have q2 := f2.rowIs HQ1.out (by simp)
  have f02 : Fr (fun _ => False) w w2 := (f01.alloc _).trans f2
  have s2 : w1.heap.size + 1 ≤ w2.heap.size := by have := f2.size; simpa using this
  have b0 : w2.cell? ⟨w1.heap.size, 0, none⟩ = some (.slice (some ⟨g, 0, none⟩) l.length c) := q2.cell (i := 0) (by omega)
  have y0 : w2.frozen? ⟨w1.heap.size, 0, none⟩ = false := q2.frozen 0
  have q4 := (q2.set 0 (.slice (some ⟨g2, 0, none⟩) 2 c2)).alloc (.cells #[.float .f64 0] 34)
  have b2 : ((w2.setCell ⟨w1.heap.size, 0, none⟩ (.slice (some ⟨g2, 0, none⟩) 2 c2)).alloc (.cells #[.float .f64 0] 34)).cell? ⟨w1.heap.size, 2, none⟩ = some (.slice none 0 0) := q4.cell (i := 2) (by omega)
  have y2 : ((w2.setCell ⟨w1.heap.size, 0, none⟩ (.slice (some ⟨g2, 0, none⟩) 2 c2)).alloc (.cells #[.float .f64 0] 34)).frozen? ⟨w1.heap.size, 2, none⟩ = false := q4.frozen 2
  have qW := q4.set 2 (.slice (some ⟨w2.heap.size, 0, none⟩) 1 1)
  have e0 : (((w2.setCell ⟨w1.heap.size, 0, none⟩ (.slice (some ⟨g2, 0, none⟩) 2 c2)).alloc (.cells #[.float .f64 0] 34)).setCell ⟨w1.heap.size, 2, none⟩ (.slice (some ⟨w2.heap.size, 0, none⟩) 1 1)).cell? ⟨w1.heap.size, 0, none⟩ = some (.slice (some ⟨g2, 0, none⟩) 2 c2) := qW.cell (i := 0) (by omega)
  have e1 : (((w2.setCell ⟨w1.heap.size, 0, none⟩ (.slice (some ⟨g2, 0, none⟩) 2 c2)).alloc (.cells #[.float .f64 0] 34)).setCell ⟨w1.heap.size, 2, none⟩ (.slice (some ⟨w2.heap.size, 0, none⟩) 1 1)).cell? ⟨w1.heap.size, 1, none⟩ = some (.int .i64 (nd : Int)) := qW.cell (i := 1) (by omega)
  have e2 : (((w2.setCell ⟨w1.heap.size, 0, none⟩ (.slice (some ⟨g2, 0, none⟩) 2 c2)).alloc (.cells #[.float .f64 0] 34)).setCell ⟨w1.heap.size, 2, none⟩ (.slice (some ⟨w2.heap.size, 0, none⟩) 1 1)).cell? ⟨w1.heap.size, 2, none⟩ = some (.slice (some ⟨w2.heap.size, 0, none⟩) 1 1) := qW.cell (i := 2) (by omega)
  have e3 : (((w2.setCell ⟨w1.heap.size, 0, none⟩ (.slice (some ⟨g2, 0, none⟩) 2 c2)).alloc (.cells #[.float .f64 0] 34)).setCell ⟨w1.heap.size, 2, none⟩ (.slice (some ⟨w2.heap.size, 0, none⟩) 1 1)).cell? ⟨w1.heap.size, 3, none⟩ = some (.int .i64 128) := qW.cell (i := 3) (by omega)
  have e4 : (((w2.setCell ⟨w1.heap.size, 0, none⟩ (.slice (some ⟨g2, 0, none⟩) 2 c2)).alloc (.cells #[.float .f64 0] 34)).setCell ⟨w1.heap.size, 2, none⟩ (.slice (some ⟨w2.heap.size, 0, none⟩) 1 1)).cell? ⟨w1.heap.size, 4, none⟩ = some (.int .i64 512) := qW.cell (i := 4) (by omega)
  have e5 : (((w2.setCell ⟨w1.heap.size, 0, none⟩ (.slice (some ⟨g2, 0, none⟩) 2 c2)).alloc (.cells #[.float .f64 0] 34)).setCell ⟨w1.heap.size, 2, none⟩ (.slice (some ⟨w2.heap.size, 0, none⟩) 1 1)).cell? ⟨w1.heap.size, 5, none⟩ = some (.int .i64 1048576) := qW.cell (i := 5) (by omega)
  have e6 : (((w2.setCell ⟨w1.heap.size, 0, none⟩ (.slice (some ⟨g2, 0, none⟩) 2 c2)).alloc (.cells #[.float .f64 0] 34)).setCell ⟨w1.heap.size, 2, none⟩ (.slice (some ⟨w2.heap.size, 0, none⟩) 1 1)).cell? ⟨w1.heap.size, 6, none⟩ = some (.int .i64 8) := qW.cell (i := 6) (by omega)
  have e7 : (((w2.setCell ⟨w1.heap.size, 0, none⟩ (.slice (some ⟨g2, 0, none⟩) 2 c2)).alloc (.cells #[.float .f64 0] 34)).setCell ⟨w1.heap.size, 2, none⟩ (.slice (some ⟨w2.heap.size, 0, none⟩) 1 1)).cell? ⟨w1.heap.size, 7, none⟩ = some (.int .i64 2) := qW.cell (i := 7) (by omega)
  have e8 : (((w2.setCell ⟨w1.heap.size, 0, none⟩ (.slice (some ⟨g2, 0, none⟩) 2 c2)).alloc (.cells #[.float .f64 0] 34)).setCell ⟨w1.heap.size, 2, none⟩ (.slice (some ⟨w2.heap.size, 0, none⟩) 1 1)).cell? ⟨w1.heap.size, 8, none⟩ = some (.int .i64 4) := qW.cell (i := 8) (by omega)
  clear qW q2 q4
  have rW := ((((f2.rowIs ((f1.rowIs r0 (by simp)).alloc (.cells #[.slice (some ⟨g, 0, none⟩) l.length c, .int .i64 (nd : Int), .slice none 0 0, .int .i64 128, .int .i64 512, .int .i64 1048576, .int .i64 8, .int .i64 2, .int .i64 4] 25)) (by simp)).setOther (a := ⟨w1.heap.size, 0, none⟩) hne (.slice (some ⟨g2, 0, none⟩) 2 c2)).alloc (.cells #[.float .f64 0] 34)).setOther (a := ⟨w1.heap.size, 2, none⟩) hne (.slice (some ⟨w2.heap.size, 0, none⟩) 1 1))
  have cc0 : (((w2.setCell ⟨w1.heap.size, 0, none⟩ (.slice (some ⟨g2, 0, none⟩) 2 c2)).alloc (.cells #[.float .f64 0] 34)).setCell ⟨w1.heap.size, 2, none⟩ (.slice (some ⟨w2.heap.size, 0, none⟩) 1 1)).cell? ⟨w.heap.size, 0, none⟩ = some (.slice none 0 0) := rW.cell (i := 0) (by omega)
  have zz0 : (((w2.setCell ⟨w1.heap.size, 0, none⟩ (.slice (some ⟨g2, 0, none⟩) 2 c2)).alloc (.cells #[.float .f64 0] 34)).setCell ⟨w1.heap.size, 2, none⟩ (.slice (some ⟨w2.heap.size, 0, none⟩) 1 1)).frozen? ⟨w.heap.size, 0, none⟩ = false := rW.frozen 0
  have cc1 : (((w2.setCell ⟨w1.heap.size, 0, none⟩ (.slice (some ⟨g2, 0, none⟩) 2 c2)).alloc (.cells #[.float .f64 0] 34)).setCell ⟨w1.heap.size, 2, none⟩ (.slice (some ⟨w2.heap.size, 0, none⟩) 1 1)).cell? ⟨w.heap.size, 1, none⟩ = some (.int .i64 0) := rW.cell (i := 1) (by omega)
  have zz1 : (((w2.setCell ⟨w1.heap.size, 0, none⟩ (.slice (some ⟨g2, 0, none⟩) 2 c2)).alloc (.cells #[.float .f64 0] 34)).setCell ⟨w1.heap.size, 2, none⟩ (.slice (some ⟨w2.heap.size, 0, none⟩) 1 1)).frozen? ⟨w.heap.size, 1, none⟩ = false := rW.frozen 1
  have cc2 : (((w2.setCell ⟨w1.heap.size, 0, none⟩ (.slice (some ⟨g2, 0, none⟩) 2 c2)).alloc (.cells #[.float .f64 0] 34)).setCell ⟨w1.heap.size, 2, none⟩ (.slice (some ⟨w2.heap.size, 0, none⟩) 1 1)).cell? ⟨w.heap.size, 2, none⟩ = some (.slice none 0 0) := rW.cell (i := 2) (by omega)
  have zz2 : (((w2.setCell ⟨w1.heap.size, 0, none⟩ (.slice (some ⟨g2, 0, none⟩) 2 c2)).alloc (.cells #[.float .f64 0] 34)).setCell ⟨w1.heap.size, 2, none⟩ (.slice (some ⟨w2.heap.size, 0, none⟩) 1 1)).frozen? ⟨w.heap.size, 2, none⟩ = false := rW.frozen 2
  have cc3 : (((w2.setCell ⟨w1.heap.size, 0, none⟩ (.slice (some ⟨g2, 0, none⟩) 2 c2)).alloc (.cells #[.float .f64 0] 34)).setCell ⟨w1.heap.size, 2, none⟩ (.slice (some ⟨w2.heap.size, 0, none⟩) 1 1)).cell? ⟨w.heap.size, 3, none⟩ = some (.int .i64 0) := rW.cell (i := 3) (by omega)
  have zz3 : (((w2.setCell ⟨w1.heap.size, 0, none⟩ (.slice (some ⟨g2, 0, none⟩) 2 c2)).alloc (.cells #[.float .f64 0] 34)).setCell ⟨w1.heap.size, 2, none⟩ (.slice (some ⟨w2.heap.size, 0, none⟩) 1 1)).frozen? ⟨w.heap.size, 3, none⟩ = false := rW.frozen 3
  have cc4 : (((w2.setCell ⟨w1.heap.size, 0, none⟩ (.slice (some ⟨g2, 0, none⟩) 2 c2)).alloc (.cells #[.float .f64 0] 34)).setCell ⟨w1.heap.size, 2, none⟩ (.slice (some ⟨w2.heap.size, 0, none⟩) 1 1)).cell? ⟨w.heap.size, 4, none⟩ = some (.int .i64 0) := rW.cell (i := 4) (by omega)
  have zz4 : (((w2.setCell ⟨w1.heap.size, 0, none⟩ (.slice (some ⟨g2, 0, none⟩) 2 c2)).alloc (.cells #[.float .f64 0] 34)).setCell ⟨w1.heap.size, 2, none⟩ (.slice (some ⟨w2.heap.size, 0, none⟩) 1 1)).frozen? ⟨w.heap.size, 4, none⟩ = false := rW.frozen 4
  have cc5 : (((w2.setCell ⟨w1.heap.size, 0, none⟩ (.slice (some ⟨g2, 0, none⟩) 2 c2)).alloc (.cells #[.float .f64 0] 34)).setCell ⟨w1.heap.size, 2, none⟩ (.slice (some ⟨w2.heap.size, 0, none⟩) 1 1)).cell? ⟨w.heap.size, 5, none⟩ = some (.int .i64 0) := rW.cell (i := 5) (by omega)
  have zz5 : (((w2.setCell ⟨w1.heap.size, 0, none⟩ (.slice (some ⟨g2, 0, none⟩) 2 c2)).alloc (.cells #[.float .f64 0] 34)).setCell ⟨w1.heap.size, 2, none⟩ (.slice (some ⟨w2.heap.size, 0, none⟩) 1 1)).frozen? ⟨w.heap.size, 5, none⟩ = false := rW.frozen 5
  have cc6 : (((w2.setCell ⟨w1.heap.size, 0, none⟩ (.slice (some ⟨g2, 0, none⟩) 2 c2)).alloc (.cells #[.float .f64 0] 34)).setCell ⟨w1.heap.size, 2, none⟩ (.slice (some ⟨w2.heap.size, 0, none⟩) 1 1)).cell? ⟨w.heap.size, 6, none⟩ = some (.int .i64 0) := rW.cell (i := 6) (by omega)
  have zz6 : (((w2.setCell ⟨w1.heap.size, 0, none⟩ (.slice (some ⟨g2, 0, none⟩) 2 c2)).alloc (.cells #[.float .f64 0] 34)).setCell ⟨w1.heap.size, 2, none⟩ (.slice (some ⟨w2.heap.size, 0, none⟩) 1 1)).frozen? ⟨w.heap.size, 6, none⟩ = false := rW.frozen 6
  have cc7 : (((w2.setCell ⟨w1.heap.size, 0, none⟩ (.slice (some ⟨g2, 0, none⟩) 2 c2)).alloc (.cells #[.float .f64 0] 34)).setCell ⟨w1.heap.size, 2, none⟩ (.slice (some ⟨w2.heap.size, 0, none⟩) 1 1)).cell? ⟨w.heap.size, 7, none⟩ = some (.int .i64 0) := rW.cell (i := 7) (by omega)
  have zz7 : (((w2.setCell ⟨w1.heap.size, 0, none⟩ (.slice (some ⟨g2, 0, none⟩) 2 c2)).alloc (.cells #[.float .f64 0] 34)).setCell ⟨w1.heap.size, 2, none⟩ (.slice (some ⟨w2.heap.size, 0, none⟩) 1 1)).frozen? ⟨w.heap.size, 7, none⟩ = false := rW.frozen 7
  have cc8 : (((w2.setCell ⟨w1.heap.size, 0, none⟩ (.slice (some ⟨g2, 0, none⟩) 2 c2)).alloc (.cells #[.float .f64 0] 34)).setCell ⟨w1.heap.size, 2, none⟩ (.slice (some ⟨w2.heap.size, 0, none⟩) 1 1)).cell? ⟨w.heap.size, 8, none⟩ = some (.int .i64 0) := rW.cell (i := 8) (by omega)
  have zz8 : (((w2.setCell ⟨w1.heap.size, 0, none⟩ (.slice (some ⟨g2, 0, none⟩) 2 c2)).alloc (.cells #[.float .f64 0] 34)).setCell ⟨w1.heap.size, 2, none⟩ (.slice (some ⟨w2.heap.size, 0, none⟩) 1 1)).frozen? ⟨w.heap.size, 8, none⟩ = false := rW.frozen 8
  have r3 := (((((((((rW.set 0 (.slice (some ⟨g2, 0, none⟩) 2 c2)).set 1 (.int .i64 (nd : Int))).set 2 (.slice (some ⟨w2.heap.size, 0, none⟩) 1 1)).set 3 (.int .i64 128)).set 4 (.int .i64 512)).set 5 (.int .i64 1048576)).set 6 (.int .i64 8)).set 7 (.int .i64 2)).set 8 (.int .i64 4))
  have hg3 := rowIs_arr r3 (cfg (.slice (some ⟨g2, 0, none⟩) 2 c2) (nd : Int) (.slice (some ⟨w2.heap.size, 0, none⟩) 1 1) 128 512 1048576 8 2 4) rfl (fun i hi => by
    match i, hi with
    | 0, _ | 1, _ | 2, _ | 3, _ | 4, _ | 5, _ | 6, _ | 7, _ | 8, _ => rfl)
  have f13 := (((((((((((((Fr.refl (fun x => x = w.heap.size ∨ x = w1.heap.size) w2).setCell (p := ⟨w1.heap.size, 0, none⟩) (Or.inl (Or.inr rfl)) (.slice (some ⟨g2, 0, none⟩) 2 c2)).alloc (.cells #[.float .f64 0] 34)).setCell (p := ⟨w1.heap.size, 2, none⟩) (Or.inl (Or.inr rfl)) (.slice (some ⟨w2.heap.size, 0, none⟩) 1 1)).setCell (p := ⟨w.heap.size, 0, none⟩) (Or.inl (Or.inl rfl)) (.slice (some ⟨g2, 0, none⟩) 2 c2)).setCell (p := ⟨w.heap.size, 1, none⟩) (Or.inl (Or.inl rfl)) (.int .i64 (nd : Int))).setCell (p := ⟨w.heap.size, 2, none⟩) (Or.inl (Or.inl rfl)) (.slice (some ⟨w2.heap.size, 0, none⟩) 1 1)).setCell (p := ⟨w.heap.size, 3, none⟩) (Or.inl (Or.inl rfl)) (.int .i64 128)).setCell (p := ⟨w.heap.size, 4, none⟩) (Or.inl (Or.inl rfl)) (.int .i64 512)).setCell (p := ⟨w.heap.size, 5, none⟩) (Or.inl (Or.inl rfl)) (.int .i64 1048576)).setCell (p := ⟨w.heap.size, 6, none⟩) (Or.inl (Or.inl rfl)) (.int .i64 8)).setCell (p := ⟨w.heap.size, 7, none⟩) (Or.inl (Or.inl rfl)) (.int .i64 2)).setCell (p := ⟨w.heap.size, 8, none⟩) (Or.inl (Or.inl rfl)) (.int .i64 4))
  have hL3 := hA.fr f13 (hA.lt (by decide)) (by omega)
  have f03 := f02.trans' f13 (fun i hi e => by omega)
  have hcu0 : AtF ((w2.setCell ⟨w1.heap.size, 0, none⟩ (.slice (some ⟨g2, 0, none⟩) 2 c2)).alloc (.cells #[.float .f64 0] 34)) w2.heap.size 0 [0] := by
    have := atF_one (w2.setCell ⟨w1.heap.size, 0, none⟩ (.slice (some ⟨g2, 0, none⟩) 2 c2)) 0 34
    simpa using this
  have hcu : AtF (((w2.setCell ⟨w1.heap.size, 0, none⟩ (.slice (some ⟨g2, 0, none⟩) 2 c2)).alloc (.cells #[.float .f64 0] 34)).setCell ⟨w1.heap.size, 2, none⟩ (.slice (some ⟨w2.heap.size, 0, none⟩) 1 1)) w2.heap.size 0 [0] := hcu0.fr ((Fr.refl (fun x => x = w1.heap.size) _).setCell (p := ⟨w1.heap.size, 2, none⟩) (Or.inl rfl) (.slice (some ⟨w2.heap.size, 0, none⟩) 1 1)) (by omega)
  have hcu2 := hcu.fr ((((((((((Fr.refl (fun x => x = w.heap.size) _).setCell (p := ⟨w.heap.size, 0, none⟩) (Or.inl rfl) (.slice (some ⟨g2, 0, none⟩) 2 c2)).setCell (p := ⟨w.heap.size, 1, none⟩) (Or.inl rfl) (.int .i64 (nd : Int))).setCell (p := ⟨w.heap.size, 2, none⟩) (Or.inl rfl) (.slice (some ⟨w2.heap.size, 0, none⟩) 1 1)).setCell (p := ⟨w.heap.size, 3, none⟩) (Or.inl rfl) (.int .i64 128)).setCell (p := ⟨w.heap.size, 4, none⟩) (Or.inl rfl) (.int .i64 512)).setCell (p := ⟨w.heap.size, 5, none⟩) (Or.inl rfl) (.int .i64 1048576)).setCell (p := ⟨w.heap.size, 6, none⟩) (Or.inl rfl) (.int .i64 8)).setCell (p := ⟨w.heap.size, 7, none⟩) (Or.inl rfl) (.int .i64 2)).setCell (p := ⟨w.heap.size, 8, none⟩) (Or.inl rfl) (.int .i64 4)) (by omega)
  have HC : Hid _ := hcu2
  clear hcu hcu2 hcu0
  have HG : Hid _ := hg3
  have HF : Hid (Fr _ _ _) := f03
  have HLd : Hid (Laid _ _ _) := hL3
  clear r3 hg3 f13 hL3 f03 rW r0 hA h0 h0' HR0 HQ1 HA0 f1 f01 f2 f02 hg hg2
  go_wp2
  refine bodyPost_ret (results_cell_row (P := Try.prog) rfl _ _ w.heap.size 25 (cfg (.slice (some ⟨g2, 0, none⟩) 2 c2) (nd : Int) (.slice (some ⟨w2.heap.size, 0, none⟩) 1 1) 128 512 1048576 8 2 4) (0, 0) _ rfl HG.out Try.underlying25 rfl (by kernel_rfl)) rfl ?_
  exact ⟨g2, c2, _, rfl, by omega, HLd.out, ⟨.inr ⟨by decide, _, _, rfl, HC.out⟩, fun a n c h => by cases h; exact ⟨Nat.le_refl _, by unfold maxLen; omega⟩⟩, HF.out⟩

end Go.Proofs.Ytjbkmflbhlnbpaa
