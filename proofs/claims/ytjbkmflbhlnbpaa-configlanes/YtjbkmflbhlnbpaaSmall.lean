/- The small configs: for every byte, one that is right. -/
import Derived.Test.YtjbkmflbhlnbpaaAwake
namespace Go.Proofs.Ytjbkmflbhlnbpaa
open Go.RowKit

theorem rowIs_lay (w : World) (cs : Array Value) (t : TypeId) : (w.alloc (.cells cs t)).rowIs w.heap.size t cs.size (fun i => cs.getD i undef) := World.rowIs_alloc w cs t _ (fun i hi => by simp [hi])
/-- cuts as they lie: none, or some. -/
def CutsAt (w : World) (cv : Value) (cl : List Nat) : Prop := (cl = [] ∧ cv = .slice none 0 0) ∨ (0 < cl.length ∧ ∃ g c, cv = .slice (some ⟨g, 0, none⟩) cl.length c ∧ AtF w g 0 cl)

set_option maxHeartbeats 2000000 in
theorem small_a (k nd : Nat) (hk : k < 256) (en : 1 + (k : Int) / 5 % 3 = (nd : Int)) (h5 : ((k : Int) % 5 == 4) = false) (hc : ((k : Int) / 16 % 2 == 1) = false) (w : World) :
    Calls Try.prog 12 #[.int .u8 (k : Int)] w fun e w' => ∃ g c cv, e = .returned (.agg (cfg (.slice (some ⟨g, 0, none⟩) (lats k).length c) (nd : Int) cv 128 512 1048576 8 2 4)) ∧ w.heap.size ≤ g ∧ Laid w' g (lats k) ∧ CutsAt w' cv [] ∧ Fr (fun _ => False) w w' := by
  have h0 := fun w => lattices_any k w hk
  have hlp := (lats_fine k).1
  generalize lats k = l at *
  have r0 : (w.alloc (.cells #[.slice none 0 0, .int .i64 0, .slice none 0 0, .int .i64 0, .int .i64 0, .int .i64 0, .int .i64 0, .int .i64 0, .int .i64 0] 25)).rowIs w.heap.size 25 9 (fun i => (#[.slice none 0 0, .int .i64 0, .slice none 0 0, .int .i64 0, .int .i64 0, .int .i64 0, .int .i64 0, .int .i64 0, .int .i64 0] : Array Value).getD i undef) := rowIs_lay w #[.slice none 0 0, .int .i64 0, .slice none 0 0, .int .i64 0, .int .i64 0, .int .i64 0, .int .i64 0, .int .i64 0, .int .i64 0] 25
  go_enter Try.func12, Try.ntmps12
  go_wp2_with fail
  refine (h0 _).mono ?_
  rintro e w1 ⟨g, c, rfl, hg, hA, f1⟩
  have hg' : w.heap.size + 1 ≤ g := by simpa using hg
  have s1 : w.heap.size + 1 ≤ w1.heap.size := by have := f1.size; simpa using this
  have f01 : Fr (fun _ => False) w w1 := ((Fr.refl (fun _ => False) w).alloc _).trans f1
  have hne : w.heap.size ≠ w1.heap.size := by omega
  have rW := ((f1.rowIs r0 (by simp)).alloc (.cells #[.slice (some ⟨g, 0, none⟩) l.length c, .int .i64 (nd : Int), .slice none 0 0, .int .i64 128, .int .i64 512, .int .i64 1048576, .int .i64 8, .int .i64 2, .int .i64 4] 25))
  have cc0 : (w1.alloc (.cells #[.slice (some ⟨g, 0, none⟩) l.length c, .int .i64 (nd : Int), .slice none 0 0, .int .i64 128, .int .i64 512, .int .i64 1048576, .int .i64 8, .int .i64 2, .int .i64 4] 25)).cell? ⟨w.heap.size, 0, none⟩ = some (.slice none 0 0) := rW.cell (i := 0) (by omega)
  have zz0 : (w1.alloc (.cells #[.slice (some ⟨g, 0, none⟩) l.length c, .int .i64 (nd : Int), .slice none 0 0, .int .i64 128, .int .i64 512, .int .i64 1048576, .int .i64 8, .int .i64 2, .int .i64 4] 25)).frozen? ⟨w.heap.size, 0, none⟩ = false := rW.frozen 0
  have cc1 : (w1.alloc (.cells #[.slice (some ⟨g, 0, none⟩) l.length c, .int .i64 (nd : Int), .slice none 0 0, .int .i64 128, .int .i64 512, .int .i64 1048576, .int .i64 8, .int .i64 2, .int .i64 4] 25)).cell? ⟨w.heap.size, 1, none⟩ = some (.int .i64 0) := rW.cell (i := 1) (by omega)
  have zz1 : (w1.alloc (.cells #[.slice (some ⟨g, 0, none⟩) l.length c, .int .i64 (nd : Int), .slice none 0 0, .int .i64 128, .int .i64 512, .int .i64 1048576, .int .i64 8, .int .i64 2, .int .i64 4] 25)).frozen? ⟨w.heap.size, 1, none⟩ = false := rW.frozen 1
  have cc2 : (w1.alloc (.cells #[.slice (some ⟨g, 0, none⟩) l.length c, .int .i64 (nd : Int), .slice none 0 0, .int .i64 128, .int .i64 512, .int .i64 1048576, .int .i64 8, .int .i64 2, .int .i64 4] 25)).cell? ⟨w.heap.size, 2, none⟩ = some (.slice none 0 0) := rW.cell (i := 2) (by omega)
  have zz2 : (w1.alloc (.cells #[.slice (some ⟨g, 0, none⟩) l.length c, .int .i64 (nd : Int), .slice none 0 0, .int .i64 128, .int .i64 512, .int .i64 1048576, .int .i64 8, .int .i64 2, .int .i64 4] 25)).frozen? ⟨w.heap.size, 2, none⟩ = false := rW.frozen 2
  have cc3 : (w1.alloc (.cells #[.slice (some ⟨g, 0, none⟩) l.length c, .int .i64 (nd : Int), .slice none 0 0, .int .i64 128, .int .i64 512, .int .i64 1048576, .int .i64 8, .int .i64 2, .int .i64 4] 25)).cell? ⟨w.heap.size, 3, none⟩ = some (.int .i64 0) := rW.cell (i := 3) (by omega)
  have zz3 : (w1.alloc (.cells #[.slice (some ⟨g, 0, none⟩) l.length c, .int .i64 (nd : Int), .slice none 0 0, .int .i64 128, .int .i64 512, .int .i64 1048576, .int .i64 8, .int .i64 2, .int .i64 4] 25)).frozen? ⟨w.heap.size, 3, none⟩ = false := rW.frozen 3
  have cc4 : (w1.alloc (.cells #[.slice (some ⟨g, 0, none⟩) l.length c, .int .i64 (nd : Int), .slice none 0 0, .int .i64 128, .int .i64 512, .int .i64 1048576, .int .i64 8, .int .i64 2, .int .i64 4] 25)).cell? ⟨w.heap.size, 4, none⟩ = some (.int .i64 0) := rW.cell (i := 4) (by omega)
  have zz4 : (w1.alloc (.cells #[.slice (some ⟨g, 0, none⟩) l.length c, .int .i64 (nd : Int), .slice none 0 0, .int .i64 128, .int .i64 512, .int .i64 1048576, .int .i64 8, .int .i64 2, .int .i64 4] 25)).frozen? ⟨w.heap.size, 4, none⟩ = false := rW.frozen 4
  have cc5 : (w1.alloc (.cells #[.slice (some ⟨g, 0, none⟩) l.length c, .int .i64 (nd : Int), .slice none 0 0, .int .i64 128, .int .i64 512, .int .i64 1048576, .int .i64 8, .int .i64 2, .int .i64 4] 25)).cell? ⟨w.heap.size, 5, none⟩ = some (.int .i64 0) := rW.cell (i := 5) (by omega)
  have zz5 : (w1.alloc (.cells #[.slice (some ⟨g, 0, none⟩) l.length c, .int .i64 (nd : Int), .slice none 0 0, .int .i64 128, .int .i64 512, .int .i64 1048576, .int .i64 8, .int .i64 2, .int .i64 4] 25)).frozen? ⟨w.heap.size, 5, none⟩ = false := rW.frozen 5
  have cc6 : (w1.alloc (.cells #[.slice (some ⟨g, 0, none⟩) l.length c, .int .i64 (nd : Int), .slice none 0 0, .int .i64 128, .int .i64 512, .int .i64 1048576, .int .i64 8, .int .i64 2, .int .i64 4] 25)).cell? ⟨w.heap.size, 6, none⟩ = some (.int .i64 0) := rW.cell (i := 6) (by omega)
  have zz6 : (w1.alloc (.cells #[.slice (some ⟨g, 0, none⟩) l.length c, .int .i64 (nd : Int), .slice none 0 0, .int .i64 128, .int .i64 512, .int .i64 1048576, .int .i64 8, .int .i64 2, .int .i64 4] 25)).frozen? ⟨w.heap.size, 6, none⟩ = false := rW.frozen 6
  have cc7 : (w1.alloc (.cells #[.slice (some ⟨g, 0, none⟩) l.length c, .int .i64 (nd : Int), .slice none 0 0, .int .i64 128, .int .i64 512, .int .i64 1048576, .int .i64 8, .int .i64 2, .int .i64 4] 25)).cell? ⟨w.heap.size, 7, none⟩ = some (.int .i64 0) := rW.cell (i := 7) (by omega)
  have zz7 : (w1.alloc (.cells #[.slice (some ⟨g, 0, none⟩) l.length c, .int .i64 (nd : Int), .slice none 0 0, .int .i64 128, .int .i64 512, .int .i64 1048576, .int .i64 8, .int .i64 2, .int .i64 4] 25)).frozen? ⟨w.heap.size, 7, none⟩ = false := rW.frozen 7
  have cc8 : (w1.alloc (.cells #[.slice (some ⟨g, 0, none⟩) l.length c, .int .i64 (nd : Int), .slice none 0 0, .int .i64 128, .int .i64 512, .int .i64 1048576, .int .i64 8, .int .i64 2, .int .i64 4] 25)).cell? ⟨w.heap.size, 8, none⟩ = some (.int .i64 0) := rW.cell (i := 8) (by omega)
  have zz8 : (w1.alloc (.cells #[.slice (some ⟨g, 0, none⟩) l.length c, .int .i64 (nd : Int), .slice none 0 0, .int .i64 128, .int .i64 512, .int .i64 1048576, .int .i64 8, .int .i64 2, .int .i64 4] 25)).frozen? ⟨w.heap.size, 8, none⟩ = false := rW.frozen 8
  have r3 := (((((((((rW.set 0 (.slice (some ⟨g, 0, none⟩) l.length c)).set 1 (.int .i64 (nd : Int))).set 2 (.slice none 0 0)).set 3 (.int .i64 128)).set 4 (.int .i64 512)).set 5 (.int .i64 1048576)).set 6 (.int .i64 8)).set 7 (.int .i64 2)).set 8 (.int .i64 4))
  have hg3 := rowIs_arr r3 (cfg (.slice (some ⟨g, 0, none⟩) l.length c) (nd : Int) (.slice none 0 0) 128 512 1048576 8 2 4) rfl (fun i hi => by
    match i, hi with
    | 0, _ | 1, _ | 2, _ | 3, _ | 4, _ | 5, _ | 6, _ | 7, _ | 8, _ => rfl)
  have f13 := (((((((((((Fr.refl (fun x => x = w.heap.size) w1).alloc (.cells #[.slice (some ⟨g, 0, none⟩) l.length c, .int .i64 (nd : Int), .slice none 0 0, .int .i64 128, .int .i64 512, .int .i64 1048576, .int .i64 8, .int .i64 2, .int .i64 4] 25)).setCell (p := ⟨w.heap.size, 0, none⟩) (Or.inl rfl) (.slice (some ⟨g, 0, none⟩) l.length c)).setCell (p := ⟨w.heap.size, 1, none⟩) (Or.inl rfl) (.int .i64 (nd : Int))).setCell (p := ⟨w.heap.size, 2, none⟩) (Or.inl rfl) (.slice none 0 0)).setCell (p := ⟨w.heap.size, 3, none⟩) (Or.inl rfl) (.int .i64 128)).setCell (p := ⟨w.heap.size, 4, none⟩) (Or.inl rfl) (.int .i64 512)).setCell (p := ⟨w.heap.size, 5, none⟩) (Or.inl rfl) (.int .i64 1048576)).setCell (p := ⟨w.heap.size, 6, none⟩) (Or.inl rfl) (.int .i64 8)).setCell (p := ⟨w.heap.size, 7, none⟩) (Or.inl rfl) (.int .i64 2)).setCell (p := ⟨w.heap.size, 8, none⟩) (Or.inl rfl) (.int .i64 4))
  have hL3 := hA.fr f13 (hA.lt (by exact hlp)) (by omega)
  have f03 := f01.trans' f13 (fun i hi e => by omega)
  have HG : Hid _ := hg3
  have HF : Hid (Fr _ _ _) := f03
  have HLd : Hid (Laid _ _ _) := hL3
  clear r3 hg3 f13 hL3 f03 rW r0 hA h0 f1 f01 hg
  go_wp2
  refine bodyPost_ret (results_cell_row (P := Try.prog) rfl _ _ w.heap.size 25 (cfg (.slice (some ⟨g, 0, none⟩) l.length c) (nd : Int) (.slice none 0 0) 128 512 1048576 8 2 4) (0, 0) _ rfl HG.out Try.underlying25 rfl (by kernel_rfl)) rfl ?_
  exact ⟨g, c, _, rfl, by omega, HLd.out, .inl ⟨rfl, rfl⟩, HF.out⟩

set_option maxHeartbeats 2000000 in
theorem small_b (k nd : Nat) (hk : k < 256) (en : 1 + (k : Int) / 5 % 3 = (nd : Int)) (h5 : ((k : Int) % 5 == 4) = false) (hc : (k : Int) / 16 % 2 = 1) (w : World) :
    Calls Try.prog 12 #[.int .u8 (k : Int)] w fun e w' => ∃ g c cv, e = .returned (.agg (cfg (.slice (some ⟨g, 0, none⟩) (lats k).length c) (nd : Int) cv 128 512 1048576 8 2 4)) ∧ w.heap.size ≤ g ∧ Laid w' g (lats k) ∧ CutsAt w' cv [0] ∧ Fr (fun _ => False) w w' := by
  have h0 := fun w => lattices_any k w hk
  have hlp := (lats_fine k).1
  generalize lats k = l at *
  have r0 : (w.alloc (.cells #[.slice none 0 0, .int .i64 0, .slice none 0 0, .int .i64 0, .int .i64 0, .int .i64 0, .int .i64 0, .int .i64 0, .int .i64 0] 25)).rowIs w.heap.size 25 9 (fun i => (#[.slice none 0 0, .int .i64 0, .slice none 0 0, .int .i64 0, .int .i64 0, .int .i64 0, .int .i64 0, .int .i64 0, .int .i64 0] : Array Value).getD i undef) := rowIs_lay w #[.slice none 0 0, .int .i64 0, .slice none 0 0, .int .i64 0, .int .i64 0, .int .i64 0, .int .i64 0, .int .i64 0, .int .i64 0] 25
  go_enter Try.func12, Try.ntmps12
  go_wp2_with fail
  refine (h0 _).mono ?_
  rintro e w1 ⟨g, c, rfl, hg, hA, f1⟩
  have hg' : w.heap.size + 1 ≤ g := by simpa using hg
  have s1 : w.heap.size + 1 ≤ w1.heap.size := by have := f1.size; simpa using this
  have f01 : Fr (fun _ => False) w w1 := ((Fr.refl (fun _ => False) w).alloc _).trans f1
  have hne : w.heap.size ≠ w1.heap.size := by omega
  have rW := (((f1.rowIs r0 (by simp)).alloc (.cells #[.slice (some ⟨g, 0, none⟩) l.length c, .int .i64 (nd : Int), .slice (some ⟨w1.heap.size + 1, 0, none⟩) 1 1, .int .i64 128, .int .i64 512, .int .i64 1048576, .int .i64 8, .int .i64 2, .int .i64 4] 25)).alloc (.cells #[.float .f64 0] 34))
  have cc0 : ((w1.alloc (.cells #[.slice (some ⟨g, 0, none⟩) l.length c, .int .i64 (nd : Int), .slice (some ⟨w1.heap.size + 1, 0, none⟩) 1 1, .int .i64 128, .int .i64 512, .int .i64 1048576, .int .i64 8, .int .i64 2, .int .i64 4] 25)).alloc (.cells #[.float .f64 0] 34)).cell? ⟨w.heap.size, 0, none⟩ = some (.slice none 0 0) := rW.cell (i := 0) (by omega)
  have zz0 : ((w1.alloc (.cells #[.slice (some ⟨g, 0, none⟩) l.length c, .int .i64 (nd : Int), .slice (some ⟨w1.heap.size + 1, 0, none⟩) 1 1, .int .i64 128, .int .i64 512, .int .i64 1048576, .int .i64 8, .int .i64 2, .int .i64 4] 25)).alloc (.cells #[.float .f64 0] 34)).frozen? ⟨w.heap.size, 0, none⟩ = false := rW.frozen 0
  have cc1 : ((w1.alloc (.cells #[.slice (some ⟨g, 0, none⟩) l.length c, .int .i64 (nd : Int), .slice (some ⟨w1.heap.size + 1, 0, none⟩) 1 1, .int .i64 128, .int .i64 512, .int .i64 1048576, .int .i64 8, .int .i64 2, .int .i64 4] 25)).alloc (.cells #[.float .f64 0] 34)).cell? ⟨w.heap.size, 1, none⟩ = some (.int .i64 0) := rW.cell (i := 1) (by omega)
  have zz1 : ((w1.alloc (.cells #[.slice (some ⟨g, 0, none⟩) l.length c, .int .i64 (nd : Int), .slice (some ⟨w1.heap.size + 1, 0, none⟩) 1 1, .int .i64 128, .int .i64 512, .int .i64 1048576, .int .i64 8, .int .i64 2, .int .i64 4] 25)).alloc (.cells #[.float .f64 0] 34)).frozen? ⟨w.heap.size, 1, none⟩ = false := rW.frozen 1
  have cc2 : ((w1.alloc (.cells #[.slice (some ⟨g, 0, none⟩) l.length c, .int .i64 (nd : Int), .slice (some ⟨w1.heap.size + 1, 0, none⟩) 1 1, .int .i64 128, .int .i64 512, .int .i64 1048576, .int .i64 8, .int .i64 2, .int .i64 4] 25)).alloc (.cells #[.float .f64 0] 34)).cell? ⟨w.heap.size, 2, none⟩ = some (.slice none 0 0) := rW.cell (i := 2) (by omega)
  have zz2 : ((w1.alloc (.cells #[.slice (some ⟨g, 0, none⟩) l.length c, .int .i64 (nd : Int), .slice (some ⟨w1.heap.size + 1, 0, none⟩) 1 1, .int .i64 128, .int .i64 512, .int .i64 1048576, .int .i64 8, .int .i64 2, .int .i64 4] 25)).alloc (.cells #[.float .f64 0] 34)).frozen? ⟨w.heap.size, 2, none⟩ = false := rW.frozen 2
  have cc3 : ((w1.alloc (.cells #[.slice (some ⟨g, 0, none⟩) l.length c, .int .i64 (nd : Int), .slice (some ⟨w1.heap.size + 1, 0, none⟩) 1 1, .int .i64 128, .int .i64 512, .int .i64 1048576, .int .i64 8, .int .i64 2, .int .i64 4] 25)).alloc (.cells #[.float .f64 0] 34)).cell? ⟨w.heap.size, 3, none⟩ = some (.int .i64 0) := rW.cell (i := 3) (by omega)
  have zz3 : ((w1.alloc (.cells #[.slice (some ⟨g, 0, none⟩) l.length c, .int .i64 (nd : Int), .slice (some ⟨w1.heap.size + 1, 0, none⟩) 1 1, .int .i64 128, .int .i64 512, .int .i64 1048576, .int .i64 8, .int .i64 2, .int .i64 4] 25)).alloc (.cells #[.float .f64 0] 34)).frozen? ⟨w.heap.size, 3, none⟩ = false := rW.frozen 3
  have cc4 : ((w1.alloc (.cells #[.slice (some ⟨g, 0, none⟩) l.length c, .int .i64 (nd : Int), .slice (some ⟨w1.heap.size + 1, 0, none⟩) 1 1, .int .i64 128, .int .i64 512, .int .i64 1048576, .int .i64 8, .int .i64 2, .int .i64 4] 25)).alloc (.cells #[.float .f64 0] 34)).cell? ⟨w.heap.size, 4, none⟩ = some (.int .i64 0) := rW.cell (i := 4) (by omega)
  have zz4 : ((w1.alloc (.cells #[.slice (some ⟨g, 0, none⟩) l.length c, .int .i64 (nd : Int), .slice (some ⟨w1.heap.size + 1, 0, none⟩) 1 1, .int .i64 128, .int .i64 512, .int .i64 1048576, .int .i64 8, .int .i64 2, .int .i64 4] 25)).alloc (.cells #[.float .f64 0] 34)).frozen? ⟨w.heap.size, 4, none⟩ = false := rW.frozen 4
  have cc5 : ((w1.alloc (.cells #[.slice (some ⟨g, 0, none⟩) l.length c, .int .i64 (nd : Int), .slice (some ⟨w1.heap.size + 1, 0, none⟩) 1 1, .int .i64 128, .int .i64 512, .int .i64 1048576, .int .i64 8, .int .i64 2, .int .i64 4] 25)).alloc (.cells #[.float .f64 0] 34)).cell? ⟨w.heap.size, 5, none⟩ = some (.int .i64 0) := rW.cell (i := 5) (by omega)
  have zz5 : ((w1.alloc (.cells #[.slice (some ⟨g, 0, none⟩) l.length c, .int .i64 (nd : Int), .slice (some ⟨w1.heap.size + 1, 0, none⟩) 1 1, .int .i64 128, .int .i64 512, .int .i64 1048576, .int .i64 8, .int .i64 2, .int .i64 4] 25)).alloc (.cells #[.float .f64 0] 34)).frozen? ⟨w.heap.size, 5, none⟩ = false := rW.frozen 5
  have cc6 : ((w1.alloc (.cells #[.slice (some ⟨g, 0, none⟩) l.length c, .int .i64 (nd : Int), .slice (some ⟨w1.heap.size + 1, 0, none⟩) 1 1, .int .i64 128, .int .i64 512, .int .i64 1048576, .int .i64 8, .int .i64 2, .int .i64 4] 25)).alloc (.cells #[.float .f64 0] 34)).cell? ⟨w.heap.size, 6, none⟩ = some (.int .i64 0) := rW.cell (i := 6) (by omega)
  have zz6 : ((w1.alloc (.cells #[.slice (some ⟨g, 0, none⟩) l.length c, .int .i64 (nd : Int), .slice (some ⟨w1.heap.size + 1, 0, none⟩) 1 1, .int .i64 128, .int .i64 512, .int .i64 1048576, .int .i64 8, .int .i64 2, .int .i64 4] 25)).alloc (.cells #[.float .f64 0] 34)).frozen? ⟨w.heap.size, 6, none⟩ = false := rW.frozen 6
  have cc7 : ((w1.alloc (.cells #[.slice (some ⟨g, 0, none⟩) l.length c, .int .i64 (nd : Int), .slice (some ⟨w1.heap.size + 1, 0, none⟩) 1 1, .int .i64 128, .int .i64 512, .int .i64 1048576, .int .i64 8, .int .i64 2, .int .i64 4] 25)).alloc (.cells #[.float .f64 0] 34)).cell? ⟨w.heap.size, 7, none⟩ = some (.int .i64 0) := rW.cell (i := 7) (by omega)
  have zz7 : ((w1.alloc (.cells #[.slice (some ⟨g, 0, none⟩) l.length c, .int .i64 (nd : Int), .slice (some ⟨w1.heap.size + 1, 0, none⟩) 1 1, .int .i64 128, .int .i64 512, .int .i64 1048576, .int .i64 8, .int .i64 2, .int .i64 4] 25)).alloc (.cells #[.float .f64 0] 34)).frozen? ⟨w.heap.size, 7, none⟩ = false := rW.frozen 7
  have cc8 : ((w1.alloc (.cells #[.slice (some ⟨g, 0, none⟩) l.length c, .int .i64 (nd : Int), .slice (some ⟨w1.heap.size + 1, 0, none⟩) 1 1, .int .i64 128, .int .i64 512, .int .i64 1048576, .int .i64 8, .int .i64 2, .int .i64 4] 25)).alloc (.cells #[.float .f64 0] 34)).cell? ⟨w.heap.size, 8, none⟩ = some (.int .i64 0) := rW.cell (i := 8) (by omega)
  have zz8 : ((w1.alloc (.cells #[.slice (some ⟨g, 0, none⟩) l.length c, .int .i64 (nd : Int), .slice (some ⟨w1.heap.size + 1, 0, none⟩) 1 1, .int .i64 128, .int .i64 512, .int .i64 1048576, .int .i64 8, .int .i64 2, .int .i64 4] 25)).alloc (.cells #[.float .f64 0] 34)).frozen? ⟨w.heap.size, 8, none⟩ = false := rW.frozen 8
  have r3 := (((((((((rW.set 0 (.slice (some ⟨g, 0, none⟩) l.length c)).set 1 (.int .i64 (nd : Int))).set 2 (.slice (some ⟨w1.heap.size + 1, 0, none⟩) 1 1)).set 3 (.int .i64 128)).set 4 (.int .i64 512)).set 5 (.int .i64 1048576)).set 6 (.int .i64 8)).set 7 (.int .i64 2)).set 8 (.int .i64 4))
  have hg3 := rowIs_arr r3 (cfg (.slice (some ⟨g, 0, none⟩) l.length c) (nd : Int) (.slice (some ⟨w1.heap.size + 1, 0, none⟩) 1 1) 128 512 1048576 8 2 4) rfl (fun i hi => by
    match i, hi with
    | 0, _ | 1, _ | 2, _ | 3, _ | 4, _ | 5, _ | 6, _ | 7, _ | 8, _ => rfl)
  have f13 := ((((((((((((Fr.refl (fun x => x = w.heap.size) w1).alloc (.cells #[.slice (some ⟨g, 0, none⟩) l.length c, .int .i64 (nd : Int), .slice (some ⟨w1.heap.size + 1, 0, none⟩) 1 1, .int .i64 128, .int .i64 512, .int .i64 1048576, .int .i64 8, .int .i64 2, .int .i64 4] 25)).alloc (.cells #[.float .f64 0] 34)).setCell (p := ⟨w.heap.size, 0, none⟩) (Or.inl rfl) (.slice (some ⟨g, 0, none⟩) l.length c)).setCell (p := ⟨w.heap.size, 1, none⟩) (Or.inl rfl) (.int .i64 (nd : Int))).setCell (p := ⟨w.heap.size, 2, none⟩) (Or.inl rfl) (.slice (some ⟨w1.heap.size + 1, 0, none⟩) 1 1)).setCell (p := ⟨w.heap.size, 3, none⟩) (Or.inl rfl) (.int .i64 128)).setCell (p := ⟨w.heap.size, 4, none⟩) (Or.inl rfl) (.int .i64 512)).setCell (p := ⟨w.heap.size, 5, none⟩) (Or.inl rfl) (.int .i64 1048576)).setCell (p := ⟨w.heap.size, 6, none⟩) (Or.inl rfl) (.int .i64 8)).setCell (p := ⟨w.heap.size, 7, none⟩) (Or.inl rfl) (.int .i64 2)).setCell (p := ⟨w.heap.size, 8, none⟩) (Or.inl rfl) (.int .i64 4))
  have hL3 := hA.fr f13 (hA.lt (by exact hlp)) (by omega)
  have f03 := f01.trans' f13 (fun i hi e => by omega)
  have hcu : AtF ((w1.alloc (.cells #[.slice (some ⟨g, 0, none⟩) l.length c, .int .i64 (nd : Int), .slice (some ⟨w1.heap.size + 1, 0, none⟩) 1 1, .int .i64 128, .int .i64 512, .int .i64 1048576, .int .i64 8, .int .i64 2, .int .i64 4] 25)).alloc (.cells #[.float .f64 0] 34)) (w1.heap.size + 1) 0 [0] := by
    have := atF_one (w1.alloc (.cells #[.slice (some ⟨g, 0, none⟩) l.length c, .int .i64 (nd : Int), .slice (some ⟨w1.heap.size + 1, 0, none⟩) 1 1, .int .i64 128, .int .i64 512, .int .i64 1048576, .int .i64 8, .int .i64 2, .int .i64 4] 25)) 0 34
    simpa using this
  have hcu2 := hcu.fr ((((((((((Fr.refl (fun x => x = w.heap.size) _).setCell (p := ⟨w.heap.size, 0, none⟩) (Or.inl rfl) (.slice (some ⟨g, 0, none⟩) l.length c)).setCell (p := ⟨w.heap.size, 1, none⟩) (Or.inl rfl) (.int .i64 (nd : Int))).setCell (p := ⟨w.heap.size, 2, none⟩) (Or.inl rfl) (.slice (some ⟨w1.heap.size + 1, 0, none⟩) 1 1)).setCell (p := ⟨w.heap.size, 3, none⟩) (Or.inl rfl) (.int .i64 128)).setCell (p := ⟨w.heap.size, 4, none⟩) (Or.inl rfl) (.int .i64 512)).setCell (p := ⟨w.heap.size, 5, none⟩) (Or.inl rfl) (.int .i64 1048576)).setCell (p := ⟨w.heap.size, 6, none⟩) (Or.inl rfl) (.int .i64 8)).setCell (p := ⟨w.heap.size, 7, none⟩) (Or.inl rfl) (.int .i64 2)).setCell (p := ⟨w.heap.size, 8, none⟩) (Or.inl rfl) (.int .i64 4)) (by omega)
  have HC : Hid _ := hcu2
  clear hcu hcu2
  have HG : Hid _ := hg3
  have HF : Hid (Fr _ _ _) := f03
  have HLd : Hid (Laid _ _ _) := hL3
  clear r3 hg3 f13 hL3 f03 rW r0 hA h0 f1 f01 hg
  go_wp2
  refine bodyPost_ret (results_cell_row (P := Try.prog) rfl _ _ w.heap.size 25 (cfg (.slice (some ⟨g, 0, none⟩) l.length c) (nd : Int) (.slice (some ⟨w1.heap.size + 1, 0, none⟩) 1 1) 128 512 1048576 8 2 4) (0, 0) _ rfl HG.out Try.underlying25 rfl (by kernel_rfl)) rfl ?_
  exact ⟨g, c, _, rfl, by omega, HLd.out, .inr ⟨by decide, _, _, rfl, HC.out⟩, HF.out⟩
end Go.Proofs.Ytjbkmflbhlnbpaa
