/- The law ConfigChecks. -/
import Derived.Test.YtjbkmflbhlnbpaaChkD
import Derived.Test.YtjbkmflbhlnbpaaAwake
namespace Go.Proofs.Ytjbkmflbhlnbpaa
open Go.RowKit

set_option maxHeartbeats 2000000 in
theorem checks_walk (ao2 : Option Addr) (cap2 : Nat) (L cl : List Nat) (ao : Option Addr) (cap : Nat) (nodes frame depth quota wide beat elect : Int) (w : World) (hU : CameU w ao2 L) (hf : FRow w ao cl cap) (hnone : ao = none → cap = 0) :
    Calls Try.prog 3 #[.agg (cfg (.slice ao2 L.length cap2) nodes (.slice ao cl.length cap) frame depth quota wide beat elect)] w fun e w' => e = .returned (.bool true) ∧ Fr (fun _ => False) w w' := by
  obtain ⟨R, HN, HC⟩ := both ao2 cap2 L cl ao cap nodes frame depth quota wide beat elect w hU hf hnone
  have hl1 : L.length ≤ maxLen := hU.1
  have hl2 : cl.length ≤ maxLen := Nat.le_trans hf.1 hf.2.1
  unfold maxLen at hl1 hl2
  clear hU hf hnone
  generalize L.length = m at *
  generalize cl.length = n at *
  have r0 : (w.alloc (.cells (cfg (.slice ao2 m cap2) nodes (.slice ao n cap) frame depth quota wide beat elect) 25)).rowIs w.heap.size 25 9 (fun i => (cfg (.slice ao2 m cap2) nodes (.slice ao n cap) frame depth quota wide beat elect).getD i undef) := World.rowIs_alloc w (cfg (.slice ao2 m cap2) nodes (.slice ao n cap) frame depth quota wide beat elect) 25 (fun i => (cfg (.slice ao2 m cap2) nodes (.slice ao n cap) frame depth quota wide beat elect).getD i undef) (fun i hi => by simp [hi])
  have f0 : Fr (fun _ => False) w (w.alloc (.cells (cfg (.slice ao2 m cap2) nodes (.slice ao n cap) frame depth quota wide beat elect) 25)) := (Fr.refl _ _).alloc _
  have k0 := awake_any (w.alloc (.cells (cfg (.slice ao2 m cap2) nodes (.slice ao n cap) frame depth quota wide beat elect) 25))
  unfold cfg at HN HC r0 f0 k0 ⊢
  have HN1 : Hid _ := HN
  have HC1 : Hid _ := HC
  clear HN HC
  by_cases hm : 20 < (m : Int)
  · go_enter Try.func3, Try.ntmps3
    go_wp2_with fail
    refine k0.mono ?_
    rintro e w1 ⟨rfl, f1⟩
    have r1 := f1.rowIs r0 (by simp)
    have c0 : w1.cell? ⟨w.heap.size, 0, none⟩ = some (.slice ao2 m cap2) := r1.cell (i := 0) (by omega)
    have c2 : w1.cell? ⟨w.heap.size, 2, none⟩ = some (.slice ao n cap) := r1.cell (i := 2) (by omega)
    clear r0 r1 k0
    go_wp2_with fail
    refine (awake_any _).mono ?_
    rintro e w2 ⟨rfl, f2⟩
    go_wp2
    go_ret
    exact ⟨rfl, (f0.trans f1).trans f2⟩
  by_cases hn : 100 < (n : Int)
  · go_enter Try.func3, Try.ntmps3
    go_wp2_with fail
    refine k0.mono ?_
    rintro e w1 ⟨rfl, f1⟩
    have r1 := f1.rowIs r0 (by simp)
    have c0 : w1.cell? ⟨w.heap.size, 0, none⟩ = some (.slice ao2 m cap2) := r1.cell (i := 0) (by omega)
    have c2 : w1.cell? ⟨w.heap.size, 2, none⟩ = some (.slice ao n cap) := r1.cell (i := 2) (by omega)
    clear r0 r1 k0
    go_wp2_with fail
    refine (awake_any _).mono ?_
    rintro e w2 ⟨rfl, f2⟩
    go_wp2
    go_ret
    exact ⟨rfl, (f0.trans f1).trans f2⟩
  go_enter Try.func3, Try.ntmps3
  go_wp2_with fail
  refine k0.mono ?_
  rintro e w1 ⟨rfl, f1⟩
  have r1 := f1.rowIs r0 (by simp)
  have c0 : w1.cell? ⟨w.heap.size, 0, none⟩ = some (.slice ao2 m cap2) := r1.cell (i := 0) (by omega)
  have c1 : w1.cell? ⟨w.heap.size, 1, none⟩ = some (.int .i64 nodes) := r1.cell (i := 1) (by omega)
  have c2 : w1.cell? ⟨w.heap.size, 2, none⟩ = some (.slice ao n cap) := r1.cell (i := 2) (by omega)
  have c3 : w1.cell? ⟨w.heap.size, 3, none⟩ = some (.int .i64 frame) := r1.cell (i := 3) (by omega)
  have c4 : w1.cell? ⟨w.heap.size, 4, none⟩ = some (.int .i64 depth) := r1.cell (i := 4) (by omega)
  have c5 : w1.cell? ⟨w.heap.size, 5, none⟩ = some (.int .i64 quota) := r1.cell (i := 5) (by omega)
  have c6 : w1.cell? ⟨w.heap.size, 6, none⟩ = some (.int .i64 wide) := r1.cell (i := 6) (by omega)
  have c7 : w1.cell? ⟨w.heap.size, 7, none⟩ = some (.int .i64 beat) := r1.cell (i := 7) (by omega)
  have c8 : w1.cell? ⟨w.heap.size, 8, none⟩ = some (.int .i64 elect) := r1.cell (i := 8) (by omega)
  have HR1 : Hid (World.rowIs _ _ _ _ _) := r1
  have HF1 : Hid (Fr (fun _ => False) w w1) := f0.trans f1
  clear r0 r1 k0 f0 f1
  go_wp2_with fail
  refine (HN1.out _ HF1.out).mono ?_
  rintro e w2 ⟨hres, f2⟩
  have r2 := f2.rowIs HR1.out (by simp)
  have d0 : w2.cell? ⟨w.heap.size, 0, none⟩ = some (.slice ao2 m cap2) := r2.cell (i := 0) (by omega)
  have d1 : w2.cell? ⟨w.heap.size, 1, none⟩ = some (.int .i64 nodes) := r2.cell (i := 1) (by omega)
  have d2 : w2.cell? ⟨w.heap.size, 2, none⟩ = some (.slice ao n cap) := r2.cell (i := 2) (by omega)
  have d3 : w2.cell? ⟨w.heap.size, 3, none⟩ = some (.int .i64 frame) := r2.cell (i := 3) (by omega)
  have d4 : w2.cell? ⟨w.heap.size, 4, none⟩ = some (.int .i64 depth) := r2.cell (i := 4) (by omega)
  have d5 : w2.cell? ⟨w.heap.size, 5, none⟩ = some (.int .i64 quota) := r2.cell (i := 5) (by omega)
  have d6 : w2.cell? ⟨w.heap.size, 6, none⟩ = some (.int .i64 wide) := r2.cell (i := 6) (by omega)
  have d7 : w2.cell? ⟨w.heap.size, 7, none⟩ = some (.int .i64 beat) := r2.cell (i := 7) (by omega)
  have d8 : w2.cell? ⟨w.heap.size, 8, none⟩ = some (.int .i64 elect) := r2.cell (i := 8) (by omega)
  have HF2 : Hid (Fr (fun _ => False) w w2) := HF1.out.trans f2
  clear r2 HR1 HF1 f2 c0 c1 c2 c3 c4 c5 c6 c7 c8 HN1
  rcases hres with ⟨rfl, p, rfl⟩ | ⟨hz, rfl⟩
  · unfold madeAt
    go_wp2_with fail
    refine (HC1.out _ HF2.out).mono ?_
    rintro e w3 ⟨rfl, f3⟩
    clear d0 d1 d2 d3 d4 d5 d6 d7 d8
    go_wp2
    go_ret
    exact ⟨rfl, HF2.out.trans f3⟩
  · unfold nilErr
    go_wp2_with fail
    refine (HC1.out _ HF2.out).mono ?_
    rintro e w3 ⟨rfl, f3⟩
    clear d0 d1 d2 d3 d4 d5 d6 d7 d8
    go_wp2
    go_ret
    exact ⟨ret_bool (by simp), HF2.out.trans f3⟩
end Go.Proofs.Ytjbkmflbhlnbpaa
