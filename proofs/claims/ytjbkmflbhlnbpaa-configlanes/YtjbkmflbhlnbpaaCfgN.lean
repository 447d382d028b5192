/- A plan made of a config that is right, and has no cuts. -/
import Derived.Test.YtjbkmflbhlnbpaaCfgC
namespace Go.Proofs.Ytjbkmflbhlnbpaa
open Go.RowKit

set_option maxHeartbeats 2000000 in
theorem cnew_none (b off ucap : Nat) (l : List Nat) (nodes frame depth quota wide beat elect : Int) (w : World) (h1 : 1 ≤ nodes ∧ nodes ≤ 7)
    (h2 : 64 ≤ frame ∧ frame ≤ 4096) (h3 : 1 ≤ depth ∧ depth ≤ 65536) (h4 : 1 ≤ quota ∧ quota ≤ 268435456) (h5 : 0 ≤ wide ∧ wide ≤ 256) (h6 : 1 ≤ beat) (h7 : beat < elect) (h8 : elect ≤ 1000)
    (hl : l.length ≤ 16) (hl0 : 0 < l.length) (hb : ∀ x ∈ l, x < 18446744073709551616) (hc : At .u64 w b off l) (hok : Lat.ok l = true) :
    Calls Try.prog 10 #[.agg (cfg (.slice (some ⟨b, off, none⟩) l.length ucap) nodes (.slice none 0 0) frame depth quota wide beat elect)] w fun e w' => ∃ p, e = madeAt p ∧ PlanAt w' p l nodes (.slice none 0 0) ∧ w.heap.size ≤ p ∧ Fr (fun _ => False) w w' := by
  have r0 : (w.alloc (.cells (cfg (.slice (some ⟨b, off, none⟩) l.length ucap) nodes (.slice none 0 0) frame depth quota wide beat elect) 25)).rowIs w.heap.size 25 9 (fun i => (cfg (.slice (some ⟨b, off, none⟩) l.length ucap) nodes (.slice none 0 0) frame depth quota wide beat elect).getD i undef) := World.rowIs_alloc w (cfg (.slice (some ⟨b, off, none⟩) l.length ucap) nodes (.slice none 0 0) frame depth quota wide beat elect) 25 (fun i => (cfg (.slice (some ⟨b, off, none⟩) l.length ucap) nodes (.slice none 0 0) frame depth quota wide beat elect).getD i undef) (fun i hi => by simp [hi])
  have f0 : Fr (fun _ => False) w (w.alloc (.cells (cfg (.slice (some ⟨b, off, none⟩) l.length ucap) nodes (.slice none 0 0) frame depth quota wide beat elect) 25)) := (Fr.refl _ _).alloc _
  have k1 := bounded_ok (.slice (some ⟨b, off, none⟩) l.length ucap) none 0 0 nodes frame depth quota wide beat elect (w.alloc (.cells (cfg (.slice (some ⟨b, off, none⟩) l.length ucap) nodes (.slice none 0 0) frame depth quota wide beat elect) 25)) h1 (by decide) (fun W => rising_short none 0 0 W (by omega)) h2 h3 h4 h5 h6 h7 h8
  unfold cfg at k1 r0 f0 ⊢
  clear h1 h2 h3 h4 h5 h6 h7 h8
  go_enter Try.func10, Try.ntmps10
  go_wp2_with fail
  refine k1.mono ?_
  rintro e w1 ⟨rfl, f1⟩
  clear k1
  have r1 := f1.rowIs r0 (by simp)
  have s1 : w.heap.size + 1 ≤ w1.heap.size := by have := f1.size; simpa using this
  have c0 := r1.cell (i := 0) (by omega)
  have z0 := r1.frozen 0
  have f01 := f0.trans f1
  have k2 := new_ok b off ucap l w1 hl hl0 hb (hc.fr f01 (by simp)) hok
  unfold madeAt at k2
  simp only [Array.getD] at c0
  go_wp2_with fail
  refine k2.mono ?_
  rintro e w2 ⟨pl, bu, cu, bd, bo, rfl, hL, hp1, hp2, hp3, hp4, f2⟩
  clear k2 c0 z0
  have r2 := f2.rowIs r1 (by simp)
  have f02 := f01.trans f2
  have k34 := cloneU_any b off ucap l w2.drew (by omega) hl0 ((hc.fr f02 (by simp)).fr (Fr.refl (fun _ => False) _).drew (by simp))
  have hL2 := hL.fr (Fr.refl (fun _ => False) _).drew
  have c0 : w2.drew.cell? ⟨w.heap.size, 0, none⟩ = some (.slice (some ⟨b, off, none⟩) l.length ucap) := r2.cell (i := 0) (by omega)
  have c1 : w2.drew.cell? ⟨w.heap.size, 1, none⟩ = some (.int .i64 nodes) := r2.cell (i := 1) (by omega)
  have c2 : w2.drew.cell? ⟨w.heap.size, 2, none⟩ = some (.slice none 0 0) := r2.cell (i := 2) (by omega)
  have c3 : w2.drew.cell? ⟨w.heap.size, 3, none⟩ = some (.int .i64 frame) := r2.cell (i := 3) (by omega)
  have c4 : w2.drew.cell? ⟨w.heap.size, 4, none⟩ = some (.int .i64 depth) := r2.cell (i := 4) (by omega)
  have c5 : w2.drew.cell? ⟨w.heap.size, 5, none⟩ = some (.int .i64 quota) := r2.cell (i := 5) (by omega)
  have c6 : w2.drew.cell? ⟨w.heap.size, 6, none⟩ = some (.int .i64 wide) := r2.cell (i := 6) (by omega)
  have c7 : w2.drew.cell? ⟨w.heap.size, 7, none⟩ = some (.int .i64 beat) := r2.cell (i := 7) (by omega)
  have c8 : w2.drew.cell? ⟨w.heap.size, 8, none⟩ = some (.int .i64 elect) := r2.cell (i := 8) (by omega)
  have z0 : w2.drew.frozen? ⟨w.heap.size, 0, none⟩ = false := r2.frozen 0
  have z2 : w2.drew.frozen? ⟨w.heap.size, 2, none⟩ = false := r2.frozen 2
  have hbx : w.heap.size < w2.drew.heap.size := r2.lt
  have HL : Hid _ := hL2
  have HF : Hid (Fr (fun _ => False) w w2.drew) := f02.drew
  clear r0 r1 r2 hL hL2 hc f0 f1 f01 f2 f02
  go_wp2_with fail
  go_region_with (first
    | (go_at_call 34; refine k34.mono ?_; rintro e wA ⟨gu, cu2, rfl, hgu, hAu, fA⟩; have c2A := fA.cell c2 (by simp); have kF := cloneF_nil wA 0 0)
    | (go_at_call 35; refine kF.mono ?_; rintro e wB ⟨rfl, hwB⟩; subst hwB; have fAB := fA; have d0 := fAB.cell c0 (by simp); have d1 := fAB.cell c1 (by simp); have d2 := fAB.cell c2 (by simp); have d3 := fAB.cell c3 (by simp); have d4 := fAB.cell c4 (by simp); have d5 := fAB.cell c5 (by simp); have d6 := fAB.cell c6 (by simp); have d7 := fAB.cell c7 (by simp); have d8 := fAB.cell c8 (by simp); have y0 := (fAB.frozenEq (a := ⟨w.heap.size, 0, none⟩) hbx (by simp)).trans z0; have y2 := (fAB.frozenEq (a := ⟨w.heap.size, 2, none⟩) hbx (by simp)).trans z2))
  all_goals
    have s2 := fA.size
    have HLB : Hid (LatAt wB pl bu cu bd bo l) := HL.out.fr fAB
    have HFB : Hid (Fr (fun _ => False) w wB) := HF.out.trans fAB
    clear hAu k34 kF
    go_wp2
    go_ret2
    refine ⟨wB.heap.size, rfl, ?_, ?_, ?_⟩
    · exact plan_new (.slice (some ⟨gu, 0, none⟩) l.length cu2) nodes (.slice none 0 0) frame depth quota wide beat elect wB _ _ pl bu cu bd bo l w.heap.size HLB.out (by omega) (by omega) (by omega) (by omega)
    · have := HFB.out.size; exact this
    · exact ((HFB.out.setCell (p := ⟨w.heap.size, 0, none⟩) (Or.inr (Nat.le_refl _)) _).setCell (p := ⟨w.heap.size, 2, none⟩) (Or.inr (Nat.le_refl _)) _).alloc _
end Go.Proofs.Ytjbkmflbhlnbpaa
