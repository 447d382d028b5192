/- What the library's digits, and their text, come to at the one number 0.1. -/
import Derived.Test.YtkabmjeeficfhaaDoorTextB
namespace Go.Proofs.YtkabmjeeficfhaaDoor
open Go.RowKit
set_option maxHeartbeats 400000 in
theorem setdigits_a (g : Nat) (w : World) (hc : ∀ i, i < 32 → w.cell? ⟨g, i, none⟩ = some (.int .u8 0)) (hf : ∀ i, w.frozen? ⟨g, i, none⟩ = false) :
    Calls Tryd.prog 28 #[.slice (some ⟨g, 0, none⟩) 32 32, .int .u64 1000000000000000, .int .i64 (-16), .int .i64 16] w fun e w' => e = .returned (.tuple #[.int .i64 0, .int .i64 1]) ∧ w'.cell? ⟨g, 0, none⟩ = some (.int .u8 49) ∧ Fr (fun k => k = g) w w' := by
  go_enter Tryd.func28, Tryd.ntmps28
  go_wp2_with fail
  refine (base10_a g w hc hf).mono ?_
  rintro e w1 ⟨rfl, c0, cs, f1⟩
  go_wp2
  go_loop [3] (fun t => ∃ k : Nat, 1 ≤ k ∧ k ≤ 16 ∧ t = .int .i64 (k : Int)) (fun t => (intOf t).toNat)
  case atStart => exact ⟨16, by omega, by omega, rfl⟩
  case round =>
    obtain ⟨k, h1, h2, rfl⟩ := hrel
    by_cases hk : k = 1
    · subst hk
      clear cs
      go_wp2
      go_ret2
      exact ⟨rfl, c0, f1⟩
    · obtain ⟨j, rfl⟩ : ∃ j, k = j + 2 := ⟨k - 2, by omega⟩
      have hj := cs (j + 1) (by omega) (by omega)
      clear cs
      go_wp2
      go_round
      case rel => exact ⟨j + 1, by omega, by omega, by go_num⟩
      case measure => simp [intOf]; omega
theorem efg_cells (d : Nat) (w : World) (hd : d < w.heap.size) (hc : ∀ i, i < 24 → w.cell? ⟨d, i, none⟩ = some (.int .u8 0)) (o1 o2 o3 : Obj) :
    ((((((w.setCell ⟨d, 0, none⟩ (.int .u8 48)).setCell ⟨d, 1, none⟩ (.int .u8 46)).alloc o1).alloc o2).alloc o3).setCell ⟨d, 2, none⟩ (.int .u8 49)).cell? ⟨d, 0, none⟩ = some (.int .u8 48) ∧
    ((((((w.setCell ⟨d, 0, none⟩ (.int .u8 48)).setCell ⟨d, 1, none⟩ (.int .u8 46)).alloc o1).alloc o2).alloc o3).setCell ⟨d, 2, none⟩ (.int .u8 49)).cell? ⟨d, 1, none⟩ = some (.int .u8 46) ∧
    ((((((w.setCell ⟨d, 0, none⟩ (.int .u8 48)).setCell ⟨d, 1, none⟩ (.int .u8 46)).alloc o1).alloc o2).alloc o3).setCell ⟨d, 2, none⟩ (.int .u8 49)).cell? ⟨d, 2, none⟩ = some (.int .u8 49) ∧
    Fr (fun k => k = d) w ((((((w.setCell ⟨d, 0, none⟩ (.int .u8 48)).setCell ⟨d, 1, none⟩ (.int .u8 46)).alloc o1).alloc o2).alloc o3).setCell ⟨d, 2, none⟩ (.int .u8 49)) := by
  have h0 : ((w.setCell ⟨d, 0, none⟩ (.int .u8 48)).setCell ⟨d, 1, none⟩ (.int .u8 46)).cell? ⟨d, 0, none⟩ = some (.int .u8 48) := (World.cell?_setCell_other _ _ _ _ (by simp)).trans (World.cell?_setCell_same _ _ _ (hc 0 (by omega)))
  have h1 : ((w.setCell ⟨d, 0, none⟩ (.int .u8 48)).setCell ⟨d, 1, none⟩ (.int .u8 46)).cell? ⟨d, 1, none⟩ = some (.int .u8 46) := World.cell?_setCell_same _ _ _ ((World.cell?_setCell_other _ _ _ _ (by simp)).trans (hc 1 (by omega)))
  have h2 : ((w.setCell ⟨d, 0, none⟩ (.int .u8 48)).setCell ⟨d, 1, none⟩ (.int .u8 46)).cell? ⟨d, 2, none⟩ = some (.int .u8 0) := (World.cell?_setCell_other _ _ _ _ (by simp)).trans ((World.cell?_setCell_other _ _ _ _ (by simp)).trans (hc 2 (by omega)))
  have hfr := ((Fr.refl (fun k => k = d) w).setCell (p := ⟨d, 0, none⟩) (Or.inl rfl) (.int .u8 48)).setCell (p := ⟨d, 1, none⟩) (Or.inl rfl) (.int .u8 46)
  have hz : d < ((w.setCell ⟨d, 0, none⟩ (.int .u8 48)).setCell ⟨d, 1, none⟩ (.int .u8 46)).heap.size := by simpa using hd
  generalize (w.setCell ⟨d, 0, none⟩ (.int .u8 48)).setCell ⟨d, 1, none⟩ (.int .u8 46) = W at *
  have f3 := (((Fr.refl (fun _ => False) W).alloc o1).alloc o2).alloc o3
  refine ⟨(World.cell?_setCell_other _ _ _ _ (by simp)).trans (f3.cell h0 (by simp)), (World.cell?_setCell_other _ _ _ _ (by simp)).trans (f3.cell h1 (by simp)), World.cell?_setCell_same _ _ _ (f3.cell h2 (by simp)), ?_⟩
  exact (((hfr.alloc o1).alloc o2).alloc o3).setCell (Or.inl rfl) _
theorem f64bits40 (b : Nat) (w : World) : (callFunc 22 #[.float .f64 b]).run Tryd.prog w = .ok (.value (.int .u64 (b : Int))) w := by kernel_rfl
set_option maxRecDepth 100000 in
set_option maxHeartbeats 1000000 in
theorem efg_a (d g : Nat) (w : World) (hd : d < w.heap.size) (c0 : w.cell? ⟨g, 0, none⟩ = some (.int .u8 49)) (hc : ∀ i, i < 24 → w.cell? ⟨d, i, none⟩ = some (.int .u8 0)) (hf : ∀ i, w.frozen? ⟨d, i, none⟩ = false) (hne : g ≠ d) :
    Calls Tryd.prog 25 #[.slice (some ⟨d, 0, none⟩) 0 24, .bool false, .slice (some ⟨g, 0, none⟩) 32 32, .int .i64 0, .int .i64 1, .int .i64 1, .int .u8 103, .bool true] w fun e w' => e = .returned (.slice (some ⟨d, 0, none⟩) 3 24) ∧ w'.cell? ⟨d, 0, none⟩ = some (.int .u8 48) ∧ w'.cell? ⟨d, 1, none⟩ = some (.int .u8 46) ∧ w'.cell? ⟨d, 2, none⟩ = some (.int .u8 49) ∧ Fr (fun k => k = d) w w' := by
  have hne' : ¬ d = g := fun e => hne e.symm
  have n0 : (⟨d, 0, none⟩ : Addr) ≠ ⟨g, 0, none⟩ := fun e => hne' (by cases e; rfl)
  have n1 : (⟨d, 1, none⟩ : Addr) ≠ ⟨g, 0, none⟩ := fun e => by cases e
  have c0' : ((w.setCell ⟨d, 0, none⟩ (.int .u8 48)).setCell ⟨d, 1, none⟩ (.int .u8 46)).cell? ⟨g, 0, none⟩ = some (.int .u8 49) := by
    rw [World.cell?_setCell_other _ _ _ _ n1, World.cell?_setCell_other _ _ _ _ n0]; exact c0
  clear n0 n1
  have hg : g < w.heap.size := World.block_lt_of_cell? _ _ c0
  have f2 : ∀ (o1 o2 o3 : Obj), (((((w.setCell ⟨d, 0, none⟩ (.int .u8 48)).setCell ⟨d, 1, none⟩ (.int .u8 46)).alloc o1).alloc o2).alloc o3).frozen? ⟨d, 2, none⟩ = false := fun o1 o2 o3 => by
    have f3 := (((Fr.refl (fun _ => False) ((w.setCell ⟨d, 0, none⟩ (.int .u8 48)).setCell ⟨d, 1, none⟩ (.int .u8 46))).alloc o1).alloc o2).alloc o3
    rw [f3.frozenEq (by simpa using hd) (by simp)]
    simpa using hf 2
  have c2 : ∀ (o1 o2 o3 : Obj), (((((w.setCell ⟨d, 0, none⟩ (.int .u8 48)).setCell ⟨d, 1, none⟩ (.int .u8 46)).alloc o1).alloc o2).alloc o3).cell? ⟨d, 2, none⟩ = some (.int .u8 0) := fun o1 o2 o3 => by
    have f3 := (((Fr.refl (fun _ => False) ((w.setCell ⟨d, 0, none⟩ (.int .u8 48)).setCell ⟨d, 1, none⟩ (.int .u8 46))).alloc o1).alloc o2).alloc o3
    rw [f3.cellEq (by simpa using hd) (by simp), World.cell?_setCell_other _ _ _ _ (by simp), World.cell?_setCell_other _ _ _ _ (by simp)]
    exact hc 2 (by omega)
  go_enter Tryd.func25, Tryd.ntmps25
  go_wp2
  refine wp_loop_rounds 1 ?_; rw [rounds_succ]
  go_wp2
  refine wp_loop_rounds 2 ?_; rw [rounds_succ]
  go_wp2
  rw [rounds_succ]
  go_wp2
  refine wp_loop_rounds 1 ?_; rw [rounds_succ]
  go_wp2
  go_ret
  exact ⟨rfl, efg_cells d w hd hc _ _ _⟩
end Go.Proofs.YtkabmjeeficfhaaDoor
