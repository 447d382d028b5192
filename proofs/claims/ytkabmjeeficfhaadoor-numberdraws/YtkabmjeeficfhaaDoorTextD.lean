/- What the library's text comes to at the one number 0.1. -/
import Derived.Test.YtkabmjeeficfhaaDoorTextC
import Derived.Deep.RegionWith
import Derived.Deep.DrawnRows
import Derived.Laws.BytesString
namespace Go.Proofs.YtkabmjeeficfhaaDoor
open Go.RowKit
attribute [local go_sem ↓] Go.wp_at_zero Go.wp_at_succ
theorem zeros32 (w : World) (T : TypeId) (i : Nat) (hi : i < 32) : (w.alloc (.cells #[.int .u8 0, .int .u8 0, .int .u8 0, .int .u8 0, .int .u8 0, .int .u8 0, .int .u8 0, .int .u8 0, .int .u8 0, .int .u8 0, .int .u8 0, .int .u8 0, .int .u8 0, .int .u8 0, .int .u8 0, .int .u8 0, .int .u8 0, .int .u8 0, .int .u8 0, .int .u8 0, .int .u8 0, .int .u8 0, .int .u8 0, .int .u8 0, .int .u8 0, .int .u8 0, .int .u8 0, .int .u8 0, .int .u8 0, .int .u8 0, .int .u8 0, .int .u8 0] T)).drew.cell? ⟨w.heap.size, i, none⟩ = some (.int .u8 0) ∧ True := by
  refine ⟨?_, trivial⟩
  show (w.alloc (.cells (Array.replicate 32 (.int .u8 0)) T)).cell? _ = _
  rw [cell_of_row _ w.heap.size i _ T (0, 0) (heap_alloc_new w _)]
  simp [hi]
theorem zeros32f (w : World) (C : Array Value) (T : TypeId) (i : Nat) : (w.alloc (.cells C T)).drew.frozen? ⟨w.heap.size, i, none⟩ = false := by
  show (w.alloc _).frozen? _ = _
  simp
set_option maxRecDepth 100000 in
set_option maxHeartbeats 2000000 in
theorem ftoa_a (d : Nat) (w : World) (ht : Tabs w) (hd : d < w.heap.size) (hc : ∀ i, i < 24 → w.cell? ⟨d, i, none⟩ = some (.int .u8 0)) (hf : ∀ i, w.frozen? ⟨d, i, none⟩ = false) :
    Calls Tryd.prog 20 #[.slice (some ⟨d, 0, none⟩) 0 24, .float .f64 4591870180066957722, .int .u8 103, .int .i64 (-1)] w fun e w' => e = .returned (.slice (some ⟨d, 0, none⟩) 3 24) ∧ w'.cell? ⟨d, 0, none⟩ = some (.int .u8 48) ∧ w'.cell? ⟨d, 1, none⟩ = some (.int .u8 46) ∧ w'.cell? ⟨d, 2, none⟩ = some (.int .u8 49) ∧ Fr (fun k => k = d) w w' := by
  have hb := f64bits40 4591870180066957722
  have e1 : bits .and .i64 1019 2047 = 1019 := by decide +kernel
  have e2 : bits .and .u64 4591870180066957722 4503599627370495 = 2702159776422298 := by decide +kernel
  have e3 : bits .or .u64 2702159776422298 4503599627370496 = 7205759403792794 := by decide +kernel
  go_enter Tryd.func20, Tryd.ntmps20
  go_wp2_with fail
  go_region
  go_wp2_with fail
  refine (len_b _).mono ?_
  rintro e w1 ⟨rfl, hw⟩
  subst w1
  go_wp2_with fail
  refine (short_a _ (ht.fr ((Fr.refl (fun _ => False) w).alloc _).drew (by simp) (by simp))).mono ?_
  rintro e w2 ⟨rfl, f2⟩
  have hz : ∀ i, i < 32 → w2.cell? ⟨w.heap.size, i, none⟩ = some (.int .u8 0) := fun i hi => f2.cell (zeros32 w _ i hi).1 (by simp)
  have hzf : ∀ i, w2.frozen? ⟨w.heap.size, i, none⟩ = false := fun i => (f2.frozenEq (by simp) (by simp)).trans (zeros32f w _ _ i)
  have f02 : Fr (fun _ => False) w w2 := (((Fr.refl (fun _ => False) w).alloc _).drew).trans f2
  have ht2 := ht.fr f02 (by simp) (by simp)
  clear f2
  have fd := (Fr.refl (fun _ => False) w2).drew
  go_wp2_with fail
  go_region_with (first
    | (go_at_call 29; refine (digits_a _ ?_).mono ?_; exact ht2.fr fd (by simp) (by simp); rintro e w3 ⟨rfl, hw⟩; subst w3)
    | (go_at_call 28; refine (setdigits_a _ _ ?_ ?_).mono ?_; exact hz; exact hzf; rintro e w3 ⟨rfl, c3, f3⟩))
  all_goals
    have f03 : Fr (fun _ => False) w w3 := (f02.drew).trans' f3 (fun i hi e => by omega)
    go_wp2_with fail
    refine (efg_a d w.heap.size w3 (Nat.lt_of_lt_of_le hd f03.size) c3 (fun i hi => f03.cell (hc i hi) (by simp)) (fun i => (f03.frozenEq hd (by simp)).trans (hf i)) (by omega)).mono ?_
    rintro e w4 ⟨rfl, k0, k1, k2, f4⟩
    go_wp2
    go_ret
    exact ⟨rfl, k0, k1, k2, (f03.mono (fun _ _ h => h.elim)).trans f4⟩
theorem str3 (w : World) (d : Nat) (k0 : w.cell? ⟨d, 0, none⟩ = some (.int .u8 48)) (k1 : w.cell? ⟨d, 1, none⟩ = some (.int .u8 46)) (k2 : w.cell? ⟨d, 2, none⟩ = some (.int .u8 49)) :
    (convert 37 9 (.slice (some ⟨d, 0, none⟩) 3 24)).run Tryd.prog w = .ok (.string ⟨#[48, 46, 49]⟩) w := by
  rw [run_convert_bytes_string w 37 9 5 _ 3 24 Tryd.underlying37 Tryd.underlying5 Tryd.underlying9]
  have hload := run_loadCells_list (P := Tryd.prog) w ⟨d, 0, none⟩ [.int .u8 48, .int .u8 46, .int .u8 49] (by
    intro j u hu
    match j, hu with
    | 0, hu => cases hu; exact k0
    | 1, hu => cases hu; exact k1
    | 2, hu => cases hu; exact k2)
  exact run_bytesToString w ⟨d, 0, none⟩ 3 24 [48, 46, 49] hload
def twentyFour : Array Value := Array.replicate 24 (.int .u8 0)
set_option maxRecDepth 100000 in
set_option maxHeartbeats 1000000 in
theorem format_a (w : World) (ht : Tabs w) : Calls Tryd.prog 18 #[.float .f64 4591870180066957722, .int .u8 103, .int .i64 (-1), .int .i64 64] w fun e w' => e = .returned (.string ⟨#[48, 46, 49]⟩) ∧ Fr (fun _ => False) w w' := by
  have hmk : ∀ w, (Instr.makeSlice 37 (.int .i64 0) (.int .i64 24)).run Tryd.prog w = .ok (.slice (some ⟨w.heap.size, 0, none⟩) 0 24) (w.alloc (.cells twentyFour 5)) := fun _ => by kernel_rfl
  go_enter Tryd.func18, Tryd.ntmps18
  go_wp2_with fail
  have f0 := (Fr.refl (fun _ => False) w).alloc (.cells twentyFour 5)
  refine (ftoa_a w.heap.size _ (ht.fr f0 (by simp) (by simp)) (by simp) (fun i hi => by rw [cell_of_row _ w.heap.size i _ 5 (0, 0) (heap_alloc_new w _)]; simp [twentyFour, hi]) (fun i => by simp)).mono ?_
  rintro e w1 ⟨rfl, k0, k1, k2, f1⟩
  have hs := str3 w1 _ k0 k1 k2
  have f01 : Fr (fun _ => False) w w1 := f0.trans' f1 (fun i hi e => by omega)
  go_wp2
  go_ret
  exact ⟨rfl, f01⟩
theorem format_b (w : World) (ht : Tabs w) : Calls Tryd.prog 16 #[.float .f64 4591870180066957722, .int .u8 103, .int .i64 (-1), .int .i64 64] w fun e w' => e = .returned (.string ⟨#[48, 46, 49]⟩) ∧ Fr (fun _ => False) w w' := by
  go_enter Tryd.func16, Tryd.ntmps16
  go_wp2_with fail
  refine (format_a w ht).mono ?_
  rintro e w1 ⟨rfl, f1⟩
  go_wp2
  go_ret
  exact ⟨rfl, f1⟩
theorem text_a (w : World) (ht : Tabs w) : Calls Tryd.prog 10 #[.float .f64 4591870180066957722] w fun e w' => e = .returned (.string ⟨#[48, 46, 49]⟩) ∧ Fr (fun _ => False) w w' := by
  have o1 : (FloatKind.f64.format.order 4591870180066957722 4591870180066957722 != some Ordering.eq) = false := by decide +kernel
  have o2 : (FloatKind.f64.format.order 4591870180066957722 9218868437227405311 == some Ordering.gt) = false := by decide +kernel
  have o3 : (FloatKind.f64.format.order 13815242216921733530 9218868437227405311 == some Ordering.gt) = false := by decide +kernel
  have hn : ∀ w, (Op.unary UnOp.neg (Value.float FloatKind.f64 4591870180066957722)).run Tryd.prog w = .ok (.float .f64 13815242216921733530) w := fun _ => by kernel_rfl
  go_enter Tryd.func10, Tryd.ntmps10
  go_wp2_with (first | (go_at_call 14; go_in) | (go_at_call 15; go_in) | (go_at_call 17; go_in))
  refine (format_b w ht).mono ?_
  rintro e w1 ⟨rfl, f1⟩
  go_wp2
  go_ret
  exact ⟨rfl, f1⟩
end Go.Proofs.YtkabmjeeficfhaaDoor
