/- What the library's scaling comes to at the one number 0.1. -/
import Derived.Test.YtkabmjeeficfhaaDoorFr
import Derived.Laws.BitsLemmas
namespace Go.Proofs.YtkabmjeeficfhaaDoor
open Go.RowKit
set_option maxHeartbeats 400000 in
theorem mul_a (w : World) : Calls Tryd.prog 59 #[.int .u64 14757395258967641088, .int .u64 12800000000000000000] w fun e w' => e = .returned (.tuple #[.int .u64 10239999999999999857, .int .u64 16444402540465881088]) ∧ w' = w := by
  go_enter Tryd.func59, Tryd.ntmps59
  go_wp2
  go_ret2
  exact ⟨by kernel_rfl, rfl⟩
set_option maxHeartbeats 400000 in
theorem mul_b (w : World) : Calls Tryd.prog 59 #[.int .u64 14757395258967643136, .int .u64 12800000000000000000] w fun e w' => e = .returned (.tuple #[.int .u64 10240000000000001278, .int .u64 18021073799193034752]) ∧ w' = w := by
  go_enter Tryd.func59, Tryd.ntmps59
  go_wp2
  go_ret2
  exact ⟨by kernel_rfl, rfl⟩
set_option maxRecDepth 100000 in
set_option maxHeartbeats 400000 in
theorem len_a (w : World) : Calls Tryd.prog 26 #[.int .u64 1000000000000000] w fun e w' => e = .returned (.int .i64 50) ∧ w' = w := by
  go_enter Tryd.func26, Tryd.ntmps26
  go_wp2
  go_ret
  exact ⟨by kernel_rfl, rfl⟩
set_option maxRecDepth 100000 in
set_option maxHeartbeats 400000 in
theorem len_b (w : World) : Calls Tryd.prog 26 #[.int .u64 7205759403792794] w fun e w' => e = .returned (.int .i64 53) ∧ w' = w := by
  go_enter Tryd.func26, Tryd.ntmps26
  go_wp2
  go_ret
  exact ⟨by kernel_rfl, rfl⟩
set_option maxHeartbeats 400000 in
theorem uscale_a (b : Nat) (w : World) (h0 : w.cell? ⟨b, 0, none⟩ = some (.int .u64 12800000000000000000)) (h2 : w.cell? ⟨b, 2, none⟩ = some (.int .i64 8)) :
    Calls Tryd.prog 42 #[.int .u64 14757395258967641088, .pointer (some ⟨b, 0, none⟩)] w fun e w' => e = .returned (.int .u64 39999999999999999) ∧ w' = w := by
  have e1 : bits .and .i64 8 63 = 8 := by decide +kernel
  go_enter Tryd.func42, Tryd.ntmps42
  go_wp2_with fail
  refine (mul_a w).mono ?_
  rintro e w1 ⟨rfl, hw⟩
  subst w1
  go_wp2
  go_ret
  exact ⟨by kernel_rfl, rfl⟩
set_option maxHeartbeats 400000 in
theorem uscale_b (b : Nat) (w : World) (h0 : w.cell? ⟨b, 0, none⟩ = some (.int .u64 12800000000000000000)) (h2 : w.cell? ⟨b, 2, none⟩ = some (.int .i64 8)) :
    Calls Tryd.prog 42 #[.int .u64 14757395258967643136, .pointer (some ⟨b, 0, none⟩)] w fun e w' => e = .returned (.int .u64 40000000000000005) ∧ w' = w := by
  have e1 : bits .and .i64 8 63 = 8 := by decide +kernel
  go_enter Tryd.func42, Tryd.ntmps42
  go_wp2_with fail
  refine (mul_b w).mono ?_
  rintro e w1 ⟨rfl, hw⟩
  subst w1
  go_wp2
  go_ret
  exact ⟨by kernel_rfl, rfl⟩
/-- the two cells of the table of powers that are met, and the one of the table of tens. -/
structure Tabs (w : World) : Prop where
  hi : w.cell? ⟨3, 730, none⟩ = some (.int .u64 12800000000000000000)
  lo : w.cell? ⟨3, 731, none⟩ = some (.int .u64 0)
  ten : w.cell? ⟨2, 15, none⟩ = some (.int .u64 1000000000000000)
set_option maxHeartbeats 400000 in
theorem prescale_a (b : Nat) (w : World) (ht : Tabs w) (_hb : 4 ≤ b) (v0 v1 v2 : Value) (h0 : w.cell? ⟨b, 0, none⟩ = some v0) (h1 : w.cell? ⟨b, 1, none⟩ = some v1) (h2 : w.cell? ⟨b, 2, none⟩ = some v2)
    (g0 : w.frozen? ⟨b, 0, none⟩ = false) (g1 : w.frozen? ⟨b, 1, none⟩ = false) (g2 : w.frozen? ⟨b, 2, none⟩ = false) :
    Calls Tryd.prog 40 #[.pointer (some ⟨b, 0, none⟩), .int .i64 (-67), .int .i64 17, .int .i64 56] w fun e w' => e = .returned (.tuple #[]) ∧ w'.cell? ⟨b, 0, none⟩ = some (.int .u64 12800000000000000000) ∧ w'.cell? ⟨b, 1, none⟩ = some (.int .u64 0) ∧ w'.cell? ⟨b, 2, none⟩ = some (.int .i64 8) ∧ Fr (fun k => k = b) w w' := by
  obtain ⟨t1, t2, _⟩ := ht
  go_enter Tryd.func40, Tryd.ntmps40
  go_wp2
  go_end0
  have n01 : (⟨b, 0, none⟩ : Addr) ≠ ⟨b, 1, none⟩ := by simp
  have n02 : (⟨b, 0, none⟩ : Addr) ≠ ⟨b, 2, none⟩ := by simp
  have n12 : (⟨b, 1, none⟩ : Addr) ≠ ⟨b, 2, none⟩ := by simp
  refine ⟨rfl, ?_, ?_, ?_, (((Fr.refl (fun k => k = b) w).setCell (Or.inl rfl) _).setCell (Or.inl rfl) _).setCell (Or.inl rfl) _⟩
  · rw [World.cell?_setCell_other _ _ _ _ n02.symm, World.cell?_setCell_other _ _ _ _ n01.symm]; exact World.cell?_setCell_same _ _ _ h0
  · rw [World.cell?_setCell_other _ _ _ _ n12.symm]; exact World.cell?_setCell_same _ _ _ ((World.cell?_setCell_other _ _ _ _ n01).trans h1)
  · exact World.cell?_setCell_same _ _ _ ((World.cell?_setCell_other _ _ _ _ n12).trans ((World.cell?_setCell_other _ _ _ _ n02).trans h2))
theorem Tabs.fr {S : Nat → Prop} {w w1 : World} (h : Tabs w) (f : Fr S w w1) (h2 : ¬ S 2) (h3 : ¬ S 3) : Tabs w1 := ⟨f.cell h.hi h3, f.cell h.lo h3, f.cell h.ten h2⟩
theorem Tabs.big {w : World} (h : Tabs w) : 4 ≤ w.heap.size := World.block_lt_of_cell? _ _ h.hi
set_option maxHeartbeats 1000000 in
theorem short_a (w : World) (ht : Tabs w) : Calls Tryd.prog 35 #[.int .u64 14757395258967642112, .int .i64 (-67)] w fun e w' => e = .returned (.tuple #[.int .u64 1000000000000000, .int .i64 (-16)]) ∧ Fr (fun _ => False) w w' := by
  go_enter Tryd.func35, Tryd.ntmps35
  go_wp2_with (first | (go_at_call 30; go_in) | (go_at_call 41; go_in))
  have f0 := (Fr.refl (fun _ => False) w).alloc (.cells #[.int .u64 0, .int .u64 0, .int .i64 0] 66)
  refine (prescale_a w.heap.size _ (ht.fr f0 (by simp) (by simp)) ht.big (.int .u64 0) (.int .u64 0) (.int .i64 0) (by simp) (by simp) (by simp) (by simp) (by simp) (by simp)).mono ?_
  rintro e w1 ⟨rfl, c0, c1, c2, f1⟩
  have f01 : Fr (fun _ => False) w w1 := f0.trans' f1 (fun i hi e => by omega)
  clear f0 f1
  have e0 : bits .and .i64 7205759403792794 1 = 0 := by decide +kernel
  go_wp2_with (first | (go_at_call 44; go_in) | (go_at_call 43; go_in) | (go_at_call 45; go_in))
  refine (uscale_a w.heap.size w1 c0 c2).mono ?_
  rintro e w2 ⟨rfl, hw⟩
  subst w2
  go_wp2_with (first | (go_at_call 44; go_in) | (go_at_call 43; go_in) | (go_at_call 45; go_in))
  refine (uscale_b w.heap.size w1 c0 c2).mono ?_
  rintro e w2 ⟨rfl, hw⟩
  subst w2
  go_wp2
  go_ret2
  exact ⟨rfl, f01⟩
end Go.Proofs.YtkabmjeeficfhaaDoor
