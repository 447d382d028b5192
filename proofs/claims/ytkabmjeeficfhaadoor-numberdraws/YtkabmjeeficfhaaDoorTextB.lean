/- What the library's digits come to at the one number 0.1. -/
import Derived.Test.YtkabmjeeficfhaaDoorTextA
import Derived.RegionTactic
namespace Go.Proofs.YtkabmjeeficfhaaDoor
open Go.RowKit
set_option maxHeartbeats 400000 in
theorem digits_a (w : World) (ht : Tabs w) : Calls Tryd.prog 29 #[.int .u64 1000000000000000] w fun e w' => e = .returned (.int .i64 16) ∧ w' = w := by
  have h15 := ht.ten
  go_enter Tryd.func29, Tryd.ntmps29
  go_wp2_with fail
  refine (len_a w).mono ?_
  rintro e w1 ⟨rfl, hw⟩
  subst w1
  go_wp2
  go_ret
  exact ⟨by kernel_rfl, rfl⟩
/-- cells of one block, written one after the other. -/
def fill (g : Nat) : List (Nat × Value) → World → World
  | [], w => w
  | (i, v) :: l, w => fill g l (w.setCell ⟨g, i, none⟩ v)
theorem fill_fr (g : Nat) (l : List (Nat × Value)) (w w0 : World) (h : Fr (fun k => k = g) w0 w) : Fr (fun k => k = g) w0 (fill g l w) := by
  induction l generalizing w with
  | nil => exact h
  | cons p l ih => exact ih _ (h.setCell (Or.inl rfl) _)
theorem fill_some (g : Nat) (l : List (Nat × Value)) (w : World) (i : Nat) (h : (w.cell? ⟨g, i, none⟩).isSome = true) : ((fill g l w).cell? ⟨g, i, none⟩).isSome = true := by
  induction l generalizing w with
  | nil => exact h
  | cons p l ih =>
    obtain ⟨j, v⟩ := p
    refine ih _ ?_
    obtain ⟨u, hu⟩ := Option.isSome_iff_exists.1 h
    by_cases e : j = i
    · subst e; rw [World.cell?_setCell_same _ _ _ hu]; rfl
    · rw [World.cell?_setCell_other _ _ _ _ (fun h => e (by cases h; rfl)), hu]; rfl
theorem fill_out (g : Nat) (l : List (Nat × Value)) (w : World) (i : Nat) (h : ∀ p ∈ l, p.1 ≠ i) : (fill g l w).cell? ⟨g, i, none⟩ = w.cell? ⟨g, i, none⟩ := by
  induction l generalizing w with
  | nil => rfl
  | cons p l ih =>
    obtain ⟨j, v⟩ := p
    have hj := h (j, v) (by simp)
    refine (ih _ (fun q hq => h q (by simp [hq]))).trans (World.cell?_setCell_other _ _ _ _ (fun h => hj (by cases h; rfl)))
theorem fill_in (g : Nat) (l m : List (Nat × Value)) (w : World) (i : Nat) (v : Value) (hs : (w.cell? ⟨g, i, none⟩).isSome = true) (hm : ∀ p ∈ m, p.1 ≠ i) : (fill g (l ++ (i, v) :: m) w).cell? ⟨g, i, none⟩ = some v := by
  induction l generalizing w with
  | nil =>
    obtain ⟨u, hu⟩ := Option.isSome_iff_exists.1 hs
    exact (fill_out g m _ i hm).trans (World.cell?_setCell_same _ _ _ hu)
  | cons p l ih => exact ih _ (fill_some g [p] w i hs)
def writes : List (Nat × Value) := [(15, .int .u8 48), (14, .int .u8 48), (13, .int .u8 48), (12, .int .u8 48), (11, .int .u8 48), (10, .int .u8 48), (9, .int .u8 48), (8, .int .u8 48), (7, .int .u8 48), (6, .int .u8 48), (5, .int .u8 48), (4, .int .u8 48), (3, .int .u8 48), (2, .int .u8 48), (1, .int .u8 48), (0, .int .u8 49)]
theorem writes_at (i : Nat) (h : i < 16) : ∃ l m, writes = l ++ (i, Value.int .u8 (if i = 0 then 49 else 48)) :: m ∧ ∀ p ∈ m, p.1 ≠ i := by
  have hi : i = 0 ∨ i = 1 ∨ i = 2 ∨ i = 3 ∨ i = 4 ∨ i = 5 ∨ i = 6 ∨ i = 7 ∨ i = 8 ∨ i = 9 ∨ i = 10 ∨ i = 11 ∨ i = 12 ∨ i = 13 ∨ i = 14 ∨ i = 15 := by omega
  rcases hi with rfl | rfl | rfl | rfl | rfl | rfl | rfl | rfl | rfl | rfl | rfl | rfl | rfl | rfl | rfl | rfl
  · exact ⟨writes.take 15, [], rfl, by simp⟩
  · exact ⟨writes.take 14, writes.drop 15, rfl, by simp [writes]⟩
  · exact ⟨writes.take 13, writes.drop 14, rfl, by simp [writes]⟩
  · exact ⟨writes.take 12, writes.drop 13, rfl, by simp [writes]⟩
  · exact ⟨writes.take 11, writes.drop 12, rfl, by simp [writes]⟩
  · exact ⟨writes.take 10, writes.drop 11, rfl, by simp [writes]⟩
  · exact ⟨writes.take 9, writes.drop 10, rfl, by simp [writes]⟩
  · exact ⟨writes.take 8, writes.drop 9, rfl, by simp [writes]⟩
  · exact ⟨writes.take 7, writes.drop 8, rfl, by simp [writes]⟩
  · exact ⟨writes.take 6, writes.drop 7, rfl, by simp [writes]⟩
  · exact ⟨writes.take 5, writes.drop 6, rfl, by simp [writes]⟩
  · exact ⟨writes.take 4, writes.drop 5, rfl, by simp [writes]⟩
  · exact ⟨writes.take 3, writes.drop 4, rfl, by simp [writes]⟩
  · exact ⟨writes.take 2, writes.drop 3, rfl, by simp [writes]⟩
  · exact ⟨writes.take 1, writes.drop 2, rfl, by simp [writes]⟩
  · exact ⟨writes.take 0, writes.drop 1, rfl, by simp [writes]⟩
theorem filled (w : World) (g : Nat) (hc : ∀ i, i < 32 → w.cell? ⟨g, i, none⟩ = some (.int .u8 0)) :
    (fill g writes w).drew.drew.drew.drew.drew.drew.drew.drew.cell? ⟨g, 0, none⟩ = some (.int .u8 49) ∧ (∀ i, 0 < i → i < 16 → (fill g writes w).drew.drew.drew.drew.drew.drew.drew.drew.cell? ⟨g, i, none⟩ = some (.int .u8 48)) ∧ Fr (fun k => k = g) w (fill g writes w).drew.drew.drew.drew.drew.drew.drew.drew := by
  have hall : ∀ i, i < 16 → (fill g writes w).cell? ⟨g, i, none⟩ = some (.int .u8 (if i = 0 then 49 else 48)) := fun i hi => by
    obtain ⟨l, m, e, hm⟩ := writes_at i hi
    rw [e]
    exact fill_in g l m w i _ (by rw [hc i (by omega)]; rfl) hm
  have hfr := fill_fr g writes w w (Fr.refl _ _)
  generalize fill g writes w = W at hall hfr ⊢
  refine ⟨?_, fun i h0 h1 => ?_, hfr.drew.drew.drew.drew.drew.drew.drew.drew⟩
  · have := hall 0 (by omega)
    rw [if_pos rfl] at this
    exact this
  · have := hall i h1
    rw [if_neg (by omega)] at this
    exact this
set_option maxRecDepth 100000 in
set_option maxHeartbeats 2000000 in
theorem base10_a (g : Nat) (w : World) (hc : ∀ i, i < 32 → w.cell? ⟨g, i, none⟩ = some (.int .u8 0)) (hf : ∀ i, w.frozen? ⟨g, i, none⟩ = false) :
    Calls Tryd.prog 47 #[.slice (some ⟨g, 0, none⟩) 16 32, .int .u64 1000000000000000] w fun e w' => e = .returned (.tuple #[]) ∧ w'.cell? ⟨g, 0, none⟩ = some (.int .u8 49) ∧ (∀ i, 0 < i → i < 16 → w'.cell? ⟨g, i, none⟩ = some (.int .u8 48)) ∧ Fr (fun k => k = g) w w' := by
  go_enter Tryd.func47, Tryd.ntmps47
  go_wp2
  refine wp_loop_rounds 3 ?_; rw [rounds_succ]
  go_wp2
  go_region
  go_wp2
  go_region
  go_wp2
  go_region
  go_wp2
  go_region
  go_wp2
  rw [rounds_succ]
  go_wp2
  go_region
  go_wp2
  go_region
  go_wp2
  go_region
  go_wp2
  go_region
  go_wp2
  rw [rounds_succ]
  go_wp2
  go_end0
  exact ⟨rfl, Eq.mp (by kernel_rfl) (filled w g hc)⟩
end Go.Proofs.YtkabmjeeficfhaaDoor
