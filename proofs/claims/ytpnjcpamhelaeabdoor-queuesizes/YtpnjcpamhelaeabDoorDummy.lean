/- Dummies, and bytes that are noughts. -/
import Derived.Test.YtpnjcpamhelaeabDoorLaw5
namespace Go.Proofs.YtpnjcpamhelaeabDoor
open Go.RowKit

/-- are all noughts? -/
def nz (l : List Nat) : Bool := l.all (· == 0)
/-- a dummy's bytes. -/
def dum (n : Nat) : List Nat := sealed (List.replicate (n - 4) 0)
theorem dum_length (n : Nat) (h : 4 ≤ n) : (dum n).length = n := by unfold dum; rw [sealed_length]; simp; omega
theorem dummy_no (n : Int) (w : World) (h : ¬ (64 ≤ n ∧ n ≤ 4096)) : Calls Tryd.prog 16 #[.int .i64 n] w fun e w' => e = .returned (.slice none 0 0) ∧ w' = w := by
  have k := isSize_any n w
  rw [show (decide (64 ≤ n) && decide (n ≤ 4096)) = false by simp; omega] at k
  go_enter Tryd.func16, Tryd.ntmps16
  go_wp2_with fail
  refine k.mono ?_
  rintro e w1 ⟨rfl, hw⟩
  subst w1
  go_wp2
  go_ret
  exact ⟨rfl, rfl⟩
theorem refdummy_no (n : Int) (w : World) (h : ¬ (64 ≤ n ∧ n ≤ 4096)) : Calls Tryd.prog 13 #[.int .i64 n] w fun e w' => e = .returned (.slice none 0 0) ∧ w' = w := by
  by_cases h1 : n < 64
  · go_enter Tryd.func13, Tryd.ntmps13
    go_wp2
    go_ret
    exact ⟨rfl, rfl⟩
  · have h2 : 4096 < n := by omega
    clear h
    go_enter Tryd.func13, Tryd.ntmps13
    go_wp2
    go_ret
    exact ⟨rfl, rfl⟩
theorem zeros_row (w : World) (n : Nat) (h : n ≤ 5000) : Row (w.alloc (.cells (cellsOf (List.replicate n 0)).toArray 5)) (some ⟨w.heap.size, 0, none⟩) (List.replicate n 0) n := by
  have := row_of_block (heap_alloc_new w (.cells (cellsOf (List.replicate n 0)).toArray 5)) (by unfold maxLen; simp; omega) (fun x hx => by have := List.eq_of_mem_replicate hx; omega)
  rwa [List.length_replicate] at this
set_option maxRecDepth 100000 in
set_option maxHeartbeats 400000 in
theorem dummy_any (n : Nat) (w : World) (ht : Tab w) (h : 64 ≤ n ∧ n ≤ 4096) : Calls Tryd.prog 16 #[.int .i64 (n : Int)] w fun e w' => ∃ a1, e = .returned (.slice a1 n n) ∧ Fresh w w' a1 (dum n) ∧ Fr (fun _ => False) w w' := by
  have k := isSize_any (n : Int) w
  rw [show (decide (64 ≤ (n : Int)) && decide ((n : Int) ≤ 4096)) = true by simp; omega] at k
  obtain ⟨m, hm⟩ : ∃ m, n = m + 4 := ⟨n - 4, by omega⟩
  subst hm
  have hmk := run_make_bytes w m (by omega)
  have f0 := (Fr.refl (fun _ => False) w).alloc (.cells (cellsOf (List.replicate m 0)).toArray 5)
  have ks := seal_any (some ⟨w.heap.size, 0, none⟩) (List.replicate m 0) m _ (f0.tab ht (by simp)) (zeros_row w m (by omega)) (by simp; omega)
  rw [List.length_replicate] at ks
  obtain ⟨W, HW⟩ : ∃ W, Hid (W = w.alloc (.cells (cellsOf (List.replicate m 0)).toArray 5)) := ⟨_, rfl⟩
  rw [← HW.out] at hmk f0 ks
  have HS : Hid (Calls _ _ _ _ _) := ks
  clear ks
  unfold dum
  rw [show m + 4 - 4 = m by omega]
  go_enter Tryd.func16, Tryd.ntmps16
  go_wp2_with fail
  refine k.mono ?_
  rintro e w1 ⟨rfl, hw⟩
  subst w1
  go_wp2_with fail
  refine HS.out.mono ?_
  rintro e w1 ⟨a1, rfl, h1, f1⟩
  go_wp2
  go_ret
  exact ⟨a1, rfl, h1.later f0.size, f0.trans f1⟩
set_option maxRecDepth 100000 in
set_option maxHeartbeats 400000 in
theorem refdummy_any (n : Nat) (w : World) (h : 64 ≤ n ∧ n ≤ 4096) : Calls Tryd.prog 13 #[.int .i64 (n : Int)] w fun e w' => ∃ v, e = .returned v ∧ Own w' w.heap.size v (dum n) ∧ Fr (fun _ => False) w w' := by
  obtain ⟨m, hm⟩ : ∃ m, n = m + 4 := ⟨n - 4, by omega⟩
  subst hm
  have hmk := run_make_bytes w m (by omega)
  have f0 := (Fr.refl (fun _ => False) w).alloc (.cells (cellsOf (List.replicate m 0)).toArray 5)
  have ks := refseal_any (some ⟨w.heap.size, 0, none⟩) (List.replicate m 0) m _ (zeros_row w m (by omega)) (by simp; omega)
  rw [List.length_replicate] at ks
  obtain ⟨W, HW⟩ : ∃ W, Hid (W = w.alloc (.cells (cellsOf (List.replicate m 0)).toArray 5)) := ⟨_, rfl⟩
  rw [← HW.out] at hmk f0 ks
  have HS : Hid (Calls _ _ _ _ _) := ks
  clear ks
  unfold dum
  rw [show m + 4 - 4 = m by omega]
  go_enter Tryd.func13, Tryd.ntmps13
  go_wp2_with fail
  refine HS.out.mono ?_
  rintro e w1 ⟨v, rfl, h1, f1⟩
  obtain ⟨a1, c1, hv, _, _⟩ := h1.row
  have h2 := h1.base f0.size
  subst hv
  go_wp2
  go_ret
  exact ⟨_, rfl, h2, f0.trans f1⟩
end Go.Proofs.YtpnjcpamhelaeabDoor
