/- Dummies, and bytes that are noughts. -/
import Derived.Test.YtpnjcpamhelaeaaDoorLaw5
import Derived.Shelf.Bytes.SlCountOne
namespace Go.Proofs.YtpnjcpamhelaeaaDoor
open Go.RowKit

/-- are all noughts? -/
def nz (l : List Nat) : Bool := l.all (· == 0)
theorem count_nat (l : List Nat) (hb : ∀ x ∈ l, x < 256) : Lib.countByte (Lib.bytesOf (l.map fun x : Nat => (x : Int))) (0 : Int).toNat.toUInt8 = l.count 0 := by
  induction l with
  | nil => rfl
  | cons x l ih =>
    have h1 := ih (fun y hy => hb y (by simp [hy]))
    have h2 := hb x (by simp)
    simp only [Lib.countByte, Lib.bytesOf, List.map_cons, List.count_cons] at h1 ⊢
    rw [h1]
    congr 1
    by_cases hx : x = 0
    · subst hx; simp
    · have : ¬ UInt8.ofNat (x : Int).toNat = (0 : Int).toNat.toUInt8 := fun e => hx (by
        have := congrArg UInt8.toNat e
        simp at this
        omega)
      simp [hx]
      simpa using this
theorem nz_count (l : List Nat) : nz l = decide (l.count 0 = l.length) := by
  rw [Bool.eq_iff_iff]
  simp only [nz, List.all_eq_true, beq_iff_eq, decide_eq_true_eq, List.count_eq_length]
  exact ⟨fun h b hb => (h b hb).symm, fun h b hb => (h b hb).symm⟩
set_option maxRecDepth 1000000 in
set_option maxHeartbeats 2000000 in
theorem count_some (b o : Nat) (l : List Nat) (c b2 d : Nat) (w : World) (hb : ∀ x ∈ l, x < 256) (hc : ∀ i, i < l.length → w.cell? ⟨b, o + i, none⟩ = some (.int .u8 ((l.getD i 0 : Nat) : Int))) (hc2 : w.cell? ⟨b2, 0, none⟩ = some (.int .u8 0)) :
    Calls Tryd.prog 49 #[.slice (some ⟨b, o, none⟩) l.length c, .slice (some ⟨b2, 0, none⟩) 1 d] w fun e w' => e = .returned (.int .i64 ((l.count 0 : Nat) : Int)) ∧ w' = w := by
  have hr := Lib.run_countSlice (P := Tryd.prog) w b o l.length c (l.map fun x : Nat => (x : Int)) (by simp) (fun i hi => by rw [hc i hi]; simp [List.getD_eq_getElem?_getD, hi]) 0
  rw [count_nat l hb] at hr
  clear hc
  go_enter Tryd.func49, Tryd.ntmps49
  go_wp2
  rw [run_callFunc_extern Tryd.func57 (by kernel_rfl) (by kernel_rfl) (by kernel_rfl) (e := Extern.BytealgCount.count) (by kernel_rfl), hr]
  simp only [Result.andThen]
  rw [Oper.upon_value]
  go_wp2
  go_ret
  exact ⟨rfl, rfl⟩
set_option maxRecDepth 1000000 in
set_option maxHeartbeats 2000000 in
theorem count_nil (ao : Option Addr) (c b2 d : Nat) (w : World) (hc2 : w.cell? ⟨b2, 0, none⟩ = some (.int .u8 0)) :
    Calls Tryd.prog 49 #[.slice ao 0 c, .slice (some ⟨b2, 0, none⟩) 1 d] w fun e w' => e = .returned (.int .i64 0) ∧ w' = w := by
  have hr : (Extern.BytealgCount.count #[.slice ao 0 c, .int .u8 0]).run Tryd.prog w = .ok (.int .i64 0) w := by
    cases ao with
    | none => exact Lib.run_countNil w 0 c 0
    | some a => exact Lib.run_countAt (P := Tryd.prog) w a 0 c [] rfl (fun i hi => absurd hi (Nat.not_lt_zero _)) 0
  go_enter Tryd.func49, Tryd.ntmps49
  go_wp2
  rw [run_callFunc_extern Tryd.func57 (by kernel_rfl) (by kernel_rfl) (by kernel_rfl) (e := Extern.BytealgCount.count) (by kernel_rfl), hr]
  simp only [Result.andThen]
  rw [Oper.upon_value]
  go_wp2
  go_ret
  exact ⟨rfl, rfl⟩
theorem count_any (ao : Option Addr) (l : List Nat) (c b2 d : Nat) (w : World) (hr : Row w ao l c) (hc2 : w.cell? ⟨b2, 0, none⟩ = some (.int .u8 0)) :
    Calls Tryd.prog 49 #[.slice ao l.length c, .slice (some ⟨b2, 0, none⟩) 1 d] w fun e w' => e = .returned (.int .i64 ((l.count 0 : Nat) : Int)) ∧ w' = w := by
  by_cases hl : l = []
  · subst hl; exact count_nil ao c b2 d w hc2
  · obtain ⟨b, off, rfl, hc⟩ := hr.2.2.2.2 hl
    exact count_some b off l c b2 d w hr.2.2.1 hc hc2
set_option maxHeartbeats 400000 in
theorem noughts_any (ao : Option Addr) (l : List Nat) (c : Nat) (w : World) (hr : Row w ao l c) : Calls Tryd.prog 34 #[.slice ao l.length c] w fun e w' => e = .returned (.bool (nz l)) ∧ Fr (fun _ => False) w w' := by
  have f0 := (Fr.refl (fun _ => False) w).alloc (.cells #[.int .u8 0] 5)
  have k := count_any ao l c w.heap.size 1 _ (f0.row hr (by simp)) (by simp)
  have hz : Hid (nz l = decide (((l.count 0 : Nat) : Int) = (l.length : Int))) := by
    show _ = _
    rw [nz_count]
    congr 1
    exact propext ⟨fun h => by omega, fun h => by omega⟩
  generalize l.count 0 = m at *
  have HK : Hid (Calls _ _ _ _ _) := k
  clear k hr
  go_enter Tryd.func34, Tryd.ntmps34
  go_wp2_with fail
  refine HK.out.mono ?_
  rintro e w1 ⟨rfl, hw⟩
  subst w1
  go_wp2
  go_ret
  refine ⟨ret_bool ?_, f0⟩
  rw [hz.out]
  by_cases h : (m : Int) = (l.length : Int) <;> simp [h]
/-- a dummy's bytes. -/
def dum (n : Nat) : List Nat := sealed (List.replicate (n - 4) 0)
theorem dum_length (n : Nat) (h : 4 ≤ n) : (dum n).length = n := by unfold dum; rw [sealed_length]; simp; omega
theorem dummy_no (n : Int) (w : World) (h : ¬ (64 ≤ n ∧ n ≤ 4096)) : Calls Tryd.prog 16 #[.int .i64 n] w fun e w' => e = .returned (.slice none 0 0) ∧ w' = w := by
  have k := isSize_any n w
  rw [show (decide (64 ≤ n) && decide (n ≤ 4096)) = false by simp; omega] at k
  go_enter Tryd.func16, Tryd.ntmps16
  go_wp2_with fail
  refine k.mono ?_
  rintro e w1 ⟨rfl, hw⟩
  subst w1
  go_wp2
  go_ret
  exact ⟨rfl, rfl⟩
theorem refdummy_no (n : Int) (w : World) (h : ¬ (64 ≤ n ∧ n ≤ 4096)) : Calls Tryd.prog 17 #[.int .i64 n] w fun e w' => e = .returned (.slice none 0 0) ∧ w' = w := by
  by_cases h1 : n < 64
  · go_enter Tryd.func17, Tryd.ntmps17
    go_wp2
    go_ret
    exact ⟨rfl, rfl⟩
  · have h2 : 4096 < n := by omega
    clear h
    go_enter Tryd.func17, Tryd.ntmps17
    go_wp2
    go_ret
    exact ⟨rfl, rfl⟩
theorem zeros_row (w : World) (n : Nat) (h : n ≤ 5000) : Row (w.alloc (.cells (cellsOf (List.replicate n 0)).toArray 5)) (some ⟨w.heap.size, 0, none⟩) (List.replicate n 0) n := by
  have := row_of_block (heap_alloc_new w (.cells (cellsOf (List.replicate n 0)).toArray 5)) (by unfold maxLen; simp; omega) (fun x hx => by have := List.eq_of_mem_replicate hx; omega)
  rwa [List.length_replicate] at this
set_option maxRecDepth 100000 in
set_option maxHeartbeats 400000 in
theorem dummy_any (n : Nat) (w : World) (ht : Tab w) (h : 64 ≤ n ∧ n ≤ 4096) : Calls Tryd.prog 16 #[.int .i64 (n : Int)] w fun e w' => ∃ a1, e = .returned (.slice a1 n n) ∧ Fresh w w' a1 (dum n) ∧ Fr (fun _ => False) w w' := by
  have k := isSize_any (n : Int) w
  rw [show (decide (64 ≤ (n : Int)) && decide ((n : Int) ≤ 4096)) = true by simp; omega] at k
  obtain ⟨m, hm⟩ : ∃ m, n = m + 4 := ⟨n - 4, by omega⟩
  subst hm
  have hmk := run_make_bytes w m (by omega)
  have f0 := (Fr.refl (fun _ => False) w).alloc (.cells (cellsOf (List.replicate m 0)).toArray 5)
  have ks := seal_any (some ⟨w.heap.size, 0, none⟩) (List.replicate m 0) m _ (f0.tab ht (by simp)) (zeros_row w m (by omega)) (by simp; omega)
  rw [List.length_replicate] at ks
  obtain ⟨W, HW⟩ : ∃ W, Hid (W = w.alloc (.cells (cellsOf (List.replicate m 0)).toArray 5)) := ⟨_, rfl⟩
  rw [← HW.out] at hmk f0 ks
  have HS : Hid (Calls _ _ _ _ _) := ks
  clear ks
  unfold dum
  rw [show m + 4 - 4 = m by omega]
  go_enter Tryd.func16, Tryd.ntmps16
  go_wp2_with fail
  refine k.mono ?_
  rintro e w1 ⟨rfl, hw⟩
  subst w1
  go_wp2_with fail
  refine HS.out.mono ?_
  rintro e w1 ⟨a1, rfl, h1, f1⟩
  go_wp2
  go_ret
  exact ⟨a1, rfl, h1.later f0.size, f0.trans f1⟩
set_option maxRecDepth 100000 in
set_option maxHeartbeats 400000 in
theorem refdummy_any (n : Nat) (w : World) (h : 64 ≤ n ∧ n ≤ 4096) : Calls Tryd.prog 17 #[.int .i64 (n : Int)] w fun e w' => ∃ v, e = .returned v ∧ Own w' w.heap.size v (dum n) ∧ Fr (fun _ => False) w w' := by
  obtain ⟨m, hm⟩ : ∃ m, n = m + 4 := ⟨n - 4, by omega⟩
  subst hm
  have hmk := run_make_bytes w m (by omega)
  have f0 := (Fr.refl (fun _ => False) w).alloc (.cells (cellsOf (List.replicate m 0)).toArray 5)
  have ks := refseal_any (some ⟨w.heap.size, 0, none⟩) (List.replicate m 0) m _ (zeros_row w m (by omega)) (by simp; omega)
  rw [List.length_replicate] at ks
  obtain ⟨W, HW⟩ : ∃ W, Hid (W = w.alloc (.cells (cellsOf (List.replicate m 0)).toArray 5)) := ⟨_, rfl⟩
  rw [← HW.out] at hmk f0 ks
  have HS : Hid (Calls _ _ _ _ _) := ks
  clear ks
  unfold dum
  rw [show m + 4 - 4 = m by omega]
  go_enter Tryd.func17, Tryd.ntmps17
  go_wp2_with fail
  refine HS.out.mono ?_
  rintro e w1 ⟨v, rfl, h1, f1⟩
  obtain ⟨a1, c1, hv, _, _⟩ := h1.row
  have h2 := h1.base f0.size
  subst hv
  go_wp2
  go_ret
  exact ⟨_, rfl, h2, f0.trans f1⟩
end Go.Proofs.YtpnjcpamhelaeaaDoor
