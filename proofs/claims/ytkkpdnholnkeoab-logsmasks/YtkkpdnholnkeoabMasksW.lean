/- The program's Bytes; the statement LogsMasks, walked. -/
import Derived.Test.YtkkpdnholnkeoabAwake
namespace Go.Proofs.Ytkkpdnholnkeoab
open Go.RowKit

theorem run_make_bytes (w : World) (n : Nat) (h : n ≤ 140737488355328) : (Instr.makeSlice 22 (.int .i64 (n : Int)) (.int .i64 (n : Int))).run Try.prog w = .ok (.slice (some ⟨w.heap.size, 0, none⟩) n n) (w.alloc (.cells (cellsOf (List.replicate n 0)).toArray 5)) := by
  obtain ⟨i, hi, hz0, hz1, hz2⟩ := info_parts Try.info5
  have := run_make (P := Try.prog) w 22 5 i (.int .u8 0) Try.underlying22 hi hz0 .i64 .i64 (n : Int) (n : Int) (by omega) (by omega) (by rw [hz2]; omega) (by omega)
  rw [this]
  have e : madeCells (Value.int .u8 0).cells (n * i.size) = (cellsOf (List.replicate n 0)).toArray := by
    apply Array.ext'
    rw [hz1, Nat.mul_one, show (Value.int .u8 0).cells = #[.int .u8 0] from rfl, toList_madeCells_one]
    simp [cellsOf]
  simp only [Int.toNat_natCast]
  rw [e]
theorem u8_shift (n k : Nat) : ∃ x : Nat, x < 256 ∧ ((n : Int) / 2 ^ (8 * k)) % 256 = (x : Int) ∧ Hid (x = n / 256 ^ k % 256) := by
  refine ⟨n / 256 ^ k % 256, by omega, ?_, rfl⟩
  have e : ((2 : Int) ^ (8 * k)) = ((2 ^ (8 * k) : Nat) : Int) := (Int.natCast_pow 2 (8 * k)).symm
  rw [Crc.p256, e]
  omega
theorem le_getD (n : Nat) : ∀ m k, k < m → (Crc.le m n).getD k 0 = n / 256 ^ k % 256 := by
  intro m
  induction m with
  | zero => intro k hk; omega
  | succ m ih =>
    intro k hk
    rw [Crc.le_snoc]
    by_cases h : k < m
    · rw [← ih k h]
      simp [List.getD_eq_getElem?_getD, List.getElem?_append_left (show k < (Crc.le m n).length by rw [Crc.le_length]; exact h)]
    · have : k = m := by omega
      subst this
      simp [List.getD_eq_getElem?_getD, Crc.le_length]
set_option maxHeartbeats 800000 in
theorem bytes_any (n : Nat) (w : World) :
    Calls Try.prog 24 #[.int .u64 (n : Int)] w fun e w' => ∃ a, e = .returned (.slice (some a) 8 8) ∧ Row w' (some a) (Crc.le 8 n) 8 ∧ Fr (fun _ => False) w w' := by
  have km := run_make_bytes w 8 (by omega)
  obtain ⟨W, HW⟩ : ∃ W, Hid (W = w.alloc (.cells (cellsOf (List.replicate 8 0)).toArray 5)) := ⟨_, rfl⟩
  rw [← HW.out] at km
  have km : (Instr.makeSlice 22 (.int .i64 8) (.int .i64 8)).run Try.prog w = .ok (.slice (some ⟨w.heap.size, 0, none⟩) 8 8) W := km
  have FW : Hid (Fr (fun _ => False) w W) := by show Fr _ _ _; rw [HW.out]; exact (Fr.refl (fun _ => False) w).alloc _
  have CW : Hid (∀ j, j < 8 → W.cell? ⟨w.heap.size, j, none⟩ = some (.int .u8 0)) := by
    intro j hj
    rw [HW.out, cell_of_row _ w.heap.size j _ 5 (0, 0) (heap_alloc_new w _)]
    match j, hj with
    | 0, _ | 1, _ | 2, _ | 3, _ | 4, _ | 5, _ | 6, _ | 7, _ => rfl
  have ZW : Hid (∀ j, W.frozen? ⟨w.heap.size, j, none⟩ = false) := by
    intro j
    rw [HW.out]
    simp
  obtain ⟨g, Hg⟩ : ∃ g, Hid (w.heap.size = g) := ⟨_, rfl⟩
  rw [Hg.out] at km CW ZW
  go_enter Try.func24, Try.ntmps24
  go_wp2
  go_loopw [8] (fun i wr => ∃ k : Nat, k ≤ 8 ∧ i = .int .i64 (k : Int) ∧ (∀ j, j < k → wr.cell? ⟨g, j, none⟩ = some (.int .u8 ((n / 256 ^ j % 256 : Nat) : Int))) ∧ (∀ j, j < 8 → ∃ u, wr.cell? ⟨g, j, none⟩ = some u) ∧ (∀ j, wr.frozen? ⟨g, j, none⟩ = false) ∧ Fr (fun _ => False) w wr) (fun i _ => 8 - (intOf i).toNat)
  case atStart => exact ⟨0, by omega, rfl, fun j hj => absurd hj (by omega), fun j hj => ⟨_, CW.out j hj⟩, ZW.out, FW.out⟩
  case round =>
    obtain ⟨k, hk, rfl, hc, hs, hz, hfr⟩ := hrel
    have HC : Hid (∀ j, j < k → wr.cell? ⟨g, j, none⟩ = some (.int .u8 ((n / 256 ^ j % 256 : Nat) : Int))) := hc
    have HS : Hid (∀ j, j < 8 → ∃ u, wr.cell? ⟨g, j, none⟩ = some u) := hs
    have HZ : Hid (∀ j, wr.frozen? ⟨g, j, none⟩ = false) := hz
    have HF : Hid (Fr (fun _ => False) w wr) := hfr
    by_cases hlt : k < 8
    · obtain ⟨u, hu⟩ := hs k hlt
      have hzk := hz k
      obtain ⟨x, hx, ex, Hx⟩ := u8_shift n k
      have k1 : (0 : Int) ≤ (k : Int) := by omega
      have k2 : (k : Int) < 8 := by omega
      clear hc hs hz hfr km
      go_wp2
      go_roundw
      case rel =>
        refine ⟨k + 1, by omega, by go_num, fun j hj => ?_, fun j hj => ?_, fun j => by simpa using HZ.out j, HF.out.setCell (p := ⟨g, k, none⟩) (Or.inr (by rw [Hg.out]; exact Nat.le_refl _)) _⟩
        · by_cases hjk : j = k
          · subst hjk
            rw [World.cell?_setCell_same _ _ _ hu, Hx.out]
          · exact (World.cell?_setCell_other _ _ _ _ (by simp)).trans (HC.out j (by omega))
        · by_cases hjk : j = k
          · subst hjk; exact ⟨_, World.cell?_setCell_same _ _ _ hu⟩
          · obtain ⟨u2, hu2⟩ := HS.out j hj
            exact ⟨u2, (World.cell?_setCell_other _ _ _ _ (by simp)).trans hu2⟩
      case measure => simp [intOf]; omega
    · have hk8 : k = 8 := by omega
      subst hk8
      clear hc hs hz hfr km
      go_wp2
      go_ret
      refine ⟨_, rfl, ⟨by rw [Crc.le_length]; exact Nat.le_refl _, by unfold maxLen; omega, Crc.le_lt 8 n, fun h => (by cases h), fun _ => ⟨g, 0, rfl, fun i hi => ?_⟩⟩, HF.out⟩
      rw [Crc.le_length] at hi
      rw [Nat.zero_add, HC.out i hi, le_getD n 8 i hi]
theorem mask_le (n : Nat) (hn : n < 18446744073709551616) : mask (Crc.le 8 n) = n := by
  unfold mask
  rw [List.take_of_length_le (by rw [Crc.le_length]; omega), Crc.num_le]
  exact Nat.mod_eq_of_lt hn
set_option maxRecDepth 100000 in
set_option maxHeartbeats 2000000 in
theorem masks_walk (n : Nat) (ao : Option Addr) (p : List Nat) (cap : Nat) (w : World) (hn : n < 18446744073709551616) (hr : Row w ao p cap) :
    Calls Try.prog 8 #[.int .u64 (n : Int), .slice ao p.length cap] w fun e w' => e = .returned (.bool true) ∧ Fr (fun _ => False) w w' := by
  have hl := hr.len
  by_cases hlong : 100 < p.length
  · clear hr
    go_enter Try.func8, Try.ntmps8
    go_wp2_with fail
    refine (awake_any w).mono ?_
    rintro e w1 ⟨rfl, f1⟩
    go_wp2_with fail
    refine (awake_any w1).mono ?_
    rintro e w2 ⟨rfl, f2⟩
    go_wp2
    go_ret
    exact ⟨rfl, f1.trans f2⟩
  · have HR : Hid (Row w ao p cap) := hr
    have hml := mask_lt p hr.2.2.1
    clear hr
    go_enter Try.func8, Try.ntmps8
    go_wp2_with fail
    refine (awake_any w).mono ?_
    rintro e w1 ⟨rfl, f1⟩
    have F1 : Hid (Fr (fun _ => False) w w1) := f1
    clear f1
    go_wp2_with fail
    refine (bytes_any n w1).mono ?_
    rintro e w2 ⟨a2, rfl, r2, f2⟩
    have K2 : Calls Try.prog 23 #[.slice (some a2) 8 8] w2 fun e w' => e = .returned (.int .u64 (n : Int)) ∧ w' = w2 := by
      have := mask_any (some a2) (Crc.le 8 n) 8 w2 r2
      rwa [mask_le n hn, Crc.le_length] at this
    have K2 : Hid (Calls _ _ _ _ _) := K2
    have F2 : Hid (Fr (fun _ => False) w w2) := F1.out.trans f2
    clear r2 f2
    go_wp2_with fail
    refine K2.out.mono ?_
    rintro e w3 ⟨rfl, rfl⟩
    go_wp2_with fail
    refine (bytes_any n w3).mono ?_
    rintro e w4 ⟨a4, rfl, r4, f4⟩
    have F4 : Hid (Fr (fun _ => False) w w4) := F2.out.trans f4
    have K4 : Hid (Calls _ _ _ _ _) := mask_any ao p cap w4 (F4.out.row HR.out (by simp))
    have K5 : Hid (Calls _ _ _ _ _) := refmask_any ao p cap w4 (F4.out.row HR.out (by simp))
    obtain ⟨m, Hm⟩ : ∃ m, Hid (mask p = m) := ⟨_, rfl⟩
    rw [Hm.out] at K4 K5
    clear r4 f4
    go_wp2_with fail
    refine K4.out.mono ?_
    rintro e w5 ⟨rfl, rfl⟩
    go_wp2_with fail
    refine K5.out.mono ?_
    rintro e w6 ⟨rfl, rfl⟩
    go_wp2
    go_ret
    exact ⟨rfl, F4.out⟩
end Go.Proofs.Ytkkpdnholnkeoab
