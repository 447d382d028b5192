/- Nodes, bit by bit: the program's Mask and Bytes, and the document's Mask. -/
import Derived.Test.YtkkpdnholnkeoabStr
import Derived.Test.YtkkpdnholnkeoabCrc
import Derived.Deep.QuietTactic
import Derived.BigQuiet
import Derived.BigRegion
namespace Go.Proofs.Ytkkpdnholnkeoab
open Go.RowKit

theorem wrap_u64_small (n : Int) (h0 : 0 ≤ n) (h1 : n < 2 ^ 64) : IntKind.u64.wrap n = n := by
  simp [IntKind.wrap, IntKind.bits, IntKind.signed]; omega
theorem wrap_u8_small (n : Int) (h0 : 0 ≤ n) (h1 : n < 2 ^ 8) : IntKind.u8.wrap n = n := by
  simp [IntKind.wrap, IntKind.bits, IntKind.signed]; omega
theorem shift_lt (t x k : Nat) (ht : t < 256 ^ k) (hx : x < 256) (hk : k < 8) : t + 256 ^ k * x < 256 ^ (k + 1) ∧ t + 256 ^ k * x < 18446744073709551616 := by
  have hlt : t + 256 ^ k * x < 256 ^ (k + 1) := by
    have h1 : 256 ^ k * (x + 1) ≤ 256 ^ k * 256 := Nat.mul_le_mul_left _ (by omega)
    rw [Nat.pow_succ]; rw [Nat.mul_add] at h1; omega
  have h64 : 256 ^ (k + 1) ≤ 2 ^ 64 := by
    rw [Crc.p256]; exact Nat.pow_le_pow_right (by decide) (by omega)
  exact ⟨hlt, by omega⟩
theorem shl_eq (x k : Nat) (hx : x < 256) (hk : k < 8) : IntKind.u64.wrap ((x : Int) * 2 ^ (8 * k)) = ((256 ^ k * x : Nat) : Int) := by
  have h := (shift_lt 0 x k (Nat.pow_pos (by decide)) hx hk).2
  have e1 : ((x : Int) * 2 ^ (8 * k)) = ((256 ^ k * x : Nat) : Int) := by rw [Crc.p256]; push_cast; exact Int.mul_comm _ _
  rw [e1]
  exact wrap_u64_small _ (Int.natCast_nonneg _) (by omega)
theorem or_shift (t x k : Nat) (ht : t < 256 ^ k) (hx : x < 256) (hk : k < 8) : bits .or .u64 (t : Int) (IntKind.u64.wrap ((x : Int) * 2 ^ (8 * k))) = ((t + 256 ^ k * x : Nat) : Int) := by
  have h2 := (shift_lt t x k ht hx hk).2
  have ht' : t < 2 ^ (8 * k) := by rw [← Crc.p256]; exact ht
  rw [shl_eq x k hx hk, (bits_nat .u64 64 (by decide) wrap_u64_small t _ (by omega) (by omega)).2, Nat.or_comm, Crc.p256, ← Nat.two_pow_add_eq_or_of_lt ht' x, Nat.add_comm]
theorem num_take (l : List Nat) (k : Nat) (h : k < l.length) : Crc.num (l.take (k + 1)) = Crc.num (l.take k) + 256 ^ k * l.getD k 0 := by
  rw [List.take_succ_eq_append_getElem h, Crc.num_append]
  have : (l.take k).length = k := by simp; omega
  rw [this]
  simp [Crc.num, h]
/-- nodes, bit by bit, of bytes. -/
def mask (l : List Nat) : Nat := Crc.num (l.take 8)
theorem mask_lt (l : List Nat) (h : ∀ x ∈ l, x < 256) : mask l < 18446744073709551616 := by
  have := Crc.num_lt (l.take 8) (fun b hb => h b (List.mem_of_mem_take hb))
  have h2 : (l.take 8).length ≤ 8 := List.length_take_le _ _
  have h3 : 256 ^ (l.take 8).length ≤ 256 ^ 8 := Nat.pow_le_pow_right (by decide) h2
  unfold mask
  omega
theorem Row.at {w : World} {ao : Option Addr} {l : List Nat} {cap k : Nat} (h : Row w ao l cap) (hk : k < l.length) :
    ∃ b off x, ao = some ⟨b, off, none⟩ ∧ x < 256 ∧ w.cell? ⟨b, off + k, none⟩ = some (.int .u8 ((x : Nat) : Int)) ∧ Hid (x = l.getD k 0) := by
  obtain ⟨b, off, he, hc⟩ := h.2.2.2.2 (fun e => by rw [e] at hk; simp at hk)
  refine ⟨b, off, _, he, ?_, hc k hk, rfl⟩
  rw [List.getD_eq_getElem?_getD, List.getElem?_eq_getElem hk]; exact h.2.2.1 _ (List.getElem_mem _)
theorem Row.len {w : World} {ao : Option Addr} {l : List Nat} {cap : Nat} (h : Row w ao l cap) : l.length ≤ 9223372036854775807 ∧ cap ≤ 9223372036854775807 ∧ l.length ≤ cap := by
  have := h.1; have := h.2.1; unfold maxLen at this; omega
set_option maxHeartbeats 800000 in
theorem mask_short (ao : Option Addr) (l : List Nat) (cap : Nat) (w : World) (hrow : Row w ao l cap) (hm : l.length ≤ 8) :
    Calls Try.prog 23 #[.slice ao l.length cap] w fun e w' => e = .returned (.int .u64 ((Crc.num (l.take l.length) : Nat) : Int)) ∧ w' = w := by
  have hl := hrow.len
  go_enter Try.func23, Try.ntmps23
  go_wp2
  go_loop [3, 12] (fun s i => ∃ k t : Nat, k ≤ l.length ∧ k ≤ 8 ∧ i = .int .i64 k ∧ s = .int .u64 (t : Int) ∧ t < 256 ^ k ∧ Hid (t = Crc.num (l.take k))) (fun _ i => 8 - (intOf i).toNat)
  case atStart => exact ⟨0, 0, Nat.zero_le _, Nat.zero_le _, rfl, rfl, by omega, rfl⟩
  case round =>
    obtain ⟨k, t, hk, hk8, rfl, rfl, ht, Ht⟩ := hrel
    by_cases hlt : k < l.length
    · obtain ⟨b, off, x, rfl, hx, hcell, Hx⟩ := hrow.at (k := k) (by omega)
      obtain ⟨t2, e1, e2, Ht2⟩ : ∃ t2 : Nat, bits .or .u64 (t : Int) (IntKind.u64.wrap ((x : Int) * 2 ^ (8 * k))) = (t2 : Int) ∧ t2 < 256 ^ (k + 1) ∧ Hid (t2 = t + 256 ^ k * x) := ⟨_, or_shift t x k ht hx (by omega), (shift_lt t x k ht hx (by omega)).1, rfl⟩
      have E2 : Hid _ := e2
      have HT : Hid _ := ht
      clear e2 ht hrow
      go_wp2
      go_round
      case rel => exact ⟨k + 1, t2, by omega, by omega, by go_num, rfl, E2.out, by show _ = _; rw [num_take l k (by omega), Ht2.out, Ht.out, Hx.out]⟩
      case measure => simp [intOf]; omega
    · have hkn : k = l.length := by omega
      subst hkn
      clear hrow
      go_wp2
      go_ret
      exact ⟨ret_int (by rw [Ht.out]; simp), rfl⟩
set_option maxHeartbeats 800000 in
theorem mask_long (ao : Option Addr) (l : List Nat) (cap : Nat) (w : World) (hrow : Row w ao l cap) (hm : 8 < l.length) :
    Calls Try.prog 23 #[.slice ao l.length cap] w fun e w' => e = .returned (.int .u64 ((Crc.num (l.take 8) : Nat) : Int)) ∧ w' = w := by
  have hl := hrow.len
  go_enter Try.func23, Try.ntmps23
  go_wp2
  go_loop [3, 12] (fun s i => ∃ k t : Nat, k ≤ l.length ∧ k ≤ 8 ∧ i = .int .i64 k ∧ s = .int .u64 (t : Int) ∧ t < 256 ^ k ∧ Hid (t = Crc.num (l.take k))) (fun _ i => 8 - (intOf i).toNat)
  case atStart => exact ⟨0, 0, Nat.zero_le _, Nat.zero_le _, rfl, rfl, by omega, rfl⟩
  case round =>
    obtain ⟨k, t, hk, hk8, rfl, rfl, ht, Ht⟩ := hrel
    by_cases hlt : k < 8
    · obtain ⟨b, off, x, rfl, hx, hcell, Hx⟩ := hrow.at (k := k) (by omega)
      obtain ⟨t2, e1, e2, Ht2⟩ : ∃ t2 : Nat, bits .or .u64 (t : Int) (IntKind.u64.wrap ((x : Int) * 2 ^ (8 * k))) = (t2 : Int) ∧ t2 < 256 ^ (k + 1) ∧ Hid (t2 = t + 256 ^ k * x) := ⟨_, or_shift t x k ht hx (by omega), (shift_lt t x k ht hx (by omega)).1, rfl⟩
      have E2 : Hid _ := e2
      have HT : Hid _ := ht
      clear e2 ht hrow
      go_wp2
      go_round
      case rel => exact ⟨k + 1, t2, by omega, by omega, by go_num, rfl, E2.out, by show _ = _; rw [num_take l k (by omega), Ht2.out, Ht.out, Hx.out]⟩
      case measure => simp [intOf]; omega
    · have hkn : k = 8 := by omega
      subst hkn
      clear hrow
      go_wp2
      go_ret
      exact ⟨ret_int (by rw [Ht.out]), rfl⟩
theorem mask_any (ao : Option Addr) (l : List Nat) (cap : Nat) (w : World) (h : Row w ao l cap) :
    Calls Try.prog 23 #[.slice ao l.length cap] w fun e w' => e = .returned (.int .u64 ((mask l : Nat) : Int)) ∧ w' = w := by
  by_cases h8 : l.length ≤ 8
  · have := mask_short ao l cap w h h8
    unfold mask
    rw [List.take_of_length_le h8]
    rwa [List.take_of_length_le (Nat.le_refl _)] at this
  · exact mask_long ao l cap w h (by omega)
set_option maxHeartbeats 800000 in
theorem refmask_any (ao : Option Addr) (l : List Nat) (cap : Nat) (w : World) (h : Row w ao l cap) :
    Calls Try.prog 21 #[.slice ao l.length cap] w fun e w' => e = .returned (.int .u64 ((mask l : Nat) : Int)) ∧ w' = w := by
  have hl := h.len
  go_enter Try.func21, Try.ntmps21
  go_wp2
  go_loop [3, 4] (fun s i => ∃ k t : Nat, k ≤ l.length ∧ k ≤ 8 ∧ i = .int .i64 k ∧ s = .int .u64 (t : Int) ∧ t < 256 ^ k ∧ Hid (t = Crc.num (l.take k))) (fun _ i => 8 - (intOf i).toNat)
  case atStart => exact ⟨0, 0, Nat.zero_le _, Nat.zero_le _, rfl, rfl, by omega, rfl⟩
  case round =>
    obtain ⟨k, t, hk, hk8, rfl, rfl, ht, Ht⟩ := hrel
    by_cases hlt : k < l.length
    · by_cases hlt8 : k < 8
      · obtain ⟨b, off, x, rfl, hx, hcell, Hx⟩ := h.at (k := k) (by omega)
        obtain ⟨y, ey, Hy⟩ : ∃ y : Nat, IntKind.u64.wrap ((x : Int) * 2 ^ (8 * k)) = (y : Int) ∧ Hid (y = 256 ^ k * x) := ⟨_, shl_eq x k hx (by omega), rfl⟩
        obtain ⟨t2, e1, e2, e3, Ht2⟩ : ∃ t2 : Nat, (t : Int) + (y : Int) = (t2 : Int) ∧ t2 < 18446744073709551616 ∧ t2 < 256 ^ (k + 1) ∧ Hid (t2 = t + 256 ^ k * x) := ⟨t + 256 ^ k * x, by rw [Hy.out]; omega, (shift_lt t x k ht hx (by omega)).2, (shift_lt t x k ht hx (by omega)).1, rfl⟩
        have E3 : Hid _ := e3
        have HT : Hid _ := ht
        clear e3 ht h
        go_wp2
        go_round
        case rel => exact ⟨k + 1, t2, by omega, by omega, by go_num, rfl, E3.out, by show _ = _; rw [num_take l k (by omega), Ht2.out, Ht.out, Hx.out]⟩
        case measure => simp [intOf]; omega
      · have hkn : k = 8 := by omega
        subst hkn
        clear h
        go_wp2
        go_ret
        exact ⟨ret_int (by rw [Ht.out]; rfl), rfl⟩
    · have hkn : k = l.length := by omega
      subst hkn
      clear h
      go_wp2
      go_ret
      exact ⟨ret_int (by unfold mask; rw [Ht.out, List.take_of_length_le (Nat.le_refl _), List.take_of_length_le hk8]), rfl⟩
end Go.Proofs.Ytkkpdnholnkeoab
