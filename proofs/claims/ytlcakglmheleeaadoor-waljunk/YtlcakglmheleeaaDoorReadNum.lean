/- The program's reader reads a number of at most eight bytes, the lowest first; at a fault 0. -/
import Derived.Test.YtlcakglmheleeaaDoorReader
namespace Go.Proofs.YtlcakglmheleeaaDoor
open Go.RowKit

theorem wrap_u64_small (n : Int) (h0 : 0 ≤ n) (h1 : n < 2 ^ 64) : IntKind.u64.wrap n = n := by
  simp [IntKind.wrap, IntKind.bits, IntKind.signed]; omega
theorem or_shift (t x k : Nat) (ht : t < 256 ^ k) (hx : x < 256) (hk : k < 8) : bits .or .u64 (t : Int) (IntKind.u64.wrap ((x : Int) * 2 ^ (8 * k))) = ((t + 256 ^ k * x : Nat) : Int) ∧ t + 256 ^ k * x < 256 ^ (k + 1) := by
  have hlt : t + 256 ^ k * x < 256 ^ (k + 1) := by
    have h1 : 256 ^ k * (x + 1) ≤ 256 ^ k * 256 := Nat.mul_le_mul_left _ (by omega)
    rw [Nat.pow_succ]; rw [Nat.mul_add] at h1; omega
  have h64 : 256 ^ (k + 1) ≤ 2 ^ 64 := by
    rw [Crc.p256]; exact Nat.pow_le_pow_right (by decide) (by omega)
  have hX : 2 ^ (8 * k) * x < 2 ^ 64 := by rw [Crc.p256] at hlt; omega
  have ht' : t < 2 ^ (8 * k) := by rw [← Crc.p256]; exact ht
  have e1 : ((x : Int) * 2 ^ (8 * k)) = ((2 ^ (8 * k) * x : Nat) : Int) := by push_cast; exact Int.mul_comm _ _
  refine ⟨?_, hlt⟩
  rw [e1, wrap_u64_small _ (Int.natCast_nonneg _) (by exact_mod_cast hX), (bits_nat .u64 64 (by decide) wrap_u64_small t _ (by omega) hX).2, Nat.or_comm, ← Nat.two_pow_add_eq_or_of_lt ht' x, Crc.p256, Nat.add_comm]
theorem num_take (l : List Nat) (k : Nat) (h : k < l.length) : Crc.num (l.take (k + 1)) = Crc.num (l.take k) + 256 ^ k * l.getD k 0 := by
  rw [List.take_succ_eq_append_getElem h, Crc.num_append]
  have : (l.take k).length = k := by simp; omega
  rw [this]
  simp [Crc.num, h]
set_option maxHeartbeats 400000 in
theorem rnum_some (w : World) (rb : Nat) (b off : Nat) (l : List Nat) (cap : Nat) (n : Nat) (h : Rd w rb (some ⟨b, off, none⟩) l cap false) (hn : n ≤ l.length) (h8 : n ≤ 8) : Calls Tryd.prog 49 #[.pointer (some ⟨rb, 0, none⟩), .int .i64 (n : Int)] w fun e w' =>
    e = .returned (.int .u64 ((Crc.num (l.take n) : Nat) : Int)) ∧ ∃ a1, Rd w' rb a1 (l.drop n) (cap - n) false ∧ Fr (fun k => k = rb) w w' ∧ ∀ a, a1 = some a → a.block = b := by
  go_enter Tryd.func49, Tryd.ntmps49
  go_wp2_with fail
  refine (take_ok w rb _ l cap n h hn).mono ?_
  rintro e w1 ⟨rfl, a1, h1, hrow, h2, h3⟩
  go_wp2
  go_loop [5, 12] (fun s i => ∃ k t : Nat, k ≤ n ∧ i = .int .i64 k ∧ s = .int .u64 (t : Int) ∧ t < 256 ^ k ∧ Hid (t = Crc.num (l.take k))) (fun _ i => n - (intOf i).toNat)
  case atStart => exact ⟨0, 0, Nat.zero_le _, rfl, rfl, by omega, rfl⟩
  case round =>
    obtain ⟨k, t, hk, rfl, rfl, ht, Ht⟩ := hrel
    by_cases hlt : k < n
    · have hc : ∃ x : Nat, x < 256 ∧ w1.cell? ⟨b, off + k, none⟩ = some (.int .u8 (x : Int)) ∧ Hid (x = l.getD k 0) := by
        obtain ⟨r1, r2, r3, r4, r5⟩ := hrow
        have hlen : (l.take n).length = n := by simp; omega
        obtain ⟨b', off', he, hc⟩ := r5 (fun e => by rw [e] at hlen; simp at hlen; omega)
        cases he
        have := hc k (by omega)
        refine ⟨(l.take n).getD k 0, ?_, this, ?_⟩
        · rw [List.getD_eq_getElem?_getD, List.getElem?_eq_getElem (by omega)]; exact r3 _ (List.getElem_mem _)
        · show _ = _; simp [List.getD_eq_getElem?_getD, hlt]
      obtain ⟨x, hx, hcell, Hx⟩ := hc
      have hrow' : Hid _ := hrow
      clear hrow
      obtain ⟨t2, e1, e2, Ht2⟩ : ∃ t2 : Nat, bits .or .u64 (t : Int) (IntKind.u64.wrap ((x : Int) * 2 ^ (8 * k))) = (t2 : Int) ∧ t2 < 256 ^ (k + 1) ∧ Hid (t2 = t + 256 ^ k * x) := ⟨_, (or_shift t x k ht hx (by omega)).1, (or_shift t x k ht hx (by omega)).2, rfl⟩
      have E2 : Hid _ := e2
      have HT : Hid _ := ht
      clear e2 ht
      go_wp2
      go_round
      case rel => exact ⟨k + 1, t2, by omega, by go_num, rfl, E2.out, by show _ = _; rw [num_take l k (by omega), Ht2.out, Ht.out, Hx.out]⟩
      case measure => simp [intOf]; omega
    · have hkn : k = n := by omega
      subst hkn
      go_wp2
      go_ret
      exact ⟨ret_int (by rw [Ht.out]), a1, h1, h2, fun a ha => by obtain ⟨a0, e0, e1⟩ := h3 a ha; cases e0; exact e1⟩
set_option maxHeartbeats 400000 in
/-- no bytes are asked for. -/
theorem rnum_zero (w : World) (rb : Nat) (ao : Option Addr) (l : List Nat) (cap : Nat) (h : Rd w rb ao l cap false) : Calls Tryd.prog 49 #[.pointer (some ⟨rb, 0, none⟩), .int .i64 0] w fun e w' =>
    e = .returned (.int .u64 0) ∧ ∃ a1, Rd w' rb a1 l cap false ∧ Fr (fun k => k = rb) w w' ∧ ∀ a, a1 = some a → ∃ a0, ao = some a0 ∧ a.block = a0.block := by
  go_enter Tryd.func49, Tryd.ntmps49
  go_wp2_with fail
  refine (take_ok w rb _ l cap 0 h (Nat.zero_le _)).mono ?_
  rintro e w1 ⟨rfl, a1, h1, hrow, h2, h3⟩
  have H1 : Hid _ := h1
  clear h1 hrow
  go_wp2
  refine wp_loop_rounds 1 ?_; rw [rounds_succ]
  go_wp2
  go_ret
  exact ⟨rfl, a1, H1.out, h2, h3⟩
set_option maxHeartbeats 400000 in
theorem rnum_bad (w : World) (rb : Nat) (ao : Option Addr) (l : List Nat) (cap : Nat) (bad : Bool) (n : Int) (h : Rd w rb ao l cap bad) (hn : n < 0 ∨ (l.length : Int) < n) : Calls Tryd.prog 49 #[.pointer (some ⟨rb, 0, none⟩), .int .i64 n] w fun e w' =>
    e = .returned (.int .u64 0) ∧ Rd w' rb none [] 0 true ∧ Fr (fun k => k = rb) w w' := by
  go_enter Tryd.func49, Tryd.ntmps49
  go_wp2_with fail
  refine (take_bad w rb _ l cap bad n h hn).mono ?_
  rintro e w1 ⟨rfl, h1, h2⟩
  clear hn
  go_wp2
  refine wp_loop_rounds 1 ?_; rw [rounds_succ]
  go_wp2
  go_ret
  exact ⟨rfl, h1, h2⟩
set_option maxHeartbeats 400000 in
theorem rnum_none (w : World) (rb : Nat) (ao : Option Addr) (l : List Nat) (cap : Nat) (h : Rd w rb ao l cap true) : Calls Tryd.prog 49 #[.pointer (some ⟨rb, 0, none⟩), .int .i64 0] w fun e w' =>
    e = .returned (.int .u64 0) ∧ w' = w := by
  go_enter Tryd.func49, Tryd.ntmps49
  go_wp2_with fail
  refine (take_none w rb _ l cap h).mono ?_
  rintro e w1 ⟨rfl, hw1⟩
  subst w1
  go_wp2
  refine wp_loop_rounds 1 ?_; rw [rounds_succ]
  go_wp2
  go_ret
  exact ⟨rfl, rfl⟩
set_option maxHeartbeats 400000 in
theorem rnum_nil (w : World) (n : Int) : Calls Tryd.prog 49 #[.pointer none, .int .i64 n] w fun e w' => e = .returned (.int .u64 0) ∧ w' = w := by
  go_enter Tryd.func49, Tryd.ntmps49
  go_wp2_with fail
  refine (take_nilr w n).mono ?_
  rintro e w1 ⟨rfl, hw1⟩
  subst w1
  go_wp2
  refine wp_loop_rounds 1 ?_; rw [rounds_succ]
  go_wp2
  go_ret
  exact ⟨rfl, rfl⟩
/-- a number that is there. -/
theorem rnum_ok (w : World) (rb : Nat) (ao : Option Addr) (l : List Nat) (cap : Nat) (n : Nat) (h : Rd w rb ao l cap false) (hn : n ≤ l.length) (h8 : n ≤ 8) : Calls Tryd.prog 49 #[.pointer (some ⟨rb, 0, none⟩), .int .i64 (n : Int)] w fun e w' =>
    e = .returned (.int .u64 ((Crc.num (l.take n) : Nat) : Int)) ∧ ∃ a1, Rd w' rb a1 (l.drop n) (cap - n) false ∧ Fr (fun k => k = rb) w w' ∧ ∀ a, a1 = some a → ∃ a0, ao = some a0 ∧ a.block = a0.block := by
  by_cases h0 : n = 0
  · subst h0
    exact rnum_zero w rb ao l cap h
  · obtain ⟨b, off, rfl, _⟩ := h.row.2.2.2.2 (fun e => by subst e; simp at hn; omega)
    refine (rnum_some w rb b off l cap n h hn h8).mono ?_
    rintro e w1 ⟨he, a1, h1, h2, h3⟩
    exact ⟨he, a1, h1, h2, fun a ha => ⟨_, rfl, h3 a ha⟩⟩
end Go.Proofs.YtlcakglmheleeaaDoor
