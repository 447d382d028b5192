/- What was laid is read back, piece by piece. -/
import Derived.Test.YtonhkmcjfggnlaaDoorWriteAll
import Derived.Test.YtonhkmcjfggnlaaDoorReadAll
namespace Go.Proofs.YtonhkmcjfggnlaaDoor
open Go.RowKit

theorem piece_num (w : World) (rb : Nat) (ao : Option Addr) (l R : List Nat) (cap nb x : Nat) (h : Rd w rb ao l cap false) (hl : l = Crc.le nb x ++ R) (h8 : nb ≤ 8) : Calls Tryd.prog 18 #[.pointer (some ⟨rb, 0, none⟩), .int .i64 (nb : Int)] w fun e w' =>
    e = .returned (.int .u64 ((x % 256 ^ nb : Nat) : Int)) ∧ ∃ a1 c1, Rd w' rb a1 R c1 false ∧ Fr (fun k => k = rb) w w' := by
  have h1 : l.take nb = Crc.le nb x := by rw [hl, List.take_left' (Crc.le_length _ _)]
  have h2 : l.drop nb = R := by rw [hl, List.drop_left' (Crc.le_length _ _)]
  refine (rnum_ok w rb ao l cap nb h (by rw [hl, List.length_append, Crc.le_length]; omega) h8).mono ?_
  rintro e w1 ⟨he, a1, k1, k2, _⟩
  rw [h1, Crc.num_le] at he
  rw [h2] at k1
  exact ⟨he, a1, _, k1, k2⟩
theorem piece_bytes (w : World) (rb : Nat) (ao : Option Addr) (l m R : List Nat) (cap : Nat) (h : Rd w rb ao l cap false) (hl : l = Crc.le 4 m.length ++ (m ++ R)) (hm : m.length ≤ 2000) : Calls Tryd.prog 19 #[.pointer (some ⟨rb, 0, none⟩), .int .i64 2000] w fun e w' =>
    ∃ a1, e = .returned (.slice a1 m.length m.length) ∧ Row w' a1 m m.length ∧ ∃ a2 c2, Rd w' rb a2 R c2 false ∧ Fr (fun k => k = rb) w w' := by
  have h1 : Crc.num (l.take 4) = m.length := by rw [hl, List.take_left' (Crc.le_length _ _), Crc.num_le, Nat.mod_eq_of_lt (by omega)]
  have h2 : l.drop 4 = m ++ R := by rw [hl, List.drop_left' (Crc.le_length _ _)]
  have hc := bytes_ok w rb ao l cap 2000 h (by omega) (by rw [hl, List.length_append, Crc.le_length]; omega) (by omega) (by rw [h1, hl, List.length_append, Crc.le_length, List.length_append]; omega)
  rw [h1, h2, List.take_left' rfl, List.drop_left' rfl] at hc
  refine hc.mono ?_
  rintro e w1 ⟨a1, a2, c2, he, k1, k2, k3, _⟩
  exact ⟨a1, he, k1.1, a2, c2, k2, k3⟩
theorem piece_flag (w : World) (rb : Nat) (ao : Option Addr) (l R : List Nat) (cap : Nat) (b : Bool) (h : Rd w rb ao l cap false) (hl : l = Crc.le 1 (bit b) ++ R) : Calls Tryd.prog 20 #[.pointer (some ⟨rb, 0, none⟩)] w fun e w' =>
    e = .returned (.bool b) ∧ ∃ a1 c1, Rd w' rb a1 R c1 false ∧ Fr (fun k => k = rb) w w' := by
  have h1 : Crc.num (l.take 1) = bit b := by rw [hl, List.take_left' (Crc.le_length _ _), Crc.num_le]; cases b <;> rfl
  have h2 : l.drop 1 = R := by rw [hl, List.drop_left' (Crc.le_length _ _)]
  refine (flag_ok w rb ao l cap h (by rw [hl, List.length_append, Crc.le_length]; omega) (by rw [h1]; cases b <;> simp [bit])).mono ?_
  rintro e w1 ⟨he, a1, k1, k2, _⟩
  rw [h1] at he
  rw [h2] at k1
  refine ⟨?_, a1, _, k1, k2⟩
  rw [he]
  cases b <;> rfl
theorem and_mask (x j : Nat) (hx : x < 18446744073709551616) (hj : j < 64) : bits .and .u64 (x : Int) ((2 ^ j - 1 : Nat) : Int) = ((x % 2 ^ j : Nat) : Int) := by
  have h1 : 2 ^ j < 2 ^ 64 := Nat.pow_lt_pow_right (by decide) hj
  rw [(bits_nat .u64 64 (by decide) wrap_u64_small x (2 ^ j - 1) hx (by omega)).1, Nat.and_two_pow_sub_one_eq_mod]
theorem mask_u64 (x nb z : Nat) (hx : x < 18446744073709551616) (hn : nb < 8) (hz : x % 256 ^ nb = z) : bits .and .u64 (x : Int) (IntKind.u64.wrap (IntKind.u64.wrap (2 ^ (8 * nb)) - 1)) = (z : Int) := by
  have h1 : 2 ^ (8 * nb) < 2 ^ 64 := Nat.pow_lt_pow_right (by decide) (by omega)
  have h0 : 0 < 2 ^ (8 * nb) := Nat.pow_pos (by decide)
  have e1 : ((2 : Int) ^ (8 * nb)) = ((2 ^ (8 * nb) : Nat) : Int) := by rw [Int.natCast_pow]; rfl
  have hm := and_mask x (8 * nb) hx (by omega)
  rw [e1]
  rw [← Crc.p256] at *
  generalize 256 ^ nb = g at *
  rw [wrap_u64_small (g : Int) (Int.natCast_nonneg _) (by exact_mod_cast h1)]
  have h2 : g - 1 < 2 ^ 64 := by omega
  rw [show ((g : Int) - 1) = ((g - 1 : Nat) : Int) by omega, wrap_u64_small _ (Int.natCast_nonneg _) (by exact_mod_cast h2), hm, hz]
end Go.Proofs.YtonhkmcjfggnlaaDoor
