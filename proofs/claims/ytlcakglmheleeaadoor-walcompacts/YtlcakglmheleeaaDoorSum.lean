/- The program's Sum answers the sum of its bytes, and changes nothing. -/
import Derived.Test.YtlcakglmheleeaaDoorBase
namespace Go.Proofs.YtlcakglmheleeaaDoor
open Go.RowKit

theorem tab_lt (i : Nat) (h : i < 16) : Crc.tab i < 4294967296 := Crc.stN_lt 4 i (by omega)
theorem nib_lt (s : Nat) (h : s < 4294967296) : Crc.nib s < 4294967296 := by rw [Crc.nib_eq]; exact Crc.stN_lt 4 s h
/-- one round's numbers, as the walk meets them. -/
theorem nib_facts (w : World) (ht : Tab w) (s : Nat) (hs : s < 4294967296) : ∃ i t r : Nat, bits .and .u32 (s : Int) 15 = (i : Int) ∧ i < 16 ∧ w.cell? ⟨0, i, none⟩ = some (.int .u32 (t : Int)) ∧
    bits .xor .u32 ((s : Int) / 16) (t : Int) = (r : Int) ∧ r < 4294967296 ∧ Hid (r = Crc.nib s) := by
  refine ⟨s % 16, Crc.tab (s % 16), Crc.nib s, ?_, by omega, ht _ (by omega), ?_, nib_lt s hs, rfl⟩
  · have := and_u32 s 15 hs (by omega)
    rw [show ((15 : Nat) : Int) = 15 from rfl] at this
    rw [this, show (15 : Nat) = 2 ^ 4 - 1 from rfl, Nat.and_two_pow_sub_one_eq_mod]
  · have := xor_u32 (s / 16) (Crc.tab (s % 16)) (by omega) (tab_lt _ (by omega))
    rw [show ((s / 16 : Nat) : Int) = (s : Int) / 16 from by omega] at this
    exact this
theorem run_snoc (c : Nat) (l : List Nat) (k : Nat) (h : k < l.length) : Crc.run c (l.take (k + 1)) = Crc.by8 (Crc.run c (l.take k)) (l.getD k 0) := by
  rw [List.take_succ_eq_append_getElem h, Crc.run_append]
  simp [Crc.run, h]
theorem not_u32 (s : Nat) (h : s < 4294967296) : s ^^^ 4294967295 = 4294967295 - s := by
  apply Nat.eq_of_testBit_eq; intro i
  rw [← show 2 ^ 32 - (s + 1) = 4294967295 - s by omega, Nat.testBit_two_pow_sub_succ (by omega), Nat.testBit_xor, show (4294967295 : Nat) = 2 ^ 32 - 1 from rfl, Nat.testBit_two_pow_sub_one]
  by_cases hi : i < 32
  · simp [hi]
  · have : s.testBit i = false := Nat.testBit_lt_two_pow (Nat.lt_of_lt_of_le h (Nat.pow_le_pow_right (n := 2) (by omega) (show 32 ≤ i by omega)))
    simp [hi, this]

set_option maxHeartbeats 400000 in
theorem sum_some (b off : Nat) (l : List Nat) (cap : Nat) (w : World) (ht : Tab w) (hl : l.length ≤ maxLen) (hb : ∀ x ∈ l, x < 256)
    (hc : ∀ i, i < l.length → w.cell? ⟨b, off + i, none⟩ = some (.int .u8 ((l.getD i 0 : Nat) : Int))) :
    Calls Tryd.prog 62 #[.slice (some ⟨b, off, none⟩) l.length cap] w fun e w' => e = .returned (.int .u32 ((Crc.sum l : Nat) : Int)) ∧ w' = w := by
  unfold maxLen at hl
  go_enter Tryd.func62, Tryd.ntmps62
  go_wp2
  go_loop [3, 8] (fun s i => ∃ k n : Nat, k ≤ l.length ∧ i = .int .i64 k ∧ s = .int .u32 (n : Int) ∧ n < 4294967296 ∧ Hid (n = Crc.run 4294967295 (l.take k))) (fun _ i => l.length - (intOf i).toNat)
  case atStart => exact ⟨0, 4294967295, Nat.zero_le _, rfl, rfl, by omega, rfl⟩
  case round =>
    obtain ⟨k, s, hk, rfl, rfl, hs, Hs⟩ := hrel
    by_cases hlt : k < l.length
    · obtain ⟨x, hx, hcell, Hx⟩ : ∃ x : Nat, x < 256 ∧ w.cell? ⟨b, off + k, none⟩ = some (.int .u8 (x : Int)) ∧ Hid (x = l.getD k 0) :=
        ⟨l.getD k 0, by rw [List.getD_eq_getElem?_getD, List.getElem?_eq_getElem hlt]; exact hb _ (List.getElem_mem hlt), hc k hlt, rfl⟩
      have e0 : (x : Int) % 4294967296 = x := by omega
      obtain ⟨s1, e1, hs1, Hs1⟩ : ∃ n : Nat, bits .xor .u32 (s : Int) (x : Int) = (n : Int) ∧ n < 4294967296 ∧ Hid (n = s ^^^ x) :=
        ⟨_, xor_u32 s x hs (by omega), Nat.xor_lt_two_pow (n := 32) hs (by omega), rfl⟩
      obtain ⟨i1, t1, s2, f1, f2, f3, f4, hs2, Hs2⟩ := nib_facts w ht s1 hs1
      obtain ⟨i2, t2, s3, g1, g2, g3, g4, hs3, Hs3⟩ := nib_facts w ht s2 hs2
      clear hc hb ht
      go_wp2
      go_round
      case rel => exact ⟨k + 1, s3, by omega, by go_num, rfl, hs3, by show s3 = _; rw [run_snoc _ _ _ hlt, Hs3.out, Hs2.out, Hs1.out, Hs.out, Hx.out, Crc.nib2]; rfl⟩
      case measure => simp [intOf]; omega
    · have hkl : k = l.length := by omega
      have hfin : Hid (4294967295 - s = Crc.sum l) := by show _ = _; unfold Crc.sum; rw [← not_u32 s hs, Hs.out, hkl, List.take_length]
      clear hkl
      have hx : bits .xor .u32 IntKind.u32.max (s : Int) = ((4294967295 ^^^ s : Nat) : Int) := xor_u32 4294967295 s (by omega) hs
      have hfin2 : Hid (4294967295 ^^^ s = Crc.sum l) := by show _ = _; rw [Nat.xor_comm, not_u32 s hs, hfin.out]
      clear hfin
      generalize 4294967295 ^^^ s = r at hx hfin2
      go_wp2
      go_ret
      exact ⟨ret_int (by rw [hfin2.out]), rfl⟩
theorem sum_nil (ao : Option Addr) (cap : Nat) (w : World) :
    Calls Tryd.prog 62 #[.slice ao 0 cap] w fun e w' => e = .returned (.int .u32 ((Crc.sum [] : Nat) : Int)) ∧ w' = w := by
  have hx : bits .xor .u32 IntKind.u32.max 4294967295 = 0 := xor_u32 4294967295 4294967295 (by omega) (by omega)
  go_enter Tryd.func62, Tryd.ntmps62
  go_wp2
  refine wp_loop_rounds 1 ?_; rw [rounds_succ]
  go_wp2
  go_ret
  exact ⟨ret_int rfl, rfl⟩
theorem sum_any (ao : Option Addr) (l : List Nat) (cap : Nat) (w : World) (ht : Tab w) (h : Row w ao l cap) :
    Calls Tryd.prog 62 #[.slice ao l.length cap] w fun e w' => e = .returned (.int .u32 ((Crc.sum l : Nat) : Int)) ∧ w' = w := by
  obtain ⟨h1, h2, h3, _, h5⟩ := h
  by_cases hl : l = []
  · subst hl; exact sum_nil ao cap w
  · obtain ⟨b, off, rfl, hc⟩ := h5 hl
    exact sum_some b off l cap w ht (Nat.le_trans h1 h2) h3 hc
end Go.Proofs.YtlcakglmheleeaaDoor
