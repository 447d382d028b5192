/- The document's own sum, bit by bit, is the sum; both ways of sealing lay the bytes and their sum. -/
import Derived.Test.YtlcakglmheleeaaDoorRef
import Derived.Test.YtlcakglmheleeaaDoorStr
namespace Go.Proofs.YtlcakglmheleeaaDoor
open Go.RowKit

theorem wrap_u8_small (n : Int) (h0 : 0 ≤ n) (h1 : n < 2 ^ 8) : IntKind.u8.wrap n = n := by
  simp [IntKind.wrap, IntKind.bits, IntKind.signed]; omega
/-- one bit's numbers, as the walk meets them. -/
theorem bit_facts (x k c : Nat) (hx : x < 256) (hc : c < 4294967296) : ∃ p q r : Nat, bits .and .u8 ((x : Int) / 2 ^ k) 1 = (p : Int) ∧ p < 2 ∧ bits .and .u32 (c : Int) 1 = (q : Int) ∧ q < 2 ∧ bits .xor .u32 (p : Int) (q : Int) = (r : Int) ∧ r < 2 ∧ Hid (r = (x / 2 ^ k % 2 + c % 2) % 2) := by
  refine ⟨x / 2 ^ k % 2, c % 2, (x / 2 ^ k % 2) ^^^ (c % 2), ?_, by omega, ?_, by omega, xor_u32 _ _ (by omega) (by omega), Nat.xor_lt_two_pow (n := 1) (by omega) (by omega), ?_⟩
  · have h1 : x / 2 ^ k < 256 := Nat.lt_of_le_of_lt (Nat.div_le_self _ _) hx
    have := (bits_nat .u8 8 (by decide) wrap_u8_small (x / 2 ^ k) 1 h1 (by decide)).1
    rw [show (1 : Nat) = 2 ^ 1 - 1 from rfl, Nat.and_two_pow_sub_one_eq_mod] at this
    have e : ((x / 2 ^ k : Nat) : Int) = (x : Int) / 2 ^ k := by push_cast; rfl
    rw [e] at this
    exact this
  · have := and_u32 c 1 hc (by omega)
    rw [show (1 : Nat) = 2 ^ 1 - 1 from rfl, Nat.and_two_pow_sub_one_eq_mod] at this
    exact this
  · show _ = _
    have := Crc.xor_mod_two (x / 2 ^ k % 2) (c % 2)
    have h2 : (x / 2 ^ k % 2) ^^^ (c % 2) < 2 := Nat.xor_lt_two_pow (n := 1) (by omega) (by omega)
    omega
set_option maxHeartbeats 1000000 in
theorem refsum_some (b off : Nat) (l : List Nat) (cap : Nat) (w : World) (hl : l.length ≤ maxLen) (hb : ∀ x ∈ l, x < 256)
    (hc : ∀ i, i < l.length → w.cell? ⟨b, off + i, none⟩ = some (.int .u8 ((l.getD i 0 : Nat) : Int))) :
    Calls Tryd.prog 43 #[.slice (some ⟨b, off, none⟩) l.length cap] w fun e w' => e = .returned (.int .u32 ((Crc.sum l : Nat) : Int)) ∧ w' = w := by
  unfold maxLen at hl
  go_enter Tryd.func43, Tryd.ntmps43
  go_wp2
  go_loop [3, 4] (fun s i => ∃ k n : Nat, k ≤ l.length ∧ i = .int .i64 k ∧ s = .int .u32 (n : Int) ∧ n < 4294967296 ∧ Hid (n = Crc.run 4294967295 (l.take k))) (fun _ i => l.length - (intOf i).toNat)
  case atStart => exact ⟨0, 4294967295, Nat.zero_le _, rfl, rfl, by omega, rfl⟩
  case round =>
    obtain ⟨k, s, hk, rfl, rfl, hs, Hs⟩ := hrel
    by_cases hlt : k < l.length
    · obtain ⟨x, hx, hcell, Hx⟩ : ∃ x : Nat, x < 256 ∧ w.cell? ⟨b, off + k, none⟩ = some (.int .u8 (x : Int)) ∧ Hid (x = l.getD k 0) :=
        ⟨l.getD k 0, by rw [List.getD_eq_getElem?_getD, List.getElem?_eq_getElem hlt]; exact hb _ (List.getElem_mem hlt), hc k hlt, rfl⟩
      clear hc hb
      go_wp2
      go_loop [3, 5] (fun t i => ∃ j c : Nat, j ≤ 8 ∧ i = .int .i64 j ∧ t = .int .u32 (c : Int) ∧ c < 4294967296 ∧ Hid (c = Crc.bitsTo s x j)) (fun _ i => 8 - (intOf i).toNat)
      case atStart => exact ⟨0, s, Nat.zero_le _, rfl, rfl, hs, rfl⟩
      case round =>
        obtain ⟨j, c, hj, rfl, rfl, hc, Hc⟩ := hrel
        by_cases hlt8 : j < 8
        · obtain ⟨p, q, r, e1, hp, e2, hq, e3, hr, Hr⟩ := bit_facts x j c hx hc
          obtain ⟨c2, hc2, ec2, Hc2⟩ : ∃ c2 : Nat, c2 < 4294967296 ∧ (c : Int) / 2 = (c2 : Int) ∧ Hid (c2 = c / 2) := ⟨c / 2, by omega, by omega, rfl⟩
          obtain ⟨c3, hc3, ec3, Hc3⟩ : ∃ c3 : Nat, c3 < 4294967296 ∧ bits .xor .u32 (c2 : Int) 3988292384 = (c3 : Int) ∧ Hid (c3 = c2 ^^^ 3988292384) := ⟨_, Nat.xor_lt_two_pow (n := 32) hc2 (by decide), xor_u32 c2 3988292384 hc2 (by decide), rfl⟩
          have ep : (p : Int) % 4294967296 = p := by omega
          by_cases h1 : r = 1
          · subst h1
            have hstep : Hid (c3 = Crc.bitsTo s x (j + 1)) := by
              show c3 = _
              unfold Crc.bitsTo Crc.bitStep
              rw [← Hc.out, if_pos (by rw [Hr.out]), Hc3.out, Hc2.out]
            go_wp2
            go_round
            case rel => exact ⟨j + 1, c3, by omega, by go_num, rfl, hc3, hstep⟩
            case measure => simp [intOf]; omega
          · have h0 : r = 0 := by omega
            subst h0
            have hstep : Hid (c2 = Crc.bitsTo s x (j + 1)) := by
              show c2 = _
              unfold Crc.bitsTo Crc.bitStep
              rw [← Hc.out, if_neg (by rw [← Hr.out]; omega), Hc2.out]
            go_wp2
            go_round
            case rel => exact ⟨j + 1, c2, by omega, by go_num, rfl, hc2, hstep⟩
            case measure => simp [intOf]; omega
        · have h8 : j = 8 := by omega
          have hfin : Hid (c = Crc.run 4294967295 (l.take (k + 1))) := by
            show c = _
            rw [run_snoc _ _ _ hlt, ← Hs.out, ← Hx.out, ← Crc.bits8 s x hx, Hc.out, h8]
          clear h8
          go_wp2
          go_round
          case rel => exact ⟨k + 1, c, by omega, by go_num, rfl, hc, hfin⟩
          case measure => simp [intOf]; omega
    · have hkl : k = l.length := by omega
      obtain ⟨r, hx, Hr⟩ : ∃ r : Nat, bits .xor .u32 (s : Int) 4294967295 = (r : Int) ∧ Hid (r = Crc.sum l) := ⟨_, xor_u32 s 4294967295 hs (by omega), by show _ = _; unfold Crc.sum; rw [Hs.out, hkl, List.take_length]⟩
      clear hkl
      go_wp2
      go_ret
      exact ⟨ret_int (by rw [Hr.out]), rfl⟩
theorem refsum_nil (ao : Option Addr) (cap : Nat) (w : World) :
    Calls Tryd.prog 43 #[.slice ao 0 cap] w fun e w' => e = .returned (.int .u32 ((Crc.sum [] : Nat) : Int)) ∧ w' = w := by
  have hx : bits .xor .u32 4294967295 4294967295 = 0 := xor_u32 4294967295 4294967295 (by omega) (by omega)
  go_enter Tryd.func43, Tryd.ntmps43
  go_wp2
  refine wp_loop_rounds 1 ?_; rw [rounds_succ]
  go_wp2
  go_ret
  exact ⟨ret_int rfl, rfl⟩
theorem refsum_any (ao : Option Addr) (l : List Nat) (cap : Nat) (w : World) (h : Row w ao l cap) :
    Calls Tryd.prog 43 #[.slice ao l.length cap] w fun e w' => e = .returned (.int .u32 ((Crc.sum l : Nat) : Int)) ∧ w' = w := by
  obtain ⟨h1, h2, h3, _, h5⟩ := h
  by_cases hl : l = []
  · subst hl; exact refsum_nil ao cap w
  · obtain ⟨b, off, rfl, hc⟩ := h5 hl
    exact refsum_some b off l cap w (Nat.le_trans h1 h2) h3 hc
end Go.Proofs.YtlcakglmheleeaaDoor
