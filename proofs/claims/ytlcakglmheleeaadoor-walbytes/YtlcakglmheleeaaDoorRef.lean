/- The document's own writing of numbers and bytes, and a new reader. -/
import Derived.Test.YtlcakglmheleeaaDoorReadMore
namespace Go.Proofs.YtlcakglmheleeaaDoor
open Go.RowKit

theorem read_any (w : World) (ao : Option Addr) (l : List Nat) (cap : Nat) (h : Row w ao l cap) : Calls Tryd.prog 44 #[.slice ao l.length cap] w fun e w' =>
    e = .returned (.pointer (some ⟨w.heap.size, 0, none⟩)) ∧ Rd w' w.heap.size ao l cap false ∧ Fr (fun _ => False) w w' := by
  go_enter Tryd.func44, Tryd.ntmps44
  go_wp2
  go_ret
  have f := (Fr.refl (fun _ => False) w).alloc (.cells #[.slice ao l.length cap, .bool false] 111)
  refine ⟨rfl, ⟨?_, ?_, ?_, ?_, f.row h (by simp), fun hl a ha e => by
      obtain ⟨b, off, he, hc⟩ := h.2.2.2.2 hl
      have := World.block_lt_of_cell? _ _ (hc 0 (List.length_pos_iff.2 hl))
      rw [he] at ha; cases ha; simp only at this e; omega, fun e => by cases e⟩, f⟩
  · simp
  · simp
  · simp
  · simp
theorem end_nil (w : World) : Calls Tryd.prog 50 #[.pointer none] w fun e w' => e = .returned (.bool false) ∧ w' = w := by
  go_enter Tryd.func50, Tryd.ntmps50
  go_wp2_with fail
  refine (bad_nil w).mono ?_
  rintro e w1 ⟨rfl, hw1⟩
  subst w1
  go_wp2
  go_ret
  exact ⟨rfl, rfl⟩

theorem and255 (n : Nat) (hn : n < 18446744073709551616) : bits .and .u64 (n : Int) 255 = ((n % 256 : Nat) : Int) := by
  have := (bits_nat .u64 64 (by decide) wrap_u64_small n 255 hn (by decide)).1
  rw [show (255 : Nat) = 2 ^ 8 - 1 from rfl, Nat.and_two_pow_sub_one_eq_mod] at this
  exact this
set_option maxHeartbeats 400000 in
theorem refnum_any (w : World) (ao : Option Addr) (l : List Nat) (cap n nb : Nat) (h : Row w ao l cap) (hn : n < 18446744073709551616) (hnb : nb ≤ 8) (hlen : l.length + 8 ≤ 140737488355328) :
    Calls Tryd.prog 36 #[.slice ao l.length cap, .int .u64 (n : Int), .int .i64 (nb : Int)] w fun e w' => ∃ v, e = .returned v ∧ Own w' w.heap.size v (l ++ Crc.le nb n) ∧ Fr (fun _ => False) w w' := by
  go_enter Tryd.func36, Tryd.ntmps36
  go_wp2_with (at_builtin; refine wpList_append_bytes rfl (.tmp 9) (.tmp 10) rfl w.heap.size _ [] rfl (Own.nil w _) ao l cap rfl h (by simp; omega) (Nat.le_refl _) ?_)
  intro v0 w0 ho0 hg0 _
  have hf0 : Fr (fun _ => False) w w0 := (Fr.refl _ w).grown hg0 (fun k hk => by cases hk)
  obtain ⟨a0, c0, hv0, _, _⟩ := ho0.row
  subst hv0
  have HO : Hid _ := ho0
  clear ho0 hg0 h
  go_wp2
  go_loopw [1, 7, 8] (fun t o i wr => ∃ (k n1 : Nat) (v1 : Value), k ≤ nb ∧ i = .int .i64 (k : Int) ∧ o = v1 ∧ t = .int .u64 (n1 : Int) ∧ n1 < 18446744073709551616 ∧ Hid (n1 = n / 256 ^ k) ∧ Own wr w.heap.size v1 (l ++ Crc.le k n) ∧ Fr (fun _ => False) w wr) (fun _ _ i _ => nb - (intOf i).toNat)
  case atStart => exact ⟨0, n, _, Nat.zero_le _, rfl, rfl, rfl, hn, by show n = n / 256 ^ 0; simp, by rw [show l ++ Crc.le 0 n = l by simp [Crc.le]]; exact HO.out, hf0⟩
  case round =>
    obtain ⟨k, n1, v1, hk, rfl, rfl, rfl, hn1, Hn, ho, hfr⟩ := hrel
    clear HO
    by_cases hlt : k < nb
    · obtain ⟨x, hx, ex, Hx⟩ : ∃ x : Nat, x < 256 ∧ bits .and .u64 (n1 : Int) 255 = (x : Int) ∧ Hid (x = n1 % 256) := ⟨n1 % 256, by omega, and255 n1 hn1, rfl⟩
      obtain ⟨n2, hn2, en, Hn2⟩ : ∃ n2 : Nat, n2 < 18446744073709551616 ∧ (n1 : Int) / 256 = (n2 : Int) ∧ Hid (n2 = n1 / 256) := ⟨n1 / 256, by omega, by omega, rfl⟩
      have ex2 : (x : Int) % 256 = x := by omega
      have hll : (l ++ Crc.le k n).length + [x].length ≤ 140737488355328 := by simp [Crc.le_length]; omega
      have hbr : w.heap.size ≤ (wr.alloc (.cells #[.int .u8 (x : Int)] 5)).heap.size := by have := hfr.size; simp; omega
      obtain ⟨a1, c1, hv1, _, hb1⟩ := ho.row
      subst hv1
      have ho2 : Own (wr.alloc (.cells #[.int .u8 (x : Int)] 5)) w.heap.size (.slice a1 (l ++ Crc.le k n).length c1) (l ++ Crc.le k n) := ho.fr ((Fr.refl (fun _ => False) wr).alloc _) (by simp)
      have hol := ho.lt
      go_wp2_with (at_builtin; refine wpList_append_bytes rfl (.tmp 17) (.tmp 21) rfl w.heap.size _ _ rfl ho2 (some ⟨wr.heap.size, 0, none⟩) [x] 1 rfl (row_one wr x hx) hll hbr ?_)
      intro v2 w2 ho3 hg3 _
      rw [show Crc.le k n ++ [x] = Crc.le (k + 1) n by rw [Crc.le_snoc, Hx.out, Hn.out]] at ho3
      have hf3 : Fr (fun _ => False) w w2 := (hfr.alloc _).grown hg3 (fun i hi => .inr (hol i (by simpa using hi)).1)
      obtain ⟨a2, c2, hv2, _, _⟩ := ho3.row
      subst hv2
      clear ho2 hg3 hb1 hol
      go_wp2
      go_roundw
      case rel => exact ⟨k + 1, n2, _, by omega, by go_num, rfl, rfl, hn2, by show n2 = _; rw [Hn2.out, Hn.out, Nat.div_div_eq_div_mul, Nat.pow_succ], ho3, hf3⟩
      case measure => simp [intOf]; omega
    · have hkn : k = nb := by omega
      subst hkn
      go_wp2
      go_ret
      exact ⟨_, rfl, ho, hfr⟩
set_option maxHeartbeats 400000 in
theorem refbytes_any (w : World) (ao a1 : Option Addr) (l m : List Nat) (c0 c1 : Nat) (h : Row w ao l c0) (h1 : Row w a1 m c1) (hlen : l.length + m.length + 8 ≤ 140737488355328) :
    Calls Tryd.prog 37 #[.slice ao l.length c0, .slice a1 m.length c1] w fun e w' => ∃ v, e = .returned v ∧ Own w' w.heap.size v (l ++ Crc.le 4 m.length ++ m) ∧ Fr (fun _ => False) w w' := by
  go_enter Tryd.func37, Tryd.ntmps37
  go_wp2_with fail
  refine (refnum_any w ao l c0 m.length 4 h (by omega) (by omega) (by omega)).mono ?_
  rintro e w1 ⟨v1, rfl, ho, hf⟩
  have hr := hf.row h1 (by simp)
  obtain ⟨l4, H4, hl4⟩ : ∃ l4 : List Nat, Hid (l ++ Crc.le 4 m.length = l4) ∧ l4.length + m.length ≤ 140737488355328 := ⟨_, rfl, by simp [Crc.le_length]; omega⟩
  rw [H4.out] at ho
  have hol := ho.lt
  obtain ⟨a2, c2, hv2, _, _⟩ := ho.row
  subst hv2
  have hsz := hf.size
  go_wp2_with (at_builtin; refine wpList_append_bytes rfl (.tmp 9) (.tmp 10) rfl w.heap.size _ l4 rfl ho a1 m c1 rfl hr hl4 hsz ?_)
  intro v3 w3 ho3 hg3 _
  have hf3 : Fr (fun _ => False) w w3 := hf.grown hg3 (fun i hi => .inr (hol i (by simpa using hi)).1)
  obtain ⟨a3, c3, hv3, _, _⟩ := ho3.row
  subst hv3
  go_wp2
  go_ret
  exact ⟨_, rfl, by rw [H4.out]; exact ho3, hf3⟩
end Go.Proofs.YtlcakglmheleeaaDoor
