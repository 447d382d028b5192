/- The statement ConfigMost, walked. -/
import Derived.Test.YtjbkmflbhlnbpaaAwake
namespace Go.Proofs.Ytjbkmflbhlnbpaa
open Go.RowKit

set_option maxHeartbeats 400000 in
theorem most_of (f : Nat → Nat) (hf : ∀ m, f m ≤ 64) (k : ∀ (m : Nat) w, m < 18446744073709551616 → Calls Try.prog 47 #[.int .u64 (m : Int)] w fun e w' => e = .returned (.int .i64 ((f m : Nat) : Int)) ∧ w' = w) (s o : Nat) (hs : s < 18446744073709551616) (ho : o < 18446744073709551616) (w : World) :
    Calls Try.prog 31 #[.int .u64 (s : Int), .int .u64 (o : Int)] w fun e w' => e = .returned (.bool (decide ((f o : Int) < 2 * (f (s &&& o) : Int)))) ∧ w' = w := by
  have hand := and_cast s o hs ho
  have hl : s &&& o < 18446744073709551616 := Nat.lt_of_le_of_lt Nat.and_le_left hs
  have h1 := hf o
  have h2 := hf (s &&& o)
  generalize s &&& o = z at *
  go_enter Try.func31, Try.ntmps31
  go_wp2_with fail
  refine (k z _ hl).mono ?_
  rintro e w9 ⟨rfl, hw⟩
  subst w9
  go_wp2_with fail
  refine (k o _ ho).mono ?_
  rintro e w9 ⟨rfl, hw⟩
  subst w9
  go_wp2
  go_ret
  exact ⟨rfl, rfl⟩
theorem pop_le (f x : Nat) : Ones.pop f x ≤ f := by
  rw [Ones.pop_count]
  exact Nat.le_trans (List.length_filter_le _ _) (by simp)
/-- how many of the first k bits are set. -/
def ct (x k : Nat) : Nat := ((List.range k).filter fun i => x.testBit i).length
theorem ct_step (x k : Nat) : ct x (k + 1) = ct x k + (if x.testBit k then 1 else 0) := by
  unfold ct
  rw [filter_step, List.length_append]
  cases x.testBit k <;> simp
set_option maxHeartbeats 1000000 in
theorem most_walk (s o : Nat) (w : World) (hs : s < 18446744073709551616) (ho : o < 18446744073709551616) :
    Calls Try.prog 8 #[.int .u64 (s : Int), .int .u64 (o : Int)] w fun e w' => e = .returned (.bool true) ∧ Fr (fun _ => False) w w' := by
  have hm := fun W => most_of (Ones.pop 64) (pop_le 64) (fun m w hm => ones_any m w hm) s o hs ho W
  rw [Ones.pop_count 64 o, Ones.pop_count 64 (s &&& o)] at hm
  change ∀ W, Calls Try.prog 31 _ W fun e w' => e = .returned (.bool (decide ((ct o 64 : Int) < 2 * (ct (s &&& o) 64 : Int)))) ∧ w' = W at hm
  have HM : Hid _ := hm
  clear hm
  go_enter Try.func8, Try.ntmps8
  go_wp2
  go_loop [5, 6, 7] (fun a b i => ∃ k na nb : Nat, k ≤ 64 ∧ i = .int .i64 (k : Int) ∧ a = .int .i64 (na : Int) ∧ b = .int .i64 (nb : Int) ∧ na ≤ k ∧ nb ≤ k ∧ Hid (na = ct (s &&& o) k ∧ nb = ct o k)) (fun _ _ i => 64 - (intOf i).toNat)
  case atStart => exact ⟨0, 0, 0, Nat.zero_le _, rfl, rfl, rfl, Nat.le_refl _, Nat.le_refl _, rfl, rfl⟩
  case round =>
    obtain ⟨k, na, nb, hk, rfl, rfl, rfl, hna, hnb, H⟩ := hrel
    by_cases hlt : k < 64
    · have h1 := has_eq o k ho
      have h2 := has_eq s k hs
      have st1 := ct_step o k
      have st2 := ct_step (s &&& o) k
      rw [Nat.testBit_and] at st2
      rw [← H.out.1] at st2
      rw [← H.out.2] at st1
      cases hb : o.testBit k with
      | false =>
        rw [hb] at h1 st1 st2
        have HS : Hid (na = ct (s &&& o) (k + 1) ∧ nb = ct o (k + 1)) := ⟨by rw [st2]; simp, by rw [st1]; simp⟩
        have h1' : ¬ bits .and .u64 ((o : Int) / 2 ^ k) 1 = 1 := by simpa using h1
        clear hb h2 st1 st2 h1
        go_wp2
        go_round
        case rel => exact ⟨k + 1, na, nb, by omega, by go_num, rfl, rfl, by omega, by omega, HS.out⟩
        case measure => simp [intOf]; omega
      | true =>
        rw [hb] at h1 st1 st2
        have h1' : bits .and .u64 ((o : Int) / 2 ^ k) 1 = 1 := by simpa using h1
        cases ha : s.testBit k with
        | false =>
          rw [ha] at h2 st2
          have HS : Hid (na = ct (s &&& o) (k + 1) ∧ nb + 1 = ct o (k + 1)) := ⟨by rw [st2]; simp, by rw [st1]; simp⟩
          have h2' : ¬ bits .and .u64 ((s : Int) / 2 ^ k) 1 = 1 := by simpa using h2
          clear ha hb st1 st2 h1 h2
          go_wp2
          go_round
          case rel => exact ⟨k + 1, na, nb + 1, by omega, by go_num, rfl, by go_num, by omega, by omega, HS.out⟩
          case measure => simp [intOf]; omega
        | true =>
          rw [ha] at h2 st2
          have HS : Hid (na + 1 = ct (s &&& o) (k + 1) ∧ nb + 1 = ct o (k + 1)) := ⟨by rw [st2]; simp, by rw [st1]; simp⟩
          have h2' : bits .and .u64 ((s : Int) / 2 ^ k) 1 = 1 := by simpa using h2
          clear ha hb st1 st2 h1 h2
          go_wp2
          go_round
          case rel => exact ⟨k + 1, na + 1, nb + 1, by omega, by go_num, by go_num, by go_num, by omega, by omega, HS.out⟩
          case measure => simp [intOf]; omega
    · have hk64 : k = 64 := by omega
      subst hk64
      have HM2 : Hid (∀ W, Calls Try.prog 31 #[.int .u64 (s : Int), .int .u64 (o : Int)] W fun e w' => e = .returned (.bool (decide ((nb : Int) < 2 * (na : Int)))) ∧ w' = W) := by rw [H.out.1, H.out.2]; exact HM.out
      clear HM H
      go_wp2_with fail
      refine (awake_any w).mono ?_
      rintro e w1 ⟨rfl, f1⟩
      go_wp2_with fail
      refine (HM2.out _).mono ?_
      rintro e w9 ⟨rfl, hw⟩
      subst w9
      go_wp2
      go_ret
      refine ⟨ret_bool ?_, f1⟩
      first | (simp; omega) | (rw [beq_iff_eq, Bool.eq_iff_iff, decide_eq_true_iff, decide_eq_true_iff]; omega)
theorem word_of {n : Int} (h : (Lit.int .u64 n).wf = true) : ∃ k : Nat, n = k ∧ k < 18446744073709551616 := by
  simp [Lit.wf, IntKind.min, IntKind.max, IntKind.signed, IntKind.bits] at h
  exact ⟨n.toNat, by omega, by omega⟩
theorem most_ints (s o : Int) (w : World) (hs : (Lit.int .u64 s).wf = true) (ho : (Lit.int .u64 o).wf = true) : Calls Try.prog 8 #[.int .u64 s, .int .u64 o] w fun e w' => e = .returned (.bool true) ∧ Fr (fun _ => False) w w' := by
  obtain ⟨s, rfl, hs'⟩ := word_of hs
  obtain ⟨o, rfl, ho'⟩ := word_of ho
  exact most_walk s o w hs' ho'
end Go.Proofs.Ytjbkmflbhlnbpaa
