/- More of what a plan tells: a lane's shard, a label's first lane, nodes. -/
import Derived.Test.YtjbkmflbhlnbpaaCfgE
import Derived.Test.YtjbkmflbhlnbpaaCfgP
import Derived.Test.YtjbkmflbhlnbpaaChkA
namespace Go.Proofs.Ytjbkmflbhlnbpaa
open Go.RowKit

section
variable {w : World} {p : Nat} {l : List Nat} {nodes : Int} {ao : Option Addr} {n cap : Nat}
/-- a lane's shard. -/
def partI (L s : Nat) (x : Int) : Int := if 0 ≤ x ∧ x < (L * s : Nat) then x % s else -1
set_option maxHeartbeats 1000000 in
theorem part_any (h : PlanAt w p l nodes (.slice ao n cap)) (hl : l.length ≤ 16) (hn : n ≤ 7) (x : Int) : Calls Try.prog 18 #[.pointer (some ⟨p, 0, none⟩), .int .i64 x] w fun e w' => e = .returned (.int .i64 (partI l.length (n + 1) x)) ∧ w' = w := by
  have k1 := rules_any h hn hl
  have k2 := shards_any h hn
  have hm : l.length * (n + 1) ≤ 16 * 8 := Nat.mul_le_mul hl (by omega)
  obtain ⟨s, Hs⟩ : ∃ s, Hid (n + 1 = s) := ⟨_, rfl⟩
  have hs1 : 1 ≤ s := by have := Hs.out; omega
  have hs8 : s ≤ 8 := by have := Hs.out; omega
  unfold partI
  rw [Hs.out] at k1 k2 hm ⊢
  obtain ⟨m, Hm⟩ : ∃ m, Hid (l.length * s = m) := ⟨_, rfl⟩
  rw [Hm.out] at k1 hm ⊢
  clear h
  by_cases hx : 0 ≤ x ∧ x < m
  · obtain ⟨x, rfl⟩ : ∃ v : Nat, x = v := ⟨x.toNat, by omega⟩
    have k3 := in_yes (x : Int) 0 ((m : Int) - 1) w (by omega) (by omega)
    rw [if_pos hx]
    obtain ⟨q, hq, hqb, Hq⟩ : ∃ q : Nat, (x : Int).tmod (s : Int) = (q : Int) ∧ q < s ∧ Hid ((x : Int) % (s : Int) = (q : Int)) := ⟨x % s, by rw [Int.tmod_eq_emod_of_nonneg (by omega)]; simp, Nat.mod_lt _ (by omega), by show _ = _; simp⟩
    rw [Hq.out]
    have hs0 : ¬ s = 0 := by omega
    have hs0' : ((s : Int) == 0) = false := beq_eq_false_iff_ne.2 (by omega)
    have hx' : (x : Int) ≤ 128 := by omega
    go_enter Try.func18, Try.ntmps18
    go_wp2_with fail
    refine (k1).mono ?_
    rintro e w9 ⟨rfl, hw⟩
    subst w9
    go_wp2_with fail
    refine (k3).mono ?_
    rintro e w9 ⟨rfl, hw⟩
    subst w9
    go_wp2_with fail
    refine (k2).mono ?_
    rintro e w9 ⟨rfl, hw⟩
    subst w9
    go_wp2
    go_ret
    exact ⟨rfl, rfl⟩
  · have k3 := in_not x 0 ((m : Int) - 1) w (by omega)
    rw [if_neg hx]
    go_enter Try.func18, Try.ntmps18
    go_wp2_with fail
    refine (k1).mono ?_
    rintro e w9 ⟨rfl, hw⟩
    subst w9
    go_wp2_with fail
    refine (k3).mono ?_
    rintro e w9 ⟨rfl, hw⟩
    subst w9
    go_wp2
    go_ret
    exact ⟨rfl, rfl⟩
set_option maxHeartbeats 1000000 in
theorem chief_any (h : PlanAt w p l nodes (.slice ao n cap)) (hn : n ≤ 7) (hl : l.length ≤ 16) (a : Int) : Calls Try.prog 22 #[.pointer (some ⟨p, 0, none⟩), .int .i64 a] w fun e w' => e = .returned (.int .i64 (laneI l.length (n + 1) a 0)) ∧ w' = w := by
  have k1 := lane_any h hn hl a 0
  clear h
  go_enter Try.func22, Try.ntmps22
  go_wp2_with fail
  refine (k1).mono ?_
  rintro e w9 ⟨rfl, hw⟩
  subst w9
  go_wp2
  go_ret
  exact ⟨rfl, rfl⟩
set_option maxHeartbeats 1000000 in
theorem node_any (h : PlanAt w p l nodes (.slice ao n cap)) (hN : 1 ≤ nodes ∧ nodes ≤ 7) (i : Int) : Calls Try.prog 24 #[.pointer (some ⟨p, 0, none⟩), .int .i64 i] w fun e w' => e = .returned (.bool (decide (0 ≤ i) && decide (i ≤ nodes - 1))) ∧ w' = w := by
  have c1 := h.c1
  have k1 := in_any i 0 (nodes - 1) w
  clear h
  go_enter Try.func24, Try.ntmps24
  go_wp2_with fail
  refine (k1).mono ?_
  rintro e w9 ⟨rfl, hw⟩
  subst w9
  go_wp2
  go_ret
  exact ⟨rfl, rfl⟩
set_option maxHeartbeats 1000000 in
theorem all_any (h : PlanAt w p l nodes (.slice ao n cap)) (m : Nat) (hN : nodes = m) (hm : m ≤ 7) : Calls Try.prog 23 #[.pointer (some ⟨p, 0, none⟩)] w fun e w' => e = .returned (.int .u64 ((2 ^ m - 1 : Nat) : Int)) ∧ w' = w := by
  have c1 := h.c1
  subst hN
  clear h
  have hm' : m = 0 ∨ m = 1 ∨ m = 2 ∨ m = 3 ∨ m = 4 ∨ m = 5 ∨ m = 6 ∨ m = 7 := by omega
  have k1 : ∀ w, Calls Try.prog 42 #[.int .i64 (m : Int)] w fun e w' => e = .returned (.int .u64 ((2 ^ m - 1 : Nat) : Int)) ∧ w' = w := fun w => by
    rcases hm' with rfl | rfl | rfl | rfl | rfl | rfl | rfl | rfl
    all_goals
      go_enter Try.func42, Try.ntmps42
      go_wp2
      go_ret
      exact ⟨rfl, rfl⟩
  go_enter Try.func23, Try.ntmps23
  go_wp2_with fail
  refine (k1 _).mono ?_
  rintro e w9 ⟨rfl, hw⟩
  subst w9
  go_wp2
  go_ret
  exact ⟨rfl, rfl⟩
end
end Go.Proofs.Ytjbkmflbhlnbpaa
