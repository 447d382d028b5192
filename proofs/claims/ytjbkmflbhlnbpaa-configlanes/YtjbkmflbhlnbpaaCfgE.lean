/- A plan's lanes, and the document's example. -/
import Derived.Test.YtjbkmflbhlnbpaaCfgD
namespace Go.Proofs.Ytjbkmflbhlnbpaa
open Go.RowKit

section
variable {w : World} {p : Nat} {l : List Nat} {nodes : Int} {ao : Option Addr} {n cap : Nat}
set_option maxHeartbeats 400000 in
theorem lanes_any (h : PlanAt w p l nodes (.slice ao n cap)) (hn : n ≤ 7) (hl : l.length ≤ 16) : Calls Try.prog 15 #[.pointer (some ⟨p, 0, none⟩)] w fun e w' => e = .returned (.int .i64 ((l.length * (n + 1) + 1 : Nat) : Int)) ∧ w' = w := by
  have k1 := rules_any h hn hl
  have hm : l.length * (n + 1) ≤ 16 * 8 := Nat.mul_le_mul hl (by omega)
  generalize l.length * (n + 1) = m at *
  clear h
  go_enter Try.func15, Try.ntmps15
  go_wp2_with fail
  refine (k1).mono ?_
  rintro e w9 ⟨rfl, hw⟩
  subst w9
  go_wp2
  go_ret
  exact ⟨by go_num, rfl⟩
def laneI (L s : Nat) (a i : Int) : Int := if 0 ≤ a ∧ a < L ∧ 0 ≤ i ∧ i < s then a * s + i else -1
set_option maxHeartbeats 1000000 in
theorem lane_any (h : PlanAt w p l nodes (.slice ao n cap)) (hn : n ≤ 7) (hl : l.length ≤ 16) (a i : Int) : Calls Try.prog 21 #[.pointer (some ⟨p, 0, none⟩), .int .i64 a, .int .i64 i] w fun e w' => e = .returned (.int .i64 (laneI l.length (n + 1) a i)) ∧ w' = w := by
  have k1 := l0_any h
  have k2 := shards_any h hn
  obtain ⟨s, Hs⟩ : ∃ s, Hid (n + 1 = s) := ⟨_, rfl⟩
  have hs1 : 1 ≤ s := by have := Hs.out; omega
  have hs8 : s ≤ 8 := by have := Hs.out; omega
  rw [Hs.out] at k2 ⊢
  clear h
  by_cases ha : 0 ≤ a ∧ a < l.length
  · obtain ⟨a, rfl⟩ : ∃ m : Nat, a = m := ⟨a.toNat, by omega⟩
    have k3 := in_yes (a : Int) 0 ((l.length : Int) - 1) w (by omega) (by omega)
    by_cases hi : 0 ≤ i ∧ i < s
    · obtain ⟨i, rfl⟩ : ∃ m : Nat, i = m := ⟨i.toNat, by omega⟩
      have k4 := in_yes (i : Int) 0 ((s : Int) - 1) w (by omega) (by omega)
      have hr : laneI l.length s (a : Int) (i : Int) = ((a * s + i : Nat) : Int) := by
        unfold laneI
        rw [if_pos ⟨ha.1, ha.2, hi.1, hi.2⟩]
        simp
      rw [hr]
      have hm : a * s ≤ 16 * 8 := Nat.mul_le_mul (by omega) hs8
      obtain ⟨m, Hm⟩ : ∃ m, Hid (a * s = m) := ⟨_, rfl⟩
      have hwp : wrap64 ((a : Int) * (s : Int)) = (m : Int) := by
        rw [← Int.natCast_mul, Hm.out]
        have := Hm.out
        simp [wrap64]
        omega
      have hmb : m ≤ 128 := by have := Hm.out; omega
      rw [Hm.out]
      clear hr hm
      go_enter Try.func21, Try.ntmps21
      go_wp2_with fail
      refine (k1).mono ?_
      rintro e w9 ⟨rfl, hw⟩
      subst w9
      go_wp2_with fail
      refine (k3).mono ?_
      rintro e w9 ⟨rfl, hw⟩
      subst w9
      go_wp2_with fail
      refine (k2).mono ?_
      rintro e w9 ⟨rfl, hw⟩
      subst w9
      go_wp2_with fail
      refine (k4).mono ?_
      rintro e w9 ⟨rfl, hw⟩
      subst w9
      go_wp2_with fail
      refine (k2).mono ?_
      rintro e w9 ⟨rfl, hw⟩
      subst w9
      go_wp2
      go_ret
      exact ⟨by go_num, rfl⟩
    · have k4 := in_any i 0 ((s : Int) - 1) w
      rw [show (decide (0 ≤ i) && decide (i ≤ (s : Int) - 1)) = false by simp; omega] at k4
      have hr : laneI l.length s (a : Int) i = -1 := by unfold laneI; rw [if_neg (by omega)]
      rw [hr]
      clear hr
      go_enter Try.func21, Try.ntmps21
      go_wp2_with fail
      refine (k1).mono ?_
      rintro e w9 ⟨rfl, hw⟩
      subst w9
      go_wp2_with fail
      refine (k3).mono ?_
      rintro e w9 ⟨rfl, hw⟩
      subst w9
      go_wp2_with fail
      refine (k2).mono ?_
      rintro e w9 ⟨rfl, hw⟩
      subst w9
      go_wp2_with fail
      refine (k4).mono ?_
      rintro e w9 ⟨rfl, hw⟩
      subst w9
      go_wp2
      go_ret
      exact ⟨rfl, rfl⟩
  · have k3 := in_any a 0 ((l.length : Int) - 1) w
    rw [show (decide (0 ≤ a) && decide (a ≤ (l.length : Int) - 1)) = false by simp; omega] at k3
    have hr : laneI l.length s a i = -1 := by unfold laneI; rw [if_neg (by omega)]
    rw [hr]
    clear hr
    go_enter Try.func21, Try.ntmps21
    go_wp2_with fail
    refine (k1).mono ?_
    rintro e w9 ⟨rfl, hw⟩
    subst w9
    go_wp2_with fail
    refine (k3).mono ?_
    rintro e w9 ⟨rfl, hw⟩
    subst w9
    go_wp2
    go_ret
    exact ⟨rfl, rfl⟩
/-- a lane's label: within those of the labels. -/
def labelI (L s : Nat) (bot x : Int) : Int := if 0 ≤ x ∧ x ≤ (L * s : Nat) then (if x = (L * s : Nat) then bot else x / s) else -1
set_option maxHeartbeats 1000000 in
theorem label_any (h : PlanAt w p l nodes (.slice ao n cap)) (hF : Fine l) (hn : n ≤ 7) (x : Int) : Calls Try.prog 19 #[.pointer (some ⟨p, 0, none⟩), .int .i64 x] w fun e w' => e = .returned (.int .i64 (labelI l.length (n + 1) (((Lat.order l).getD 0 0 : Nat) : Int) x)) ∧ w' = w := by
  have hl := hF.le
  have k1 := rules_any h hn hl
  have k2 := shards_any h hn
  obtain ⟨pl, bu, cu, bd, bo, c9, hL⟩ := h.lat
  have k5 := bottom_any w pl bu cu bd bo l hF hL
  have hm : l.length * (n + 1) ≤ 16 * 8 := Nat.mul_le_mul hl (by omega)
  obtain ⟨s, Hs⟩ : ∃ s, Hid (n + 1 = s) := ⟨_, rfl⟩
  have hs1 : 1 ≤ s := by have := Hs.out; omega
  have hs8 : s ≤ 8 := by have := Hs.out; omega
  obtain ⟨bt, Hbt⟩ : ∃ v, Hid ((Lat.order l).getD 0 0 = v) := ⟨_, rfl⟩
  unfold labelI
  rw [Hs.out] at k1 k2 hm ⊢
  rw [Hbt.out] at k5 ⊢
  obtain ⟨m, Hm⟩ : ∃ m, Hid (l.length * s = m) := ⟨_, rfl⟩
  rw [Hm.out] at k1 hm ⊢
  clear h hL
  by_cases hx : 0 ≤ x ∧ x ≤ m
  · obtain ⟨x, rfl⟩ : ∃ v : Nat, x = v := ⟨x.toNat, by omega⟩
    have k3 := in_yes (x : Int) 0 (m : Int) w (by omega) (by omega)
    rw [if_pos hx]
    by_cases he : (x : Int) = (m : Int)
    · rw [if_pos he]
      have he' : ((x : Int) == (m : Int)) = true := by simpa using he
      clear he
      go_enter Try.func19, Try.ntmps19
      go_wp2_with fail
      refine (k1).mono ?_
      rintro e w9 ⟨rfl, hw⟩
      subst w9
      go_wp2_with fail
      refine (k3).mono ?_
      rintro e w9 ⟨rfl, hw⟩
      subst w9
      go_wp2_with fail
      refine (k1).mono ?_
      rintro e w9 ⟨rfl, hw⟩
      subst w9
      go_wp2_with fail
      refine (k5).mono ?_
      rintro e w9 ⟨rfl, hw⟩
      subst w9
      go_wp2
      go_ret
      exact ⟨rfl, rfl⟩
    · rw [if_neg he]
      obtain ⟨q, hq, hqb, Hq⟩ : ∃ q : Nat, (x : Int).tdiv (s : Int) = (q : Int) ∧ q ≤ x ∧ Hid ((x : Int) / (s : Int) = (q : Int)) := ⟨x / s, by rw [Int.tdiv_eq_ediv_of_nonneg (by omega)]; simp, Nat.div_le_self _ _, by show _ = _; simp⟩
      rw [Hq.out]
      have hs0 : ¬ s = 0 := by omega
      have hs0' : ((s : Int) == 0) = false := beq_eq_false_iff_ne.2 (by omega)
      have hx' : (x : Int) ≤ 128 := by omega
      go_enter Try.func19, Try.ntmps19
      go_wp2_with fail
      refine (k1).mono ?_
      rintro e w9 ⟨rfl, hw⟩
      subst w9
      go_wp2_with fail
      refine (k3).mono ?_
      rintro e w9 ⟨rfl, hw⟩
      subst w9
      go_wp2_with fail
      refine (k1).mono ?_
      rintro e w9 ⟨rfl, hw⟩
      subst w9
      go_wp2_with fail
      refine (k2).mono ?_
      rintro e w9 ⟨rfl, hw⟩
      subst w9
      go_wp2
      go_ret
      exact ⟨rfl, rfl⟩
  · have k3 := in_any x 0 (m : Int) w
    rw [show (decide (0 ≤ x) && decide (x ≤ (m : Int))) = false by simp; omega] at k3
    rw [if_neg hx]
    go_enter Try.func19, Try.ntmps19
    go_wp2_with fail
    refine (k1).mono ?_
    rintro e w9 ⟨rfl, hw⟩
    subst w9
    go_wp2_with fail
    refine (k3).mono ?_
    rintro e w9 ⟨rfl, hw⟩
    subst w9
    go_wp2
    go_ret
    exact ⟨rfl, rfl⟩
end
end Go.Proofs.Ytjbkmflbhlnbpaa
