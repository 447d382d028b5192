/- What a plan tells; the document's example. -/
import Derived.Test.YtjbkmflbhlnbpaaCfgC
namespace Go.Proofs.Ytjbkmflbhlnbpaa
open Go.RowKit

section
variable {w : World} {p : Nat} {l : List Nat} {nodes : Int} {ao : Option Addr} {n cap : Nat}
set_option maxHeartbeats 400000 in
theorem shards_any (h : PlanAt w p l nodes (.slice ao n cap)) (hn : n ≤ 7) : Calls Try.prog 14 #[.pointer (some ⟨p, 0, none⟩)] w fun e w' => e = .returned (.int .i64 ((n + 1 : Nat) : Int)) ∧ w' = w := by
  have c2 := h.c2
  clear h
  go_enter Try.func14, Try.ntmps14
  go_wp2
  go_ret
  exact ⟨by go_num, rfl⟩
set_option maxHeartbeats 400000 in
theorem l0_any (h : PlanAt w p l nodes (.slice ao n cap)) : Calls Try.prog 17 #[.pointer (some ⟨p, 0, none⟩)] w fun e w' => e = .returned (.int .i64 (l.length : Int)) ∧ w' = w := by
  obtain ⟨pl, bu, cu, bd, bo, c9, hL⟩ := h.lat
  have k := len_any w pl bu cu l hL.c0
  clear h hL
  go_enter Try.func17, Try.ntmps17
  go_wp2_with fail
  refine (k).mono ?_
  rintro e w9 ⟨rfl, hw⟩
  subst w9
  go_wp2
  go_ret
  exact ⟨rfl, rfl⟩
set_option maxHeartbeats 400000 in
theorem rules_any (h : PlanAt w p l nodes (.slice ao n cap)) (hn : n ≤ 7) (hl : l.length ≤ 16) : Calls Try.prog 16 #[.pointer (some ⟨p, 0, none⟩)] w fun e w' => e = .returned (.int .i64 ((l.length * (n + 1) : Nat) : Int)) ∧ w' = w := by
  have k1 := l0_any h
  have k2 := shards_any h hn
  have hm : l.length * (n + 1) ≤ 16 * 8 := Nat.mul_le_mul hl (by omega)
  obtain ⟨m, Hm⟩ : ∃ m, Hid (l.length * (n + 1) = m) := ⟨_, rfl⟩
  have hw : IntKind.i64.wrap ((l.length : Int) * ((n + 1 : Nat) : Int)) = (m : Int) := by
    rw [← Int.natCast_mul, Hm.out, IntKind.wrap_i64]
    have := Hm.out
    omega
  have hw2 : wrap64 ((l.length : Int) * ((n + 1 : Nat) : Int)) = (m : Int) := by
    rw [← Int.natCast_mul, Hm.out]
    have := Hm.out
    simp [wrap64]
    omega
  rw [Hm.out]
  generalize n + 1 = s at *
  clear h
  go_enter Try.func16, Try.ntmps16
  go_wp2_with fail
  refine (k1).mono ?_
  rintro e w9 ⟨rfl, hw⟩
  subst w9
  go_wp2_with fail
  refine (k2).mono ?_
  rintro e w9 ⟨rfl, hw⟩
  subst w9
  go_wp2
  go_ret
  refine ⟨ret_int ?_, rfl⟩
  first | rfl | exact hw | exact hw2
end
end Go.Proofs.Ytjbkmflbhlnbpaa
