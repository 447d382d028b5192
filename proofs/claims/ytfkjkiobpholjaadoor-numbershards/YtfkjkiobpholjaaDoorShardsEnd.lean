/- The statement NumberShards, its own body. -/
import Derived.Test.YtfkjkiobpholjaaDoorShardsRise
namespace Go.Proofs.YtfkjkiobpholjaaDoor
open Go.RowKit
set_option maxHeartbeats 400000 in
theorem shards_walk (ao : Option Addr) (l : List Nat) (cap x : Nat) (w : World) (ht : Tabs w) (hr : FRow w ao l cap) (hx : x < 18446744073709551616) :
    Calls Tryd.prog 7 #[.slice ao l.length cap, .float .f64 x] w fun e w' => e = .returned (.bool true) ∧ Fr (fun _ => False) w w' := by
  have hlen : l.length ≤ 2 ^ 63 - 1 := Nat.le_trans hr.1 hr.2.1
  go_enter Tryd.func7, Tryd.ntmps7
  go_wp2_with fail
  refine (awake_any w ht).mono ?_
  rintro e w1 ⟨rfl, f1⟩
  by_cases hl : 200 < l.length
  · go_wp2_with fail
    refine (awake_any w1 (ht.fr f1 (by simp) (by simp))).mono ?_
    rintro e w2 ⟨rfl, f2⟩
    go_wp2
    go_ret
    exact ⟨rfl, f1.trans f2⟩
  · go_wp2_with fail
    refine (refrising_any ao l cap w1 (hr.fr f1)).mono ?_
    rintro e w2 ⟨rfl, n2, hw2⟩
    have f2 : Fr (fun _ => False) w w2 := by rw [hw2]; exact f1.drewN _
    clear hw2
    go_wp2_with fail
    refine (rising_any ao l cap w2 (hr.fr f2)).mono ?_
    rintro e w3 ⟨rfl, n3, hw3⟩
    have f3 : Fr (fun _ => False) w w3 := by rw [hw3]; exact f2.drewN _
    clear hw3
    cases hrise : rises l
    · go_wp2
      go_ret
      exact ⟨rfl, f3⟩
    · go_wp2_with fail
      refine (shard_any ao l cap x w3 hx (hr.fr f3)).mono ?_
      rintro e w4 ⟨rfl, hw4⟩
      subst w4
      go_wp2_with fail
      refine (refshard_any ao l cap x w3 hx (hr.fr f3)).mono ?_
      rintro e w4 ⟨rfl, hw4⟩
      subst w4
      go_wp2
      go_ret
      exact ⟨rfl, f3⟩
end Go.Proofs.YtfkjkiobpholjaaDoor
