/- OctetReads where there is too much: it asks for nothing. -/
import Derived.Test.YtonhkmcjfggnlaaDoorReadsWalk
namespace Go.Proofs.YtonhkmcjfggnlaaDoor
open Go.RowKit
set_option maxRecDepth 100000 in
set_option maxHeartbeats 4000000 in
theorem reads_long (ao a2 : Option Addr) (n m : Nat) (cap c2 : Nat) (w : World) (ht : Tab w) (h : 3000 < n ∨ (n ≤ 3000 ∧ 60 < m)) (hn : n < 9223372036854775808) (hm : m < 9223372036854775808) :
    Calls Tryd.prog 4 #[.slice ao n cap, .slice a2 m c2] w fun e w' => e = .returned (.bool true) ∧ Fr (fun _ => False) w w' := by
  rcases h with h | ⟨h, h'⟩
  all_goals
    go_enter Tryd.func4, Tryd.ntmps4
    go_wp2_with fail
    refine (awake_any w ht).mono ?_
    rintro e w1 ⟨rfl, f1⟩
    go_wp2_with fail
    refine (awake_any w1 (f1.tab ht (by simp))).mono ?_
    rintro e w2 ⟨rfl, f2⟩
    go_wp2
    go_ret
    exact ⟨rfl, f1.trans f2⟩
theorem reads_any (ao : Option Addr) (l : List Nat) (cap : Nat) (a2 : Option Addr) (q : List Nat) (c2 : Nat) (w : World) (ht : Tab w) (hr : Row w ao l cap) (hr2 : Row w a2 q c2) :
    Calls Tryd.prog 4 #[.slice ao l.length cap, .slice a2 q.length c2] w fun e w' => e = .returned (.bool true) ∧ Fr (fun _ => False) w w' := by
  have h1 := hr.1
  have h2 := hr.2.1
  have h3 := hr2.1
  have h4 := hr2.2.1
  unfold maxLen at h2 h4
  by_cases hl : l.length ≤ 3000
  · by_cases hq : q.length ≤ 60
    · exact reads_walk ao a2 l q cap c2 w ht hr hr2 hl hq
    · exact reads_long ao a2 l.length q.length cap c2 w ht (.inr ⟨hl, by omega⟩) (by omega) (by omega)
  · exact reads_long ao a2 l.length q.length cap c2 w ht (.inl (by omega)) (by omega) (by omega)
end Go.Proofs.YtonhkmcjfggnlaaDoor
