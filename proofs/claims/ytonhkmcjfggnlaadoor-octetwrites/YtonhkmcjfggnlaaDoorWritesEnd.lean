/- OctetWrites: all cases. -/
import Derived.Test.YtonhkmcjfggnlaaDoorWritesA
import Derived.Test.YtonhkmcjfggnlaaDoorWritesB
namespace Go.Proofs.YtonhkmcjfggnlaaDoor
open Go.RowKit
set_option maxRecDepth 100000 in
set_option maxHeartbeats 4000000 in
theorem writes_long (a0 a1 a2 : Option Addr) (n m k : Nat) (c0 c1 c2 : Nat) (b : Bool) (w : World) (ht : Tab w) (h : 40 < n ∨ (n ≤ 40 ∧ 20 < k)) (hn : n < 9223372036854775808) (hk : k < 9223372036854775808) :
    Calls Tryd.prog 3 #[.slice a0 n c0, .slice a1 m c1, .slice a2 k c2, .bool b] w fun e w' => e = .returned (.bool true) ∧ Fr (fun _ => False) w w' := by
  rcases h with h | ⟨h, h'⟩
  all_goals
    go_enter Tryd.func3, Tryd.ntmps3
    go_wp2_with fail
    refine (awake_any w ht).mono ?_
    rintro e w1 ⟨rfl, f1⟩
    go_wp2_with fail
    refine (awake_any w1 (f1.tab ht (by simp))).mono ?_
    rintro e w2 ⟨rfl, f2⟩
    go_wp2
    go_ret
    exact ⟨rfl, f1.trans f2⟩
theorem writes_any (a0 : Option Addr) (ns : List Nat) (c0 : Nat) (a1 : Option Addr) (s : List Nat) (c1 : Nat) (a2 : Option Addr) (ps : List (List Nat)) (c2 : Nat) (b : Bool) (w : World) (ht : Tab w) (h0 : NRow w a0 ns c0) (h1 : Row w a1 s c1) (h2 : PRow w a2 ps c2) :
    Calls Tryd.prog 3 #[.slice a0 ns.length c0, .slice a1 s.length c1, .slice a2 ps.length c2, .bool b] w fun e w' => e = .returned (.bool true) ∧ Fr (fun _ => False) w w' := by
  have g1 := h0.1
  have g2 := h0.2.1
  have g3 := h1.1
  have g4 := h1.2.1
  have g5 := h2.1
  have g6 := h2.2.1
  unfold maxLen at g2 g4 g6
  by_cases hn : ns.length ≤ 40
  · by_cases hp : ps.length ≤ 20
    · by_cases hc : ns.length ≤ s.length
      · exact writes_A a0 a1 a2 ns s ps c0 c1 c2 b w ht h0 h1 h2 hn hp (by omega) hc
      · exact writes_B a0 a1 a2 ns s ps c0 c1 c2 b w ht h0 h1 h2 hn hp (by omega) (by omega)
    · exact writes_long a0 a1 a2 ns.length s.length ps.length c0 c1 c2 b w ht (.inr ⟨hn, by omega⟩) (by omega) (by omega)
  · exact writes_long a0 a1 a2 ns.length s.length ps.length c0 c1 c2 b w ht (.inl (by omega)) (by omega) (by omega)
end Go.Proofs.YtonhkmcjfggnlaaDoor
