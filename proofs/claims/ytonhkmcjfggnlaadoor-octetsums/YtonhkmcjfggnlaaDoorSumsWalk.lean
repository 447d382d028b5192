/- The statement OctetSums, walked: whatever the bytes, it answers true and writes nothing that was there. -/
import Derived.Test.YtonhkmcjfggnlaaDoorSeal
import Derived.Deep.RegionWith
import Derived.Deep.DrawnRows
namespace Go.Proofs.YtonhkmcjfggnlaaDoor
open Go.RowKit
attribute [local go_sem ↓] Go.wp_at_zero Go.wp_at_succ

theorem run_str' (w : World) (ao : Option Addr) (l : List Nat) (n cap : Nat) (hn : l.length = n) (h : Row w ao l cap) : (convert 23 9 (.slice ao n cap)).run Tryd.prog w = .ok (.string (strOf l)) w := by
  subst hn; exact run_str w ao l cap h
set_option maxHeartbeats 2000000 in
theorem sums_walk (ao : Option Addr) (l : List Nat) (cap : Nat) (w : World) (ht : Tab w) (hr : Row w ao l cap) :
    Calls Tryd.prog 5 #[.slice ao l.length cap] w fun e w' => e = .returned (.bool true) ∧ Fr (fun _ => False) w w' := by
  by_cases hbig : 5000 < l.length
  · go_enter Tryd.func5, Tryd.ntmps5
    go_wp2_with fail
    refine (awake_any w ht).mono ?_
    rintro e w1 ⟨rfl, f1⟩
    go_wp2_with fail
    refine (awake_any w1 (f1.tab ht (by simp))).mono ?_
    rintro e w2 ⟨rfl, f2⟩
    go_wp2
    go_ret
    exact ⟨rfl, f1.trans f2⟩
  · have hlen : l.length + 16 ≤ 140737488355328 := by omega
    have hsl := sealed_length l
    have hsum : Hid (∀ W, Tab W → Row W ao l cap → _) := fun W h1 h2 => sum_any ao l cap W h1 h2
    have hrsum : Hid (∀ W, Row W ao l cap → _) := fun W h2 => refsum_any ao l cap W h2
    generalize Crc.sum l = s at hsum hrsum
    generalize hse : sealed l = q at hsl
    have Hse : Hid (sealed l = q) := hse
    clear hse
    go_enter Tryd.func5, Tryd.ntmps5
    go_wp2_with fail
    refine (awake_any w ht).mono ?_
    rintro e w1 ⟨rfl, f1⟩
    have fd := f1.drew
    go_wp2_with fail
    go_region_with (first
      | (go_at_call 25; refine (hsum.out _ ?_ ?_).mono ?_; exact fd.tab ht (by simp); exact fd.row hr (by simp); rintro e w' ⟨rfl, hw'⟩; subst w')
      | (go_at_call 26; refine (hrsum.out _ ?_).mono ?_; exact fd.row hr (by simp); rintro e w' ⟨rfl, hw'⟩; subst w')
      | (go_at_call 27; refine (seal_any ao l cap _ ?_ ?_ hlen).mono ?_; exact fd.tab ht (by simp); exact fd.row hr (by simp); rintro e w2 ⟨a1, rfl, h1, h2⟩; have f2 := fd.trans h2; have hs1 := run_str' w2 a1 (sealed l) _ _ (sealed_length l) h1.1; rw [Hse.out, hsl] at hs1)
      | (go_at_call 28; refine (refseal_any ao l cap _ ?_ hlen).mono ?_; exact f2.row hr (by simp); rintro e w3 ⟨v, rfl, h3, h4⟩; have f3 := f2.trans h4; obtain ⟨a3, c3, rfl, hr3, _⟩ := h3.row; have hs3 : (convert 23 9 (.slice a3 (sealed l).length c3)).run Tryd.prog w3 = .ok (.string (strOf q)) w3 := (by rw [run_str w3 a3 (sealed l) c3 hr3, Hse.out]); have hs4 := run_str' w3 a1 (sealed l) _ _ (sealed_length l) (h4.row h1.1 (by simp)); rw [Hse.out, hsl] at hs4))
    all_goals
      go_wp2
      go_ret
      exact ⟨rfl, f3⟩
end Go.Proofs.YtonhkmcjfggnlaaDoor
