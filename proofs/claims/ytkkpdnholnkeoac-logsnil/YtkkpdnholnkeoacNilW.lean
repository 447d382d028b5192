/- The statement LogsNil, walked. -/
import Derived.Test.YtkkpdnholnkeoacNilA
namespace Go.Proofs.Ytkkpdnholnkeoac
open Go.RowKit

set_option maxRecDepth 100000 in
set_option maxHeartbeats 4000000 in
theorem nil_walk (i t : Nat) (ao : Option Addr) (p : List Nat) (cap : Nat) (w : World) (hr : Row w ao p cap) (_hi : i < 18446744073709551616) (_ht : t < 18446744073709551616) :
    Calls Try.prog 3 #[.int .u64 (i : Int), .int .u64 (t : Int), .slice ao p.length cap] w fun e w' => e = .returned (.bool true) ∧ Fr (fun _ => False) w w' := by
  have hl := hr.len
  clear hr
  by_cases hlong : 100 < p.length
  · go_enter Try.func3, Try.ntmps3
    go_wp2_with fail
    refine (awake_any w).mono ?_
    rintro e w1 ⟨rfl, f1⟩
    go_wp2_with fail
    refine (awake_any w1).mono ?_
    rintro e w2 ⟨rfl, f2⟩
    go_wp2
    go_ret
    exact ⟨rfl, f1.trans f2⟩
  · go_enter Try.func3, Try.ntmps3
    go_wp2_with fail
    refine (awake_any w).mono ?_
    rintro e w1 ⟨rfl, f1⟩
    have F1 : Hid (Fr (fun _ => False) w w1) := f1
    clear f1
    go_wp2_with fail
    refine (nterm i w1).mono ?_
    rintro e w2 ⟨rfl, rfl⟩
    go_wp2_with fail
    refine (nentry i _).mono ?_
    rintro e w3 ⟨rfl, f3⟩
    have F3 : Hid (Fr (fun _ => False) w w3) := F1.out.trans f3
    clear f3
    go_wp2_with fail
    refine (nvoters _).mono ?_
    rintro e w4 ⟨rfl, f4⟩
    have F4 : Hid (Fr (fun _ => False) w w4) := (F3.out.alloc _).trans f4
    clear f4
    go_wp2_with fail
    refine (nreset i _).mono ?_
    rintro e w5 ⟨rfl, f5⟩
    have F5 : Hid (Fr (fun _ => False) w w5) := F4.out.trans f5
    clear f5
    go_wp2_with fail
    refine (nbase _).mono ?_
    rintro e w6 ⟨rfl, rfl⟩
    go_wp2_with fail
    refine (nlast _).mono ?_
    rintro e w6 ⟨rfl, rfl⟩
    go_wp2_with fail
    refine (nlastTerm _).mono ?_
    rintro e w6 ⟨rfl, rfl⟩
    go_wp2_with fail
    refine (nfrom i 5 _).mono ?_
    rintro e w6 ⟨rfl, rfl⟩
    go_wp2_with fail
    refine (nput t _ _).mono ?_
    rintro e w6 ⟨rfl, rfl⟩
    go_wp2_with fail
    refine (nfit i t _).mono ?_
    rintro e w6 ⟨rfl, rfl⟩
    go_wp2_with fail
    refine (nmerge _ _ (by simp) (by simp) (by simp) (by simp)).mono ?_
    rintro e w7 ⟨rfl, f7⟩
    have F7 : Hid (Fr (fun _ => False) w w7) := (F5.out.alloc _).trans f7
    clear f7
    go_wp2_with fail
    refine (nvotersAt i _).mono ?_
    rintro e w8 ⟨rfl, f8⟩
    have F8 : Hid (Fr (fun _ => False) w w8) := F7.out.trans f8
    clear f8
    go_wp2_with fail
    refine (ncompact i _).mono ?_
    rintro e w9 ⟨rfl, rfl⟩
    go_wp2
    go_ret
    exact ⟨rfl, F8.out⟩
end Go.Proofs.Ytkkpdnholnkeoac
