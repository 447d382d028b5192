/- The statement FrameNil, walked. -/
import Derived.Test.YtpnjcpamhelaeaaDoorReadAll
namespace Go.Proofs.YtpnjcpamhelaeaaDoor
open Go.RowKit

theorem jlen_nil (w : World) : Calls Tryd.prog 21 #[.pointer none] w fun e w' => e = .returned (.int .i64 0) ∧ w' = w := by
  go_enter Tryd.func21, Tryd.ntmps21
  go_wp2
  go_ret
  exact ⟨rfl, rfl⟩
set_option maxRecDepth 100000 in
set_option maxHeartbeats 1000000 in
theorem take_nil (ao : Option Addr) (l : List Nat) (cap : Nat) (w : World) (ht : Tab w) (hr : Row w ao l cap) (hlen : l.length ≤ 1000) :
    Calls Tryd.prog 19 #[.pointer none, .slice ao l.length cap] w fun e w' => e = .returned (.tuple #[.slice none 0 0, .bool false]) ∧ Fr (fun _ => False) w w' := by
  by_cases h : readB l
  · have k := readf_yes ao l cap w ht hr (by omega) h
    generalize l.take (l.length - 4) = B at *
    generalize hId B = y1 at *
    generalize hAt B = y2 at *
    generalize hOf B = y3 at *
    generalize hN B = y4 at *
    have HK : Hid (Calls _ _ _ _ _) := k
    clear k hr ht h
    go_enter Tryd.func19, Tryd.ntmps19
    go_wp2_with fail
    refine HK.out.mono ?_
    rintro e w1 ⟨a1, c1, rfl, _, _, f1⟩
    go_wp2
    go_ret2
    exact ⟨rfl, f1.alloc _⟩
  · have k := readf_no ao l cap w ht hr (by omega) h
    unfold noPart at k
    have HK : Hid (Calls _ _ _ _ _) := k
    clear k hr ht h
    go_enter Tryd.func19, Tryd.ntmps19
    go_wp2_with fail
    refine HK.out.mono ?_
    rintro e w1 ⟨k, _, rfl, f1⟩
    go_wp2
    go_ret2
    exact ⟨rfl, f1.alloc _⟩
set_option maxHeartbeats 1000000 in
theorem nil_walk (ao : Option Addr) (p : List Nat) (cap : Nat) (w : World) (ht : Tab w) (hr : Row w ao p cap) :
    Calls Tryd.prog 7 #[.slice ao p.length cap] w fun e w' => e = .returned (.bool true) ∧ Fr (fun _ => False) w w' := by
  have HT : Hid (Tab w) := ht
  have HR : Hid (Row w ao p cap) := hr
  have hpl : p.length ≤ 9223372036854775807 := by have := hr.1; have := hr.2.1; unfold maxLen at this; omega
  clear ht hr
  by_cases hlen : 1000 < p.length
  · go_enter Tryd.func7, Tryd.ntmps7
    go_wp2_with fail
    refine (awake5_any w HT.out).mono ?_
    rintro e w1 ⟨rfl, f1⟩
    go_wp2_with fail
    refine (awake5_any w1 (f1.tab HT.out (by simp))).mono ?_
    rintro e w2 ⟨rfl, f2⟩
    go_wp2
    go_ret
    exact ⟨rfl, f1.trans f2⟩
  · go_enter Tryd.func7, Tryd.ntmps7
    go_wp2_with fail
    refine (awake5_any w HT.out).mono ?_
    rintro e w1 ⟨rfl, f1⟩
    go_wp2_with fail
    refine (take_nil ao p cap w1 (f1.tab HT.out (by simp)) (f1.row HR.out (by simp)) (by omega)).mono ?_
    rintro e w2 ⟨rfl, f2⟩
    go_wp2_with fail
    refine (jlen_nil w2).mono ?_
    rintro e w9 ⟨rfl, hw⟩
    subst w9
    go_wp2
    go_ret
    exact ⟨rfl, f1.trans f2⟩
end Go.Proofs.YtpnjcpamhelaeaaDoor
