/- A config that is out of its bounds, and the document's check. -/
import Derived.Test.YtjbkmflbhlnbpaaCfgU
import Derived.Test.YtjbkmflbhlnbpaaCheck
namespace Go.Proofs.Ytjbkmflbhlnbpaa
open Go.RowKit

theorem in_not (n a b : Int) (w : World) (h : ¬ (a ≤ n ∧ n ≤ b)) : Calls Try.prog 39 #[.int .i64 n, .int .i64 a, .int .i64 b] w fun e w' => e = .returned (.bool false) ∧ w' = w :=
  (in_any n a b w).mono fun e w' ⟨he, hw⟩ => ⟨he.trans (by congr 2; by_cases h1 : a ≤ n <;> by_cases h2 : n ≤ b <;> simp [h1, h2] <;> exact absurd ⟨h1, h2⟩ h), hw⟩
def InB (n : Nat) (rise : Bool) (nodes frame depth quota wide beat elect : Int) : Prop := (1 ≤ nodes ∧ nodes ≤ 7) ∧ ((n : Int) < 8) ∧ (rise = true) ∧ (64 ≤ frame ∧ frame ≤ 4096) ∧ (1 ≤ depth ∧ depth ≤ 65536) ∧ (1 ≤ quota ∧ quota ≤ 268435456) ∧ (0 ≤ wide ∧ wide ≤ 256) ∧ (1 ≤ beat) ∧ (beat < elect) ∧ (elect ≤ 1000)
set_option maxHeartbeats 1000000 in
theorem bounded_no1 (up : Value) (ao : Option Addr) (n cap : Nat) (nodes frame depth quota wide beat elect : Int) (w : World)  (h1 : ¬ (1 ≤ nodes ∧ nodes ≤ 7)) :
    Calls Try.prog 32 #[.agg (cfg up nodes (.slice ao n cap) frame depth quota wide beat elect)] w fun e w' => e = .returned (.bool false) ∧ Fr (fun _ => False) w w' := by
  have Hh1 : Hid _ := fun w => in_not nodes 1 7 w h1
  clear h1
  unfold cfg
  go_enter Try.func32, Try.ntmps32
  go_wp2_with fail
  refine (Hh1.out _).mono ?_
  rintro e w2 ⟨rfl, hw⟩
  subst w2
  go_wp2
  go_ret
  exact ⟨rfl, (Fr.refl _ _).alloc _⟩
set_option maxHeartbeats 1000000 in
theorem bounded_no2 (up : Value) (ao : Option Addr) (n cap : Nat) (nodes frame depth quota wide beat elect : Int) (w : World) (h1 : 1 ≤ nodes ∧ nodes ≤ 7) (h2 : ¬ ((n : Int) < 8)) :
    Calls Try.prog 32 #[.agg (cfg up nodes (.slice ao n cap) frame depth quota wide beat elect)] w fun e w' => e = .returned (.bool false) ∧ Fr (fun _ => False) w w' := by
  have Hh1 : Hid _ := fun w => in_yes nodes 1 7 w h1.1 h1.2
  clear h1
  unfold cfg
  go_enter Try.func32, Try.ntmps32
  go_wp2_with fail
  refine (Hh1.out _).mono ?_
  rintro e w2 ⟨rfl, hw⟩
  subst w2
  go_wp2
  go_ret
  exact ⟨rfl, (Fr.refl _ _).alloc _⟩
set_option maxHeartbeats 1000000 in
theorem bounded_no3 (up : Value) (ao : Option Addr) (n cap : Nat) (rise : Bool) (nodes frame depth quota wide beat elect : Int) (w : World) (h1 : 1 ≤ nodes ∧ nodes ≤ 7) (h2 : (n : Int) < 8) (h3 : ¬ (rise = true)) (hr : ∀ W, Fr (fun _ => False) w W → Calls Try.prog 48 #[.slice ao n cap] W fun e w' => e = .returned (.bool rise) ∧ ∃ q, w' = W.drewN q) :
    Calls Try.prog 32 #[.agg (cfg up nodes (.slice ao n cap) frame depth quota wide beat elect)] w fun e w' => e = .returned (.bool false) ∧ Fr (fun _ => False) w w' := by
  have hr2 : rise = false := by simpa using h3
  subst hr2
  have HR : Hid _ := hr
  clear hr
  have Hh1 : Hid _ := fun w => in_yes nodes 1 7 w h1.1 h1.2
  clear h1
  unfold cfg
  go_enter Try.func32, Try.ntmps32
  go_wp2_with fail
  refine (Hh1.out _).mono ?_
  rintro e w2 ⟨rfl, hw⟩
  subst w2
  go_wp2_with fail
  refine (HR.out _ ((Fr.refl _ _).alloc _)).mono ?_
  rintro e w2 ⟨rfl, q, hw⟩
  subst w2
  go_wp2
  go_ret
  exact ⟨rfl, ((Fr.refl _ _).alloc _).drewN _⟩
set_option maxHeartbeats 1000000 in
theorem bounded_no4 (up : Value) (ao : Option Addr) (n cap : Nat) (rise : Bool) (nodes frame depth quota wide beat elect : Int) (w : World) (h1 : 1 ≤ nodes ∧ nodes ≤ 7) (h2 : (n : Int) < 8) (h3 : rise = true) (h4 : ¬ (64 ≤ frame ∧ frame ≤ 4096)) (hr : ∀ W, Fr (fun _ => False) w W → Calls Try.prog 48 #[.slice ao n cap] W fun e w' => e = .returned (.bool rise) ∧ ∃ q, w' = W.drewN q) :
    Calls Try.prog 32 #[.agg (cfg up nodes (.slice ao n cap) frame depth quota wide beat elect)] w fun e w' => e = .returned (.bool false) ∧ Fr (fun _ => False) w w' := by
  have hr2 : rise = true := h3
  subst hr2
  have HR : Hid _ := hr
  clear hr
  have Hh1 : Hid _ := fun w => in_yes nodes 1 7 w h1.1 h1.2
  have Hh4 : Hid _ := fun w => in_not frame 64 4096 w h4
  clear h1 h4
  unfold cfg
  go_enter Try.func32, Try.ntmps32
  go_wp2_with fail
  refine (Hh1.out _).mono ?_
  rintro e w2 ⟨rfl, hw⟩
  subst w2
  go_wp2_with fail
  refine (HR.out _ ((Fr.refl _ _).alloc _)).mono ?_
  rintro e w2 ⟨rfl, q, hw⟩
  subst w2
  go_wp2_with fail
  refine (Hh4.out _).mono ?_
  rintro e w2 ⟨rfl, hw⟩
  subst w2
  go_wp2
  go_ret
  exact ⟨rfl, ((Fr.refl _ _).alloc _).drewN _⟩
set_option maxHeartbeats 1000000 in
theorem bounded_no5 (up : Value) (ao : Option Addr) (n cap : Nat) (rise : Bool) (nodes frame depth quota wide beat elect : Int) (w : World) (h1 : 1 ≤ nodes ∧ nodes ≤ 7) (h2 : (n : Int) < 8) (h3 : rise = true) (h4 : 64 ≤ frame ∧ frame ≤ 4096) (h5 : ¬ (1 ≤ depth ∧ depth ≤ 65536)) (hr : ∀ W, Fr (fun _ => False) w W → Calls Try.prog 48 #[.slice ao n cap] W fun e w' => e = .returned (.bool rise) ∧ ∃ q, w' = W.drewN q) :
    Calls Try.prog 32 #[.agg (cfg up nodes (.slice ao n cap) frame depth quota wide beat elect)] w fun e w' => e = .returned (.bool false) ∧ Fr (fun _ => False) w w' := by
  have hr2 : rise = true := h3
  subst hr2
  have HR : Hid _ := hr
  clear hr
  have Hh1 : Hid _ := fun w => in_yes nodes 1 7 w h1.1 h1.2
  have Hh4 : Hid _ := fun w => in_yes frame 64 4096 w h4.1 h4.2
  have Hh5 : Hid _ := fun w => in_not depth 1 65536 w h5
  clear h1 h4 h5
  unfold cfg
  go_enter Try.func32, Try.ntmps32
  go_wp2_with fail
  refine (Hh1.out _).mono ?_
  rintro e w2 ⟨rfl, hw⟩
  subst w2
  go_wp2_with fail
  refine (HR.out _ ((Fr.refl _ _).alloc _)).mono ?_
  rintro e w2 ⟨rfl, q, hw⟩
  subst w2
  go_wp2_with fail
  refine (Hh4.out _).mono ?_
  rintro e w2 ⟨rfl, hw⟩
  subst w2
  go_wp2_with fail
  refine (Hh5.out _).mono ?_
  rintro e w2 ⟨rfl, hw⟩
  subst w2
  go_wp2
  go_ret
  exact ⟨rfl, ((Fr.refl _ _).alloc _).drewN _⟩
set_option maxHeartbeats 1000000 in
theorem bounded_no6 (up : Value) (ao : Option Addr) (n cap : Nat) (rise : Bool) (nodes frame depth quota wide beat elect : Int) (w : World) (h1 : 1 ≤ nodes ∧ nodes ≤ 7) (h2 : (n : Int) < 8) (h3 : rise = true) (h4 : 64 ≤ frame ∧ frame ≤ 4096) (h5 : 1 ≤ depth ∧ depth ≤ 65536) (h6 : ¬ (1 ≤ quota ∧ quota ≤ 268435456)) (hr : ∀ W, Fr (fun _ => False) w W → Calls Try.prog 48 #[.slice ao n cap] W fun e w' => e = .returned (.bool rise) ∧ ∃ q, w' = W.drewN q) :
    Calls Try.prog 32 #[.agg (cfg up nodes (.slice ao n cap) frame depth quota wide beat elect)] w fun e w' => e = .returned (.bool false) ∧ Fr (fun _ => False) w w' := by
  have hr2 : rise = true := h3
  subst hr2
  have HR : Hid _ := hr
  clear hr
  have Hh1 : Hid _ := fun w => in_yes nodes 1 7 w h1.1 h1.2
  have Hh4 : Hid _ := fun w => in_yes frame 64 4096 w h4.1 h4.2
  have Hh5 : Hid _ := fun w => in_yes depth 1 65536 w h5.1 h5.2
  have Hh6 : Hid _ := fun w => in_not quota 1 268435456 w h6
  clear h1 h4 h5 h6
  unfold cfg
  go_enter Try.func32, Try.ntmps32
  go_wp2_with fail
  refine (Hh1.out _).mono ?_
  rintro e w2 ⟨rfl, hw⟩
  subst w2
  go_wp2_with fail
  refine (HR.out _ ((Fr.refl _ _).alloc _)).mono ?_
  rintro e w2 ⟨rfl, q, hw⟩
  subst w2
  go_wp2_with fail
  refine (Hh4.out _).mono ?_
  rintro e w2 ⟨rfl, hw⟩
  subst w2
  go_wp2_with fail
  refine (Hh5.out _).mono ?_
  rintro e w2 ⟨rfl, hw⟩
  subst w2
  go_wp2_with fail
  refine (Hh6.out _).mono ?_
  rintro e w2 ⟨rfl, hw⟩
  subst w2
  go_wp2
  go_ret
  exact ⟨rfl, ((Fr.refl _ _).alloc _).drewN _⟩
set_option maxHeartbeats 1000000 in
theorem bounded_no7 (up : Value) (ao : Option Addr) (n cap : Nat) (rise : Bool) (nodes frame depth quota wide beat elect : Int) (w : World) (h1 : 1 ≤ nodes ∧ nodes ≤ 7) (h2 : (n : Int) < 8) (h3 : rise = true) (h4 : 64 ≤ frame ∧ frame ≤ 4096) (h5 : 1 ≤ depth ∧ depth ≤ 65536) (h6 : 1 ≤ quota ∧ quota ≤ 268435456) (h7 : ¬ (0 ≤ wide ∧ wide ≤ 256)) (hr : ∀ W, Fr (fun _ => False) w W → Calls Try.prog 48 #[.slice ao n cap] W fun e w' => e = .returned (.bool rise) ∧ ∃ q, w' = W.drewN q) :
    Calls Try.prog 32 #[.agg (cfg up nodes (.slice ao n cap) frame depth quota wide beat elect)] w fun e w' => e = .returned (.bool false) ∧ Fr (fun _ => False) w w' := by
  have hr2 : rise = true := h3
  subst hr2
  have HR : Hid _ := hr
  clear hr
  have Hh1 : Hid _ := fun w => in_yes nodes 1 7 w h1.1 h1.2
  have Hh4 : Hid _ := fun w => in_yes frame 64 4096 w h4.1 h4.2
  have Hh5 : Hid _ := fun w => in_yes depth 1 65536 w h5.1 h5.2
  have Hh6 : Hid _ := fun w => in_yes quota 1 268435456 w h6.1 h6.2
  have Hh7 : Hid _ := fun w => in_not wide 0 256 w h7
  clear h1 h4 h5 h6 h7
  unfold cfg
  go_enter Try.func32, Try.ntmps32
  go_wp2_with fail
  refine (Hh1.out _).mono ?_
  rintro e w2 ⟨rfl, hw⟩
  subst w2
  go_wp2_with fail
  refine (HR.out _ ((Fr.refl _ _).alloc _)).mono ?_
  rintro e w2 ⟨rfl, q, hw⟩
  subst w2
  go_wp2_with fail
  refine (Hh4.out _).mono ?_
  rintro e w2 ⟨rfl, hw⟩
  subst w2
  go_wp2_with fail
  refine (Hh5.out _).mono ?_
  rintro e w2 ⟨rfl, hw⟩
  subst w2
  go_wp2_with fail
  refine (Hh6.out _).mono ?_
  rintro e w2 ⟨rfl, hw⟩
  subst w2
  go_wp2_with fail
  refine (Hh7.out _).mono ?_
  rintro e w2 ⟨rfl, hw⟩
  subst w2
  go_wp2
  go_ret
  exact ⟨rfl, ((Fr.refl _ _).alloc _).drewN _⟩
set_option maxHeartbeats 1000000 in
theorem bounded_no8 (up : Value) (ao : Option Addr) (n cap : Nat) (rise : Bool) (nodes frame depth quota wide beat elect : Int) (w : World) (h1 : 1 ≤ nodes ∧ nodes ≤ 7) (h2 : (n : Int) < 8) (h3 : rise = true) (h4 : 64 ≤ frame ∧ frame ≤ 4096) (h5 : 1 ≤ depth ∧ depth ≤ 65536) (h6 : 1 ≤ quota ∧ quota ≤ 268435456) (h7 : 0 ≤ wide ∧ wide ≤ 256) (h8 : ¬ (1 ≤ beat)) (hr : ∀ W, Fr (fun _ => False) w W → Calls Try.prog 48 #[.slice ao n cap] W fun e w' => e = .returned (.bool rise) ∧ ∃ q, w' = W.drewN q) :
    Calls Try.prog 32 #[.agg (cfg up nodes (.slice ao n cap) frame depth quota wide beat elect)] w fun e w' => e = .returned (.bool false) ∧ Fr (fun _ => False) w w' := by
  have hr2 : rise = true := h3
  subst hr2
  have HR : Hid _ := hr
  clear hr
  have Hh1 : Hid _ := fun w => in_yes nodes 1 7 w h1.1 h1.2
  have Hh4 : Hid _ := fun w => in_yes frame 64 4096 w h4.1 h4.2
  have Hh5 : Hid _ := fun w => in_yes depth 1 65536 w h5.1 h5.2
  have Hh6 : Hid _ := fun w => in_yes quota 1 268435456 w h6.1 h6.2
  have Hh7 : Hid _ := fun w => in_yes wide 0 256 w h7.1 h7.2
  clear h1 h4 h5 h6 h7
  unfold cfg
  go_enter Try.func32, Try.ntmps32
  go_wp2_with fail
  refine (Hh1.out _).mono ?_
  rintro e w2 ⟨rfl, hw⟩
  subst w2
  go_wp2_with fail
  refine (HR.out _ ((Fr.refl _ _).alloc _)).mono ?_
  rintro e w2 ⟨rfl, q, hw⟩
  subst w2
  go_wp2_with fail
  refine (Hh4.out _).mono ?_
  rintro e w2 ⟨rfl, hw⟩
  subst w2
  go_wp2_with fail
  refine (Hh5.out _).mono ?_
  rintro e w2 ⟨rfl, hw⟩
  subst w2
  go_wp2_with fail
  refine (Hh6.out _).mono ?_
  rintro e w2 ⟨rfl, hw⟩
  subst w2
  go_wp2_with fail
  refine (Hh7.out _).mono ?_
  rintro e w2 ⟨rfl, hw⟩
  subst w2
  go_wp2
  go_ret
  exact ⟨rfl, ((Fr.refl _ _).alloc _).drewN _⟩
set_option maxHeartbeats 1000000 in
theorem bounded_no9 (up : Value) (ao : Option Addr) (n cap : Nat) (rise : Bool) (nodes frame depth quota wide beat elect : Int) (w : World) (h1 : 1 ≤ nodes ∧ nodes ≤ 7) (h2 : (n : Int) < 8) (h3 : rise = true) (h4 : 64 ≤ frame ∧ frame ≤ 4096) (h5 : 1 ≤ depth ∧ depth ≤ 65536) (h6 : 1 ≤ quota ∧ quota ≤ 268435456) (h7 : 0 ≤ wide ∧ wide ≤ 256) (h8 : 1 ≤ beat) (h9 : ¬ (beat < elect)) (hr : ∀ W, Fr (fun _ => False) w W → Calls Try.prog 48 #[.slice ao n cap] W fun e w' => e = .returned (.bool rise) ∧ ∃ q, w' = W.drewN q) :
    Calls Try.prog 32 #[.agg (cfg up nodes (.slice ao n cap) frame depth quota wide beat elect)] w fun e w' => e = .returned (.bool false) ∧ Fr (fun _ => False) w w' := by
  have hr2 : rise = true := h3
  subst hr2
  have HR : Hid _ := hr
  clear hr
  have Hh1 : Hid _ := fun w => in_yes nodes 1 7 w h1.1 h1.2
  have Hh4 : Hid _ := fun w => in_yes frame 64 4096 w h4.1 h4.2
  have Hh5 : Hid _ := fun w => in_yes depth 1 65536 w h5.1 h5.2
  have Hh6 : Hid _ := fun w => in_yes quota 1 268435456 w h6.1 h6.2
  have Hh7 : Hid _ := fun w => in_yes wide 0 256 w h7.1 h7.2
  clear h1 h4 h5 h6 h7
  unfold cfg
  go_enter Try.func32, Try.ntmps32
  go_wp2_with fail
  refine (Hh1.out _).mono ?_
  rintro e w2 ⟨rfl, hw⟩
  subst w2
  go_wp2_with fail
  refine (HR.out _ ((Fr.refl _ _).alloc _)).mono ?_
  rintro e w2 ⟨rfl, q, hw⟩
  subst w2
  go_wp2_with fail
  refine (Hh4.out _).mono ?_
  rintro e w2 ⟨rfl, hw⟩
  subst w2
  go_wp2_with fail
  refine (Hh5.out _).mono ?_
  rintro e w2 ⟨rfl, hw⟩
  subst w2
  go_wp2_with fail
  refine (Hh6.out _).mono ?_
  rintro e w2 ⟨rfl, hw⟩
  subst w2
  go_wp2_with fail
  refine (Hh7.out _).mono ?_
  rintro e w2 ⟨rfl, hw⟩
  subst w2
  go_wp2
  go_ret
  exact ⟨rfl, ((Fr.refl _ _).alloc _).drewN _⟩
set_option maxHeartbeats 1000000 in
theorem bounded_no10 (up : Value) (ao : Option Addr) (n cap : Nat) (rise : Bool) (nodes frame depth quota wide beat elect : Int) (w : World) (h1 : 1 ≤ nodes ∧ nodes ≤ 7) (h2 : (n : Int) < 8) (h3 : rise = true) (h4 : 64 ≤ frame ∧ frame ≤ 4096) (h5 : 1 ≤ depth ∧ depth ≤ 65536) (h6 : 1 ≤ quota ∧ quota ≤ 268435456) (h7 : 0 ≤ wide ∧ wide ≤ 256) (h8 : 1 ≤ beat) (h9 : beat < elect) (h10 : ¬ (elect ≤ 1000)) (hr : ∀ W, Fr (fun _ => False) w W → Calls Try.prog 48 #[.slice ao n cap] W fun e w' => e = .returned (.bool rise) ∧ ∃ q, w' = W.drewN q) :
    Calls Try.prog 32 #[.agg (cfg up nodes (.slice ao n cap) frame depth quota wide beat elect)] w fun e w' => e = .returned (.bool false) ∧ Fr (fun _ => False) w w' := by
  have hr2 : rise = true := h3
  subst hr2
  have HR : Hid _ := hr
  clear hr
  have Hh1 : Hid _ := fun w => in_yes nodes 1 7 w h1.1 h1.2
  have Hh4 : Hid _ := fun w => in_yes frame 64 4096 w h4.1 h4.2
  have Hh5 : Hid _ := fun w => in_yes depth 1 65536 w h5.1 h5.2
  have Hh6 : Hid _ := fun w => in_yes quota 1 268435456 w h6.1 h6.2
  have Hh7 : Hid _ := fun w => in_yes wide 0 256 w h7.1 h7.2
  clear h1 h4 h5 h6 h7
  unfold cfg
  go_enter Try.func32, Try.ntmps32
  go_wp2_with fail
  refine (Hh1.out _).mono ?_
  rintro e w2 ⟨rfl, hw⟩
  subst w2
  go_wp2_with fail
  refine (HR.out _ ((Fr.refl _ _).alloc _)).mono ?_
  rintro e w2 ⟨rfl, q, hw⟩
  subst w2
  go_wp2_with fail
  refine (Hh4.out _).mono ?_
  rintro e w2 ⟨rfl, hw⟩
  subst w2
  go_wp2_with fail
  refine (Hh5.out _).mono ?_
  rintro e w2 ⟨rfl, hw⟩
  subst w2
  go_wp2_with fail
  refine (Hh6.out _).mono ?_
  rintro e w2 ⟨rfl, hw⟩
  subst w2
  go_wp2_with fail
  refine (Hh7.out _).mono ?_
  rintro e w2 ⟨rfl, hw⟩
  subst w2
  go_wp2
  go_ret
  exact ⟨ret_bool (by simpa using h10), ((Fr.refl _ _).alloc _).drewN _⟩
theorem bounded_bad (up : Value) (ao : Option Addr) (n cap : Nat) (rise : Bool) (nodes frame depth quota wide beat elect : Int) (w : World) (hr : ∀ W, Fr (fun _ => False) w W → Calls Try.prog 48 #[.slice ao n cap] W fun e w' => e = .returned (.bool rise) ∧ ∃ q, w' = W.drewN q) (h : ¬ InB n rise nodes frame depth quota wide beat elect) :
    Calls Try.prog 32 #[.agg (cfg up nodes (.slice ao n cap) frame depth quota wide beat elect)] w fun e w' => e = .returned (.bool false) ∧ Fr (fun _ => False) w w' := by
  by_cases h1 : 1 ≤ nodes ∧ nodes ≤ 7
  case neg => exact bounded_no1 up ao n cap nodes frame depth quota wide beat elect w h1
  by_cases h2 : (n : Int) < 8
  case neg => exact bounded_no2 up ao n cap nodes frame depth quota wide beat elect w h1 h2
  by_cases h3 : rise = true
  case neg => exact bounded_no3 up ao n cap rise nodes frame depth quota wide beat elect w h1 h2 h3 hr
  by_cases h4 : 64 ≤ frame ∧ frame ≤ 4096
  case neg => exact bounded_no4 up ao n cap rise nodes frame depth quota wide beat elect w h1 h2 h3 h4 hr
  by_cases h5 : 1 ≤ depth ∧ depth ≤ 65536
  case neg => exact bounded_no5 up ao n cap rise nodes frame depth quota wide beat elect w h1 h2 h3 h4 h5 hr
  by_cases h6 : 1 ≤ quota ∧ quota ≤ 268435456
  case neg => exact bounded_no6 up ao n cap rise nodes frame depth quota wide beat elect w h1 h2 h3 h4 h5 h6 hr
  by_cases h7 : 0 ≤ wide ∧ wide ≤ 256
  case neg => exact bounded_no7 up ao n cap rise nodes frame depth quota wide beat elect w h1 h2 h3 h4 h5 h6 h7 hr
  by_cases h8 : 1 ≤ beat
  case neg => exact bounded_no8 up ao n cap rise nodes frame depth quota wide beat elect w h1 h2 h3 h4 h5 h6 h7 h8 hr
  by_cases h9 : beat < elect
  case neg => exact bounded_no9 up ao n cap rise nodes frame depth quota wide beat elect w h1 h2 h3 h4 h5 h6 h7 h8 h9 hr
  by_cases h10 : elect ≤ 1000
  case neg => exact bounded_no10 up ao n cap rise nodes frame depth quota wide beat elect w h1 h2 h3 h4 h5 h6 h7 h8 h9 h10 hr
  exact absurd ⟨h1, h2, h3, h4, h5, h6, h7, h8, h9, h10⟩ h
end Go.Proofs.Ytjbkmflbhlnbpaa
