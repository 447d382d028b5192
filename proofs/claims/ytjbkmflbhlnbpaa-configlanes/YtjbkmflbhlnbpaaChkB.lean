/- The document's check of a config. -/
import Derived.Test.YtjbkmflbhlnbpaaChkA
namespace Go.Proofs.Ytjbkmflbhlnbpaa
open Go.RowKit

set_option maxRecDepth 100000 in
set_option maxHeartbeats 1000000 in
theorem rcheck_1 (up : Value) (ao : Option Addr) (n cap : Nat) (nodes frame depth quota wide beat elect : Int) (w : World)  (h1a : ¬ (1 ≤ nodes)) :
    Calls Try.prog 11 #[.agg (cfg up nodes (.slice ao n cap) frame depth quota wide beat elect)] w fun e w' => e = .returned (.int .i64 1) ∧ Fr (fun _ => False) w w' := by
  unfold cfg
  go_enter Try.func11, Try.ntmps11
  go_wp2
  go_ret
  exact ⟨rfl, (Fr.refl _ _).alloc _⟩
set_option maxRecDepth 100000 in
set_option maxHeartbeats 1000000 in
theorem rcheck_2 (up : Value) (ao : Option Addr) (n cap : Nat) (nodes frame depth quota wide beat elect : Int) (w : World) (h1a : 1 ≤ nodes) (h1b : ¬ (nodes ≤ 7)) :
    Calls Try.prog 11 #[.agg (cfg up nodes (.slice ao n cap) frame depth quota wide beat elect)] w fun e w' => e = .returned (.int .i64 1) ∧ Fr (fun _ => False) w w' := by
  unfold cfg
  go_enter Try.func11, Try.ntmps11
  go_wp2
  go_ret
  exact ⟨rfl, (Fr.refl _ _).alloc _⟩
set_option maxRecDepth 100000 in
set_option maxHeartbeats 1000000 in
theorem rcheck_3 (up : Value) (ao : Option Addr) (n cap : Nat) (nodes frame depth quota wide beat elect : Int) (w : World) (h1a : 1 ≤ nodes) (h1b : nodes ≤ 7) (h2 : ¬ ((n : Int) < 8)) :
    Calls Try.prog 11 #[.agg (cfg up nodes (.slice ao n cap) frame depth quota wide beat elect)] w fun e w' => e = .returned (.int .i64 1) ∧ Fr (fun _ => False) w w' := by
  unfold cfg
  go_enter Try.func11, Try.ntmps11
  go_wp2
  go_ret
  exact ⟨rfl, (Fr.refl _ _).alloc _⟩
set_option maxRecDepth 100000 in
set_option maxHeartbeats 1000000 in
theorem rcheck_4 (up : Value) (ao : Option Addr) (n cap : Nat) (rise : Bool) (nodes frame depth quota wide beat elect : Int) (w : World) (h1a : 1 ≤ nodes) (h1b : nodes ≤ 7) (h2 : (n : Int) < 8) (h3 : ¬ (rise = true)) (hr : ∀ W, Fr (fun _ => False) w W → Calls Try.prog 13 #[.slice ao n cap] W fun e w' => e = .returned (.bool rise) ∧ ∃ q, w' = W.drewN q) :
    Calls Try.prog 11 #[.agg (cfg up nodes (.slice ao n cap) frame depth quota wide beat elect)] w fun e w' => e = .returned (.int .i64 1) ∧ Fr (fun _ => False) w w' := by
  have hr2 : rise = false := by simpa using h3
  subst hr2
  have HR : Hid _ := hr
  clear hr
  unfold cfg
  go_enter Try.func11, Try.ntmps11
  go_wp2_with fail
  refine (HR.out _ ((Fr.refl _ _).alloc _)).mono ?_
  rintro e w2 ⟨rfl, q, hw⟩
  subst w2
  go_wp2
  go_ret
  exact ⟨rfl, ((Fr.refl _ _).alloc _).drewN _⟩
set_option maxRecDepth 100000 in
set_option maxHeartbeats 1000000 in
theorem rcheck_5 (up : Value) (ao : Option Addr) (n cap : Nat) (rise : Bool) (nodes frame depth quota wide beat elect : Int) (w : World) (h1a : 1 ≤ nodes) (h1b : nodes ≤ 7) (h2 : (n : Int) < 8) (h3 : rise = true) (h4a : ¬ (64 ≤ frame)) (hr : ∀ W, Fr (fun _ => False) w W → Calls Try.prog 13 #[.slice ao n cap] W fun e w' => e = .returned (.bool rise) ∧ ∃ q, w' = W.drewN q) :
    Calls Try.prog 11 #[.agg (cfg up nodes (.slice ao n cap) frame depth quota wide beat elect)] w fun e w' => e = .returned (.int .i64 1) ∧ Fr (fun _ => False) w w' := by
  have hr2 : rise = true := h3
  subst hr2
  have HR : Hid _ := hr
  clear hr
  unfold cfg
  go_enter Try.func11, Try.ntmps11
  go_wp2_with fail
  refine (HR.out _ ((Fr.refl _ _).alloc _)).mono ?_
  rintro e w2 ⟨rfl, q, hw⟩
  subst w2
  go_wp2
  go_ret
  exact ⟨rfl, ((Fr.refl _ _).alloc _).drewN _⟩
set_option maxRecDepth 100000 in
set_option maxHeartbeats 1000000 in
theorem rcheck_6 (up : Value) (ao : Option Addr) (n cap : Nat) (rise : Bool) (nodes frame depth quota wide beat elect : Int) (w : World) (h1a : 1 ≤ nodes) (h1b : nodes ≤ 7) (h2 : (n : Int) < 8) (h3 : rise = true) (h4a : 64 ≤ frame) (h4b : ¬ (frame ≤ 4096)) (hr : ∀ W, Fr (fun _ => False) w W → Calls Try.prog 13 #[.slice ao n cap] W fun e w' => e = .returned (.bool rise) ∧ ∃ q, w' = W.drewN q) :
    Calls Try.prog 11 #[.agg (cfg up nodes (.slice ao n cap) frame depth quota wide beat elect)] w fun e w' => e = .returned (.int .i64 1) ∧ Fr (fun _ => False) w w' := by
  have hr2 : rise = true := h3
  subst hr2
  have HR : Hid _ := hr
  clear hr
  unfold cfg
  go_enter Try.func11, Try.ntmps11
  go_wp2_with fail
  refine (HR.out _ ((Fr.refl _ _).alloc _)).mono ?_
  rintro e w2 ⟨rfl, q, hw⟩
  subst w2
  go_wp2
  go_ret
  exact ⟨rfl, ((Fr.refl _ _).alloc _).drewN _⟩
set_option maxRecDepth 100000 in
set_option maxHeartbeats 1000000 in
theorem rcheck_7 (up : Value) (ao : Option Addr) (n cap : Nat) (rise : Bool) (nodes frame depth quota wide beat elect : Int) (w : World) (h1a : 1 ≤ nodes) (h1b : nodes ≤ 7) (h2 : (n : Int) < 8) (h3 : rise = true) (h4a : 64 ≤ frame) (h4b : frame ≤ 4096) (h5a : ¬ (1 ≤ depth)) (hr : ∀ W, Fr (fun _ => False) w W → Calls Try.prog 13 #[.slice ao n cap] W fun e w' => e = .returned (.bool rise) ∧ ∃ q, w' = W.drewN q) :
    Calls Try.prog 11 #[.agg (cfg up nodes (.slice ao n cap) frame depth quota wide beat elect)] w fun e w' => e = .returned (.int .i64 1) ∧ Fr (fun _ => False) w w' := by
  have hr2 : rise = true := h3
  subst hr2
  have HR : Hid _ := hr
  clear hr
  unfold cfg
  go_enter Try.func11, Try.ntmps11
  go_wp2_with fail
  refine (HR.out _ ((Fr.refl _ _).alloc _)).mono ?_
  rintro e w2 ⟨rfl, q, hw⟩
  subst w2
  go_wp2
  go_ret
  exact ⟨rfl, ((Fr.refl _ _).alloc _).drewN _⟩
set_option maxRecDepth 100000 in
set_option maxHeartbeats 1000000 in
theorem rcheck_8 (up : Value) (ao : Option Addr) (n cap : Nat) (rise : Bool) (nodes frame depth quota wide beat elect : Int) (w : World) (h1a : 1 ≤ nodes) (h1b : nodes ≤ 7) (h2 : (n : Int) < 8) (h3 : rise = true) (h4a : 64 ≤ frame) (h4b : frame ≤ 4096) (h5a : 1 ≤ depth) (h5b : ¬ (depth ≤ 65536)) (hr : ∀ W, Fr (fun _ => False) w W → Calls Try.prog 13 #[.slice ao n cap] W fun e w' => e = .returned (.bool rise) ∧ ∃ q, w' = W.drewN q) :
    Calls Try.prog 11 #[.agg (cfg up nodes (.slice ao n cap) frame depth quota wide beat elect)] w fun e w' => e = .returned (.int .i64 1) ∧ Fr (fun _ => False) w w' := by
  have hr2 : rise = true := h3
  subst hr2
  have HR : Hid _ := hr
  clear hr
  unfold cfg
  go_enter Try.func11, Try.ntmps11
  go_wp2_with fail
  refine (HR.out _ ((Fr.refl _ _).alloc _)).mono ?_
  rintro e w2 ⟨rfl, q, hw⟩
  subst w2
  go_wp2
  go_ret
  exact ⟨rfl, ((Fr.refl _ _).alloc _).drewN _⟩
set_option maxRecDepth 100000 in
set_option maxHeartbeats 1000000 in
theorem rcheck_9 (up : Value) (ao : Option Addr) (n cap : Nat) (rise : Bool) (nodes frame depth quota wide beat elect : Int) (w : World) (h1a : 1 ≤ nodes) (h1b : nodes ≤ 7) (h2 : (n : Int) < 8) (h3 : rise = true) (h4a : 64 ≤ frame) (h4b : frame ≤ 4096) (h5a : 1 ≤ depth) (h5b : depth ≤ 65536) (h6a : ¬ (1 ≤ quota)) (hr : ∀ W, Fr (fun _ => False) w W → Calls Try.prog 13 #[.slice ao n cap] W fun e w' => e = .returned (.bool rise) ∧ ∃ q, w' = W.drewN q) :
    Calls Try.prog 11 #[.agg (cfg up nodes (.slice ao n cap) frame depth quota wide beat elect)] w fun e w' => e = .returned (.int .i64 1) ∧ Fr (fun _ => False) w w' := by
  have hr2 : rise = true := h3
  subst hr2
  have HR : Hid _ := hr
  clear hr
  unfold cfg
  go_enter Try.func11, Try.ntmps11
  go_wp2_with fail
  refine (HR.out _ ((Fr.refl _ _).alloc _)).mono ?_
  rintro e w2 ⟨rfl, q, hw⟩
  subst w2
  go_wp2
  go_ret
  exact ⟨rfl, ((Fr.refl _ _).alloc _).drewN _⟩
set_option maxRecDepth 100000 in
set_option maxHeartbeats 1000000 in
theorem rcheck_10 (up : Value) (ao : Option Addr) (n cap : Nat) (rise : Bool) (nodes frame depth quota wide beat elect : Int) (w : World) (h1a : 1 ≤ nodes) (h1b : nodes ≤ 7) (h2 : (n : Int) < 8) (h3 : rise = true) (h4a : 64 ≤ frame) (h4b : frame ≤ 4096) (h5a : 1 ≤ depth) (h5b : depth ≤ 65536) (h6a : 1 ≤ quota) (h6b : ¬ (quota ≤ 268435456)) (hr : ∀ W, Fr (fun _ => False) w W → Calls Try.prog 13 #[.slice ao n cap] W fun e w' => e = .returned (.bool rise) ∧ ∃ q, w' = W.drewN q) :
    Calls Try.prog 11 #[.agg (cfg up nodes (.slice ao n cap) frame depth quota wide beat elect)] w fun e w' => e = .returned (.int .i64 1) ∧ Fr (fun _ => False) w w' := by
  have hr2 : rise = true := h3
  subst hr2
  have HR : Hid _ := hr
  clear hr
  unfold cfg
  go_enter Try.func11, Try.ntmps11
  go_wp2_with fail
  refine (HR.out _ ((Fr.refl _ _).alloc _)).mono ?_
  rintro e w2 ⟨rfl, q, hw⟩
  subst w2
  go_wp2
  go_ret
  exact ⟨rfl, ((Fr.refl _ _).alloc _).drewN _⟩
set_option maxRecDepth 100000 in
set_option maxHeartbeats 1000000 in
theorem rcheck_11 (up : Value) (ao : Option Addr) (n cap : Nat) (rise : Bool) (nodes frame depth quota wide beat elect : Int) (w : World) (h1a : 1 ≤ nodes) (h1b : nodes ≤ 7) (h2 : (n : Int) < 8) (h3 : rise = true) (h4a : 64 ≤ frame) (h4b : frame ≤ 4096) (h5a : 1 ≤ depth) (h5b : depth ≤ 65536) (h6a : 1 ≤ quota) (h6b : quota ≤ 268435456) (h7a : ¬ (0 ≤ wide)) (hr : ∀ W, Fr (fun _ => False) w W → Calls Try.prog 13 #[.slice ao n cap] W fun e w' => e = .returned (.bool rise) ∧ ∃ q, w' = W.drewN q) :
    Calls Try.prog 11 #[.agg (cfg up nodes (.slice ao n cap) frame depth quota wide beat elect)] w fun e w' => e = .returned (.int .i64 1) ∧ Fr (fun _ => False) w w' := by
  have hr2 : rise = true := h3
  subst hr2
  have HR : Hid _ := hr
  clear hr
  unfold cfg
  go_enter Try.func11, Try.ntmps11
  go_wp2_with fail
  refine (HR.out _ ((Fr.refl _ _).alloc _)).mono ?_
  rintro e w2 ⟨rfl, q, hw⟩
  subst w2
  go_wp2
  go_ret
  exact ⟨rfl, ((Fr.refl _ _).alloc _).drewN _⟩
set_option maxRecDepth 100000 in
set_option maxHeartbeats 1000000 in
theorem rcheck_12 (up : Value) (ao : Option Addr) (n cap : Nat) (rise : Bool) (nodes frame depth quota wide beat elect : Int) (w : World) (h1a : 1 ≤ nodes) (h1b : nodes ≤ 7) (h2 : (n : Int) < 8) (h3 : rise = true) (h4a : 64 ≤ frame) (h4b : frame ≤ 4096) (h5a : 1 ≤ depth) (h5b : depth ≤ 65536) (h6a : 1 ≤ quota) (h6b : quota ≤ 268435456) (h7a : 0 ≤ wide) (h7b : ¬ (wide ≤ 256)) (hr : ∀ W, Fr (fun _ => False) w W → Calls Try.prog 13 #[.slice ao n cap] W fun e w' => e = .returned (.bool rise) ∧ ∃ q, w' = W.drewN q) :
    Calls Try.prog 11 #[.agg (cfg up nodes (.slice ao n cap) frame depth quota wide beat elect)] w fun e w' => e = .returned (.int .i64 1) ∧ Fr (fun _ => False) w w' := by
  have hr2 : rise = true := h3
  subst hr2
  have HR : Hid _ := hr
  clear hr
  unfold cfg
  go_enter Try.func11, Try.ntmps11
  go_wp2_with fail
  refine (HR.out _ ((Fr.refl _ _).alloc _)).mono ?_
  rintro e w2 ⟨rfl, q, hw⟩
  subst w2
  go_wp2
  go_ret
  exact ⟨rfl, ((Fr.refl _ _).alloc _).drewN _⟩
set_option maxRecDepth 100000 in
set_option maxHeartbeats 1000000 in
theorem rcheck_13 (up : Value) (ao : Option Addr) (n cap : Nat) (rise : Bool) (nodes frame depth quota wide beat elect : Int) (w : World) (h1a : 1 ≤ nodes) (h1b : nodes ≤ 7) (h2 : (n : Int) < 8) (h3 : rise = true) (h4a : 64 ≤ frame) (h4b : frame ≤ 4096) (h5a : 1 ≤ depth) (h5b : depth ≤ 65536) (h6a : 1 ≤ quota) (h6b : quota ≤ 268435456) (h7a : 0 ≤ wide) (h7b : wide ≤ 256) (h8 : ¬ (1 ≤ beat)) (hr : ∀ W, Fr (fun _ => False) w W → Calls Try.prog 13 #[.slice ao n cap] W fun e w' => e = .returned (.bool rise) ∧ ∃ q, w' = W.drewN q) :
    Calls Try.prog 11 #[.agg (cfg up nodes (.slice ao n cap) frame depth quota wide beat elect)] w fun e w' => e = .returned (.int .i64 1) ∧ Fr (fun _ => False) w w' := by
  have hr2 : rise = true := h3
  subst hr2
  have HR : Hid _ := hr
  clear hr
  unfold cfg
  go_enter Try.func11, Try.ntmps11
  go_wp2_with fail
  refine (HR.out _ ((Fr.refl _ _).alloc _)).mono ?_
  rintro e w2 ⟨rfl, q, hw⟩
  subst w2
  go_wp2
  go_ret
  exact ⟨rfl, ((Fr.refl _ _).alloc _).drewN _⟩
set_option maxRecDepth 100000 in
set_option maxHeartbeats 1000000 in
theorem rcheck_14 (up : Value) (ao : Option Addr) (n cap : Nat) (rise : Bool) (nodes frame depth quota wide beat elect : Int) (w : World) (h1a : 1 ≤ nodes) (h1b : nodes ≤ 7) (h2 : (n : Int) < 8) (h3 : rise = true) (h4a : 64 ≤ frame) (h4b : frame ≤ 4096) (h5a : 1 ≤ depth) (h5b : depth ≤ 65536) (h6a : 1 ≤ quota) (h6b : quota ≤ 268435456) (h7a : 0 ≤ wide) (h7b : wide ≤ 256) (h8 : 1 ≤ beat) (h9 : ¬ (beat < elect)) (hr : ∀ W, Fr (fun _ => False) w W → Calls Try.prog 13 #[.slice ao n cap] W fun e w' => e = .returned (.bool rise) ∧ ∃ q, w' = W.drewN q) :
    Calls Try.prog 11 #[.agg (cfg up nodes (.slice ao n cap) frame depth quota wide beat elect)] w fun e w' => e = .returned (.int .i64 1) ∧ Fr (fun _ => False) w w' := by
  have hr2 : rise = true := h3
  subst hr2
  have HR : Hid _ := hr
  clear hr
  unfold cfg
  go_enter Try.func11, Try.ntmps11
  go_wp2_with fail
  refine (HR.out _ ((Fr.refl _ _).alloc _)).mono ?_
  rintro e w2 ⟨rfl, q, hw⟩
  subst w2
  go_wp2
  go_ret
  exact ⟨rfl, ((Fr.refl _ _).alloc _).drewN _⟩
set_option maxRecDepth 100000 in
set_option maxHeartbeats 1000000 in
theorem rcheck_15 (up : Value) (ao : Option Addr) (n cap : Nat) (rise : Bool) (nodes frame depth quota wide beat elect : Int) (w : World) (h1a : 1 ≤ nodes) (h1b : nodes ≤ 7) (h2 : (n : Int) < 8) (h3 : rise = true) (h4a : 64 ≤ frame) (h4b : frame ≤ 4096) (h5a : 1 ≤ depth) (h5b : depth ≤ 65536) (h6a : 1 ≤ quota) (h6b : quota ≤ 268435456) (h7a : 0 ≤ wide) (h7b : wide ≤ 256) (h8 : 1 ≤ beat) (h9 : beat < elect) (h10 : ¬ (elect ≤ 1000)) (hr : ∀ W, Fr (fun _ => False) w W → Calls Try.prog 13 #[.slice ao n cap] W fun e w' => e = .returned (.bool rise) ∧ ∃ q, w' = W.drewN q) :
    Calls Try.prog 11 #[.agg (cfg up nodes (.slice ao n cap) frame depth quota wide beat elect)] w fun e w' => e = .returned (.int .i64 1) ∧ Fr (fun _ => False) w w' := by
  have hr2 : rise = true := h3
  subst hr2
  have HR : Hid _ := hr
  clear hr
  have h10 : decide (elect ≤ 1000) = false := decide_eq_false h10
  unfold cfg
  go_enter Try.func11, Try.ntmps11
  go_wp2_with fail
  refine (HR.out _ ((Fr.refl _ _).alloc _)).mono ?_
  rintro e w2 ⟨rfl, q, hw⟩
  subst w2
  go_wp2
  go_ret
  exact ⟨rfl, ((Fr.refl _ _).alloc _).drewN _⟩
set_option maxRecDepth 100000 in
set_option maxHeartbeats 1000000 in
theorem rcheck_16 (ao2 : Option Addr) (n2 cap2 : Nat) (ao : Option Addr) (n cap : Nat) (rise : Bool) (nodes frame depth quota wide beat elect : Int) (w : World) (h1a : 1 ≤ nodes) (h1b : nodes ≤ 7) (h2 : (n : Int) < 8) (h3 : rise = true) (h4a : 64 ≤ frame) (h4b : frame ≤ 4096) (h5a : 1 ≤ depth) (h5b : depth ≤ 65536) (h6a : 1 ≤ quota) (h6b : quota ≤ 268435456) (h7a : 0 ≤ wide) (h7b : wide ≤ 256) (h8 : 1 ≤ beat) (h9 : beat < elect) (h10 : elect ≤ 1000) (hr : ∀ W, Fr (fun _ => False) w W → Calls Try.prog 13 #[.slice ao n cap] W fun e w' => e = .returned (.bool rise) ∧ ∃ q, w' = W.drewN q) (r : Int) (hk : ∀ W, Fr (fun _ => False) w W → Calls Try.prog 36 #[.slice ao2 n2 cap2] W fun e w' => e = .returned (.int .i64 r) ∧ w' = W) :
    Calls Try.prog 11 #[.agg (cfg (.slice ao2 n2 cap2) nodes (.slice ao n cap) frame depth quota wide beat elect)] w fun e w' => e = .returned (.int .i64 r) ∧ Fr (fun _ => False) w w' := by
  have hr2 : rise = true := h3
  subst hr2
  have HR : Hid _ := hr
  clear hr
  have HC : Hid _ := hk
  clear hk
  unfold cfg
  go_enter Try.func11, Try.ntmps11
  go_wp2_with fail
  refine (HR.out _ ((Fr.refl _ _).alloc _)).mono ?_
  rintro e w2 ⟨rfl, q, hw⟩
  subst w2
  go_wp2_with fail
  refine (HC.out _ (((Fr.refl _ _).alloc _).drewN _)).mono ?_
  rintro e w2 ⟨rfl, hw⟩
  subst w2
  go_wp2
  go_ret
  exact ⟨rfl, ((Fr.refl _ _).alloc _).drewN _⟩
theorem rcheck_bad (up : Value) (ao : Option Addr) (n cap : Nat) (rise : Bool) (nodes frame depth quota wide beat elect : Int) (w : World) (hr : ∀ W, Fr (fun _ => False) w W → Calls Try.prog 13 #[.slice ao n cap] W fun e w' => e = .returned (.bool rise) ∧ ∃ q, w' = W.drewN q) (h : ¬ InB n rise nodes frame depth quota wide beat elect) :
    Calls Try.prog 11 #[.agg (cfg up nodes (.slice ao n cap) frame depth quota wide beat elect)] w fun e w' => e = .returned (.int .i64 1) ∧ Fr (fun _ => False) w w' := by
  by_cases h1a : 1 ≤ nodes
  case neg => exact rcheck_1 up ao n cap nodes frame depth quota wide beat elect w h1a
  by_cases h1b : nodes ≤ 7
  case neg => exact rcheck_2 up ao n cap nodes frame depth quota wide beat elect w h1a h1b
  by_cases h2 : (n : Int) < 8
  case neg => exact rcheck_3 up ao n cap nodes frame depth quota wide beat elect w h1a h1b h2
  by_cases h3 : rise = true
  case neg => exact rcheck_4 up ao n cap rise nodes frame depth quota wide beat elect w h1a h1b h2 h3 hr
  by_cases h4a : 64 ≤ frame
  case neg => exact rcheck_5 up ao n cap rise nodes frame depth quota wide beat elect w h1a h1b h2 h3 h4a hr
  by_cases h4b : frame ≤ 4096
  case neg => exact rcheck_6 up ao n cap rise nodes frame depth quota wide beat elect w h1a h1b h2 h3 h4a h4b hr
  by_cases h5a : 1 ≤ depth
  case neg => exact rcheck_7 up ao n cap rise nodes frame depth quota wide beat elect w h1a h1b h2 h3 h4a h4b h5a hr
  by_cases h5b : depth ≤ 65536
  case neg => exact rcheck_8 up ao n cap rise nodes frame depth quota wide beat elect w h1a h1b h2 h3 h4a h4b h5a h5b hr
  by_cases h6a : 1 ≤ quota
  case neg => exact rcheck_9 up ao n cap rise nodes frame depth quota wide beat elect w h1a h1b h2 h3 h4a h4b h5a h5b h6a hr
  by_cases h6b : quota ≤ 268435456
  case neg => exact rcheck_10 up ao n cap rise nodes frame depth quota wide beat elect w h1a h1b h2 h3 h4a h4b h5a h5b h6a h6b hr
  by_cases h7a : 0 ≤ wide
  case neg => exact rcheck_11 up ao n cap rise nodes frame depth quota wide beat elect w h1a h1b h2 h3 h4a h4b h5a h5b h6a h6b h7a hr
  by_cases h7b : wide ≤ 256
  case neg => exact rcheck_12 up ao n cap rise nodes frame depth quota wide beat elect w h1a h1b h2 h3 h4a h4b h5a h5b h6a h6b h7a h7b hr
  by_cases h8 : 1 ≤ beat
  case neg => exact rcheck_13 up ao n cap rise nodes frame depth quota wide beat elect w h1a h1b h2 h3 h4a h4b h5a h5b h6a h6b h7a h7b h8 hr
  by_cases h9 : beat < elect
  case neg => exact rcheck_14 up ao n cap rise nodes frame depth quota wide beat elect w h1a h1b h2 h3 h4a h4b h5a h5b h6a h6b h7a h7b h8 h9 hr
  by_cases h10 : elect ≤ 1000
  case neg => exact rcheck_15 up ao n cap rise nodes frame depth quota wide beat elect w h1a h1b h2 h3 h4a h4b h5a h5b h6a h6b h7a h7b h8 h9 h10 hr
  exact absurd ⟨⟨h1a, h1b⟩, h2, h3, ⟨h4a, h4b⟩, ⟨h5a, h5b⟩, ⟨h6a, h6b⟩, ⟨h7a, h7b⟩, h8, h9, h10⟩ h
end Go.Proofs.Ytjbkmflbhlnbpaa
