/- The statement PolicyBytes, walked: its early ends too. -/
import Derived.Test.YtlneneacbjkheaaBytesW
namespace Go.Proofs.Ytlneneacbjkheaa
open Go.RowKit
set_option maxRecDepth 100000 in
set_option maxHeartbeats 1000000 in
theorem bytes_walk (ao : Option Addr) (l : List Nat) (cap : Nat) (po : Option Addr) (p : List Nat) (pcap : Nat) (at_ turn : Nat) (w : World) (hr : Row w ao l cap) (hp : Row w po p pcap) (hat : at_ < 65536) (hturn : turn < 256) : Calls Try.prog 6 #[.slice ao l.length cap, .slice po p.length pcap, .int .u16 (at_ : Int), .int .u8 (turn : Int)] w fun e w' => e = .returned (.bool true) ∧ Fr (fun _ => False) w w' := by
  by_cases hlong : 300 < l.length
  · have hl1 := hr.1
    have hl2 := hr.2.1
    have hp1 := hp.1
    have hp2 := hp.2.1
    unfold maxLen at hl2 hp2
    clear hr hp
    go_enter Try.func6, Try.ntmps6
    go_wp2_with fail
    refine (awake_any w).mono ?_
    rintro e w1 ⟨rfl, f1⟩
    go_wp2_with fail
    refine (awake_any w1).mono ?_
    rintro e w2 ⟨rfl, f2⟩
    go_wp2
    go_ret
    exact ⟨rfl, f1.trans f2⟩
  · by_cases hp3 : 1000 < p.length
    · have hl1 := hr.1
      have hl2 := hr.2.1
      have hp1 := hp.1
      have hp2 := hp.2.1
      unfold maxLen at hl2 hp2
      clear hr hp
      go_enter Try.func6, Try.ntmps6
      go_wp2_with fail
      refine (awake_any w).mono ?_
      rintro e w1 ⟨rfl, f1⟩
      go_wp2_with fail
      refine (awake_any w1).mono ?_
      rintro e w2 ⟨rfl, f2⟩
      go_wp2
      go_ret
      exact ⟨rfl, f1.trans f2⟩
    · exact bytes_any ao l cap po p pcap at_ turn w hr hp hat hturn (by omega) (by omega)
end Go.Proofs.Ytlneneacbjkheaa
