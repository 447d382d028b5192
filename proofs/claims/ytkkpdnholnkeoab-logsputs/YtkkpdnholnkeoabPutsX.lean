/- LogsPuts, whole: any number of entries that come. -/
import Derived.Test.YtkkpdnholnkeoabPutsW
namespace Go.Proofs.Ytkkpdnholnkeoab
open Go.RowKit
set_option maxRecDepth 100000 in
theorem puts_long (n : Nat) (a1 : Option Addr) (terms : List Nat) (c1 : Nat) (a2 : Option Addr) (kinds : List Nat) (c2 : Nat) (a3 : Option Addr) (more : List Nat) (c3 : Nat) (kv : Bool) (w : World) (h3 : Row w a3 more c3) (h20 : 20 < more.length) :
    Calls Try.prog 4 #[.int .u8 (n : Int), .slice a1 terms.length c1, .slice a2 kinds.length c2, .slice a3 more.length c3, .bool kv] w fun e w' => e = .returned (.bool true) ∧ Fr (fun _ => False) w w' := by
  have h20' : (20 : Int) < (more.length : Int) := by omega
  have hD20 : decide ((20 : Int) < (more.length : Int)) = true := by simp; omega
  have hl3 := h3.len
  clear h3
  go_enter Try.func4, Try.ntmps4
  go_wp2_with fail
  refine (awake_any w).mono ?_
  rintro e w1 ⟨rfl, f1⟩
  have F1 : Hid (Fr (fun _ => False) w w1) := f1
  clear f1
  go_wp2_with fail
  refine (awake_any w1).mono ?_
  rintro e w2 ⟨rfl, f2⟩
  have F2 : Hid (Fr (fun _ => False) w w2) := F1.out.trans f2
  clear f2
  go_wp2
  go_ret
  exact ⟨rfl, F2.out⟩
theorem puts_any (n : Nat) (a1 : Option Addr) (terms : List Nat) (c1 : Nat) (a2 : Option Addr) (kinds : List Nat) (c2 : Nat) (a3 : Option Addr) (more : List Nat) (c3 : Nat) (kv : Bool) (w : World) (hn : n < 256) (h1 : Row w a1 terms c1) (h2 : Row w a2 kinds c2) (h3 : Row w a3 more c3) :
    Calls Try.prog 4 #[.int .u8 (n : Int), .slice a1 terms.length c1, .slice a2 kinds.length c2, .slice a3 more.length c3, .bool kv] w fun e w' => e = .returned (.bool true) ∧ Fr (fun _ => False) w w' := by
  by_cases h20 : more.length ≤ 20
  · exact puts_walk n a1 terms c1 a2 kinds c2 a3 more c3 kv w hn h1 h2 h3 h20 _ rfl
  · exact puts_long n a1 terms c1 a2 kinds c2 a3 more c3 kv w h3 (by omega)
end Go.Proofs.Ytkkpdnholnkeoab
