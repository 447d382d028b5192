/- What a plan that is nil answers about rules and transactions. -/
import Derived.Test.YtjbkmflbhlnbpabAwake
namespace Go.Proofs.Ytjbkmflbhlnbpab
open Go.RowKit

theorem nrule (id fr tt : Int) (lo hi : Nat) (au qu : Int) (w : World) : Calls Try.prog 17 #[.pointer none, .agg #[.int .u64 id, .int .i64 fr, .int .i64 tt, .float .f64 lo, .float .f64 hi, .int .u64 au, .int .i64 qu]] w fun e w' => e = .returned (.bool false) ∧ Fr (fun _ => False) w w' := by
  go_enter Try.func17, Try.ntmps17
  go_wp2
  go_quiet (fail)
  go_wp2
  go_ret
  exact ⟨rfl, ((Fr.refl _ _).alloc _).drewN _⟩
theorem nread (a b c : Int) (o1 o2 o3 : Option Addr) (n1 n2 n3 c1 c2 c3 : Nat) (w : World) : Calls Try.prog 25 #[.pointer none, .agg #[.int .u64 a, .int .u64 b, .int .i64 c, .slice o1 n1 c1, .slice o2 n2 c2, .slice o3 n3 c3]] w fun e w' => e = .returned (.bool false) ∧ Fr (fun _ => False) w w' := by
  go_enter Try.func25, Try.ntmps25
  go_wp2
  go_quiet (fail)
  go_wp2
  go_ret
  exact ⟨rfl, ((Fr.refl _ _).alloc _).drewN _⟩
theorem ntxn (a b c : Int) (o1 o2 o3 : Option Addr) (n1 n2 n3 c1 c2 c3 : Nat) (w : World) : Calls Try.prog 16 #[.pointer none, .agg #[.int .u64 a, .int .u64 b, .int .i64 c, .slice o1 n1 c1, .slice o2 n2 c2, .slice o3 n3 c3]] w fun e w' => e = .returned (.int .i64 11) ∧ Fr (fun _ => False) w w' := by
  have k1 := nread a b c o1 o2 o3 n1 n2 n3 c1 c2 c3
  go_enter Try.func16, Try.ntmps16
  go_wp2_with fail
  refine (k1 _).mono ?_
  rintro e w9 ⟨rfl, hw⟩
  go_wp2
  go_ret
  exact ⟨rfl, ((Fr.refl _ _).alloc _).trans hw⟩
end Go.Proofs.Ytjbkmflbhlnbpab
