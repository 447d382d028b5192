/- A rule that may be: what a plan says of it. -/
import Derived.Test.YtjbkmflbhlnbpaaNum
namespace Go.Proofs.Ytjbkmflbhlnbpaa
open Go.RowKit

/-- may that be a rule? -/
def ruleB (L : Nat) (fr tt : Int) (lo hi : Nat) (qu : Int) : Bool := (decide (0 ≤ fr) && decide (fr < L)) && (decide (0 ≤ tt) && decide (tt < L)) && (fr != tt) && !decide (Fl.rk hi < Fl.rk lo) && (decide (0 ≤ qu) && decide (qu ≤ 65536))
set_option maxHeartbeats 2000000 in
theorem rule_any (w : World) (p : Nat) (l : List Nat) (nodes : Int) (cv : Value) (h : PlanAt w p l nodes cv) (id : Int) (fr tt : Int) (lo hi : Nat) (au qu : Int) (hlo : lo < 18446744073709551616) (hhi : hi < 18446744073709551616) :
    Calls Try.prog 30 #[.pointer (some ⟨p, 0, none⟩), .agg #[.int .u64 id, .int .i64 fr, .int .i64 tt, .float .f64 lo, .float .f64 hi, .int .u64 au, .int .i64 qu]] w fun e w' => e = .returned (.bool (ruleB l.length fr tt lo hi qu)) ∧ Fr (fun _ => False) w w' := by
  obtain ⟨pl, bu, cu, bd, bo, c9', hL⟩ := h.lat
  have c9 : (w.alloc (.cells #[.int .u64 id, .int .i64 fr, .int .i64 tt, .float .f64 lo, .float .f64 hi, .int .u64 au, .int .i64 qu] 54)).cell? ⟨p, 9, none⟩ = some (.pointer (some ⟨pl, 0, none⟩)) := ((Fr.refl (fun _ => False) w).alloc _).cell c9' (by simp)
  have hL1 := hL.fr ((Fr.refl (fun _ => False) w).alloc (.cells #[.int .u64 id, .int .i64 fr, .int .i64 tt, .float .f64 lo, .float .f64 hi, .int .u64 au, .int .i64 qu] 54))
  have ii : Hid (∀ (q : Nat) (a : Int), Calls Try.prog 46 #[.pointer (some ⟨pl, 0, none⟩), .int .i64 a] ((w.alloc (.cells #[.int .u64 id, .int .i64 fr, .int .i64 tt, .float .f64 lo, .float .f64 hi, .int .u64 au, .int .i64 qu] 54)).drewN q) fun e w' => e = .returned (.bool (isI l a)) ∧ w' = (w.alloc (.cells #[.int .u64 id, .int .i64 fr, .int .i64 tt, .float .f64 lo, .float .f64 hi, .int .u64 au, .int .i64 qu] 54)).drewN q) := fun q a =>
    is_any ((w.alloc (.cells #[.int .u64 id, .int .i64 fr, .int .i64 tt, .float .f64 lo, .float .f64 hi, .int .u64 au, .int .i64 qu] 54)).drewN q) pl bu cu l a (((Fr.refl (fun _ => False) _).drewN q).cell hL1.c0 (by simp))
  have k3 := fun q => less_any hi lo ((w.alloc (.cells #[.int .u64 id, .int .i64 fr, .int .i64 tt, .float .f64 lo, .float .f64 hi, .int .u64 au, .int .i64 qu] 54)).drewN q) hhi hlo
  have k4 := fun q => in_any qu 0 65536 ((w.alloc (.cells #[.int .u64 id, .int .i64 fr, .int .i64 tt, .float .f64 lo, .float .f64 hi, .int .u64 au, .int .i64 qu] 54)).drewN q)
  have hrule : ruleB l.length fr tt lo hi qu = (isI l fr && isI l tt && (fr != tt) && !decide (Fl.rk hi < Fl.rk lo) && (decide (0 ≤ qu) && decide (qu ≤ 65536))) := rfl
  rw [hrule]
  clear h hL hL1 c9' hrule
  generalize (decide (0 ≤ qu) && decide (qu ≤ 65536)) = b5 at *
  generalize decide (Fl.rk hi < Fl.rk lo) = b4 at *
  cases b1' : isI l fr with
  | false =>
    clear k3 k4
    go_enter Try.func30, Try.ntmps30
    go_wp2
    go_quiet (first | (go_at_call 46; refine Calls.quiet_of_same (ii.out _ _)) | (go_at_call 44; refine Calls.quiet_of_same (k3 _)) | (go_at_call 39; refine Calls.quiet_of_same (k4 _)))
    go_wp2
    go_ret
    exact ⟨rfl, ((Fr.refl (fun _ => False) w).alloc _).drewN _⟩
  | true =>
    cases b2' : isI l tt with
    | false =>
      clear k3 k4
      go_enter Try.func30, Try.ntmps30
      go_wp2
      go_quiet (first | (go_at_call 46; refine Calls.quiet_of_same (ii.out _ _)) | (go_at_call 44; refine Calls.quiet_of_same (k3 _)) | (go_at_call 39; refine Calls.quiet_of_same (k4 _)))
      go_wp2
      go_ret
      exact ⟨rfl, ((Fr.refl (fun _ => False) w).alloc _).drewN _⟩
    | true =>
      by_cases hne : fr = tt
      · have hb : (fr != tt) = false := by simpa using hne
        rw [hb]
        subst hne
        clear k3 k4 hb
        go_enter Try.func30, Try.ntmps30
        go_wp2
        go_quiet (first | (go_at_call 46; refine Calls.quiet_of_same (ii.out _ _)) | (go_at_call 44; refine Calls.quiet_of_same (k3 _)) | (go_at_call 39; refine Calls.quiet_of_same (k4 _)))
        go_wp2
        go_ret
        exact ⟨rfl, ((Fr.refl (fun _ => False) w).alloc _).drewN _⟩
      · have hb : (fr != tt) = true := by simpa using hne
        rw [hb]
        cases b4 with
        | true =>
          clear k4
          go_enter Try.func30, Try.ntmps30
          go_wp2
          go_quiet (first | (go_at_call 46; refine Calls.quiet_of_same (ii.out _ _)) | (go_at_call 44; refine Calls.quiet_of_same (k3 _)) | (go_at_call 39; refine Calls.quiet_of_same (k4 _)))
          go_wp2
          go_ret
          exact ⟨rfl, ((Fr.refl (fun _ => False) w).alloc _).drewN _⟩
        | false =>
          cases b5 with
          | true =>
            go_enter Try.func30, Try.ntmps30
            go_wp2
            go_quiet (first | (go_at_call 46; refine Calls.quiet_of_same (ii.out _ _)) | (go_at_call 44; refine Calls.quiet_of_same (k3 _)) | (go_at_call 39; refine Calls.quiet_of_same (k4 _)))
            go_wp2
            go_ret
            exact ⟨rfl, ((Fr.refl (fun _ => False) w).alloc _).drewN _⟩
          | false =>
            go_enter Try.func30, Try.ntmps30
            go_wp2
            go_quiet (first | (go_at_call 46; refine Calls.quiet_of_same (ii.out _ _)) | (go_at_call 44; refine Calls.quiet_of_same (k3 _)) | (go_at_call 39; refine Calls.quiet_of_same (k4 _)))
            go_wp2
            go_ret
            exact ⟨rfl, ((Fr.refl (fun _ => False) w).alloc _).drewN _⟩

end Go.Proofs.Ytjbkmflbhlnbpaa
