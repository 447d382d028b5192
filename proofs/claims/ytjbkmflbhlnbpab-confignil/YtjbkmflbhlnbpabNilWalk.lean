/- The law ConfigNil. -/
import Derived.Test.YtjbkmflbhlnbpabNilA
import Derived.Test.YtjbkmflbhlnbpabNilB
namespace Go.Proofs.Ytjbkmflbhlnbpab
open Go.RowKit

theorem rowIs_lay (w : World) (cs : Array Value) (t : TypeId) : (w.alloc (.cells cs t)).rowIs w.heap.size t cs.size (fun i => cs.getD i undef) := World.rowIs_alloc w cs t _ (fun i hi => by simp [hi])
set_option maxHeartbeats 2000000 in
theorem nil_walk (x : Nat) (i : Int) (a b c : Int) (o1 o2 o3 : Option Addr) (n1 n2 n3 c1 c2 c3 : Nat) (id fr tt : Int) (lo hi : Nat) (au qu : Int) (w : World) :
    Calls Try.prog 3 #[.float .f64 x, .int .i64 i, .agg #[.int .u64 a, .int .u64 b, .int .i64 c, .slice o1 n1 c1, .slice o2 n2 c2, .slice o3 n3 c3], .agg #[.int .u64 id, .int .i64 fr, .int .i64 tt, .float .f64 lo, .float .f64 hi, .int .u64 au, .int .i64 qu]] w fun e w' => e = .returned (.bool true) ∧ Fr (fun _ => False) w w' := by
  have f0 : Fr (fun _ => False) w ((w.alloc (.cells #[.int .u64 a, .int .u64 b, .int .i64 c, .slice o1 n1 c1, .slice o2 n2 c2, .slice o3 n3 c3] 28)).alloc (.cells #[.int .u64 id, .int .i64 fr, .int .i64 tt, .float .f64 lo, .float .f64 hi, .int .u64 au, .int .i64 qu] 30)) := ((Fr.refl _ _).alloc _).alloc _
  have k1 := awake_any ((w.alloc (.cells #[.int .u64 a, .int .u64 b, .int .i64 c, .slice o1 n1 c1, .slice o2 n2 c2, .slice o3 n3 c3] 28)).alloc (.cells #[.int .u64 id, .int .i64 fr, .int .i64 tt, .float .f64 lo, .float .f64 hi, .int .u64 au, .int .i64 qu] 30))
  have r0 : ((w.alloc (.cells #[.int .u64 a, .int .u64 b, .int .i64 c, .slice o1 n1 c1, .slice o2 n2 c2, .slice o3 n3 c3] 28)).alloc (.cells #[.int .u64 id, .int .i64 fr, .int .i64 tt, .float .f64 lo, .float .f64 hi, .int .u64 au, .int .i64 qu] 30)).rowIs w.heap.size 28 6 (fun i => (#[.int .u64 a, .int .u64 b, .int .i64 c, .slice o1 n1 c1, .slice o2 n2 c2, .slice o3 n3 c3] : Array Value).getD i undef) := ((Fr.refl (fun _ => False) _).alloc _).rowIs (rowIs_lay w #[.int .u64 a, .int .u64 b, .int .i64 c, .slice o1 n1 c1, .slice o2 n2 c2, .slice o3 n3 c3] 28) (by simp)
  have q0 : ((w.alloc (.cells #[.int .u64 a, .int .u64 b, .int .i64 c, .slice o1 n1 c1, .slice o2 n2 c2, .slice o3 n3 c3] 28)).alloc (.cells #[.int .u64 id, .int .i64 fr, .int .i64 tt, .float .f64 lo, .float .f64 hi, .int .u64 au, .int .i64 qu] 30)).rowIs (w.heap.size + 1) 30 7 (fun i => (#[.int .u64 id, .int .i64 fr, .int .i64 tt, .float .f64 lo, .float .f64 hi, .int .u64 au, .int .i64 qu] : Array Value).getD i undef) := by
    have := rowIs_lay (w.alloc (.cells #[.int .u64 a, .int .u64 b, .int .i64 c, .slice o1 n1 c1, .slice o2 n2 c2, .slice o3 n3 c3] 28)) #[.int .u64 id, .int .i64 fr, .int .i64 tt, .float .f64 lo, .float .f64 hi, .int .u64 au, .int .i64 qu] 30
    simpa using this
  go_enter Try.func3, Try.ntmps3
  go_wp2_with fail
  refine (k1).mono ?_
  rintro e w1 ⟨rfl, f1⟩
  clear k1
  have r1 := f1.rowIs r0 (by simp)
  have HQ1 : Hid (World.rowIs _ _ _ _ _) := f1.rowIs q0 (by simp)
  have HF1 : Hid (Fr (fun _ => False) w w1) := f0.trans f1
  clear f0 f1 r0 q0
  go_wp2_with fail
  refine (nshards _).mono ?_
  rintro e w9 ⟨rfl, hw⟩
  subst w9
  go_wp2_with fail
  refine (nlanes _).mono ?_
  rintro e w9 ⟨rfl, hw⟩
  subst w9
  go_wp2_with fail
  refine (nrules _).mono ?_
  rintro e w9 ⟨rfl, hw⟩
  subst w9
  go_wp2_with fail
  refine (nl0 _).mono ?_
  rintro e w9 ⟨rfl, hw⟩
  subst w9
  go_wp2_with fail
  refine (nshard _ _).mono ?_
  rintro e w9 ⟨rfl, hw⟩
  subst w9
  go_wp2_with fail
  refine (nlane _ _).mono ?_
  rintro e w9 ⟨rfl, hw⟩
  subst w9
  go_wp2_with fail
  refine (nchief _ _).mono ?_
  rintro e w9 ⟨rfl, hw⟩
  subst w9
  go_wp2_with fail
  refine (nlabel _ _).mono ?_
  rintro e w9 ⟨rfl, hw⟩
  subst w9
  go_wp2_with fail
  refine (npart _ _).mono ?_
  rintro e w9 ⟨rfl, hw⟩
  subst w9
  go_wp2_with fail
  refine (nnode _ _).mono ?_
  rintro e w9 ⟨rfl, hw⟩
  subst w9
  go_wp2_with fail
  refine (nall _).mono ?_
  rintro e w9 ⟨rfl, hw⟩
  subst w9
  have d0 : w1.cell? ⟨w.heap.size, 0, none⟩ = some (.int .u64 a) := r1.cell (i := 0) (by omega)
  have d1 : w1.cell? ⟨w.heap.size, 1, none⟩ = some (.int .u64 b) := r1.cell (i := 1) (by omega)
  have d2 : w1.cell? ⟨w.heap.size, 2, none⟩ = some (.int .i64 c) := r1.cell (i := 2) (by omega)
  have d3 : w1.cell? ⟨w.heap.size, 3, none⟩ = some (.slice o1 n1 c1) := r1.cell (i := 3) (by omega)
  have d4 : w1.cell? ⟨w.heap.size, 4, none⟩ = some (.slice o2 n2 c2) := r1.cell (i := 4) (by omega)
  have d5 : w1.cell? ⟨w.heap.size, 5, none⟩ = some (.slice o3 n3 c3) := r1.cell (i := 5) (by omega)
  clear r1
  go_wp2_with fail
  refine (ntxn a b c o1 o2 o3 n1 n2 n3 c1 c2 c3 _).mono ?_
  rintro e w2 ⟨rfl, f2⟩
  have q2 := f2.rowIs HQ1.out (by simp)
  have HF2 : Hid (Fr (fun _ => False) w w2) := HF1.out.trans f2
  clear d0 d1 d2 d3 d4 d5 HQ1 HF1 f2
  have g0 : w2.cell? ⟨w.heap.size + 1, 0, none⟩ = some (.int .u64 id) := q2.cell (i := 0) (by omega)
  have g1 : w2.cell? ⟨w.heap.size + 1, 1, none⟩ = some (.int .i64 fr) := q2.cell (i := 1) (by omega)
  have g2 : w2.cell? ⟨w.heap.size + 1, 2, none⟩ = some (.int .i64 tt) := q2.cell (i := 2) (by omega)
  have g3 : w2.cell? ⟨w.heap.size + 1, 3, none⟩ = some (.float .f64 lo) := q2.cell (i := 3) (by omega)
  have g4 : w2.cell? ⟨w.heap.size + 1, 4, none⟩ = some (.float .f64 hi) := q2.cell (i := 4) (by omega)
  have g5 : w2.cell? ⟨w.heap.size + 1, 5, none⟩ = some (.int .u64 au) := q2.cell (i := 5) (by omega)
  have g6 : w2.cell? ⟨w.heap.size + 1, 6, none⟩ = some (.int .i64 qu) := q2.cell (i := 6) (by omega)
  clear q2
  go_wp2_with fail
  refine (nrule id fr tt lo hi au qu _).mono ?_
  rintro e w3 ⟨rfl, f3⟩
  go_wp2
  go_ret
  exact ⟨rfl, HF2.out.trans f3⟩
end Go.Proofs.Ytjbkmflbhlnbpab
