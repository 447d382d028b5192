/- config.New's errors. -/
import Derived.Test.YtjbkmflbhlnbpaaChkA
namespace Go.Proofs.Ytjbkmflbhlnbpaa
open Go.RowKit

set_option maxHeartbeats 1000000 in
theorem cnew_bad1 (ao2 : Option Addr) (n2 cap2 : Nat) (ao : Option Addr) (n cap : Nat) (rise : Bool) (nodes frame depth quota wide beat elect : Int) (w : World) (hr : ∀ W, Fr (fun _ => False) w W → Calls Try.prog 48 #[.slice ao n cap] W fun e w' => e = .returned (.bool rise) ∧ ∃ q, w' = W.drewN q) (h : ¬ InB n rise nodes frame depth quota wide beat elect) :
    Calls Try.prog 10 #[.agg (cfg (.slice ao2 n2 cap2) nodes (.slice ao n cap) frame depth quota wide beat elect)] w fun e w' => e = nilErr 1 ∧ Fr (fun _ => False) w w' := by
  have f0 : Fr (fun _ => False) w (w.alloc (.cells (cfg (.slice ao2 n2 cap2) nodes (.slice ao n cap) frame depth quota wide beat elect) 25)) := (Fr.refl _ _).alloc _
  have k1 := bounded_bad (.slice ao2 n2 cap2) ao n cap rise nodes frame depth quota wide beat elect (w.alloc (.cells (cfg (.slice ao2 n2 cap2) nodes (.slice ao n cap) frame depth quota wide beat elect) 25)) (fun W fW => hr W (f0.trans fW)) h
  unfold cfg at k1 f0 ⊢
  clear hr h
  go_enter Try.func10, Try.ntmps10
  go_wp2_with fail
  refine k1.mono ?_
  rintro e w1 ⟨rfl, f1⟩
  clear k1
  go_wp2
  go_ret2
  exact ⟨rfl, f0.trans f1⟩
set_option maxHeartbeats 1000000 in
theorem cnew_bad2 (ao2 : Option Addr) (n2 cap2 : Nat) (ao : Option Addr) (n cap : Nat) (nodes frame depth quota wide beat elect : Int) (w : World) (hr : ∀ W, Fr (fun _ => False) w W → Calls Try.prog 48 #[.slice ao n cap] W fun e w' => e = .returned (.bool true) ∧ ∃ q, w' = W.drewN q) (h : InB n true nodes frame depth quota wide beat elect)
    (r : Int) (hz : (r == 0) = false) (hk : ∀ W, Fr (fun _ => False) w W → Calls Try.prog 33 #[.slice ao2 n2 cap2] W fun e w' => e = nilErr r ∧ Fr (fun _ => False) W w') :
    Calls Try.prog 10 #[.agg (cfg (.slice ao2 n2 cap2) nodes (.slice ao n cap) frame depth quota wide beat elect)] w fun e w' => e = nilErr r ∧ Fr (fun _ => False) w w' := by
  obtain ⟨h1, h2, _, h4, h5, h6, h7, h8, h9, h10⟩ := h
  have r0 : (w.alloc (.cells (cfg (.slice ao2 n2 cap2) nodes (.slice ao n cap) frame depth quota wide beat elect) 25)).rowIs w.heap.size 25 9 (fun i => (cfg (.slice ao2 n2 cap2) nodes (.slice ao n cap) frame depth quota wide beat elect).getD i undef) := World.rowIs_alloc w (cfg (.slice ao2 n2 cap2) nodes (.slice ao n cap) frame depth quota wide beat elect) 25 (fun i => (cfg (.slice ao2 n2 cap2) nodes (.slice ao n cap) frame depth quota wide beat elect).getD i undef) (fun i hi => by simp [hi])
  have f0 : Fr (fun _ => False) w (w.alloc (.cells (cfg (.slice ao2 n2 cap2) nodes (.slice ao n cap) frame depth quota wide beat elect) 25)) := (Fr.refl _ _).alloc _
  have k1 := bounded_draw (.slice ao2 n2 cap2) ao n cap nodes frame depth quota wide beat elect (w.alloc (.cells (cfg (.slice ao2 n2 cap2) nodes (.slice ao n cap) frame depth quota wide beat elect) 25)) h1 (by omega) (fun W fW => hr W (f0.trans fW)) h4 h5 h6 h7 h8 h9 h10
  unfold cfg at k1 r0 f0 ⊢
  clear hr h1 h2 h4 h5 h6 h7 h8 h9 h10
  go_enter Try.func10, Try.ntmps10
  go_wp2_with fail
  refine k1.mono ?_
  rintro e w1 ⟨rfl, f1⟩
  clear k1
  have r1 := f1.rowIs r0 (by simp)
  have c0 : w1.cell? ⟨w.heap.size, 0, none⟩ = some (.slice ao2 n2 cap2) := r1.cell (i := 0) (by omega)
  have f01 := f0.trans f1
  have k2 := hk w1 f01
  unfold nilErr at k2
  clear r0 r1 f0 f1 hk
  go_wp2_with fail
  refine k2.mono ?_
  rintro e w2 ⟨rfl, f2⟩
  clear k2 c0
  go_wp2
  go_ret2
  exact ⟨rfl, f01.trans f2⟩
end Go.Proofs.Ytjbkmflbhlnbpaa
