/- The program's joiner of one message. -/
import Derived.Test.YtpnjcpamhelaeaaDoorMap
import Derived.Test.YtpnjcpamhelaeaaDoorOff
import Derived.Deep.QuietTactic
import Derived.BigQuiet
namespace Go.Proofs.YtpnjcpamhelaeaaDoor
open Go.RowKit

set_option maxHeartbeats 1000000 in
theorem index_nil (fv : Value) (w : World) : Calls Tryd.prog 51 #[.slice none 0 0, fv] w fun e w' => e = .returned (.int .i64 (-1)) ∧ w' = w := by
  go_enter Tryd.func51, Tryd.ntmps51
  go_wp2
  refine wp_loop_rounds 1 ?_
  rw [rounds_succ]
  go_wp2
  go_ret
  exact ⟨rfl, rfl⟩
/-- A JOINER at block jb with one message: its name, and its parts. -/
structure Jo (w : World) (jb g cp mb id of : Nat) (es : List (Nat × Value)) : Prop where
  c : w.cell? ⟨jb, 0, none⟩ = some (.slice (some ⟨g, 0, none⟩) 1 cp)
  z : w.frozen? ⟨jb, 0, none⟩ = false
  m0 : w.cell? ⟨g, 0, none⟩ = some (.int .u64 (id : Int))
  m1 : w.cell? ⟨g, 1, none⟩ = some (.int .i64 (of : Int))
  m2 : w.cell? ⟨g, 2, none⟩ = some (.map (some mb))
  zg : ∀ j, w.frozen? ⟨g, j, none⟩ = false
  mp : MapAt w mb es
  d1 : jb ≠ g
  d2 : jb ≠ mb
  d3 : g ≠ mb
  cap : 1 ≤ cp ∧ cp ≤ 9223372036854775807
theorem Jo.lt {w : World} {jb g cp mb id of : Nat} {es : List (Nat × Value)} (h : Jo w jb g cp mb id of es) : jb < w.heap.size ∧ g < w.heap.size ∧ mb < w.heap.size := ⟨World.block_lt_of_cell? _ _ h.c, World.block_lt_of_cell? _ _ h.m0, h.mp.lt⟩
theorem Jo.fr {S : Nat → Prop} {w w1 : World} {jb g cp mb id of : Nat} {es : List (Nat × Value)} (h : Jo w jb g cp mb id of es) (f : Fr S w w1) (h1 : ¬ S jb) (h2 : ¬ S g) (h3 : ¬ S mb) : Jo w1 jb g cp mb id of es :=
  ⟨f.cell h.c h1, (f.frozenEq h.lt.1 h1).trans h.z, f.cell h.m0 h2, f.cell h.m1 h2, f.cell h.m2 h2, fun j => (f.frozenEq (a := ⟨g, j, none⟩) h.lt.2.1 h2).trans (h.zg j), h.mp.fr f h3, h.d1, h.d2, h.d3, h.cap⟩
theorem Tryd.info76 : (Tryd.prog.info? 76).map (fun i => (i.zero, i.size, i.bytes)) = some (some (.agg #[.int .u64 0, .int .i64 0, .map none]), 3, 24) := by kernel_rfl
theorem begin_run (w : World) (x0 x1 x2 : Value) (ty : TypeId) (h1 : ∀ u ∈ [x0, x1, x2], u.oneCell' = true) : ∃ cp w', (Builtin.append_ #[45, 45] ty #[.slice none 0 0, .slice (some ⟨w.heap.size, 0, none⟩) 1 1]).run Tryd.prog (w.alloc (.cells #[x0, x1, x2] 76)) = .ok (.slice (some ⟨w.heap.size + 1, 0, none⟩) 1 cp) w' ∧
    w'.cell? ⟨w.heap.size + 1, 0, none⟩ = some x0 ∧ w'.cell? ⟨w.heap.size + 1, 1, none⟩ = some x1 ∧ w'.cell? ⟨w.heap.size + 1, 2, none⟩ = some x2 ∧ (∀ j, w'.frozen? ⟨w.heap.size + 1, j, none⟩ = false) ∧ (1 ≤ cp ∧ cp ≤ 9223372036854775807) ∧ Fr (fun _ => False) w w' := by
  obtain ⟨i, hi, hz0, hz1, hz2⟩ := info_parts Tryd.info76
  have hnews : ∀ j v, [x0, x1, x2][j]? = some v → (w.alloc (.cells #[x0, x1, x2] 76)).cell? ((⟨w.heap.size, 0, none⟩ : Addr).add j) = some v := fun j v hj => by
    rw [show (⟨w.heap.size, 0, none⟩ : Addr).add j = ⟨w.heap.size, j, none⟩ from by unfold Addr.add; split <;> simp_all, cell_of_row _ w.heap.size j _ 76 (0, 0) (heap_alloc_new w _)]
    simpa using hj
  obtain ⟨v', w', hrun, ho, hg, hiff⟩ := run_append_own (P := Tryd.prog) (w.alloc (.cells #[x0, x1, x2] 76)) (w.heap.size + 1) 45 ty 76 i _ 3 24 Tryd.underlying45 hi hz0 hz1 hz2 rfl (by decide) (.slice none 0 0) 0 [] (World.ownsRow_nil _ _ _ _) ⟨w.heap.size, 0, none⟩ 1 1 [x0, x1, x2] rfl hnews h1 (by unfold maxLen; omega) (by omega) (by simp)
  have hr := run_append_nil (P := Tryd.prog) (w.alloc (.cells #[x0, x1, x2] 76)) 45 ty 76 i _ Tryd.underlying45 hi hz0 ⟨w.heap.size, 0, none⟩ 1 1 [x0, x1, x2] (by rw [hz1]; rfl) hnews (by omega) (by omega) (by rw [hz2]; omega)
  have hr' := hr
  rw [hrun] at hr
  injection hr with e1 e2
  rw [e1] at ho
  obtain ⟨_, hn | ⟨g, cap, cur, he, hbg, hgg, hn, hm, hs, ht⟩⟩ := ho
  · cases hn.1
  have he' := he
  injection he' with a1 a2 a3
  injection a1 with a1
  have hgs : w.heap.size + 1 = g := by have := congrArg Addr.block a1; simpa using this
  subst hgs
  have hc : ∀ j, j < 3 → w'.cell? ⟨w.heap.size + 1, j, none⟩ = [x0, x1, x2][j]? := fun j hj => by
    rw [cell_of_row w' _ j cur 76 (0, 0) hgg]
    have : ([x0, x1, x2] : List Value)[j]? = (List.take (1 * 3) cur.toList)[j]? := by rw [ht]; rfl
    rw [this, List.getElem?_take, if_pos (by omega)]
    simp
  refine ⟨cap, w', ?_, hc 0 (by omega), hc 1 (by omega), hc 2 (by omega), fun j => by simp [World.frozen?, hgg], ?_, ((Fr.refl _ w).alloc _).grown hg (fun k e => by simp [Value.ownBlock] at e)⟩
  · rw [hrun, e1, he]
  · unfold maxLen at hm
    omega
end Go.Proofs.YtpnjcpamhelaeaaDoor
