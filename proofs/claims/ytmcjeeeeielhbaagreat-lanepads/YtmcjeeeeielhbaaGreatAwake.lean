/- The law's awake: a new lane, whose first epoch is closed. -/
import Derived.Test.YtmcjeeeeielhbaaGreatBase
import Derived.Carry
import Derived.MapFrom
import Derived.Deep.RegionHeld3
namespace Go.Proofs.YtmcjeeeeielhbaaGreat
open Go.RowKit
/-- A NEW LANE at block sb. -/
structure Nw (w : World) (sb tb mb : Nat) (ep : Int) : Prop where
  c0 : w.cell? ⟨sb, 0, none⟩ = some (.int .u64 ep)
  z0 : w.frozen? ⟨sb, 0, none⟩ = false
  c2 : w.cell? ⟨sb, 2, none⟩ = some (.pointer (some ⟨tb, 0, none⟩))
  c8 : w.cell? ⟨sb, 8, none⟩ = some (.map (some mb))
  t0 : w.cell? ⟨tb, 0, none⟩ = some (.slice none 0 0)
  m0 : w.heap[mb]? = some (.map #[] 0)
  ne1 : tb ≠ sb
  ne2 : mb ≠ sb
theorem Nw.lt {w : World} {sb tb mb : Nat} {ep : Int} (h : Nw w sb tb mb ep) : sb < w.heap.size ∧ tb < w.heap.size ∧ mb < w.heap.size := ⟨World.block_lt_of_cell? _ _ h.c0, World.block_lt_of_cell? _ _ h.t0, (Array.getElem?_eq_some_iff.1 h.m0).1⟩
theorem Nw.fr {w w1 : World} {S : Nat → Prop} {sb tb mb : Nat} {ep : Int} (h : Nw w sb tb mb ep) (f : Fr S w w1) (h1 : ¬ S sb) (h2 : ¬ S tb) (h3 : ¬ S mb) : Nw w1 sb tb mb ep :=
  ⟨f.cell h.c0 h1, (f.frozenEq (a := ⟨sb, 0, none⟩) h.lt.1 h1).trans h.z0, f.cell h.c2 h1, f.cell h.c8 h1, f.cell h.t0 h2, (f.block _ h.lt.2.2 h3).trans h.m0, h.ne1, h.ne2⟩
theorem run_clear_none (w : World) (ty r clock : Nat) (hb : w.heap[r]? = some (.map #[] clock)) : (Builtin.clear_ #[64] ty #[.map (some r)]).run Tryz.prog w = .ok (.tuple #[]) w := by
  have hw : w.heap.setIfInBounds r (.map #[] clock) = w.heap := by
    apply Array.ext_getElem?
    intro i
    rw [Array.getElem?_setIfInBounds]
    split
    · rename_i h
      subst h
      split
      · exact hb.symm
      · rename_i h2
        rw [Array.getElem?_eq_none (by omega)]
    · rfl
  simp [Builtin.clear_, run_underlying Tryz.underlying64, MapKept.run_getObj_map hb, MapKept.run_setObj_map _ hb, Result.andThen, hw]
set_option maxRecDepth 100000 in
set_option maxHeartbeats 4000000 in
theorem new_any (w : World) : Calls Tryz.prog 8 #[.int .i64 4] w fun e w' => ∃ sb tb mb, e = .returned (.pointer (some ⟨sb, 0, none⟩)) ∧ Nw w' sb tb mb 1 ∧ (w.heap.size ≤ sb ∧ w.heap.size ≤ tb ∧ w.heap.size ≤ mb) ∧ Fr (fun _ => False) w w' := by
  have km := fun (W : World) => run_makeMap (P := Tryz.prog) 63 W
  have kn := fun (W : World) => run_makeMap (P := Tryz.prog) 64 W
  have hA : (w.alloc (.cells #[.slice none 0 0] 75)).cell? ⟨w.heap.size, 0, none⟩ = some (.slice none 0 0) := by simp
  have fA : Fr (fun _ => False) (w.alloc (.cells #[.slice none 0 0] 75)) ((((((w.alloc (.cells #[.slice none 0 0] 75)).alloc (.cells #[.slice none 0 0] 78)).alloc (.cells #[.map none] 81)).alloc (.cells #[.slice none 0 0] 84)).alloc (.map #[] 0)).alloc (.map #[] 0)) := (((((Fr.refl (fun _ => False) _).alloc _).alloc _).alloc _).alloc _).alloc _
  have hM : ((((((w.alloc (.cells #[.slice none 0 0] 75)).alloc (.cells #[.slice none 0 0] 78)).alloc (.cells #[.map none] 81)).alloc (.cells #[.slice none 0 0] 84)).alloc (.map #[] 0)).alloc (.map #[] 0)).heap[(((((w.alloc (.cells #[.slice none 0 0] 75)).alloc (.cells #[.slice none 0 0] 78)).alloc (.cells #[.map none] 81)).alloc (.cells #[.slice none 0 0] 84)).alloc (.map #[] 0)).heap.size]? = some (.map #[] 0) := heap_alloc_new _ _
  have hsz : (((((w.alloc (.cells #[.slice none 0 0] 75)).alloc (.cells #[.slice none 0 0] 78)).alloc (.cells #[.map none] 81)).alloc (.cells #[.slice none 0 0] 84)).alloc (.map #[] 0)).heap.size = w.heap.size + 1 + 1 + 1 + 1 + 1 := by simp
  have hs6 : ((((((w.alloc (.cells #[.slice none 0 0] 75)).alloc (.cells #[.slice none 0 0] 78)).alloc (.cells #[.map none] 81)).alloc (.cells #[.slice none 0 0] 84)).alloc (.map #[] 0)).alloc (.map #[] 0)).heap.size = w.heap.size + 1 + 1 + 1 + 1 + 1 + 1 := by simp
  obtain ⟨W6, HW6⟩ : ∃ W, Hid (W = ((((((w.alloc (.cells #[.slice none 0 0] 75)).alloc (.cells #[.slice none 0 0] 78)).alloc (.cells #[.map none] 81)).alloc (.cells #[.slice none 0 0] 84)).alloc (.map #[] 0)).alloc (.map #[] 0))) := ⟨_, rfl⟩
  have F6 : Fr (fun _ => False) w W6 := by rw [HW6.out]; exact ((((((Fr.refl (fun _ => False) w).alloc _).alloc _).alloc _).alloc _).alloc _).alloc _
  have HT : W6.cell? ⟨w.heap.size, 0, none⟩ = some (.slice none 0 0) := by rw [HW6.out]; exact fA.cell hA (by simp)
  have HM : W6.heap[w.heap.size + 1 + 1 + 1 + 1 + 1]? = some (.map #[] 0) := by rw [HW6.out, ← hsz]; exact hM
  rw [← HW6.out] at hs6
  have HH : Hid (Fr (fun _ => False) w W6 ∧ W6.cell? ⟨w.heap.size, 0, none⟩ = some (.slice none 0 0) ∧ W6.heap[w.heap.size + 1 + 1 + 1 + 1 + 1]? = some (.map #[] 0) ∧ W6.heap.size = w.heap.size + 1 + 1 + 1 + 1 + 1 + 1) := ⟨F6, HT, HM, hs6⟩
  clear hA fA hM hsz hs6 F6 HT HM
  go_enter Tryz.func8, Tryz.ntmps8
  go_wp2
  go_ret
  rw [← HW6.out]
  obtain ⟨F6, HT, HM, hs6⟩ := HH.out
  have fz : Fr (fun _ => False) W6 (W6.alloc (.cells #[.int .u64 1, .int .i64 4, .pointer (some ⟨w.heap.size, 0, none⟩), .pointer (some ⟨w.heap.size + 1, 0, none⟩), .pointer (some ⟨w.heap.size + 1 + 1, 0, none⟩), .pointer (some ⟨w.heap.size + 1 + 1 + 1, 0, none⟩), .slice none 0 0, .map (some (w.heap.size + 1 + 1 + 1 + 1)), .map (some (w.heap.size + 1 + 1 + 1 + 1 + 1))] 67)) := (Fr.refl _ _).alloc _
  refine ⟨w.heap.size + 1 + 1 + 1 + 1 + 1 + 1, w.heap.size, w.heap.size + 1 + 1 + 1 + 1 + 1, rfl, ⟨?_, ?_, ?_, ?_, fz.cell HT (by simp), (fz.block _ (Array.getElem?_eq_some_iff.1 HM).1 (by simp)).trans HM, by omega, by omega⟩, ⟨by omega, by omega, by omega⟩, F6.trans fz⟩ <;> rw [← hs6] <;> simp
end Go.Proofs.YtmcjeeeeielhbaaGreat
