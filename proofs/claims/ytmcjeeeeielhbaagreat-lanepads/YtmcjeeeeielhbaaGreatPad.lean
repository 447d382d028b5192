/- The program's Pad: just so many bytes. -/
import Derived.Test.YtmcjeeeeielhbaaGreatAwakeC
import Derived.Test.YtmcjeeeeielhbaaGreatStr
import Derived.Test.YtmcjeeeeielhbaaGreatWithin
import Derived.Laws.CopyOwn
import Derived.Laws.MakeOwn
import Derived.Laws.OwnMore
namespace Go.Proofs.YtmcjeeeeielhbaaGreat
open Go.RowKit
/-- a float is stored in a cell (the kit's laws on stores name no floats). -/
theorem run_store_float {P : Program} {w : World} {a : Addr} {m : Mode} (k : FloatKind) (n : Nat) : (store a (.float k n) m).run P w = stored P w a (.float k n) m := run_store P w a _ m rfl
attribute [local go_sem] run_store_float
theorem row_nil (w : World) : Row w none [] 0 := ⟨Nat.le_refl _, Nat.zero_le _, by simp, fun _ => rfl, fun h => absurd rfl h⟩
def pad (n : Nat) (l : List Nat) : List Nat := l.take n ++ List.replicate (n - l.length) 0
theorem pad_length (n : Nat) (l : List Nat) : (pad n l).length = n := by simp [pad]; omega
theorem pad_lt (n : Nat) (l : List Nat) (h : ∀ x ∈ l, x < 256) : ∀ x ∈ pad n l, x < 256 := by
  intro x hx
  rcases List.mem_append.1 hx with h1 | h1
  · exact h x (List.mem_of_mem_take h1)
  · have := List.eq_of_mem_replicate h1; omega
/-- what a write's bytes become. -/
def pd (del : Bool) (n : Int) (l : List Nat) : List Nat := if del = true ∨ n < 1 then [] else pad n.toNat l
theorem run_make_bytes (w : World) (n : Nat) (h : n ≤ 140737488355328) : (Instr.makeSlice 23 (.int .i64 (n : Int)) (.int .i64 (n : Int))).run Tryz.prog w = .ok (.slice (some ⟨w.heap.size, 0, none⟩) n n) (w.alloc (.cells (cellsOf (List.replicate n 0)).toArray 5)) := by
  obtain ⟨i, hi, hz0, hz1, hz2⟩ := info_parts Tryz.info5
  have := run_make (P := Tryz.prog) w 23 5 i (.int .u8 0) Tryz.underlying23 hi hz0 .i64 .i64 (n : Int) (n : Int) (by omega) (by omega) (by rw [hz2]; omega) (by omega)
  rw [this]
  have e : madeCells (Value.int .u8 0).cells (n * i.size) = (cellsOf (List.replicate n 0)).toArray := by
    apply Array.ext'
    rw [hz1, Nat.mul_one, show (Value.int .u8 0).cells = #[.int .u8 0] from rfl, toList_madeCells_one]
    simp [cellsOf]
  simp only [Int.toNat_natCast]
  rw [e]
theorem Row.hpos {w : World} {ao : Option Addr} {l : List Nat} {cap : Nat} (h : Row w ao l cap) (hl : 0 < (cellsOf l).length) : ∃ ad, ao = some ad ∧ ∀ j v, (cellsOf l)[j]? = some v → w.cell? (ad.add j) = some v := by
  rw [cellsOf_length] at hl
  obtain ⟨b, off, rfl, hc⟩ := h.2.2.2.2 (fun e => by rw [e] at hl; simp at hl)
  refine ⟨_, rfl, fun j v hv => ?_⟩
  have hj : j < l.length := by
    have := (List.getElem?_eq_some_iff.1 hv).1
    rwa [cellsOf_length] at this
  rw [cellsOf_get l j hj] at hv
  cases hv
  rw [show (⟨b, off, none⟩ : Addr).add j = ⟨b, off + j, none⟩ from by unfold Addr.add; split <;> simp_all]
  exact hc j hj
theorem run_copy_pad (w : World) (ty : TypeId) (g n : Nat) (sp : Option Addr) (m : List Nat) (sCap : Nat) (hg : w.heap[g]? = some (.cells (cellsOf (List.replicate n 0)).toArray 5 (0, 0))) (hr : Row w sp m sCap) :
    ∃ v w', (Builtin.copy_ #[23, 23] ty #[.slice (some ⟨g, 0, none⟩) n n, .slice sp m.length sCap]).run Tryz.prog w = .ok v w' ∧ w'.heap[g]? = some (.cells (cellsOf (pad n m)).toArray 5 (0, 0)) ∧ Fr (fun k => k = g) w w' := by
  have hs5 : (Tryz.prog.info? 5).map (·.size) = some 1 := by kernel_rfl
  by_cases h0 : Nat.min m.length n = 0
  · refine ⟨_, w, run_copy_none (P := Tryz.prog) w 23 23 ty 5 _ _ _ _ _ _ Tryz.underlying23 hs5 h0, ?_, Fr.refl _ _⟩
    rw [hg]
    have : pad n m = List.replicate n 0 := by
      have h1 : min m.length n = 0 := h0
      unfold pad
      by_cases hm : m.length = 0
      · have : m = [] := List.eq_nil_of_length_eq_zero hm
        subst this; simp
      · have : n = 0 := by omega
        subst this; simp
    rw [this]
  · have h1 : ¬ min m.length n = 0 := h0
    obtain ⟨ad, rfl, hc⟩ := hr.hpos (by rw [cellsOf_length]; omega)
    have hlen : (cellsOf (m.take n)).length = min m.length n := by rw [cellsOf_length, List.length_take, Nat.min_comm]
    have hrun := run_copy_row (P := Tryz.prog) w 23 23 ty 5 g 0 n n ad m.length sCap _ 5 (cellsOf (m.take n)) Tryz.underlying23 hs5 hg (by rw [hlen]) (fun j v hv => hc j v (by
      have hj : j < (cellsOf (m.take n)).length := (List.getElem?_eq_some_iff.1 hv).1
      rw [hlen] at hj
      rw [cellsOf_get m j (by omega)]
      rw [cellsOf_get (m.take n) j (by simp; omega)] at hv
      have e : (m.take n).getD j 0 = m.getD j 0 := by simp [List.getD_eq_getElem?_getD, show j < n by omega]
      rw [e] at hv
      exact hv)) (by rw [hlen]; simp [cellsOf_length]; omega) (cellsOf_one _)
    refine ⟨_, _, hrun, ?_, ⟨rfl, rfl, rfl, by simp, fun k hk hs => setRow_other w g k _ hs⟩⟩
    rw [setRow_heap w g _ _ 5 _ hg, hlen]
    have e : List.take 0 (cellsOf (List.replicate n 0)).toArray.toList ++ cellsOf (m.take n) ++ List.drop (0 + min m.length n) (cellsOf (List.replicate n 0)).toArray.toList = cellsOf (pad n m) := by
      unfold pad
      rw [cellsOf_append, List.take_zero, List.nil_append, Nat.zero_add]
      unfold cellsOf
      rw [← List.map_drop, List.drop_replicate, show n - min m.length n = n - m.length by omega]
    rw [e]
theorem row_of_cells (w : World) (g : Nat) (l : List Nat) (hg : w.heap[g]? = some (.cells (cellsOf l).toArray 5 (0, 0))) (hl : l.length ≤ maxLen) (hb : ∀ x ∈ l, x < 256) : Row w (some ⟨g, 0, none⟩) l l.length := by
  refine ⟨Nat.le_refl _, hl, hb, fun e => (by cases e), fun _ => ⟨g, 0, rfl, fun i hi => ?_⟩⟩
  rw [Nat.zero_add, cell_of_row w g i _ 5 (0, 0) hg]
  simpa using cellsOf_get l i hi
set_option maxRecDepth 100000 in
set_option maxHeartbeats 4000000 in
theorem pad_any (x : Nat) (del : Bool) (ao : Option Addr) (l : List Nat) (cap : Nat) (n : Int) (w : World) (hr : Row w ao l cap) (hn : -300 < n ∧ n < 300) : Calls Tryz.prog 5 #[.agg #[.float .f64 x, .bool del, .slice ao l.length cap], .int .i64 n] w fun e w' => ∃ a1 c1, e = .returned (.agg #[.float .f64 x, .bool del, .slice a1 (pd del n l).length c1]) ∧ Row w' a1 (pd del n l) c1 ∧ Fr (fun _ => False) w w' := by
  by_cases hd : del = true ∨ n < 1
  · have HP : Hid (pd del n l = []) := if_pos hd
    rw [HP.out]
    clear hr
    cases del with
    | true =>
      clear hd
      go_enter Tryz.func5, Tryz.ntmps5
      go_wp2
      refine bodyPost_ret (v := .agg #[.float .f64 x, .bool true, .slice none 0 0]) ?_ rfl ⟨none, 0, rfl, row_nil _, ((Fr.refl _ w).alloc _).alloc _⟩
      simp [results, Tryz.results5, go_sem]
    | false =>
      have h1 : n < 1 := by simpa using hd
      clear hd
      go_enter Tryz.func5, Tryz.ntmps5
      go_wp2
      refine bodyPost_ret (v := .agg #[.float .f64 x, .bool false, .slice none 0 0]) ?_ rfl ⟨none, 0, rfl, row_nil _, ((Fr.refl _ w).alloc _).alloc _⟩
      simp [results, Tryz.results5, go_sem]
  · have HP : Hid (pd del n l = pad n.toNat l) := if_neg hd
    rw [HP.out]
    have hdel : del = false := by cases del <;> simp_all
    have h1 : ¬ n < 1 := fun h => hd (Or.inr h)
    subst hdel
    obtain ⟨m, rfl⟩ : ∃ m : Nat, n = m := ⟨n.toNat, by omega⟩
    clear hd HP
    rw [show ((m : Int)).toNat = m from rfl]
    have h2 : ¬ (2147483647 : Int) < (m : Int) := by omega
    have HL : Hid ((pad m l).length = m) := pad_length m l
    have HBT : Hid (∀ y ∈ pad m l, y < 256) := pad_lt m l hr.2.2.1
    have F0 : Hid (Fr (fun _ => False) w ((w.alloc (.cells #[.float .f64 x, .bool false, .slice ao l.length cap] 26)).alloc (.cells #[.float .f64 0, .bool false, .slice none 0 0] 26))) := ((Fr.refl _ w).alloc _).alloc _
    have HB : Hid (Z3 ((w.alloc (.cells #[.float .f64 x, .bool false, .slice ao l.length cap] 26)).alloc (.cells #[.float .f64 0, .bool false, .slice none 0 0] 26)) w.heap.size (.float .f64 x) (.bool false) (.slice ao l.length cap)) := (Z3.new w 26 _ _ _).fr ((Fr.refl (fun _ => False) _).alloc _) (by simp)
    have HR : Hid (Z3 ((w.alloc (.cells #[.float .f64 x, .bool false, .slice ao l.length cap] 26)).alloc (.cells #[.float .f64 0, .bool false, .slice none 0 0] 26)) (w.heap.size + 1) (.float .f64 0) (.bool false) (.slice none 0 0)) := (show Z3 _ _ _ _ _ by have := Z3.new (w.alloc (.cells #[.float .f64 x, .bool false, .slice ao l.length cap] 26)) 26 (.float .f64 0) (.bool false) (.slice none 0 0); simpa using this)
    have km := run_make_bytes ((w.alloc (.cells #[.float .f64 x, .bool false, .slice ao l.length cap] 26)).alloc (.cells #[.float .f64 0, .bool false, .slice none 0 0] 26)) m (by omega)
    have f1 : Fr (fun _ => False) ((w.alloc (.cells #[.float .f64 x, .bool false, .slice ao l.length cap] 26)).alloc (.cells #[.float .f64 0, .bool false, .slice none 0 0] 26)) (((w.alloc (.cells #[.float .f64 x, .bool false, .slice ao l.length cap] 26)).alloc (.cells #[.float .f64 0, .bool false, .slice none 0 0] 26)).alloc (.cells (cellsOf (List.replicate m 0)).toArray 5)) := (Fr.refl _ _).alloc _
    have F1 : Hid (Fr (fun _ => False) w (((w.alloc (.cells #[.float .f64 x, .bool false, .slice ao l.length cap] 26)).alloc (.cells #[.float .f64 0, .bool false, .slice none 0 0] 26)).alloc (.cells (cellsOf (List.replicate m 0)).toArray 5))) := F0.out.trans f1
    have hg : (((w.alloc (.cells #[.float .f64 x, .bool false, .slice ao l.length cap] 26)).alloc (.cells #[.float .f64 0, .bool false, .slice none 0 0] 26)).alloc (.cells (cellsOf (List.replicate m 0)).toArray 5)).heap[((w.alloc (.cells #[.float .f64 x, .bool false, .slice ao l.length cap] 26)).alloc (.cells #[.float .f64 0, .bool false, .slice none 0 0] 26)).heap.size]? = some (.cells (cellsOf (List.replicate m 0)).toArray 5 (0, 0)) := heap_alloc_new _ _
    obtain ⟨vc, w4, hcp, hg4, f4⟩ := run_copy_pad _ 3 ((w.alloc (.cells #[.float .f64 x, .bool false, .slice ao l.length cap] 26)).alloc (.cells #[.float .f64 0, .bool false, .slice none 0 0] 26)).heap.size m ao l cap hg (F1.out.row hr (by simp))
    have hsz : ((w.alloc (.cells #[.float .f64 x, .bool false, .slice ao l.length cap] 26)).alloc (.cells #[.float .f64 0, .bool false, .slice none 0 0] 26)).heap.size = w.heap.size + 1 + 1 := by simp
    rw [hsz] at km hcp hg4 f4
    have F4 : Hid (Fr (fun _ => False) w w4) := F1.out.trans' f4 (fun i hi e => by omega)
    have HB4 : Hid (Z3 w4 w.heap.size (.float .f64 x) (.bool false) (.slice ao l.length cap)) := (HB.out.fr f1 (by simp)).fr f4 (by omega)
    have HR4 : Hid (Z3 w4 (w.heap.size + 1) (.float .f64 0) (.bool false) (.slice none 0 0)) := (HR.out.fr f1 (by simp)).fr f4 (by omega)
    have HG4 : Hid (w4.heap[w.heap.size + 1 + 1]? = some (.cells (cellsOf (pad m l)).toArray 5 (0, 0))) := hg4
    obtain ⟨bx, Hbx⟩ : ∃ bx, Hid (w.heap.size = bx) := ⟨_, rfl⟩
    obtain ⟨W5, HW5⟩ : ∃ W, Hid (W = w4.setCell ⟨w.heap.size, 2, none⟩ (.slice (some ⟨w.heap.size + 1 + 1, 0, none⟩) m m)) := ⟨_, rfl⟩
    have F5 : Hid (Fr (fun k => k = w.heap.size) w4 W5) := (show Fr _ _ _ by rw [HW5.out]; exact (Fr.refl (fun k => k = w.heap.size) _).setCell (p := ⟨w.heap.size, 2, none⟩) (Or.inl rfl) _)
    have HB5 : Hid (Z3 W5 w.heap.size (.float .f64 x) (.bool false) (.slice (some ⟨w.heap.size + 1 + 1, 0, none⟩) m m)) := (show Z3 _ _ _ _ _ by rw [HW5.out]; exact ⟨(World.cell?_setCell_other _ _ _ _ (by simp)).trans HB4.out.c0, (World.cell?_setCell_other _ _ _ _ (by simp)).trans HB4.out.c1, World.cell?_setCell_same _ _ _ HB4.out.c2, fun j => by simp; exact HB4.out.z j⟩)
    have HR5 : Hid (Z3 W5 (w.heap.size + 1) (.float .f64 0) (.bool false) (.slice none 0 0)) := HR4.out.fr F5.out (by omega)
    have HG5 : Hid (W5.heap[w.heap.size + 1 + 1]? = some (.cells (cellsOf (pad m l)).toArray 5 (0, 0))) := (F5.out.block _ (Array.getElem?_eq_some_iff.1 HG4.out).1 (by omega)).trans HG4.out
    obtain ⟨b0, b1, b2, bz⟩ := HB4.out
    obtain ⟨c0, c1, c2, cz⟩ := HB5.out
    obtain ⟨r0, r1, r2, rz⟩ := HR5.out
    rw [HW5.out] at c0 c1 c2 cz r0 r1 r2 rz
    clear f1 hg hg4 f4 hsz hr
    go_enter Tryz.func5, Tryz.ntmps5
    go_wp2
    rw [← HW5.out]
    obtain ⟨hq, fq⟩ := HR5.out.put (.float .f64 x) (.bool false) (.slice (some ⟨w.heap.size + 1 + 1, 0, none⟩) m m)
    clear b0 b1 b2 bz c0 c1 c2 cz r0 r1 r2 rz km hcp
    refine bodyPost_ret (v := .agg #[.float .f64 x, .bool false, .slice (some ⟨w.heap.size + 1 + 1, 0, none⟩) m m]) ?_ rfl ⟨some ⟨w.heap.size + 1 + 1, 0, none⟩, m, by rw [HL.out], ?_, (F4.out.trans' F5.out (fun i hi e => by omega)).trans' fq (fun i hi e => by omega)⟩
    · revert hq
      generalize (((W5.setCell _ _).setCell _ _).setCell _ _) = WQ
      intro hq
      obtain ⟨d0, d1, d2, _⟩ := hq
      simp [results, Tryz.results5, go_sem, *]
    · have hgq := (fq.block _ (Array.getElem?_eq_some_iff.1 HG5.out).1 (by omega)).trans HG5.out
      have := row_of_cells _ _ _ hgq (by rw [HL.out]; unfold maxLen; omega) HBT.out
      rw [HL.out] at this
      exact this
end Go.Proofs.YtmcjeeeeielhbaaGreat
