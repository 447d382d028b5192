/- What byDepth makes: the labels in the document's order. -/
import Derived.Test.YtjbkmflbhlnbpaaDepth
namespace Go.Proofs.Ytjbkmflbhlnbpaa
open Go.RowKit Go.Shelf Go.Lib Go.Sort

theorem Try.info3 : (Try.prog.info? 3).map (fun i => (i.zero, i.size, i.bytes)) = some (some (.int .i64 0), 1, 8) := by kernel_rfl
def encF {n : Nat} (i : Fin n) : Value := .int .i64 (i.val : Int)
theorem closure_any (up : List Nat) (bx gd : Nat) (W : World) (hn : up.length ≤ 64) (hbx : W.cell? ⟨bx, 0, none⟩ = some (.slice (some ⟨gd, 0, none⟩) up.length up.length)) (hr : ∀ i, i < up.length → W.cell? ⟨gd, i, none⟩ = some (.int .u64 ((Lat.downOf up i : Nat) : Int))) (x y : Fin up.length) :
    Calls Try.prog 61 #[encF x, encF y, .pointer (some ⟨bx, 0, none⟩)] W fun e w' => e = .returned (.int .i64 (cfL up x y)) ∧ ∃ q os, w' = grow (W.drewN q) os := by
  have hlt : ∀ a, Lat.downOf up a < 18446744073709551616 := fun a => Nat.lt_of_lt_of_le (Lat.downOf_lt up a) (by have := Nat.pow_le_pow_right (n := 2) (by decide) hn; simpa using this)
  have h := closure_of (Ones.pop 64) Lib.compareInt orI (fun m w hm => ones_any m w hm) compare_any (fun W x y => or_any W.heap.size x y _ (two_cells W _ _).1 (two_cells W _ _).2)
    bx gd up.length x.val y.val (Lat.downOf up x.val) (Lat.downOf up y.val) W x.isLt y.isLt hbx (hr x.val x.isLt) (hr y.val y.isLt) (hlt _) (hlt _)
  rw [pop_down up x.val hn, pop_down up y.val hn] at h
  exact h

theorem sort_cell {n : Nat} [Inhabited (Fin n)] (w : World) (g q : Nat) (d : Array (Fin n)) (os : Array Obj) (a : Addr) (ha : a.block < w.heap.size) (hne : a.block ≠ g) :
    (sortWorld encF w g 0 q d os).cell? a = w.cell? a := by
  unfold sortWorld
  rw [cell?_grow _ _ _ (by simpa using ha), cell?_putRow_other _ _ _ _ _ _ (.inl hne)]
  rfl
theorem sort_fr {n : Nat} [Inhabited (Fin n)] (w : World) (g q : Nat) (d : Array (Fin n)) (os : Array Obj) : Fr (fun k => k = g) w (sortWorld encF w g 0 q d os) := by
  refine ⟨rfl, rfl, rfl, by unfold sortWorld; simp, fun k hk hs => ?_⟩
  unfold sortWorld
  rw [heap_grow_old _ _ (by simpa using hk)]
  simp [putRow, mapBlock, Array.getElem?_modify, Ne.symm hs]
set_option maxHeartbeats 400000 in
theorem sort_any (l : List Nat) (bx gd g : Nat) (w : World) (hl : l.length ≤ 64) (hl0 : 0 < l.length)
    (hbx : w.cell? ⟨bx, 0, none⟩ = some (.slice (some ⟨gd, 0, none⟩) l.length l.length)) (hr : ∀ i, i < l.length → w.cell? ⟨gd, i, none⟩ = some (.int .u64 ((Lat.downOf l i : Nat) : Int)))
    (hg : w.rowIs g 3 l.length (fun j => .int .i64 (j : Int))) (h1 : bx ≠ g) (h2 : gd ≠ g) :
    Calls Try.prog 60 #[.slice (some ⟨g, 0, none⟩) l.length l.length, .func (.func 61) #[] #[.pointer (some ⟨bx, 0, none⟩)]] w fun e w' => e = .returned (.tuple #[]) ∧ At .i64 w' g 0 (Lat.order l) ∧ Fr (fun k => k = g) w w' := by
  letI : Inhabited (Fin l.length) := ⟨⟨0, hl0⟩⟩
  have hsz : (List.finRange l.length).toArray.size = l.length := by simp
  have hgl := hg.lt
  have hH : Holds encF w g 0 (List.finRange l.length).toArray := fun j hj => by
    rw [hsz] at hj
    rw [Nat.zero_add]
    refine ⟨(hg.cell hj).trans ?_, hg.frozen j⟩
    congr 1
    simp [encF, hj]
  have eg : ∀ args w, (callFunc 61 args).run Try.prog w = .ok (.enter 61 args) w := enters_of Try.func61 (by kernel_rfl) rfl
  have hS := Any.slices_SortFunc_total Try.sortL encF (fun _ => rfl) (cfL l) (swoL l) 61 #[.pointer (some ⟨bx, 0, none⟩)] g 0 l.length (List.finRange l.length).toArray w eg
    (fun m os dk hs x y => closure_any l bx gd _ hl
      (by rw [sort_cell w g m dk os _ (World.block_lt_of_cell? _ _ hbx) h1]; exact hbx)
      (fun i hi => by rw [sort_cell w g m dk os _ (World.block_lt_of_cell? _ _ (hr i hi)) h2]; exact hr i hi) x y)
    hH hgl (by rw [hsz]; omega) (totL l)
  change Calls Try.prog 60 _ _ _ at hS
  rw [hsz] at hS
  refine hS.mono ?_
  rintro e w' ⟨rfl, q, os, rfl⟩
  refine ⟨rfl, ?_, sort_fr w g q _ os⟩
  have ho := sorted_order l
  have hlen : ((List.finRange l.length).mergeSort fun x y => !ltOf (cfL l) y x).length = l.length := by
    have := congrArg List.length ho
    rwa [List.length_map, Lat.order_length] at this
  simp only
  generalize ((List.finRange l.length).mergeSort fun x y => !ltOf (cfL l) y x) = L at *
  intro i hi
  rw [Lat.order_length] at hi
  unfold sortWorld
  rw [cell?_grow _ _ _ (by simpa using hgl), cell?_putRow encF (Go.Sort.ahead w q) g 0 (List.finRange l.length).toArray L.toArray hH (by simp [hlen]) i (by simpa [hlen] using hi), ← ho]
  congr 1
  simp [encF, hlen, hi]

set_option maxHeartbeats 1000000 in
theorem bydepth_any (l : List Nat) (gd : Nat) (w : World) (hl : l.length ≤ 64) (hl0 : 0 < l.length) (hr : w.rowIs gd 42 l.length (fun i => .int .u64 (((Lat.turn l).getD i 0 : Nat) : Int))) :
    Calls Try.prog 53 #[.slice (some ⟨gd, 0, none⟩) l.length l.length] w fun e w' => ∃ g, e = .returned (.slice (some ⟨g, 0, none⟩) l.length l.length) ∧ w.heap.size ≤ g ∧ At .i64 w' g 0 (Lat.order l) ∧ Fr (fun _ => False) w w' := by
  have hmk := run_make_row' (P := Try.prog) 39 3 (.int .i64 0) 8 Try.underlying39 Try.info3 rfl .i64 .i64 l.length (by omega) (by omega)
  have hgd := hr.lt
  have f0 : Fr (fun _ => False) w ((w.alloc (.cells #[.slice (some ⟨gd, 0, none⟩) l.length l.length] 22)).alloc (.cells (madeCells #[.int .i64 0] l.length) 3)) := ((Fr.refl _ _).alloc _).alloc _
  have r0 : ((w.alloc (.cells #[.slice (some ⟨gd, 0, none⟩) l.length l.length] 22)).alloc (.cells (madeCells #[.int .i64 0] l.length) 3)).rowIs (w.heap.size + 1) 3 l.length (fun _ => .int .i64 0) := by
    have := World.rowIs_made (w.alloc (.cells #[.slice (some ⟨gd, 0, none⟩) l.length l.length] 22)) (.int .i64 0) l.length 3
    simpa using this
  have b0 : ((w.alloc (.cells #[.slice (some ⟨gd, 0, none⟩) l.length l.length] 22)).alloc (.cells (madeCells #[.int .i64 0] l.length) 3)).rowIs w.heap.size 22 1 (fun _ => .slice (some ⟨gd, 0, none⟩) l.length l.length) := by
    have := World.rowIs_alloc w #[.slice (some ⟨gd, 0, none⟩) l.length l.length] 22 (fun _ => .slice (some ⟨gd, 0, none⟩) l.length l.length) (fun i hi => by simp at hi; subst hi; rfl)
    exact this.alloc _
  obtain ⟨bx, Hbx⟩ : ∃ g, Hid (w.heap.size = g) := ⟨_, rfl⟩
  rw [Hbx.out] at r0 b0 hgd
  go_enter Try.func53, Try.ntmps53
  go_wp2
  rw [Hbx.out]
  go_loopw [4, 10] (fun _ i wr => ∃ k : Nat, k ≤ l.length ∧ i = .int .i64 (k : Int) ∧ wr.rowIs (bx + 1) 3 l.length (fun j => .int .i64 ((if j < k then j else 0 : Nat) : Int)) ∧ wr.rowIs bx 22 1 (fun _ => .slice (some ⟨gd, 0, none⟩) l.length l.length) ∧ Fr (fun _ => False) w wr) (fun _ i _ => l.length - (intOf i).toNat)
  case atStart => exact ⟨0, Nat.zero_le _, rfl, r0.congr (fun i _ => by simp), b0, f0⟩
  case round =>
    clear hmk f0 r0 b0
    obtain ⟨k, hk, rfl, hg, hb, hf⟩ := hrel
    by_cases hlt : k < l.length
    · have hcell := hg.cell hlt
      have hfz := hg.frozen k
      go_wp2
      go_roundw
      case rel =>
        refine ⟨k + 1, by omega, by go_num, ?_, hb.setOther (by simp) _, hf.setCell (Or.inr (by rw [Hbx.out]; simp)) _⟩
        refine (hg.set k _).congr fun j hj => ?_
        by_cases e : j = k
        · subst e
          rw [if_pos rfl, if_pos (by omega)]
        · rw [if_neg e]
          by_cases e2 : j < k
          · rw [if_pos e2, if_pos (by omega)]
          · rw [if_neg e2, if_neg (by omega)]
      case measure => simp [intOf]; omega
    · have hkl : k = l.length := by omega
      have hg2 : wr.rowIs (bx + 1) 3 l.length (fun j => .int .i64 (j : Int)) := hg.congr fun j hj => by rw [if_pos (by omega)]
      have hS := sort_any l bx gd (bx + 1) wr hl hl0 (hb.cell (by omega)) (fun i hi => by
        rw [hf.cellEq (by rw [Hbx.out]; exact hgd) (by simp), hr.cell hi, Lat.turn_get l i hi]) hg2 (by omega) (by omega)
      clear hkl hg hb hg2 hr
      go_wp2_with fail
      refine hS.mono ?_
      rintro e w2 ⟨rfl, hA, hf2⟩
      go_wp2
      go_ret
      exact ⟨bx + 1, rfl, by rw [Hbx.out]; omega, hA, hf.trans' hf2 (fun i hi e => by have := Hbx.out; omega)⟩
end Go.Proofs.Ytjbkmflbhlnbpaa
