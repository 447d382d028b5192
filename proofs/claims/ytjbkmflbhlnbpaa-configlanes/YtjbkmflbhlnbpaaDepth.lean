/- How labels are put into their order: the comparison, and what byDepth makes. -/
import Derived.Test.YtjbkmflbhlnbpaaSort
import Derived.Test.YtjbkmflbhlnbpaaTurn
import Derived.Deep.RegionHeld
namespace Go.Proofs.Ytjbkmflbhlnbpaa
open Go.RowKit Go.Shelf Go.Lib Go.Sort

set_option maxHeartbeats 400000 in
theorem or_any (g : Nat) (x y : Int) (w : World) (h0 : w.cell? ⟨g, 0, none⟩ = some (.int .i64 x)) (h1 : w.cell? ⟨g, 1, none⟩ = some (.int .i64 y)) :
    Calls Try.prog 62 #[.slice (some ⟨g, 0, none⟩) 2 2] w fun e w' => e = .returned (.int .i64 (if x = 0 then y else x)) ∧ w' = w := by
  by_cases hx : x = 0
  · subst hx
    rw [if_pos rfl]
    by_cases hy : y = 0
    · subst hy
      go_enter Try.func62, Try.ntmps62
      go_wp2
      refine wp_loop_rounds 3 ?_
      rw [rounds_succ]
      go_wp2
      rw [rounds_succ]
      go_wp2
      rw [rounds_succ]
      go_wp2
      go_ret
      exact ⟨rfl, rfl⟩
    · go_enter Try.func62, Try.ntmps62
      go_wp2
      refine wp_loop_rounds 2 ?_
      rw [rounds_succ]
      go_wp2
      rw [rounds_succ]
      go_wp2
      go_ret
      exact ⟨rfl, rfl⟩
  · rw [if_neg hx]
    go_enter Try.func62, Try.ntmps62
    go_wp2
    refine wp_loop_rounds 1 ?_
    rw [rounds_succ]
    go_wp2
    go_ret
    exact ⟨rfl, rfl⟩
theorem compare_any (x y : Int) (w : World) : Calls Try.prog 63 #[.int .i64 x, .int .i64 y] w fun e w' => e = .returned (.int .i64 (Lib.compareInt x y)) ∧ w' = w := by
  have hcon := AnyG.cmp_Compare_int Try.cmpL x y w
  change Calls Try.prog 63 _ _ _ at hcon
  exact hcon

theorem two_cells (W : World) (a b : Value) : ((W.alloc (.cells #[a, b] 3)).drew).cell? ⟨W.heap.size, 0, none⟩ = some a ∧ ((W.alloc (.cells #[a, b] 3)).drew).cell? ⟨W.heap.size, 1, none⟩ = some b := by
  have h := fun j => cell_of_row (W.alloc (.cells #[a, b] 3)) W.heap.size j _ 3 (0, 0) (heap_alloc_new W _)
  exact ⟨h 0, h 1⟩
theorem alloc_grow (W : World) (o : Obj) : (W.alloc o).drew = grow (W.drewN 1) #[o] := by
  rw [alloc_eq_grow]; rfl
set_option maxHeartbeats 1000000 in
theorem closure_of (f : Nat → Nat) (g o : Int → Int → Int) (c1 : ∀ (m : Nat) w, m < 18446744073709551616 → Calls Try.prog 47 #[.int .u64 (m : Int)] w fun e w' => e = .returned (.int .i64 ((f m : Nat) : Int)) ∧ w' = w)
    (c2 : ∀ x y w, Calls Try.prog 63 #[.int .i64 x, .int .i64 y] w fun e w' => e = .returned (.int .i64 (g x y)) ∧ w' = w)
    (c5 : ∀ (W : World) x y, Calls Try.prog 62 #[.slice (some ⟨W.heap.size, 0, none⟩) 2 2] ((W.alloc (.cells #[.int .i64 x, .int .i64 y] 3)).drew) fun e w' => e = .returned (.int .i64 (o x y)) ∧ w' = (W.alloc (.cells #[.int .i64 x, .int .i64 y] 3)).drew)
    (bx gd n : Nat) (x y dx dy : Nat) (W : World) (hx : x < n) (hy : y < n) (hbx : W.cell? ⟨bx, 0, none⟩ = some (.slice (some ⟨gd, 0, none⟩) n n)) (hcx : W.cell? ⟨gd, x, none⟩ = some (.int .u64 (dx : Int))) (hcy : W.cell? ⟨gd, y, none⟩ = some (.int .u64 (dy : Int))) (hdx : dx < 18446744073709551616) (hdy : dy < 18446744073709551616) :
    Calls Try.prog 61 #[.int .i64 (x : Int), .int .i64 (y : Int), .pointer (some ⟨bx, 0, none⟩)] W fun e w' => e = .returned (.int .i64 (o (g (f dx : Nat) (f dy : Nat)) (g (x : Int) (y : Int)))) ∧ ∃ q os, w' = grow (W.drewN q) os := by
  go_enter Try.func61, Try.ntmps61
  go_wp2
  go_region_held (fun w' => w'.cell? ⟨bx, 0, none⟩ = some (.slice (some ⟨gd, 0, none⟩) n n) ∧ w'.cell? ⟨gd, x, none⟩ = some (.int .u64 (dx : Int)) ∧ w'.cell? ⟨gd, y, none⟩ = some (.int .u64 (dy : Int))) (go_keep)
    (first
      | (go_at_call 47; refine (c1 _ _ ?_).mono ?_; (first | exact hdx | exact hdy); rintro e w2 ⟨rfl, hw⟩; subst w2)
      | (go_at_call 63; refine (c2 _ _ _).mono ?_; rintro e w2 ⟨rfl, hw⟩; subst w2)
      | (go_at_call 62; refine (c5 _ _ _).mono ?_; rintro e w2 ⟨rfl, hw⟩; subst w2))
  go_wp2
  go_ret
  exact ⟨rfl, 1, _, alloc_grow _ _⟩

/-- what cmp.Or makes of two. -/
def orI (x y : Int) : Int := if x = 0 then y else x
/-- the comparison of two labels: by how many are at or below, then by their numbers. -/
def cfL (up : List Nat) {n : Nat} (x y : Fin n) : Int := orI (Lib.compareInt (Lat.cnt up x.val : Nat) (Lat.cnt up y.val : Nat)) (Lib.compareInt (x.val : Int) (y.val : Int))
theorem ltL (up : List Nat) {n : Nat} (x y : Fin n) : ltOf (cfL up) x y = Lat.lt up x.val y.val := by
  unfold ltOf cfL orI Lib.compareInt Lat.lt
  by_cases h1 : (Lat.cnt up x.val) < (Lat.cnt up y.val)
  · have h1' : ((Lat.cnt up x.val : Nat) : Int) < ((Lat.cnt up y.val : Nat) : Int) := by omega
    simp [h1]
  · by_cases h2 : (Lat.cnt up y.val) < (Lat.cnt up x.val)
    · have h3 : ¬ Lat.cnt up x.val = Lat.cnt up y.val := by omega
      have h4 : ¬ ((Lat.cnt up x.val : Nat) : Int) < ((Lat.cnt up y.val : Nat) : Int) := by omega
      have h5 : ((Lat.cnt up x.val : Nat) : Int) > ((Lat.cnt up y.val : Nat) : Int) := by omega
      rw [if_neg h4, if_pos h5]
      simp [h1, h3]
    · have h3 : Lat.cnt up x.val = Lat.cnt up y.val := by omega
      rw [h3]
      by_cases h6 : x.val < y.val
      · have h6' : (x.val : Int) < (y.val : Int) := by omega
        simp [h6]
      · have h6' : ¬ (x.val : Int) < (y.val : Int) := by omega
        by_cases h7 : y.val < x.val
        · simp [h6, h7]
        · simp [h6, h7]
theorem swoL (up : List Nat) {n : Nat} : SWO (ltOf (cfL up (n := n))) where
  irrefl x := by rw [ltL]; exact Lat.lt_irrefl up _
  trans x y z h1 h2 := by rw [ltL] at *; exact Lat.lt_trans h1 h2
  ntrans x y z h1 h2 := by
    rw [ltL] at *
    unfold Lat.lt at *
    simp at *
    omega
theorem totL (up : List Nat) {n : Nat} (x y : Fin n) (h1 : ltOf (cfL up) x y = false) (h2 : ltOf (cfL up) y x = false) : x = y := by
  rw [ltL] at h1 h2
  exact Fin.ext (Lat.lt_total h1 h2)
/-- the labels, sorted so, stand in the document's order. -/
theorem sorted_order (up : List Nat) : (((List.finRange up.length).mergeSort fun x y => !ltOf (cfL up) y x).map Fin.val) = Lat.order up := by
  have hperm : (((List.finRange up.length).mergeSort fun x y => !ltOf (cfL up) y x).map Fin.val).Perm (List.range up.length) := by
    refine ((List.mergeSort_perm _ _).map Fin.val).trans ?_
    rw [show (List.finRange up.length).map Fin.val = List.range up.length from List.ext_getElem (by simp) (fun i h1 h2 => by simp)]
  have hsort := List.pairwise_mergeSort (le := fun x y : Fin up.length => !ltOf (cfL up) y x)
    (fun a b c h1 h2 => by
      have := (swoL up).ntrans c b a (by simpa using h2) (by simpa using h1)
      simpa using this)
    (fun a b => by
      cases h : ltOf (cfL up) b a with
      | false => rfl
      | true => rw [(swoL up).asymmA h]; rfl) (List.finRange up.length)
  refine List.Perm.eq_of_pairwise (le := fun a b => Lat.lt up b a = false) (fun a b _ _ h1 h2 => (Lat.lt_total h2 h1)) ?_ ?_ (hperm.trans (Lat.order_perm up).symm)
  · rw [List.pairwise_map]
    refine hsort.imp fun {a b} h => ?_
    rw [← ltL up b a]
    simpa using h
  · refine (Lat.order_pairwise up).imp fun {a b} h => ?_
    cases h2 : Lat.lt up b a with
    | false => rfl
    | true =>
      have := Lat.lt_trans h h2
      rw [Lat.lt_irrefl] at this
      cases this
/-- how many bits are set of what stands below a label. -/
theorem pop_down (up : List Nat) (a : Nat) (hn : up.length ≤ 64) : Ones.pop 64 (Lat.downOf up a) = Lat.cnt up a := by
  rw [Ones.pop_count]
  unfold Lat.cnt
  have h : List.range 64 = List.range up.length ++ (List.range (64 - up.length)).map (up.length + ·) := by
    rw [← List.range_add]
    congr 1
    omega
  rw [h, List.filter_append, List.length_append]
  have h1 : (List.range up.length).filter (fun i => (Lat.downOf up a).testBit i) = (List.range up.length).filter fun b => Lat.rel up b a := by
    apply List.filter_congr
    intro i hi
    rw [Lat.downOf_testBit]
    simp at hi
    simp [hi]
  have h2 : ((List.range (64 - up.length)).map (up.length + ·)).filter (fun i => (Lat.downOf up a).testBit i) = [] := by
    rw [List.filter_eq_nil_iff]
    intro i hi
    rw [Lat.downOf_testBit]
    simp at hi
    obtain ⟨j, _, rfl⟩ := hi
    simp
    intro h
    omega
  rw [h1, h2]
  rfl
end Go.Proofs.Ytjbkmflbhlnbpaa
