/- The program's book: which rule holds. -/
import Derived.Test.YtlneneacbjkheaaGrant
namespace Go.Proofs.Ytlneneacbjkheaa
open Go.RowKit
/-- a float is stored in a cell (the kit's laws on stores name no floats). -/
theorem run_store_float {P : Program} {w : World} {a : Addr} {m : Mode} (k : FloatKind) (n : Nat) : (store a (.float k n) m).run P w = stored P w a (.float k n) m := run_store P w a _ m rfl
attribute [local go_sem] run_store_float
section
variable {w w1 : World} {b base : Nat} {gs : List Gr} {v : Value}
set_option maxHeartbeats 1000000 in
theorem at_nil (id ep : Nat) (w : World) : Calls Try.prog 18 #[.pointer none, .int .u64 (id : Int), .int .u64 (ep : Int)] w fun e w' => e = .returned (.tuple #[.agg #[.int .u64 0, .int .i64 0, .int .i64 0, .float .f64 0, .float .f64 0, .int .u64 0, .int .i64 0], .bool false]) ∧ Fr (fun _ => False) w w' := by
  have f := ((Fr.refl (fun _ => False) w).alloc (.cells #[.int .u64 (ep : Int)] 30)).alloc (.cells #[.int .u64 0, .int .i64 0, .int .i64 0, .float .f64 0, .float .f64 0, .int .u64 0, .int .i64 0] 34)
  have F : Hid (Fr _ _ _) := f
  clear f
  go_enter Try.func18, Try.ntmps18
  go_wp2_with fail
  refine (last_in_nil id _ _).mono ?_
  rintro e w1 ⟨rfl, hw⟩
  subst w1
  go_wp2
  exact bodyPost_ret (v := .tuple #[.agg #[.int .u64 0, .int .i64 0, .int .i64 0, .float .f64 0, .float .f64 0, .int .u64 0, .int .i64 0], .bool false]) (by simp [results, Try.results18, go_sem]) rfl ⟨rfl, F.out⟩
/-- seven cells written, one behind the other. -/
theorem seven (W : World) (c : Nat) (v0 v1 v2 v3 v4 v5 v6 : Value) (hc : ∀ i, i < 7 → (W.cell? ⟨c, i, none⟩).isSome = true) :
    let W' := ((((((W.setCell ⟨c, 0, none⟩ v0).setCell ⟨c, 1, none⟩ v1).setCell ⟨c, 2, none⟩ v2).setCell ⟨c, 3, none⟩ v3).setCell ⟨c, 4, none⟩ v4).setCell ⟨c, 5, none⟩ v5).setCell ⟨c, 6, none⟩ v6
    (W'.cell? ⟨c, 0, none⟩ = some v0 ∧ W'.cell? ⟨c, 1, none⟩ = some v1 ∧ W'.cell? ⟨c, 2, none⟩ = some v2 ∧ W'.cell? ⟨c, 3, none⟩ = some v3 ∧ W'.cell? ⟨c, 4, none⟩ = some v4 ∧ W'.cell? ⟨c, 5, none⟩ = some v5 ∧ W'.cell? ⟨c, 6, none⟩ = some v6) ∧ Fr (fun k => k = c) W W' := by
  intro W'
  have h := fun i hi => Option.isSome_iff_exists.1 (hc i hi)
  obtain ⟨u0, h0⟩ := h 0 (by omega)
  obtain ⟨u1, h1⟩ := h 1 (by omega)
  obtain ⟨u2, h2⟩ := h 2 (by omega)
  obtain ⟨u3, h3⟩ := h 3 (by omega)
  obtain ⟨u4, h4⟩ := h 4 (by omega)
  obtain ⟨u5, h5⟩ := h 5 (by omega)
  obtain ⟨u6, h6⟩ := h 6 (by omega)
  refine ⟨⟨?_, ?_, ?_, ?_, ?_, ?_, ?_⟩, ((((((((Fr.refl (fun k => k = c) W).setCell (Or.inl rfl) _).setCell (Or.inl rfl) _).setCell (Or.inl rfl) _).setCell (Or.inl rfl) _).setCell (Or.inl rfl) _).setCell (Or.inl rfl) _).setCell (Or.inl rfl) _)⟩
  all_goals simp [W', World.cell?_setCell_same', World.cell?_setCell_other, *]
set_option maxRecDepth 100000 in
set_option maxHeartbeats 2000000 in
theorem at_yes (h : Bk w b base gs v) (id ep : Nat) (hlen : gs.length ≤ 1000000) (n : Nat) (hL : LastAt gs (fun y => decide (y.r.id = id) && y.within ep) n true) (x : Gr) (hx : x = gr gs n) :
    Calls Try.prog 18 #[.pointer (some ⟨b, 0, none⟩), .int .u64 (id : Int), .int .u64 (ep : Int)] w fun e w' => e = .returned (.tuple #[.agg #[.int .u64 (x.r.id : Int), .int .i64 x.r.fr, .int .i64 x.r.tt, .float .f64 x.r.lo, .float .f64 x.r.hi, .int .u64 (x.r.au : Int), .int .i64 x.r.qu], .bool true]) ∧ Fr (fun _ => False) w w' := by
  have hn : n < gs.length := by
    rcases hL with ⟨_, h1, _⟩ | ⟨h1, _⟩
    · exact h1
    · cases h1
  have f0 := ((Fr.refl (fun _ => False) w).alloc (.cells #[.int .u64 (ep : Int)] 30)).alloc (.cells #[.int .u64 0, .int .i64 0, .int .i64 0, .float .f64 0, .float .f64 0, .int .u64 0, .int .i64 0] 34)
  have K : Hid (Calls _ _ _ _ _) := last_in (h.fr f0 (by simp) (by simp)) id ep w.heap.size (by simp) hlen n true hL
  have HB : Hid (Bk w b base gs v) := h
  have HX : Hid (x = gr gs n) := hx
  have F0 : Hid (Fr (fun _ => False) w _) := f0
  have HC : Hid (∀ i, i < 7 → ∃ u, ((w.alloc (.cells #[.int .u64 (ep : Int)] 30)).alloc (.cells #[.int .u64 0, .int .i64 0, .int .i64 0, .float .f64 0, .float .f64 0, .int .u64 0, .int .i64 0] 34)).cell? ⟨w.heap.size + 1, i, none⟩ = some u ∧ ((w.alloc (.cells #[.int .u64 (ep : Int)] 30)).alloc (.cells #[.int .u64 0, .int .i64 0, .int .i64 0, .float .f64 0, .float .f64 0, .int .u64 0, .int .i64 0] 34)).frozen? ⟨w.heap.size + 1, i, none⟩ = false) := by
    intro i hi
    match i, hi with
    | 0, _ | 1, _ | 2, _ | 3, _ | 4, _ | 5, _ | 6, _ => exact ⟨_, by simp; rfl, by simp⟩
  clear h hL hx f0
  go_enter Try.func18, Try.ntmps18
  go_wp2_with fail
  refine K.out.mono ?_
  rintro e w1 ⟨rfl, f1⟩
  have F1 : Hid (Fr (fun _ => False) w w1) := F0.out.trans f1
  have hb1 := HB.out.fr F1.out (by simp) (by simp)
  have c0 := hb1.c0
  obtain ⟨ao, cap, hv, hrow, hao⟩ := hb1.own.row
  subst hv
  obtain ⟨g, off, ha, y, HY, x0, x1, x2, x3, x4, x5, x6, _, _⟩ := hrow.gr n hn
  obtain rfl : x = y := by rw [HX.out, HY.out]
  subst ha
  have hl3 := hrow.lens
  have j1 : (0 : Int) ≤ (n : Int) := by omega
  have j2 : (n : Int) < (gs.length : Int) := by omega
  have hb := fun i hi => HC.out i hi
  obtain ⟨u0, b0, y0⟩ := hb 0 (by omega)
  obtain ⟨u1, b1, y1⟩ := hb 1 (by omega)
  obtain ⟨u2, b2, y2⟩ := hb 2 (by omega)
  obtain ⟨u3, b3, y3⟩ := hb 3 (by omega)
  obtain ⟨u4, b4, y4⟩ := hb 4 (by omega)
  obtain ⟨u5, b5, y5⟩ := hb 5 (by omega)
  obtain ⟨u6, b6, y6⟩ := hb 6 (by omega)
  have zz : ∀ i, (_ : World).frozen? ⟨w.heap.size + 1, i, none⟩ = false → w1.frozen? ⟨w.heap.size + 1, i, none⟩ = false := fun i hi => (f1.frozenEq (a := ⟨w.heap.size + 1, i, none⟩) (by simp) (by simp)).trans hi
  replace y0 := zz 0 y0
  replace y1 := zz 1 y1
  replace y2 := zz 2 y2
  replace y3 := zz 3 y3
  replace y4 := zz 4 y4
  replace y5 := zz 5 y5
  replace y6 := zz 6 y6
  replace b0 := f1.cell b0 (by simp)
  replace b1 := f1.cell b1 (by simp)
  replace b2 := f1.cell b2 (by simp)
  replace b3 := f1.cell b3 (by simp)
  replace b4 := f1.cell b4 (by simp)
  replace b5 := f1.cell b5 (by simp)
  replace b6 := f1.cell b6 (by simp)
  have hsev := seven w1 (w.heap.size + 1) (.int .u64 (x.r.id : Int)) (.int .i64 x.r.fr) (.int .i64 x.r.tt) (.float .f64 x.r.lo) (.float .f64 x.r.hi) (.int .u64 (x.r.au : Int)) (.int .i64 x.r.qu) (fun i hi => by
    match i, hi with
    | 0, _ => rw [b0]; rfl
    | 1, _ => rw [b1]; rfl
    | 2, _ => rw [b2]; rfl
    | 3, _ => rw [b3]; rfl
    | 4, _ => rw [b4]; rfl
    | 5, _ => rw [b5]; rfl
    | 6, _ => rw [b6]; rfl)
  have HS : Hid _ := hsev
  clear hsev hb zz f1 hb1 hrow hao K
  go_wp2
  obtain ⟨⟨r0, r1, r2, r3, r4, r5, r6⟩, fs⟩ := HS.out
  refine bodyPost_ret (v := .tuple #[.agg #[.int .u64 (x.r.id : Int), .int .i64 x.r.fr, .int .i64 x.r.tt, .float .f64 x.r.lo, .float .f64 x.r.hi, .int .u64 (x.r.au : Int), .int .i64 x.r.qu], .bool true]) ?_ rfl ⟨rfl, F1.out.trans' fs (fun i hi e => by omega)⟩
  generalize ((((((w1.setCell ⟨w.heap.size + 1, 0, none⟩ (.int .u64 (x.r.id : Int))).setCell ⟨w.heap.size + 1, 1, none⟩ (.int .i64 x.r.fr)).setCell ⟨w.heap.size + 1, 2, none⟩ (.int .i64 x.r.tt)).setCell ⟨w.heap.size + 1, 3, none⟩ (.float .f64 x.r.lo)).setCell ⟨w.heap.size + 1, 4, none⟩ (.float .f64 x.r.hi)).setCell ⟨w.heap.size + 1, 5, none⟩ (.int .u64 (x.r.au : Int))).setCell ⟨w.heap.size + 1, 6, none⟩ (.int .i64 x.r.qu) = W at *
  simp [results, Try.results18, go_sem, *]
set_option maxRecDepth 100000 in
set_option maxHeartbeats 2000000 in
theorem at_no (h : Bk w b base gs v) (id ep : Nat) (hlen : gs.length ≤ 1000000) (n : Nat) (hL : LastAt gs (fun y => decide (y.r.id = id) && y.within ep) n false) :
    Calls Try.prog 18 #[.pointer (some ⟨b, 0, none⟩), .int .u64 (id : Int), .int .u64 (ep : Int)] w fun e w' => e = .returned (.tuple #[.agg #[.int .u64 0, .int .i64 0, .int .i64 0, .float .f64 0, .float .f64 0, .int .u64 0, .int .i64 0], .bool false]) ∧ Fr (fun _ => False) w w' := by
  have f0 := ((Fr.refl (fun _ => False) w).alloc (.cells #[.int .u64 (ep : Int)] 30)).alloc (.cells #[.int .u64 0, .int .i64 0, .int .i64 0, .float .f64 0, .float .f64 0, .int .u64 0, .int .i64 0] 34)
  have K : Hid (Calls _ _ _ _ _) := last_in (h.fr f0 (by simp) (by simp)) id ep w.heap.size (by simp) hlen n false hL
  have HB : Hid (Bk w b base gs v) := h
  have F0 : Hid (Fr (fun _ => False) w _) := f0
  have HC : Hid (∀ i, i < 7 → ∃ u, ((w.alloc (.cells #[.int .u64 (ep : Int)] 30)).alloc (.cells #[.int .u64 0, .int .i64 0, .int .i64 0, .float .f64 0, .float .f64 0, .int .u64 0, .int .i64 0] 34)).cell? ⟨w.heap.size + 1, i, none⟩ = some u ∧ ((w.alloc (.cells #[.int .u64 (ep : Int)] 30)).alloc (.cells #[.int .u64 0, .int .i64 0, .int .i64 0, .float .f64 0, .float .f64 0, .int .u64 0, .int .i64 0] 34)).frozen? ⟨w.heap.size + 1, i, none⟩ = false) := by
    intro i hi
    match i, hi with
    | 0, _ | 1, _ | 2, _ | 3, _ | 4, _ | 5, _ | 6, _ => exact ⟨_, by simp; rfl, by simp⟩
  clear h hL f0
  go_enter Try.func18, Try.ntmps18
  go_wp2_with fail
  refine K.out.mono ?_
  rintro e w1 ⟨rfl, f1⟩
  have F1 : Hid (Fr (fun _ => False) w w1) := F0.out.trans f1
  have hb := fun i hi => HC.out i hi
  obtain ⟨u0, b0, y0⟩ := hb 0 (by omega)
  obtain ⟨u1, b1, y1⟩ := hb 1 (by omega)
  obtain ⟨u2, b2, y2⟩ := hb 2 (by omega)
  obtain ⟨u3, b3, y3⟩ := hb 3 (by omega)
  obtain ⟨u4, b4, y4⟩ := hb 4 (by omega)
  obtain ⟨u5, b5, y5⟩ := hb 5 (by omega)
  obtain ⟨u6, b6, y6⟩ := hb 6 (by omega)
  have zz : ∀ i, (_ : World).frozen? ⟨w.heap.size + 1, i, none⟩ = false → w1.frozen? ⟨w.heap.size + 1, i, none⟩ = false := fun i hi => (f1.frozenEq (a := ⟨w.heap.size + 1, i, none⟩) (by simp) (by simp)).trans hi
  replace y0 := zz 0 y0
  replace y1 := zz 1 y1
  replace y2 := zz 2 y2
  replace y3 := zz 3 y3
  replace y4 := zz 4 y4
  replace y5 := zz 5 y5
  replace y6 := zz 6 y6
  replace b0 := f1.cell b0 (by simp)
  replace b1 := f1.cell b1 (by simp)
  replace b2 := f1.cell b2 (by simp)
  replace b3 := f1.cell b3 (by simp)
  replace b4 := f1.cell b4 (by simp)
  replace b5 := f1.cell b5 (by simp)
  replace b6 := f1.cell b6 (by simp)
  have hsev := seven w1 (w.heap.size + 1) (.int .u64 0) (.int .i64 0) (.int .i64 0) (.float .f64 0) (.float .f64 0) (.int .u64 0) (.int .i64 0) (fun i hi => by
    match i, hi with
    | 0, _ => rw [b0]; rfl
    | 1, _ => rw [b1]; rfl
    | 2, _ => rw [b2]; rfl
    | 3, _ => rw [b3]; rfl
    | 4, _ => rw [b4]; rfl
    | 5, _ => rw [b5]; rfl
    | 6, _ => rw [b6]; rfl)
  have HS : Hid _ := hsev
  clear hsev hb zz f1 K
  go_wp2
  obtain ⟨⟨r0, r1, r2, r3, r4, r5, r6⟩, fs⟩ := HS.out
  refine bodyPost_ret (v := .tuple #[.agg #[.int .u64 0, .int .i64 0, .int .i64 0, .float .f64 0, .float .f64 0, .int .u64 0, .int .i64 0], .bool false]) ?_ rfl ⟨rfl, F1.out.trans' fs (fun i hi e => by omega)⟩
  generalize ((((((w1.setCell ⟨w.heap.size + 1, 0, none⟩ (.int .u64 0)).setCell ⟨w.heap.size + 1, 1, none⟩ (.int .i64 0)).setCell ⟨w.heap.size + 1, 2, none⟩ (.int .i64 0)).setCell ⟨w.heap.size + 1, 3, none⟩ (.float .f64 0)).setCell ⟨w.heap.size + 1, 4, none⟩ (.float .f64 0)).setCell ⟨w.heap.size + 1, 5, none⟩ (.int .u64 0)).setCell ⟨w.heap.size + 1, 6, none⟩ (.int .i64 0) = W at *
  simp [results, Try.results18, go_sem, *]
end
end Go.Proofs.Ytlneneacbjkheaa
