/- The tape's rule, with what its parts are. -/
import Derived.Test.YtlneneacbjkheaaTape
import Derived.Test.YtlneneacbjkheaaCodec
namespace Go.Proofs.Ytlneneacbjkheaa
open Go.RowKit
attribute [local go_sem] run_store_float
section
variable {w w1 : World} {tb : Nat} {ao : Option Addr} {l : List Nat} {cap i : Nat}
set_option maxHeartbeats 2000000 in
theorem small_s (k : Nat) (w : World) : Calls Try.prog 43 #[.int .u8 (k : Int)] w fun e w' => ∃ b : Nat, e = .returned (.float .f64 b) ∧ (b < 18446744073709551616 ∧ Fl.nanB b = false) ∧ Fr (fun _ => False) w w' := by
  have f0 := (Fr.refl (fun _ => False) w).alloc (.cells #[.float .f64 0, .float .f64 4607182418800017408, .float .f64 13830554455654793216, .float .f64 4612811918334230528, .float .f64 9094988921128908188, .float .f64 18318360957983683996, .float .f64 4602678819172646912, .float .f64 4613937818241073152] 32)
  obtain ⟨j, hj, hj8⟩ : ∃ j : Nat, (k : Int) % 8 = (j : Int) ∧ j < 8 := ⟨k % 8, by omega, by omega⟩
  match j, hj8 with
  | 0, _ | 1, _ | 2, _ | 3, _ | 4, _ | 5, _ | 6, _ | 7, _ =>
    go_enter Try.func43, Try.ntmps43
    go_wp2
    go_ret
    exact ⟨_, rfl, by decide, f0⟩
set_option maxHeartbeats 1000000 in
theorem float_s (h : Tp w tb ao l cap i) : Calls Try.prog 23 #[.pointer (some ⟨tb, 0, none⟩)] w fun e w' => ∃ b : Nat, e = .returned (.float .f64 b) ∧ (b < 18446744073709551616 ∧ Fl.nanB b = false) ∧ (∃ j, Tp w' tb ao l cap j) ∧ Fr (fun k => k = tb) w w' := by
  have K : Hid (Calls _ _ _ _ _) := next_any h 8 (by omega) (by omega)
  clear h
  go_enter Try.func23, Try.ntmps23
  go_wp2_with fail
  refine K.out.mono ?_
  rintro e w1 ⟨r, rfl, hr, ⟨j, hj⟩, f1⟩
  have HJ : Hid (Tp w1 tb ao l cap j) := hj
  have F1 : Hid (Fr (fun k => k = tb) w w1) := f1
  have h1 : (0 : Int) ≤ (r : Int) := by omega
  have h2 : (r : Int) < 8 := by omega
  clear hj f1 K
  go_wp2_with fail
  refine (small_s r w1).mono ?_
  rintro e w2 ⟨b, rfl, hb, f2⟩
  go_wp2
  go_ret
  exact ⟨b, rfl, hb, ⟨j, HJ.out.fr f2 (by simp) (by simp)⟩, F1.out.trans (f2.mono (fun _ _ h => h.elim))⟩
set_option maxRecDepth 100000 in
set_option maxHeartbeats 2000000 in
theorem ofrule_s (h : Tp w tb ao l cap i) (hne : l ≠ [] → ∀ a, ao = some a → a.block < w.heap.size) : Calls Try.prog 11 #[.pointer (some ⟨tb, 0, none⟩)] w fun e w' => ∃ x : Rl, e = .returned (.agg #[.int .u64 (x.id : Int), .int .i64 x.fr, .int .i64 x.tt, .float .f64 x.lo, .float .f64 x.hi, .int .u64 (x.au : Int), .int .i64 x.qu]) ∧ x.Sm ∧ (∃ j, Tp w' tb ao l cap j) ∧ Fr (fun k => k = tb) w w' := by
  have HN : Hid (l ≠ [] → ∀ a, ao = some a → a.block < w.heap.size) := hne
  have HT0 : Hid (Tp (w.alloc (.cells #[.int .u64 0, .int .i64 0, .int .i64 0, .float .f64 0, .float .f64 0, .int .u64 0, .int .i64 0] 34)) tb ao l cap i) := h.fr ((Fr.refl (fun _ => False) w).alloc _) (by simp) (by simp)
  have HB0 : Hid (∀ i, i < 7 → ∃ u, (w.alloc (.cells #[.int .u64 0, .int .i64 0, .int .i64 0, .float .f64 0, .float .f64 0, .int .u64 0, .int .i64 0] 34)).cell? ⟨w.heap.size, i, none⟩ = some u ∧ (w.alloc (.cells #[.int .u64 0, .int .i64 0, .int .i64 0, .float .f64 0, .float .f64 0, .int .u64 0, .int .i64 0] 34)).frozen? ⟨w.heap.size, i, none⟩ = false) := by
    intro i hi
    match i, hi with
    | 0, _ | 1, _ | 2, _ | 3, _ | 4, _ | 5, _ | 6, _ => exact ⟨_, by simp; rfl, by simp⟩
  have HLT : Hid (tb < w.heap.size) := h.lt
  clear h hne
  go_enter Try.func11, Try.ntmps11
  have K0 : Hid (Calls _ _ _ _ _) := next_any HT0.out 3 (by omega) (by omega)
  go_wp2_with fail
  refine K0.out.mono ?_
  rintro e w0 ⟨r0, rfl, hr0, ⟨j0, hj0⟩, f0⟩
  have T0 : Hid (Tp w0 tb ao l cap j0) := hj0
  have F0 : Hid (Fr (fun k => k = tb) (w.alloc (.cells #[.int .u64 0, .int .i64 0, .int .i64 0, .float .f64 0, .float .f64 0, .int .u64 0, .int .i64 0] 34)) w0) := f0
  have p0 : (0 : Int) ≤ (r0 : Int) := by omega
  have q0 : (r0 : Int) < 3 := by omega
  clear hj0 f0 K0
  have K1 : Hid (Calls _ _ _ _ _) := next_any T0.out 4 (by omega) (by omega)
  go_wp2_with fail
  refine K1.out.mono ?_
  rintro e w1 ⟨r1, rfl, hr1, ⟨j1, hj1⟩, f1⟩
  have T1 : Hid (Tp w1 tb ao l cap j1) := hj1
  have F1 : Hid (Fr (fun k => k = tb) (w.alloc (.cells #[.int .u64 0, .int .i64 0, .int .i64 0, .float .f64 0, .float .f64 0, .int .u64 0, .int .i64 0] 34)) w1) := F0.out.trans f1
  have p1 : (0 : Int) ≤ (r1 : Int) := by omega
  have q1 : (r1 : Int) < 4 := by omega
  clear hj1 f1 K1
  have K2 : Hid (Calls _ _ _ _ _) := next_any T1.out 4 (by omega) (by omega)
  go_wp2_with fail
  refine K2.out.mono ?_
  rintro e w2 ⟨r2, rfl, hr2, ⟨j2, hj2⟩, f2⟩
  have T2 : Hid (Tp w2 tb ao l cap j2) := hj2
  have F2 : Hid (Fr (fun k => k = tb) (w.alloc (.cells #[.int .u64 0, .int .i64 0, .int .i64 0, .float .f64 0, .float .f64 0, .int .u64 0, .int .i64 0] 34)) w2) := F1.out.trans f2
  have p2 : (0 : Int) ≤ (r2 : Int) := by omega
  have q2 : (r2 : Int) < 4 := by omega
  clear hj2 f2 K2
  have K3 : Hid (Calls _ _ _ _ _) := float_s T2.out
  go_wp2_with fail
  refine K3.out.mono ?_
  rintro e w3 ⟨r3, rfl, hr3, ⟨j3, hj3⟩, f3⟩
  have T3 : Hid (Tp w3 tb ao l cap j3) := hj3
  have F3 : Hid (Fr (fun k => k = tb) (w.alloc (.cells #[.int .u64 0, .int .i64 0, .int .i64 0, .float .f64 0, .float .f64 0, .int .u64 0, .int .i64 0] 34)) w3) := F2.out.trans f3
  clear hj3 f3 K3
  have K4 : Hid (Calls _ _ _ _ _) := float_s T3.out
  go_wp2_with fail
  refine K4.out.mono ?_
  rintro e w4 ⟨r4, rfl, hr4, ⟨j4, hj4⟩, f4⟩
  have T4 : Hid (Tp w4 tb ao l cap j4) := hj4
  have F4 : Hid (Fr (fun k => k = tb) (w.alloc (.cells #[.int .u64 0, .int .i64 0, .int .i64 0, .float .f64 0, .float .f64 0, .int .u64 0, .int .i64 0] 34)) w4) := F3.out.trans f4
  clear hj4 f4 K4
  have K5 : Hid (Calls _ _ _ _ _) := next_any T4.out 2 (by omega) (by omega)
  go_wp2_with fail
  refine K5.out.mono ?_
  rintro e w5 ⟨r5, rfl, hr5, ⟨j5, hj5⟩, f5⟩
  have T5 : Hid (Tp w5 tb ao l cap j5) := hj5
  have F5 : Hid (Fr (fun k => k = tb) (w.alloc (.cells #[.int .u64 0, .int .i64 0, .int .i64 0, .float .f64 0, .float .f64 0, .int .u64 0, .int .i64 0] 34)) w5) := F4.out.trans f5
  have p5 : (0 : Int) ≤ (r5 : Int) := by omega
  have q5 : (r5 : Int) < 2 := by omega
  clear hj5 f5 K5
  have K6 : Hid (Calls _ _ _ _ _) := next_any T5.out 3 (by omega) (by omega)
  go_wp2_with fail
  refine K6.out.mono ?_
  rintro e w6 ⟨r6, rfl, hr6, ⟨j6, hj6⟩, f6⟩
  have T6 : Hid (Tp w6 tb ao l cap j6) := hj6
  have F6 : Hid (Fr (fun k => k = tb) (w.alloc (.cells #[.int .u64 0, .int .i64 0, .int .i64 0, .float .f64 0, .float .f64 0, .int .u64 0, .int .i64 0] 34)) w6) := F5.out.trans f6
  have p6 : (0 : Int) ≤ (r6 : Int) := by omega
  have q6 : (r6 : Int) < 3 := by omega
  clear hj6 f6 K6
  have hb := fun i hi => HB0.out i hi
  obtain ⟨u0, b0, y0⟩ := hb 0 (by omega)
  obtain ⟨u1, b1, y1⟩ := hb 1 (by omega)
  obtain ⟨u2, b2, y2⟩ := hb 2 (by omega)
  obtain ⟨u3, b3, y3⟩ := hb 3 (by omega)
  obtain ⟨u4, b4, y4⟩ := hb 4 (by omega)
  obtain ⟨u5, b5, y5⟩ := hb 5 (by omega)
  obtain ⟨u6, b6, y6⟩ := hb 6 (by omega)
  have hnt : ¬ w.heap.size = tb := by have := HLT.out; omega
  replace y0 := (F6.out.frozenEq (a := ⟨w.heap.size, 0, none⟩) (by simp) hnt).trans y0
  replace y1 := (F6.out.frozenEq (a := ⟨w.heap.size, 1, none⟩) (by simp) hnt).trans y1
  replace y2 := (F6.out.frozenEq (a := ⟨w.heap.size, 2, none⟩) (by simp) hnt).trans y2
  replace y3 := (F6.out.frozenEq (a := ⟨w.heap.size, 3, none⟩) (by simp) hnt).trans y3
  replace y4 := (F6.out.frozenEq (a := ⟨w.heap.size, 4, none⟩) (by simp) hnt).trans y4
  replace y5 := (F6.out.frozenEq (a := ⟨w.heap.size, 5, none⟩) (by simp) hnt).trans y5
  replace y6 := (F6.out.frozenEq (a := ⟨w.heap.size, 6, none⟩) (by simp) hnt).trans y6
  replace b0 := F6.out.cell b0 hnt
  replace b1 := F6.out.cell b1 hnt
  replace b2 := F6.out.cell b2 hnt
  replace b3 := F6.out.cell b3 hnt
  replace b4 := F6.out.cell b4 hnt
  replace b5 := F6.out.cell b5 hnt
  replace b6 := F6.out.cell b6 hnt
  have hsev := seven w6 (w.heap.size) (.int .u64 (r0 : Int)) (.int .i64 (r1 : Int)) (.int .i64 (r2 : Int)) (.float .f64 r3) (.float .f64 r4) (.int .u64 (r5 : Int)) (.int .i64 (r6 : Int)) (fun i hi => by
    match i, hi with
    | 0, _ => rw [b0]; rfl
    | 1, _ => rw [b1]; rfl
    | 2, _ => rw [b2]; rfl
    | 3, _ => rw [b3]; rfl
    | 4, _ => rw [b4]; rfl
    | 5, _ => rw [b5]; rfl
    | 6, _ => rw [b6]; rfl)
  have HS : Hid _ := hsev
  clear hsev hb
  go_wp2
  obtain ⟨⟨e0, e1, e2, e3, e4, e5, e6⟩, fs⟩ := HS.out
  refine bodyPost_ret (v := .agg #[.int .u64 (r0 : Int), .int .i64 (r1 : Int), .int .i64 (r2 : Int), .float .f64 r3, .float .f64 r4, .int .u64 (r5 : Int), .int .i64 (r6 : Int)]) ?_ rfl ⟨⟨r0, r1, r2, r3, r4, r5, r6⟩, rfl, ⟨by show r0 < _; omega, by dsimp only; constructor <;> omega, by dsimp only; constructor <;> omega, hr3, hr4, by show r5 < _; omega, by dsimp only; constructor <;> omega⟩, ⟨j6, T6.out.fr fs (by have := hnt; omega) (fun hl a ha e => by have := HN.out hl a ha; omega)⟩, ?_⟩
  · generalize (((((((w6.setCell ⟨w.heap.size, 0, none⟩ (.int .u64 (r0 : Int))).setCell ⟨w.heap.size, 1, none⟩ (.int .i64 (r1 : Int))).setCell ⟨w.heap.size, 2, none⟩ (.int .i64 (r2 : Int))).setCell ⟨w.heap.size, 3, none⟩ (.float .f64 r3)).setCell ⟨w.heap.size, 4, none⟩ (.float .f64 r4)).setCell ⟨w.heap.size, 5, none⟩ (.int .u64 (r5 : Int))).setCell ⟨w.heap.size, 6, none⟩ (.int .i64 (r6 : Int))) = W at *
    simp [results, Try.results11, go_sem, *]
  · exact (((Fr.refl (fun k => k = tb) w).alloc _).trans F6.out).trans' fs (fun i hi e => by omega)
end
end Go.Proofs.Ytlneneacbjkheaa
