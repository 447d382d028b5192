/- The document's tape: numbers drawn, one behind the other. -/
import Derived.Test.YtaalkhipncbjpaaLocG
import Derived.Test.YtaalkhipncbjpaaFrame
import Derived.Deep.QuietTactic
import Derived.BigQuiet
namespace Go.Proofs.Ytaalkhipncbjpaa
open Go.RowKit
theorem Fr.drewN {S : Nat → Prop} {w w1 : World} (h : Fr S w w1) (n : Nat) : Fr S w (w1.drewN n) := ⟨h.os, h.tape, h.output, h.size, h.block⟩
attribute [local go_sem] run_store_float

/-- A TAPE at block tb: its bytes, how many are drawn. -/
structure Tp (w : World) (tb : Nat) (ao : Option Addr) (l : List Nat) (cap i : Nat) : Prop where
  c0 : w.cell? ⟨tb, 0, none⟩ = some (.slice ao l.length cap)
  c1 : w.cell? ⟨tb, 1, none⟩ = some (.int .i64 (i : Int))
  z1 : w.frozen? ⟨tb, 1, none⟩ = false
  row : Row w ao l cap
  le : i ≤ l.length
  apart : l ≠ [] → ∀ a, ao = some a → a.block ≠ tb
section
variable {w w1 : World} {tb : Nat} {ao : Option Addr} {l : List Nat} {cap i : Nat}
theorem Tp.lt (h : Tp w tb ao l cap i) : tb < w.heap.size := World.block_lt_of_cell? _ _ h.c0
theorem Tp.fr {T : Nat → Prop} (h : Tp w tb ao l cap i) (f : Fr T w w1) (hb : ¬ T tb) (hs : l ≠ [] → ∀ a, ao = some a → ¬ T a.block) : Tp w1 tb ao l cap i :=
  ⟨f.cell h.c0 hb, f.cell h.c1 hb, (f.frozenEq h.lt hb).trans h.z1, f.row h.row hs, h.le, h.apart⟩
set_option maxRecDepth 100000 in
set_option maxHeartbeats 1000000 in
theorem next_any (h : Tp w tb ao l cap i) (n : Nat) (hn : 1 ≤ n) (hn2 : n ≤ 255) : Calls Try.prog 17 #[.pointer (some ⟨tb, 0, none⟩), .int .i64 (n : Int)] w fun e w' => ∃ r : Nat, e = .returned (.int .i64 (r : Int)) ∧ r < n ∧ (∃ j, Tp w' tb ao l cap j) ∧ Fr (fun k => k = tb) w w' := by
  have HT : Hid (Tp w tb ao l cap i) := h
  have c0 := h.c0
  have c1 := h.c1
  have z1 := h.z1
  have hl1 := h.row.1
  have hl2 := h.row.2.1
  unfold maxLen at hl2
  by_cases hlt : l.length ≤ i
  · clear h
    go_enter Try.func17, Try.ntmps17
    go_wp2
    go_quiet (fail)
    go_wp2
    go_ret
    exact ⟨0, rfl, by omega, ⟨i, HT.out.fr ((Fr.refl (fun _ => False) w).drewN _) (by simp) (by simp)⟩, ((Fr.refl _ w).drewN _)⟩
  · have hge : decide ((l.length : Int) ≤ (i : Int)) = false := by simp; omega
    obtain ⟨b, off, hao, hc⟩ := h.row.2.2.2.2 (fun e => by rw [e] at hlt; simp at hlt)
    have hy := hc i (by omega)
    have hy256 : l.getD i 0 < 256 := h.row.2.2.1 _ (by rw [List.getD_eq_getElem?_getD, List.getElem?_eq_getElem (by omega)]; exact List.getElem_mem _)
    have hab : b ≠ tb := h.apart (fun e => by rw [e] at hlt; simp at hlt) _ hao
    obtain ⟨y, Hy⟩ : ∃ y, Hid (l.getD i 0 = y) := ⟨_, rfl⟩
    rw [Hy.out] at hy hy256
    subst hao
    have j1 : (0 : Int) ≤ (i : Int) := by omega
    have j2 : (i : Int) < (l.length : Int) := by omega
    clear h hc
    go_enter Try.func17, Try.ntmps17
    go_wp2
    go_quiet (fail)
    go_wp2
    obtain ⟨W, HW⟩ : ∃ W, Hid (W = (w.drewN nq).setCell ⟨tb, 1, none⟩ (.int .i64 ((i : Int) + 1))) := ⟨_, rfl⟩
    have fw : Fr (fun k => k = tb) w W := by rw [HW.out]; exact ((Fr.refl (fun k => k = tb) w).drewN nq).setCell (p := ⟨tb, 1, none⟩) (Or.inl rfl) _
    have d0 : W.cell? ⟨tb, 0, none⟩ = some (.slice (some ⟨b, off, none⟩) l.length cap) := by rw [HW.out]; exact (World.cell?_setCell_other _ _ _ _ (by simp)).trans c0
    have d1 : W.cell? ⟨tb, 1, none⟩ = some (.int .i64 ((i : Int) + 1)) := by rw [HW.out]; exact World.cell?_setCell_same _ _ _ c1
    have dy : W.cell? ⟨b, off + i, none⟩ = some (.int .u8 (y : Int)) := fw.cell hy hab
    have HT2 : Hid (Tp W tb (some ⟨b, off, none⟩) l cap (i + 1)) := by
      refine ⟨d0, by rw [d1]; simp, ?_, fw.row HT.out.row (fun _ a ha e => hab (by cases ha; exact e)), by omega, HT.out.apart⟩
      exact (show W.frozen? _ = w.frozen? _ by rw [HW.out]; simp).trans z1
    have FW : Hid (Fr (fun k => k = tb) w W) := fw
    have j3 : (1 : Int) ≤ (n : Int) := by omega
    have j4 : (n : Int) ≤ 255 := by omega
    have j5 : (0 : Int) ≤ (y : Int) := by omega
    rw [← HW.out]
    clear fw c0 c1 hy z1 hab
    go_quiet (fail)
    go_wp2
    go_ret
    exact ⟨y % n, ret_int (by push_cast; rfl), Nat.mod_lt _ (by omega), ⟨i + 1, HT2.out.fr ((Fr.refl (fun _ => False) W).drewN _) (by simp) (by simp)⟩, FW.out.drewN _⟩
def smalls : List Nat := [0, 4607182418800017408, 13830554455654793216, 4612811918334230528, 9094988921128908188, 18318360957983683996, 4602678819172646912, 4613937818241073152]
set_option maxHeartbeats 2000000 in
theorem small_any (k : Nat) (w : World) : Calls Try.prog 76 #[.int .u8 (k : Int)] w fun e w' => ∃ b : Nat, e = .returned (.float .f64 b) ∧ b < 18446744073709551616 ∧ Fr (fun _ => False) w w' := by
  have f0 := (Fr.refl (fun _ => False) w).alloc (.cells #[.float .f64 0, .float .f64 4607182418800017408, .float .f64 13830554455654793216, .float .f64 4612811918334230528, .float .f64 9094988921128908188, .float .f64 18318360957983683996, .float .f64 4602678819172646912, .float .f64 4613937818241073152] 71)
  obtain ⟨j, hj, hj8⟩ : ∃ j : Nat, (k : Int) % 8 = (j : Int) ∧ j < 8 := ⟨k % 8, by omega, by omega⟩
  match j, hj8 with
  | 0, _ | 1, _ | 2, _ | 3, _ | 4, _ | 5, _ | 6, _ | 7, _ =>
    go_enter Try.func76, Try.ntmps76
    go_wp2
    go_ret
    exact ⟨_, rfl, by decide, f0⟩
set_option maxHeartbeats 1000000 in
theorem float_any (h : Tp w tb ao l cap i) : Calls Try.prog 37 #[.pointer (some ⟨tb, 0, none⟩)] w fun e w' => ∃ b : Nat, e = .returned (.float .f64 b) ∧ b < 18446744073709551616 ∧ (∃ j, Tp w' tb ao l cap j) ∧ Fr (fun k => k = tb) w w' := by
  have K : Hid (Calls _ _ _ _ _) := next_any h 8 (by omega) (by omega)
  clear h
  go_enter Try.func37, Try.ntmps37
  go_wp2_with fail
  refine K.out.mono ?_
  rintro e w1 ⟨r, rfl, hr, ⟨j, hj⟩, f1⟩
  have HJ : Hid (Tp w1 tb ao l cap j) := hj
  have F1 : Hid (Fr (fun k => k = tb) w w1) := f1
  have h1 : (0 : Int) ≤ (r : Int) := by omega
  have h2 : (r : Int) < 8 := by omega
  clear hj f1 K
  go_wp2_with fail
  refine (small_any r w1).mono ?_
  rintro e w2 ⟨b, rfl, hb, f2⟩
  go_wp2
  go_ret
  exact ⟨b, rfl, hb, ⟨j, HJ.out.fr f2 (by simp) (by simp)⟩, F1.out.trans (f2.mono (fun _ _ h => h.elim))⟩
end
end Go.Proofs.Ytaalkhipncbjpaa
