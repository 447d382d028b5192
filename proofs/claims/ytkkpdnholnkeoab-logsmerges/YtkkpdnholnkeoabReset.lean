/- The program's Reset. -/
import Derived.Test.YtkkpdnholnkeoabCopy
namespace Go.Proofs.Ytkkpdnholnkeoab
open Go.RowKit
section
variable {w w1 : World} {gb : Nat} {D : Nat → Prop} {base term voters : Nat} {es : List En} {v : Value}
set_option maxRecDepth 100000 in
set_option maxHeartbeats 2000000 in
theorem reset_any (h : Lg w gb D base term voters es v) (i t n : Nat) (dv : Value) (hi : i < 18446744073709551616) (ht : t < 18446744073709551616) (hn : n < 18446744073709551616) :
    Calls Try.prog 22 #[.pointer (some ⟨gb, 0, none⟩), .agg #[.int .u64 (i : Int), .int .u64 (t : Int), .int .u64 (n : Int), dv]] w fun e w' => e = .returned (.tuple #[]) ∧ Lg w' gb D i t n [] (.slice none 0 0) ∧ Fr (fun k => k = gb) w w' := by
  obtain ⟨W, HW⟩ : ∃ W, Hid (W = w.alloc (.cells #[.int .u64 (i : Int), .int .u64 (t : Int), .int .u64 (n : Int), dv] 26)) := ⟨_, rfl⟩
  have f0 : Fr (fun _ => False) w W := by rw [HW.out]; exact (Fr.refl (fun _ => False) w).alloc _
  have h1 := h.fr f0 (by simp) (by simp)
  have n0 : W.cell? ⟨w.heap.size, 0, none⟩ = some (.int .u64 (i : Int)) := by rw [HW.out]; simp
  have n1 : W.cell? ⟨w.heap.size, 1, none⟩ = some (.int .u64 (t : Int)) := by rw [HW.out]; simp
  have n2 : W.cell? ⟨w.heap.size, 2, none⟩ = some (.int .u64 (n : Int)) := by rw [HW.out]; simp
  have c0 := h1.c0
  have c1 := h1.c1
  have c2 := h1.c2
  have c3 := h1.c3
  have z0 := h1.z0
  have z1 := h1.z1
  have z2 := h1.z2
  have z3 := h1.z3
  have hlt := h.lt
  have hne : ¬ gb = w.heap.size := by omega
  have hne2 : ¬ w.heap.size = gb := by omega
  obtain ⟨ob, Hob⟩ : ∃ ob, Hid (w.heap.size = ob) := ⟨_, rfl⟩
  rw [Hob.out] at n0 n1 n2 hne hne2
  have HF : Hid (Fr (fun _ => False) w W) := f0
  have HA : Hid (¬ D gb) := h.apart
  obtain ⟨ao, cap, hv, _⟩ := h.own.form
  rw [hv] at c3
  clear h h1 f0 hv
  go_enter Try.func22, Try.ntmps22
  go_wp2_with fail
  rw [← HW.out, Hob.out]
  go_region
  all_goals
    go_wp2
    go_end0
    refine ⟨rfl, ⟨?_, ?_, ?_, ?_, ?_, ?_, ?_, ?_, OwnE.nil _ _, HA.out, hi, ht, hn⟩, ?_⟩
    · simp [World.cell?_setCell_other, World.cell?_setCell_same _ _ _ c0]
    · simp [World.cell?_setCell_other, World.cell?_setCell_same, c1]
    · simp [World.cell?_setCell_other, World.cell?_setCell_same, c2]
    · simp [World.cell?_setCell_other, World.cell?_setCell_same, c3]
    · simpa using z0
    · simpa using z1
    · simpa using z2
    · simpa using z3
    · exact ((((HF.out.mono (T := fun k => k = gb) (fun _ _ h => h.elim)).setCell (p := ⟨gb, _, none⟩) (Or.inl rfl) _).setCell (p := ⟨gb, _, none⟩) (Or.inl rfl) _).setCell (p := ⟨gb, _, none⟩) (Or.inl rfl) _ |>.setCell (p := ⟨gb, _, none⟩) (Or.inl rfl) _).drew
end
end Go.Proofs.Ytkkpdnholnkeoab
