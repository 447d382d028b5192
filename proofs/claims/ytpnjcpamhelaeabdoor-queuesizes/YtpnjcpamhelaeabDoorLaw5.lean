/- What the statements on frames ask: sameness, a size, the document's example, dummies. -/
import Derived.Test.YtpnjcpamhelaeabDoorSlices
namespace Go.Proofs.YtpnjcpamhelaeabDoor
open Go.RowKit

theorem prow_of_held {w : World} {g size id of : Nat} {p : List Nat} {f : Nat → Value} (h : w.rowIs g 30 of f) (hh : Held w g size id of of p f) (hof : parts size p.length = of) (hs : 19 ≤ size) (hle : of ≤ 1000000) : PRowS w (fun k => g < k) (some ⟨g, 0, none⟩) (frames size id p) of := by
  refine ⟨by rw [frames_length, hof]; exact Nat.le_refl _, by unfold maxLen; omega, fun _ => ⟨g, 0, rfl, fun i hi => ?_⟩⟩
  rw [frames_length, hof] at hi
  obtain ⟨ai, h1, h2, h3⟩ := hh i hi
  rw [frames_get size id p i (by rw [hof]; exact hi), hof, fr1_length size id of i p hs]
  refine ⟨ai, size, ?_, h2, fun _ a ha => h3 a ha⟩
  rw [Nat.zero_add, h.cell hi, h1]
theorem Fr.drewN {S : Nat → Prop} {w w1 : World} (h : Fr S w w1) (n : Nat) : Fr S w (w1.drewN n) := ⟨h.os, h.tape, h.output, h.size, h.block⟩
/-- 'ab', as it is laid. -/
theorem ab_row (w : World) : Row (w.alloc (.cells #[.int .u8 97, .int .u8 98] 5 (2, 3))) (some ⟨w.heap.size, 0, none⟩) [97, 98] 2 := by
  refine ⟨by simp, by unfold maxLen; simp, by decide, fun h => (by cases h), fun _ => ⟨w.heap.size, 0, rfl, fun i hi => ?_⟩⟩
  simp only [List.length_cons, List.length_nil] at hi
  rw [Nat.zero_add, cell_of_row _ w.heap.size i _ 5 (2, 3) (heap_alloc_new w _)]
  match i, hi with
  | 0, _ | 1, _ => rfl
end Go.Proofs.YtpnjcpamhelaeabDoor
