/- The document's example of a log. -/
import Derived.Test.YtkkpdnholnkeoabPut
namespace Go.Proofs.Ytkkpdnholnkeoab
open Go.RowKit

theorem x_row (w : World) : Row (w.alloc (.cells #[.int .u8 120] 5 (1, 2))) (some ⟨w.heap.size, 0, none⟩) [120] 1 := by
  refine ⟨by simp, by unfold maxLen; simp, by decide, fun h => (by cases h), fun _ => ⟨w.heap.size, 0, rfl, fun i hi => ?_⟩⟩
  simp at hi
  subst hi
  rw [Nat.zero_add, cell_of_row _ w.heap.size 0 _ 5 (1, 2) (heap_alloc_new w _)]
  rfl
theorem x_row' (w : World) : Row (w.alloc (.cells #[.int .u8 120] 5)) (some ⟨w.heap.size, 0, none⟩) [120] 1 := by
  refine ⟨by simp, by unfold maxLen; simp, by decide, fun h => (by cases h), fun _ => ⟨w.heap.size, 0, rfl, fun i hi => ?_⟩⟩
  simp at hi
  subst hi
  simp
theorem lastT_snoc (term : Nat) (es : List En) (x : En) : lastT term (es ++ [x]) = x.t := by
  unfold lastT
  rw [if_neg (by simp)]
  simp [List.getD_eq_getElem?_getD]
set_option maxRecDepth 100000 in
set_option maxHeartbeats 2000000 in
theorem awake_any (w : World) : Calls Try.prog 9 #[] w fun e w' => e = .returned (.bool true) ∧ Fr (fun _ => False) w w' := by
  go_enter Try.func9, Try.ntmps9
  go_wp2_with fail
  refine (new_any 5 2 0 (.slice none 0 0) none [] 0 w (fun _ => False) (fun _ => False) (ERow.nil _ _ _) (by simp) (by simp) (by simp) (by simp) (by omega) (by omega) (by omega)).mono ?_
  rintro e w1 ⟨f1, h⟩
  rcases h with ⟨h, _⟩ | ⟨_, gb, v, ys, rfl, hgb, g1, hys⟩
  · simp [inOrder] at h
  have hy : ys = [] := by simpa using hys
  subst hy
  have hlt1 := g1.lt
  have kc := Lib.run_convert_bytes_const (P := Try.prog) w1 22 5 #[.int .u8 120] 1 1 Try.underlying22 Try.underlying5
  have K1 : Hid (∀ W, Fr (fun _ => False) w1 W → ∀ a c, Row W a [120] c → Calls Try.prog 15 #[.pointer (some ⟨gb, 0, none⟩), .int .u64 2, .int .u8 0, .slice a 1 c] W fun e w' => e = .returned (.int .u64 6) ∧ (∃ v' x, Lg w' gb (fun k => w.heap.size ≤ k ∧ k ≠ gb) 5 2 0 [x] v' ∧ x.t = 2) ∧ Fr (fun k => w.heap.size ≤ k) W w') := by
    intro W fW a c hr
    have gW := g1.fr fW (by simp) (by simp)
    refine (put_any gW (by simp) (by simp) (fun k hk => ⟨by have := f1.size; have := fW.size; omega, by have := fW.size; omega⟩) 2 0 a [120] c hr (by simp) (by omega) (by omega)).mono ?_
    rintro e w' ⟨rfl, ⟨v', x, hl, hx⟩, hf⟩
    refine ⟨rfl, ⟨v', x, hl, by have := congrArg (fun p => p.2.1) hx; exact this⟩, hf.mono (fun k _ hk => ?_)⟩
    rcases hk with h | h
    · omega
    · exact (gW.own.blk k h).1
  have F1 : Hid (Fr (fun _ => False) w w1) := f1
  clear g1 f1 hys
  go_wp2_with fail
  refine (K1.out _ ((Fr.refl _ _).alloc _) _ _ (x_row w1)).mono ?_
  rintro e w2 ⟨rfl, ⟨v2, x, g2, hx⟩, f2⟩
  have F2 : Hid (Fr (fun _ => False) w w2) := (F1.out.alloc _).trans' f2 (fun i hi e => by omega)
  have K2 : Hid (∀ n, Calls Try.prog 19 #[.pointer (some ⟨gb, 0, none⟩)] (w2.drewN n) fun e w' => e = .returned (.int .u64 6) ∧ ∃ m, w' = (w2.drewN n).drewN m) := fun n => last_any (g2.drewN n) (by simp)
  have K3 : Hid (∀ n, Calls Try.prog 14 #[.pointer (some ⟨gb, 0, none⟩)] (w2.drewN n) fun e w' => e = .returned (.int .u64 2) ∧ ∃ m, w' = (w2.drewN n).drewN m) := fun n => by
    have := lastTerm_any (g2.drewN n) (by simp)
    rw [show lastT 2 [x] = 2 from (lastT_snoc 2 [] x).trans hx] at this
    exact this
  clear g2 f2 K1 kc
  go_wp2_with fail
  refine (K2.out 0).mono ?_
  rintro e w3 ⟨rfl, n, rfl⟩
  go_wp2_with fail
  refine (K3.out _).mono ?_
  rintro e w4 ⟨rfl, m, rfl⟩
  go_wp2
  go_ret
  exact ⟨rfl, F2.out.drewN _⟩
end Go.Proofs.Ytkkpdnholnkeoab
