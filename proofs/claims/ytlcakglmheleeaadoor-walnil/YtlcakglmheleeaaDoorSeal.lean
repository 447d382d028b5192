/- Both ways of sealing answer the bytes and, behind them, their sum in four bytes, the lowest first. -/
import Derived.Test.YtlcakglmheleeaaDoorRefSum
namespace Go.Proofs.YtlcakglmheleeaaDoor
open Go.RowKit

/-- sealed bytes. -/
def sealed (l : List Nat) : List Nat := l ++ Crc.le 4 (Crc.sum l)
theorem sealed_length (l : List Nat) : (sealed l).length = l.length + 4 := by simp [sealed, Crc.le_length]
theorem sealed_lt (l : List Nat) (h : ∀ x ∈ l, x < 256) : ∀ x ∈ sealed l, x < 256 := fun x hx => by
  rcases List.mem_append.1 hx with h' | h'
  · exact h x h'
  · exact Crc.le_lt _ _ x h'
theorem Fresh.later {w w1 w2 : World} {ao : Option Addr} {l : List Nat} (h : Fresh w1 w2 ao l) (hs : w.heap.size ≤ w1.heap.size) : Fresh w w2 ao l :=
  ⟨h.1, fun a ha => by have := h.2 a ha; exact ⟨by omega, this.2⟩⟩

set_option maxHeartbeats 400000 in
theorem seal_any (ao : Option Addr) (l : List Nat) (cap : Nat) (w : World) (ht : Tab w) (hr : Row w ao l cap) (hlen : l.length + 16 ≤ 140737488355328) :
    Calls Tryd.prog 68 #[.slice ao l.length cap] w fun e w' => ∃ a1, e = .returned (.slice a1 (l.length + 4) (l.length + 4)) ∧ Fresh w w' a1 (sealed l) ∧ Fr (fun _ => False) w w' := by
  have f0 := (Fr.refl (fun _ => False) w).alloc (.cells #[.slice none 0 0] 105)
  have hlt := Crc.sum_lt l hr.2.2.1
  have hsum : ∀ w1, Tab w1 → Row w1 ao l cap → _ := fun w1 h1 h2 => sum_any ao l cap w1 h1 h2
  obtain ⟨s, Hs⟩ : ∃ s, Hid (Crc.sum l = s) := ⟨_, rfl⟩
  rw [Hs.out] at hlt
  have hse : Hid (sealed l = [] ++ l ++ Crc.le 4 s) := by show _ = _; rw [← Hs.out]; rfl
  have hsl := sealed_length l
  go_enter Tryd.func68, Tryd.ntmps68
  go_wp2_with fail
  refine (lay_any w.heap.size w.heap.size (.slice none 0 0) [] ao l cap _ (wr_new w _) (f0.row hr (by simp)) (by simp) (by simp; omega)).mono ?_
  rintro e w1 ⟨rfl, v1, hw1, hl1⟩
  have f1 : Fr (fun _ => False) w w1 := f0.trans' hl1.fr (fun i hi ht => by
    rcases ht with rfl | ht
    · omega
    · cases ht)
  go_wp2_with fail
  refine (hsum w1 (f1.tab ht (by simp)) (f1.row hr (by simp))).mono ?_
  rintro e w2 ⟨rfl, hw2⟩
  subst w2
  rw [Hs.out]
  go_wp2_with fail
  refine (wnum_any w.heap.size w.heap.size v1 ([] ++ l) s 4 w1 hw1 f1.size (by omega) (by omega) (by simp; omega)).mono ?_
  rintro e w2 ⟨rfl, v2, hw2, hl2⟩
  have f2 : Fr (fun _ => False) w w2 := f1.trans' hl2.fr (fun i hi ht => by
    rcases ht with rfl | ht
    · omega
    · rcases hl1.new i ht with h | h
      · cases h
      · simp at h; omega)
  rw [← hse.out] at hw2
  go_wp2_with fail
  refine (done_any _ _ _ (sealed l) _ hw2 (by omega)).mono ?_
  rintro e w3 ⟨a1, rfl, h1, h2⟩
  rw [hsl]
  go_wp2
  go_ret
  exact ⟨a1, rfl, h1.later f2.size, f2.trans h2⟩

set_option maxHeartbeats 400000 in
theorem refseal_any (ao : Option Addr) (l : List Nat) (cap : Nat) (w : World) (hr : Row w ao l cap) (hlen : l.length + 16 ≤ 140737488355328) :
    Calls Tryd.prog 29 #[.slice ao l.length cap] w fun e w' => ∃ v, e = .returned v ∧ Own w' w.heap.size v (sealed l) ∧ Fr (fun _ => False) w w' := by
  have hlt := Crc.sum_lt l hr.2.2.1
  have hsum := refsum_any ao l cap w hr
  obtain ⟨s, Hs⟩ : ∃ s, Hid (Crc.sum l = s) := ⟨_, rfl⟩
  rw [Hs.out] at hlt hsum
  have hse : Hid (sealed l = l ++ Crc.le 4 s) := by show _ = _; rw [← Hs.out]; rfl
  go_enter Tryd.func29, Tryd.ntmps29
  go_wp2_with fail
  refine hsum.mono ?_
  rintro e w2 ⟨rfl, hw2⟩
  subst w2
  go_wp2_with fail
  refine (refnum_any w ao l cap s 4 hr (by omega) (by omega) (by omega)).mono ?_
  rintro e w2 ⟨v, rfl, ho, hf⟩
  rw [← hse.out] at ho
  obtain ⟨a1, c1, hv, _, _⟩ := ho.row
  subst hv
  go_wp2
  go_ret
  exact ⟨_, rfl, ho, hf⟩
end Go.Proofs.YtlcakglmheleeaaDoor
