/- Until, told, list, Get, Size. -/
import Derived.Test.YtmjkipdflhbgdaaMvD
namespace Go.Proofs.Ytmjkipdflhbgdaa
open Go.RowKit
set_option maxRecDepth 100000 in
set_option maxHeartbeats 2000000 in
theorem fat1_0 (lb eb g c ek ep : Nat) (h : ek ≤ ep) (w : World) (h0 : w.cell? ⟨lb, 0, none⟩ = some (.slice (some ⟨g, 0, none⟩) 1 c)) (h1 : w.cell? ⟨eb, 0, none⟩ = some (.int .u64 (ep : Int))) (h2 : w.cell? ⟨g, 0, none⟩ = some (.int .u64 (ek : Int))) :
    Calls Try.prog 85 #[.int .i64 0, .pointer (some ⟨lb, 0, none⟩), .pointer (some ⟨eb, 0, none⟩)] w fun e w' => e = .returned (.bool false) ∧ Fr (fun _ => False) w w' := by
  have H0 : Hid (w.cell? _ = _) := h0
  have H1 : Hid (w.cell? _ = _) := h1
  have H2 : Hid (w.cell? _ = _) := h2
  have q : decide ((ep : Int) < (ek : Int)) = false := by simp; omega
  have q2 : decide (ep < ek) = false := by simp; omega
  clear h0 h1 h2
  go_enter Try.func85, Try.ntmps85
  go_wp2_with fail
  refine wp_region_held_drew (S := (fun W : World => W.cell? ⟨lb, 0, none⟩ = some (.slice (some ⟨g, 0, none⟩) 1 c) ∧ W.cell? ⟨eb, 0, none⟩ = some (.int .u64 (ep : Int)) ∧ W.cell? ⟨g, 0, none⟩ = some (.int .u64 (ek : Int)))) (by kernel_rfl) ⟨((Fr.refl (fun _ => False) _).drew).cell H0.out (by simp), ((Fr.refl (fun _ => False) _).drew).cell H1.out (by simp), ((Fr.refl (fun _ => False) _).drew).cell H2.out (by simp)⟩ (fun hHeld => ?_)
  refine wpAnyH_take (i := 0) (oi := _) (v := ?_) (by rw [List.getElem?_toArray]; rfl) (by kernel_rfl) (by kernel_rfl) (by kernel_rfl) (fun _ _ _ h => by exact h) (Or.inl ⟨by rfl, ?_⟩) (by assumption) ?_
  rotate_left
  · (intro w hSw; (try dsimp only at hSw); obtain ⟨h0, h1, h2⟩ := hSw; go_simp; (try with_reducible rfl))
  try simp only [Act.put, List.setIfInBounds_toArray, List.set_cons_zero, List.set_cons_succ]
  refine wpAnyH_take (i := 1) (oi := _) (v := ?_) (by rw [List.getElem?_toArray]; rfl) (by kernel_rfl) (by kernel_rfl) (by kernel_rfl) (fun _ _ _ h => by exact h) (Or.inl ⟨by rfl, ?_⟩) (by assumption) ?_
  rotate_left
  · (intro w hSw; (try dsimp only at hSw); obtain ⟨h0, h1, h2⟩ := hSw; go_simp; (try with_reducible rfl))
  try simp only [Act.put, List.setIfInBounds_toArray, List.set_cons_zero, List.set_cons_succ]
  refine wpAnyH_take (i := 2) (oi := _) (v := ?_) (by rw [List.getElem?_toArray]; rfl) (by kernel_rfl) (by kernel_rfl) (by kernel_rfl) (fun _ _ _ h => by exact h) (Or.inl ⟨by rfl, ?_⟩) (by assumption) ?_
  rotate_left
  · (intro w hSw; (try dsimp only at hSw); obtain ⟨h0, h1, h2⟩ := hSw; go_simp; (try with_reducible rfl))
  try simp only [Act.put, List.setIfInBounds_toArray, List.set_cons_zero, List.set_cons_succ]
  refine wpAnyH_take (i := 3) (oi := _) (v := ?_) (by rw [List.getElem?_toArray]; rfl) (by kernel_rfl) (by kernel_rfl) (by kernel_rfl) (fun _ _ _ h => by exact h) (Or.inl ⟨by rfl, ?_⟩) (by assumption) ?_
  rotate_left
  · (intro w hSw; (try dsimp only at hSw); obtain ⟨h0, h1, h2⟩ := hSw; go_simp; (try with_reducible rfl))
  try simp only [Act.put, List.setIfInBounds_toArray, List.set_cons_zero, List.set_cons_succ]
  refine wpAnyH_take (i := 4) (oi := _) (v := ?_) (by rw [List.getElem?_toArray]; rfl) (by kernel_rfl) (by kernel_rfl) (by kernel_rfl) (fun _ _ _ h => by exact h) (Or.inl ⟨by rfl, ?_⟩) (by assumption) ?_
  rotate_left
  · (intro w hSw; (try dsimp only at hSw); obtain ⟨h0, h1, h2⟩ := hSw; go_simp; (try with_reducible rfl))
  try simp only [Act.put, List.setIfInBounds_toArray, List.set_cons_zero, List.set_cons_succ]
  refine wpAnyH_take (i := 5) (oi := _) (v := ?_) (by rw [List.getElem?_toArray]; rfl) (by kernel_rfl) (by kernel_rfl) (by kernel_rfl) (fun _ _ _ h => by exact h) (Or.inl ⟨by rfl, ?_⟩) (by assumption) ?_
  rotate_left
  · (intro w hSw; (try dsimp only at hSw); obtain ⟨h0, h1, h2⟩ := hSw; go_simp; (try with_reducible rfl))
  try simp only [Act.put, List.setIfInBounds_toArray, List.set_cons_zero, List.set_cons_succ]
  refine wpAnyH_take (i := 6) (oi := _) (v := ?_) (by rw [List.getElem?_toArray]; rfl) (by kernel_rfl) (by kernel_rfl) (by kernel_rfl) (fun _ _ _ h => by exact h) (Or.inl ⟨by rfl, ?_⟩) (by assumption) ?_
  rotate_left
  · (intro w hSw; (try dsimp only at hSw); obtain ⟨h0, h1, h2⟩ := hSw; go_simp; (try with_reducible rfl))
  try simp only [Act.put, List.setIfInBounds_toArray, List.set_cons_zero, List.set_cons_succ]
  refine wpAnyH_take (i := 7) (oi := _) (v := ?_) (by rw [List.getElem?_toArray]; rfl) (by kernel_rfl) (by kernel_rfl) (by kernel_rfl) (fun _ _ _ h => by exact h) (Or.inl ⟨by rfl, ?_⟩) (by assumption) ?_
  rotate_left
  · (intro w hSw; (try dsimp only at hSw); obtain ⟨h0, h1, h2⟩ := hSw; go_simp; (try with_reducible rfl))
  try simp only [Act.put, List.setIfInBounds_toArray, List.set_cons_zero, List.set_cons_succ]
  refine wpAnyH_done (by kernel_rfl) ?_ _
  go_wp2
  go_ret
  exact ⟨rfl, (Fr.refl (fun _ => False) _).drew⟩
set_option maxRecDepth 100000 in
set_option maxHeartbeats 2000000 in
theorem fat2_0 (lb eb g c ek ep : Nat) (h : ek ≤ ep) (w : World) (h0 : w.cell? ⟨lb, 0, none⟩ = some (.slice (some ⟨g, 0, none⟩) 2 c)) (h1 : w.cell? ⟨eb, 0, none⟩ = some (.int .u64 (ep : Int))) (h2 : w.cell? ⟨g, 0, none⟩ = some (.int .u64 (ek : Int))) :
    Calls Try.prog 85 #[.int .i64 0, .pointer (some ⟨lb, 0, none⟩), .pointer (some ⟨eb, 0, none⟩)] w fun e w' => e = .returned (.bool false) ∧ Fr (fun _ => False) w w' := by
  have H0 : Hid (w.cell? _ = _) := h0
  have H1 : Hid (w.cell? _ = _) := h1
  have H2 : Hid (w.cell? _ = _) := h2
  have q : decide ((ep : Int) < (ek : Int)) = false := by simp; omega
  have q2 : decide (ep < ek) = false := by simp; omega
  clear h0 h1 h2
  go_enter Try.func85, Try.ntmps85
  go_wp2_with fail
  refine wp_region_held_drew (S := (fun W : World => W.cell? ⟨lb, 0, none⟩ = some (.slice (some ⟨g, 0, none⟩) 2 c) ∧ W.cell? ⟨eb, 0, none⟩ = some (.int .u64 (ep : Int)) ∧ W.cell? ⟨g, 0, none⟩ = some (.int .u64 (ek : Int)))) (by kernel_rfl) ⟨((Fr.refl (fun _ => False) _).drew).cell H0.out (by simp), ((Fr.refl (fun _ => False) _).drew).cell H1.out (by simp), ((Fr.refl (fun _ => False) _).drew).cell H2.out (by simp)⟩ (fun hHeld => ?_)
  refine wpAnyH_take (i := 0) (oi := _) (v := ?_) (by rw [List.getElem?_toArray]; rfl) (by kernel_rfl) (by kernel_rfl) (by kernel_rfl) (fun _ _ _ h => by exact h) (Or.inl ⟨by rfl, ?_⟩) (by assumption) ?_
  rotate_left
  · (intro w hSw; (try dsimp only at hSw); obtain ⟨h0, h1, h2⟩ := hSw; go_simp; (try with_reducible rfl))
  try simp only [Act.put, List.setIfInBounds_toArray, List.set_cons_zero, List.set_cons_succ]
  refine wpAnyH_take (i := 1) (oi := _) (v := ?_) (by rw [List.getElem?_toArray]; rfl) (by kernel_rfl) (by kernel_rfl) (by kernel_rfl) (fun _ _ _ h => by exact h) (Or.inl ⟨by rfl, ?_⟩) (by assumption) ?_
  rotate_left
  · (intro w hSw; (try dsimp only at hSw); obtain ⟨h0, h1, h2⟩ := hSw; go_simp; (try with_reducible rfl))
  try simp only [Act.put, List.setIfInBounds_toArray, List.set_cons_zero, List.set_cons_succ]
  refine wpAnyH_take (i := 2) (oi := _) (v := ?_) (by rw [List.getElem?_toArray]; rfl) (by kernel_rfl) (by kernel_rfl) (by kernel_rfl) (fun _ _ _ h => by exact h) (Or.inl ⟨by rfl, ?_⟩) (by assumption) ?_
  rotate_left
  · (intro w hSw; (try dsimp only at hSw); obtain ⟨h0, h1, h2⟩ := hSw; go_simp; (try with_reducible rfl))
  try simp only [Act.put, List.setIfInBounds_toArray, List.set_cons_zero, List.set_cons_succ]
  refine wpAnyH_take (i := 3) (oi := _) (v := ?_) (by rw [List.getElem?_toArray]; rfl) (by kernel_rfl) (by kernel_rfl) (by kernel_rfl) (fun _ _ _ h => by exact h) (Or.inl ⟨by rfl, ?_⟩) (by assumption) ?_
  rotate_left
  · (intro w hSw; (try dsimp only at hSw); obtain ⟨h0, h1, h2⟩ := hSw; go_simp; (try with_reducible rfl))
  try simp only [Act.put, List.setIfInBounds_toArray, List.set_cons_zero, List.set_cons_succ]
  refine wpAnyH_take (i := 4) (oi := _) (v := ?_) (by rw [List.getElem?_toArray]; rfl) (by kernel_rfl) (by kernel_rfl) (by kernel_rfl) (fun _ _ _ h => by exact h) (Or.inl ⟨by rfl, ?_⟩) (by assumption) ?_
  rotate_left
  · (intro w hSw; (try dsimp only at hSw); obtain ⟨h0, h1, h2⟩ := hSw; go_simp; (try with_reducible rfl))
  try simp only [Act.put, List.setIfInBounds_toArray, List.set_cons_zero, List.set_cons_succ]
  refine wpAnyH_take (i := 5) (oi := _) (v := ?_) (by rw [List.getElem?_toArray]; rfl) (by kernel_rfl) (by kernel_rfl) (by kernel_rfl) (fun _ _ _ h => by exact h) (Or.inl ⟨by rfl, ?_⟩) (by assumption) ?_
  rotate_left
  · (intro w hSw; (try dsimp only at hSw); obtain ⟨h0, h1, h2⟩ := hSw; go_simp; (try with_reducible rfl))
  try simp only [Act.put, List.setIfInBounds_toArray, List.set_cons_zero, List.set_cons_succ]
  refine wpAnyH_take (i := 6) (oi := _) (v := ?_) (by rw [List.getElem?_toArray]; rfl) (by kernel_rfl) (by kernel_rfl) (by kernel_rfl) (fun _ _ _ h => by exact h) (Or.inl ⟨by rfl, ?_⟩) (by assumption) ?_
  rotate_left
  · (intro w hSw; (try dsimp only at hSw); obtain ⟨h0, h1, h2⟩ := hSw; go_simp; (try with_reducible rfl))
  try simp only [Act.put, List.setIfInBounds_toArray, List.set_cons_zero, List.set_cons_succ]
  refine wpAnyH_take (i := 7) (oi := _) (v := ?_) (by rw [List.getElem?_toArray]; rfl) (by kernel_rfl) (by kernel_rfl) (by kernel_rfl) (fun _ _ _ h => by exact h) (Or.inl ⟨by rfl, ?_⟩) (by assumption) ?_
  rotate_left
  · (intro w hSw; (try dsimp only at hSw); obtain ⟨h0, h1, h2⟩ := hSw; go_simp; (try with_reducible rfl))
  try simp only [Act.put, List.setIfInBounds_toArray, List.set_cons_zero, List.set_cons_succ]
  refine wpAnyH_done (by kernel_rfl) ?_ _
  go_wp2
  go_ret
  exact ⟨rfl, (Fr.refl (fun _ => False) _).drew⟩
set_option maxRecDepth 100000 in
set_option maxHeartbeats 2000000 in
theorem fat2_1f (lb eb g c ek ep : Nat) (h : ek ≤ ep) (w : World) (h0 : w.cell? ⟨lb, 0, none⟩ = some (.slice (some ⟨g, 0, none⟩) 2 c)) (h1 : w.cell? ⟨eb, 0, none⟩ = some (.int .u64 (ep : Int))) (h2 : w.cell? ⟨g, 4, none⟩ = some (.int .u64 (ek : Int))) :
    Calls Try.prog 85 #[.int .i64 1, .pointer (some ⟨lb, 0, none⟩), .pointer (some ⟨eb, 0, none⟩)] w fun e w' => e = .returned (.bool false) ∧ Fr (fun _ => False) w w' := by
  have H0 : Hid (w.cell? _ = _) := h0
  have H1 : Hid (w.cell? _ = _) := h1
  have H2 : Hid (w.cell? _ = _) := h2
  have q : decide ((ep : Int) < (ek : Int)) = false := by simp; omega
  have q2 : decide (ep < ek) = false := by simp; omega
  clear h0 h1 h2
  go_enter Try.func85, Try.ntmps85
  go_wp2_with fail
  refine wp_region_held_drew (S := (fun W : World => W.cell? ⟨lb, 0, none⟩ = some (.slice (some ⟨g, 0, none⟩) 2 c) ∧ W.cell? ⟨eb, 0, none⟩ = some (.int .u64 (ep : Int)) ∧ W.cell? ⟨g, 4, none⟩ = some (.int .u64 (ek : Int)))) (by kernel_rfl) ⟨((Fr.refl (fun _ => False) _).drew).cell H0.out (by simp), ((Fr.refl (fun _ => False) _).drew).cell H1.out (by simp), ((Fr.refl (fun _ => False) _).drew).cell H2.out (by simp)⟩ (fun hHeld => ?_)
  refine wpAnyH_take (i := 0) (oi := _) (v := ?_) (by rw [List.getElem?_toArray]; rfl) (by kernel_rfl) (by kernel_rfl) (by kernel_rfl) (fun _ _ _ h => by exact h) (Or.inl ⟨by rfl, ?_⟩) (by assumption) ?_
  rotate_left
  · (intro w hSw; (try dsimp only at hSw); obtain ⟨h0, h1, h2⟩ := hSw; go_simp; (try with_reducible rfl))
  try simp only [Act.put, List.setIfInBounds_toArray, List.set_cons_zero, List.set_cons_succ]
  refine wpAnyH_take (i := 1) (oi := _) (v := ?_) (by rw [List.getElem?_toArray]; rfl) (by kernel_rfl) (by kernel_rfl) (by kernel_rfl) (fun _ _ _ h => by exact h) (Or.inl ⟨by rfl, ?_⟩) (by assumption) ?_
  rotate_left
  · (intro w hSw; (try dsimp only at hSw); obtain ⟨h0, h1, h2⟩ := hSw; go_simp; (try with_reducible rfl))
  try simp only [Act.put, List.setIfInBounds_toArray, List.set_cons_zero, List.set_cons_succ]
  refine wpAnyH_take (i := 2) (oi := _) (v := ?_) (by rw [List.getElem?_toArray]; rfl) (by kernel_rfl) (by kernel_rfl) (by kernel_rfl) (fun _ _ _ h => by exact h) (Or.inl ⟨by rfl, ?_⟩) (by assumption) ?_
  rotate_left
  · (intro w hSw; (try dsimp only at hSw); obtain ⟨h0, h1, h2⟩ := hSw; go_simp; (try with_reducible rfl))
  try simp only [Act.put, List.setIfInBounds_toArray, List.set_cons_zero, List.set_cons_succ]
  refine wpAnyH_take (i := 3) (oi := _) (v := ?_) (by rw [List.getElem?_toArray]; rfl) (by kernel_rfl) (by kernel_rfl) (by kernel_rfl) (fun _ _ _ h => by exact h) (Or.inl ⟨by rfl, ?_⟩) (by assumption) ?_
  rotate_left
  · (intro w hSw; (try dsimp only at hSw); obtain ⟨h0, h1, h2⟩ := hSw; go_simp; (try with_reducible rfl))
  try simp only [Act.put, List.setIfInBounds_toArray, List.set_cons_zero, List.set_cons_succ]
  refine wpAnyH_take (i := 4) (oi := _) (v := ?_) (by rw [List.getElem?_toArray]; rfl) (by kernel_rfl) (by kernel_rfl) (by kernel_rfl) (fun _ _ _ h => by exact h) (Or.inl ⟨by rfl, ?_⟩) (by assumption) ?_
  rotate_left
  · (intro w hSw; (try dsimp only at hSw); obtain ⟨h0, h1, h2⟩ := hSw; go_simp; (try with_reducible rfl))
  try simp only [Act.put, List.setIfInBounds_toArray, List.set_cons_zero, List.set_cons_succ]
  refine wpAnyH_take (i := 5) (oi := _) (v := ?_) (by rw [List.getElem?_toArray]; rfl) (by kernel_rfl) (by kernel_rfl) (by kernel_rfl) (fun _ _ _ h => by exact h) (Or.inl ⟨by rfl, ?_⟩) (by assumption) ?_
  rotate_left
  · (intro w hSw; (try dsimp only at hSw); obtain ⟨h0, h1, h2⟩ := hSw; go_simp; (try with_reducible rfl))
  try simp only [Act.put, List.setIfInBounds_toArray, List.set_cons_zero, List.set_cons_succ]
  refine wpAnyH_take (i := 6) (oi := _) (v := ?_) (by rw [List.getElem?_toArray]; rfl) (by kernel_rfl) (by kernel_rfl) (by kernel_rfl) (fun _ _ _ h => by exact h) (Or.inl ⟨by rfl, ?_⟩) (by assumption) ?_
  rotate_left
  · (intro w hSw; (try dsimp only at hSw); obtain ⟨h0, h1, h2⟩ := hSw; go_simp; (try with_reducible rfl))
  try simp only [Act.put, List.setIfInBounds_toArray, List.set_cons_zero, List.set_cons_succ]
  refine wpAnyH_take (i := 7) (oi := _) (v := ?_) (by rw [List.getElem?_toArray]; rfl) (by kernel_rfl) (by kernel_rfl) (by kernel_rfl) (fun _ _ _ h => by exact h) (Or.inl ⟨by rfl, ?_⟩) (by assumption) ?_
  rotate_left
  · (intro w hSw; (try dsimp only at hSw); obtain ⟨h0, h1, h2⟩ := hSw; go_simp; (try with_reducible rfl))
  try simp only [Act.put, List.setIfInBounds_toArray, List.set_cons_zero, List.set_cons_succ]
  refine wpAnyH_done (by kernel_rfl) ?_ _
  go_wp2
  go_ret
  exact ⟨rfl, (Fr.refl (fun _ => False) _).drew⟩
set_option maxRecDepth 100000 in
set_option maxHeartbeats 2000000 in
theorem fat2_1t (lb eb g c ek ep : Nat) (h : ep < ek) (w : World) (h0 : w.cell? ⟨lb, 0, none⟩ = some (.slice (some ⟨g, 0, none⟩) 2 c)) (h1 : w.cell? ⟨eb, 0, none⟩ = some (.int .u64 (ep : Int))) (h2 : w.cell? ⟨g, 4, none⟩ = some (.int .u64 (ek : Int))) :
    Calls Try.prog 85 #[.int .i64 1, .pointer (some ⟨lb, 0, none⟩), .pointer (some ⟨eb, 0, none⟩)] w fun e w' => e = .returned (.bool true) ∧ Fr (fun _ => False) w w' := by
  have H0 : Hid (w.cell? _ = _) := h0
  have H1 : Hid (w.cell? _ = _) := h1
  have H2 : Hid (w.cell? _ = _) := h2
  have q : decide ((ep : Int) < (ek : Int)) = true := by simp; omega
  have q2 : decide (ep < ek) = true := by simp; omega
  clear h0 h1 h2
  go_enter Try.func85, Try.ntmps85
  go_wp2_with fail
  refine wp_region_held_drew (S := (fun W : World => W.cell? ⟨lb, 0, none⟩ = some (.slice (some ⟨g, 0, none⟩) 2 c) ∧ W.cell? ⟨eb, 0, none⟩ = some (.int .u64 (ep : Int)) ∧ W.cell? ⟨g, 4, none⟩ = some (.int .u64 (ek : Int)))) (by kernel_rfl) ⟨((Fr.refl (fun _ => False) _).drew).cell H0.out (by simp), ((Fr.refl (fun _ => False) _).drew).cell H1.out (by simp), ((Fr.refl (fun _ => False) _).drew).cell H2.out (by simp)⟩ (fun hHeld => ?_)
  refine wpAnyH_take (i := 0) (oi := _) (v := ?_) (by rw [List.getElem?_toArray]; rfl) (by kernel_rfl) (by kernel_rfl) (by kernel_rfl) (fun _ _ _ h => by exact h) (Or.inl ⟨by rfl, ?_⟩) (by assumption) ?_
  rotate_left
  · (intro w hSw; (try dsimp only at hSw); obtain ⟨h0, h1, h2⟩ := hSw; go_simp; (try with_reducible rfl))
  try simp only [Act.put, List.setIfInBounds_toArray, List.set_cons_zero, List.set_cons_succ]
  refine wpAnyH_take (i := 1) (oi := _) (v := ?_) (by rw [List.getElem?_toArray]; rfl) (by kernel_rfl) (by kernel_rfl) (by kernel_rfl) (fun _ _ _ h => by exact h) (Or.inl ⟨by rfl, ?_⟩) (by assumption) ?_
  rotate_left
  · (intro w hSw; (try dsimp only at hSw); obtain ⟨h0, h1, h2⟩ := hSw; go_simp; (try with_reducible rfl))
  try simp only [Act.put, List.setIfInBounds_toArray, List.set_cons_zero, List.set_cons_succ]
  refine wpAnyH_take (i := 2) (oi := _) (v := ?_) (by rw [List.getElem?_toArray]; rfl) (by kernel_rfl) (by kernel_rfl) (by kernel_rfl) (fun _ _ _ h => by exact h) (Or.inl ⟨by rfl, ?_⟩) (by assumption) ?_
  rotate_left
  · (intro w hSw; (try dsimp only at hSw); obtain ⟨h0, h1, h2⟩ := hSw; go_simp; (try with_reducible rfl))
  try simp only [Act.put, List.setIfInBounds_toArray, List.set_cons_zero, List.set_cons_succ]
  refine wpAnyH_take (i := 3) (oi := _) (v := ?_) (by rw [List.getElem?_toArray]; rfl) (by kernel_rfl) (by kernel_rfl) (by kernel_rfl) (fun _ _ _ h => by exact h) (Or.inl ⟨by rfl, ?_⟩) (by assumption) ?_
  rotate_left
  · (intro w hSw; (try dsimp only at hSw); obtain ⟨h0, h1, h2⟩ := hSw; go_simp; (try with_reducible rfl))
  try simp only [Act.put, List.setIfInBounds_toArray, List.set_cons_zero, List.set_cons_succ]
  refine wpAnyH_take (i := 4) (oi := _) (v := ?_) (by rw [List.getElem?_toArray]; rfl) (by kernel_rfl) (by kernel_rfl) (by kernel_rfl) (fun _ _ _ h => by exact h) (Or.inl ⟨by rfl, ?_⟩) (by assumption) ?_
  rotate_left
  · (intro w hSw; (try dsimp only at hSw); obtain ⟨h0, h1, h2⟩ := hSw; go_simp; (try with_reducible rfl))
  try simp only [Act.put, List.setIfInBounds_toArray, List.set_cons_zero, List.set_cons_succ]
  refine wpAnyH_take (i := 5) (oi := _) (v := ?_) (by rw [List.getElem?_toArray]; rfl) (by kernel_rfl) (by kernel_rfl) (by kernel_rfl) (fun _ _ _ h => by exact h) (Or.inl ⟨by rfl, ?_⟩) (by assumption) ?_
  rotate_left
  · (intro w hSw; (try dsimp only at hSw); obtain ⟨h0, h1, h2⟩ := hSw; go_simp; (try with_reducible rfl))
  try simp only [Act.put, List.setIfInBounds_toArray, List.set_cons_zero, List.set_cons_succ]
  refine wpAnyH_take (i := 6) (oi := _) (v := ?_) (by rw [List.getElem?_toArray]; rfl) (by kernel_rfl) (by kernel_rfl) (by kernel_rfl) (fun _ _ _ h => by exact h) (Or.inl ⟨by rfl, ?_⟩) (by assumption) ?_
  rotate_left
  · (intro w hSw; (try dsimp only at hSw); obtain ⟨h0, h1, h2⟩ := hSw; go_simp; (try with_reducible rfl))
  try simp only [Act.put, List.setIfInBounds_toArray, List.set_cons_zero, List.set_cons_succ]
  refine wpAnyH_take (i := 7) (oi := _) (v := ?_) (by rw [List.getElem?_toArray]; rfl) (by kernel_rfl) (by kernel_rfl) (by kernel_rfl) (fun _ _ _ h => by exact h) (Or.inl ⟨by rfl, ?_⟩) (by assumption) ?_
  rotate_left
  · (intro w hSw; (try dsimp only at hSw); obtain ⟨h0, h1, h2⟩ := hSw; go_simp; (try with_reducible rfl))
  try simp only [Act.put, List.setIfInBounds_toArray, List.set_cons_zero, List.set_cons_succ]
  refine wpAnyH_done (by kernel_rfl) ?_ _
  go_wp2
  go_ret
  exact ⟨rfl, (Fr.refl (fun _ => False) _).drew⟩
set_option maxRecDepth 100000 in
set_option maxHeartbeats 2000000 in
theorem search_0 (pl pe : Value) (w : World) :
    Calls Try.prog 84 #[.int .i64 0, .func (.func 85) #[] #[pl, pe]] w fun e w' => e = .returned (.int .i64 0) ∧ Fr (fun _ => False) w w' := by
  go_enter Try.func84, Try.ntmps84
  go_wp2
  go_loopw [5, 6] (fun iv jv wr => ((iv = .int .i64 0 ∧ jv = .int .i64 0)) ∧ Hid (Fr (fun _ => False) w wr)) (fun iv jv _ => ((intOf jv) - (intOf iv)).toNat)
  case atStart => exact ⟨⟨rfl, rfl⟩, Fr.refl _ _⟩
  case round =>
    obtain ⟨hi, HF⟩ := hrel
    obtain ⟨rfl, rfl⟩ := hi
    · go_wp2
      go_ret
      exact ⟨rfl, HF.out⟩
set_option maxRecDepth 100000 in
set_option maxHeartbeats 2000000 in
theorem search_1 (pl pe : Value) (w : World) (h0 : ∀ W, Fr (fun _ => False) w W → Calls Try.prog 85 #[.int .i64 0, pl, pe] W fun e w' => e = .returned (.bool false) ∧ Fr (fun _ => False) W w') :
    Calls Try.prog 84 #[.int .i64 1, .func (.func 85) #[] #[pl, pe]] w fun e w' => e = .returned (.int .i64 1) ∧ Fr (fun _ => False) w w' := by
  have K0 : Hid (∀ W, Fr (fun _ => False) w W → Calls _ _ _ _ _) := h0
  clear h0
  go_enter Try.func84, Try.ntmps84
  go_wp2
  go_loopw [5, 6] (fun iv jv wr => ((iv = .int .i64 0 ∧ jv = .int .i64 1) ∨ (iv = .int .i64 1 ∧ jv = .int .i64 1)) ∧ Hid (Fr (fun _ => False) w wr)) (fun iv jv _ => ((intOf jv) - (intOf iv)).toNat)
  case atStart => exact ⟨.inl ⟨rfl, rfl⟩, Fr.refl _ _⟩
  case round =>
    obtain ⟨hi, HF⟩ := hrel
    rcases hi with ⟨rfl, rfl⟩ | ⟨rfl, rfl⟩
    · go_wp2_with fail
      refine (K0.out _ HF.out).mono ?_
      rintro e w5 ⟨rfl, f5⟩
      go_wp2
      go_roundw
      case rel => exact ⟨.inr ⟨rfl, rfl⟩, HF.out.trans f5⟩
      case measure => simp [intOf]
    · go_wp2
      go_ret
      exact ⟨rfl, HF.out⟩
set_option maxRecDepth 100000 in
set_option maxHeartbeats 2000000 in
theorem search_2a (pl pe : Value) (w : World) (h0 : ∀ W, Fr (fun _ => False) w W → Calls Try.prog 85 #[.int .i64 1, pl, pe] W fun e w' => e = .returned (.bool true) ∧ Fr (fun _ => False) W w') (h1 : ∀ W, Fr (fun _ => False) w W → Calls Try.prog 85 #[.int .i64 0, pl, pe] W fun e w' => e = .returned (.bool false) ∧ Fr (fun _ => False) W w') :
    Calls Try.prog 84 #[.int .i64 2, .func (.func 85) #[] #[pl, pe]] w fun e w' => e = .returned (.int .i64 1) ∧ Fr (fun _ => False) w w' := by
  have K0 : Hid (∀ W, Fr (fun _ => False) w W → Calls _ _ _ _ _) := h0
  clear h0
  have K1 : Hid (∀ W, Fr (fun _ => False) w W → Calls _ _ _ _ _) := h1
  clear h1
  go_enter Try.func84, Try.ntmps84
  go_wp2
  go_loopw [5, 6] (fun iv jv wr => ((iv = .int .i64 0 ∧ jv = .int .i64 2) ∨ (iv = .int .i64 0 ∧ jv = .int .i64 1) ∨ (iv = .int .i64 1 ∧ jv = .int .i64 1)) ∧ Hid (Fr (fun _ => False) w wr)) (fun iv jv _ => ((intOf jv) - (intOf iv)).toNat)
  case atStart => exact ⟨.inl ⟨rfl, rfl⟩, Fr.refl _ _⟩
  case round =>
    obtain ⟨hi, HF⟩ := hrel
    rcases hi with ⟨rfl, rfl⟩ | ⟨rfl, rfl⟩ | ⟨rfl, rfl⟩
    · go_wp2_with fail
      refine (K0.out _ HF.out).mono ?_
      rintro e w5 ⟨rfl, f5⟩
      go_wp2
      go_roundw
      case rel => exact ⟨.inr (.inl ⟨rfl, rfl⟩), HF.out.trans f5⟩
      case measure => simp [intOf]
    · go_wp2_with fail
      refine (K1.out _ HF.out).mono ?_
      rintro e w5 ⟨rfl, f5⟩
      go_wp2
      go_roundw
      case rel => exact ⟨.inr (.inr ⟨rfl, rfl⟩), HF.out.trans f5⟩
      case measure => simp [intOf]
    · go_wp2
      go_ret
      exact ⟨rfl, HF.out⟩
set_option maxRecDepth 100000 in
set_option maxHeartbeats 2000000 in
theorem search_2b (pl pe : Value) (w : World) (h0 : ∀ W, Fr (fun _ => False) w W → Calls Try.prog 85 #[.int .i64 1, pl, pe] W fun e w' => e = .returned (.bool false) ∧ Fr (fun _ => False) W w') :
    Calls Try.prog 84 #[.int .i64 2, .func (.func 85) #[] #[pl, pe]] w fun e w' => e = .returned (.int .i64 2) ∧ Fr (fun _ => False) w w' := by
  have K0 : Hid (∀ W, Fr (fun _ => False) w W → Calls _ _ _ _ _) := h0
  clear h0
  go_enter Try.func84, Try.ntmps84
  go_wp2
  go_loopw [5, 6] (fun iv jv wr => ((iv = .int .i64 0 ∧ jv = .int .i64 2) ∨ (iv = .int .i64 2 ∧ jv = .int .i64 2)) ∧ Hid (Fr (fun _ => False) w wr)) (fun iv jv _ => ((intOf jv) - (intOf iv)).toNat)
  case atStart => exact ⟨.inl ⟨rfl, rfl⟩, Fr.refl _ _⟩
  case round =>
    obtain ⟨hi, HF⟩ := hrel
    rcases hi with ⟨rfl, rfl⟩ | ⟨rfl, rfl⟩
    · go_wp2_with fail
      refine (K0.out _ HF.out).mono ?_
      rintro e w5 ⟨rfl, f5⟩
      go_wp2
      go_roundw
      case rel => exact ⟨.inr ⟨rfl, rfl⟩, HF.out.trans f5⟩
      case measure => simp [intOf]
    · go_wp2
      go_ret
      exact ⟨rfl, HF.out⟩
set_option maxRecDepth 100000 in
set_option maxHeartbeats 2000000 in
theorem until_0  (ep : Nat) (w : World) : Calls Try.prog 59 #[.slice none 0 0, .int .u64 (ep : Int)] w fun e w' => e = .returned (.int .i64 0) ∧ Fr (fun _ => False) w w' := by
  obtain ⟨W, HW⟩ : ∃ W, Hid (W = ((w.alloc (.cells #[.slice none 0 0] 66)).alloc (.cells #[.int .u64 (ep : Int)] 24))) := ⟨_, rfl⟩
  have F0 : Hid (Fr (fun _ => False) w W) := (show Fr _ _ _ by rw [HW.out]; exact ((Fr.refl (fun _ => False) w).alloc _).alloc _)
  have HL : Hid (W.cell? ⟨w.heap.size, 0, none⟩ = some (.slice none 0 0)) := (show _ = _ by rw [HW.out]; simp)
  have HE : Hid (W.cell? ⟨w.heap.size + 1, 0, none⟩ = some (.int .u64 (ep : Int))) := (show _ = _ by rw [HW.out]; simp)
  have KS : Hid (Calls _ _ _ _ _) := search_0 (.pointer (some ⟨w.heap.size, 0, none⟩)) (.pointer (some ⟨w.heap.size + 1, 0, none⟩)) W
  have hWW := HW.out
  have hl0 := HL.out
  clear HE
  go_enter Try.func59, Try.ntmps59
  go_wp2_with fail
  rw [← hWW]
  try go_wp2_with fail
  refine KS.out.mono ?_
  rintro e w5 ⟨rfl, f5⟩
  go_wp2
  go_ret
  exact ⟨rfl, F0.out.trans f5⟩
set_option maxRecDepth 100000 in
set_option maxHeartbeats 2000000 in
theorem until_1 (g c e0 : Nat) (ep : Nat) (h0 : e0 ≤ ep) (w : World) (c0 : w.cell? ⟨g, 0, none⟩ = some (.int .u64 (e0 : Int))) : Calls Try.prog 59 #[.slice (some ⟨g, 0, none⟩) 1 c, .int .u64 (ep : Int)] w fun e w' => e = .returned (.int .i64 1) ∧ Fr (fun _ => False) w w' := by
  obtain ⟨W, HW⟩ : ∃ W, Hid (W = ((w.alloc (.cells #[.slice (some ⟨g, 0, none⟩) 1 c] 66)).alloc (.cells #[.int .u64 (ep : Int)] 24))) := ⟨_, rfl⟩
  have F0 : Hid (Fr (fun _ => False) w W) := (show Fr _ _ _ by rw [HW.out]; exact ((Fr.refl (fun _ => False) w).alloc _).alloc _)
  have HL : Hid (W.cell? ⟨w.heap.size, 0, none⟩ = some (.slice (some ⟨g, 0, none⟩) 1 c)) := (show _ = _ by rw [HW.out]; simp)
  have HE : Hid (W.cell? ⟨w.heap.size + 1, 0, none⟩ = some (.int .u64 (ep : Int))) := (show _ = _ by rw [HW.out]; simp)
  have HC0 : Hid (W.cell? ⟨g, 0, none⟩ = some _) := F0.out.cell c0 (by simp)
  have KS : Hid (Calls _ _ _ _ _) := search_1 (.pointer (some ⟨w.heap.size, 0, none⟩)) (.pointer (some ⟨w.heap.size + 1, 0, none⟩)) W (fun W1 f => fat1_0 w.heap.size (w.heap.size + 1) g c e0 ep h0 W1 (f.cell HL.out (by simp)) (f.cell HE.out (by simp)) (f.cell HC0.out (by simp)))
  have hWW := HW.out
  have hl0 := HL.out
  clear c0
  go_enter Try.func59, Try.ntmps59
  go_wp2_with fail
  rw [← hWW]
  try go_wp2_with fail
  refine KS.out.mono ?_
  rintro e w5 ⟨rfl, f5⟩
  go_wp2
  go_ret
  exact ⟨rfl, F0.out.trans f5⟩
set_option maxRecDepth 100000 in
set_option maxHeartbeats 2000000 in
theorem until_2a (g c e0 e1 : Nat) (ep : Nat) (h0 : e0 ≤ ep) (h1 : ep < e1) (w : World) (c0 : w.cell? ⟨g, 0, none⟩ = some (.int .u64 (e0 : Int))) (c4 : w.cell? ⟨g, 4, none⟩ = some (.int .u64 (e1 : Int))) : Calls Try.prog 59 #[.slice (some ⟨g, 0, none⟩) 2 c, .int .u64 (ep : Int)] w fun e w' => e = .returned (.int .i64 1) ∧ Fr (fun _ => False) w w' := by
  obtain ⟨W, HW⟩ : ∃ W, Hid (W = ((w.alloc (.cells #[.slice (some ⟨g, 0, none⟩) 2 c] 66)).alloc (.cells #[.int .u64 (ep : Int)] 24))) := ⟨_, rfl⟩
  have F0 : Hid (Fr (fun _ => False) w W) := (show Fr _ _ _ by rw [HW.out]; exact ((Fr.refl (fun _ => False) w).alloc _).alloc _)
  have HL : Hid (W.cell? ⟨w.heap.size, 0, none⟩ = some (.slice (some ⟨g, 0, none⟩) 2 c)) := (show _ = _ by rw [HW.out]; simp)
  have HE : Hid (W.cell? ⟨w.heap.size + 1, 0, none⟩ = some (.int .u64 (ep : Int))) := (show _ = _ by rw [HW.out]; simp)
  have HC0 : Hid (W.cell? ⟨g, 0, none⟩ = some _) := F0.out.cell c0 (by simp)
  have HC4 : Hid (W.cell? ⟨g, 4, none⟩ = some _) := F0.out.cell c4 (by simp)
  have KS : Hid (Calls _ _ _ _ _) := search_2a (.pointer (some ⟨w.heap.size, 0, none⟩)) (.pointer (some ⟨w.heap.size + 1, 0, none⟩)) W (fun W1 f => fat2_1t w.heap.size (w.heap.size + 1) g c e1 ep h1 W1 (f.cell HL.out (by simp)) (f.cell HE.out (by simp)) (f.cell HC4.out (by simp))) (fun W1 f => fat2_0 w.heap.size (w.heap.size + 1) g c e0 ep h0 W1 (f.cell HL.out (by simp)) (f.cell HE.out (by simp)) (f.cell HC0.out (by simp)))
  have hWW := HW.out
  have hl0 := HL.out
  clear c0 c4
  go_enter Try.func59, Try.ntmps59
  go_wp2_with fail
  rw [← hWW]
  try go_wp2_with fail
  refine KS.out.mono ?_
  rintro e w5 ⟨rfl, f5⟩
  go_wp2
  go_ret
  exact ⟨rfl, F0.out.trans f5⟩
set_option maxRecDepth 100000 in
set_option maxHeartbeats 2000000 in
theorem until_2b (g c e1 : Nat) (ep : Nat) (h1 : e1 ≤ ep) (w : World) (c4 : w.cell? ⟨g, 4, none⟩ = some (.int .u64 (e1 : Int))) : Calls Try.prog 59 #[.slice (some ⟨g, 0, none⟩) 2 c, .int .u64 (ep : Int)] w fun e w' => e = .returned (.int .i64 2) ∧ Fr (fun _ => False) w w' := by
  obtain ⟨W, HW⟩ : ∃ W, Hid (W = ((w.alloc (.cells #[.slice (some ⟨g, 0, none⟩) 2 c] 66)).alloc (.cells #[.int .u64 (ep : Int)] 24))) := ⟨_, rfl⟩
  have F0 : Hid (Fr (fun _ => False) w W) := (show Fr _ _ _ by rw [HW.out]; exact ((Fr.refl (fun _ => False) w).alloc _).alloc _)
  have HL : Hid (W.cell? ⟨w.heap.size, 0, none⟩ = some (.slice (some ⟨g, 0, none⟩) 2 c)) := (show _ = _ by rw [HW.out]; simp)
  have HE : Hid (W.cell? ⟨w.heap.size + 1, 0, none⟩ = some (.int .u64 (ep : Int))) := (show _ = _ by rw [HW.out]; simp)
  have HC4 : Hid (W.cell? ⟨g, 4, none⟩ = some _) := F0.out.cell c4 (by simp)
  have KS : Hid (Calls _ _ _ _ _) := search_2b (.pointer (some ⟨w.heap.size, 0, none⟩)) (.pointer (some ⟨w.heap.size + 1, 0, none⟩)) W (fun W1 f => fat2_1f w.heap.size (w.heap.size + 1) g c e1 ep h1 W1 (f.cell HL.out (by simp)) (f.cell HE.out (by simp)) (f.cell HC4.out (by simp)))
  have hWW := HW.out
  have hl0 := HL.out
  clear c4
  go_enter Try.func59, Try.ntmps59
  go_wp2_with fail
  rw [← hWW]
  try go_wp2_with fail
  refine KS.out.mono ?_
  rintro e w5 ⟨rfl, f5⟩
  go_wp2
  go_ret
  exact ⟨rfl, F0.out.trans f5⟩
end Go.Proofs.Ytmjkipdflhbgdaa
