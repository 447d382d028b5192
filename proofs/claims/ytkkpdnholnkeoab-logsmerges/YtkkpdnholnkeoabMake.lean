/- The program's log: copies of entries, a log made anew. -/
import Derived.Test.YtkkpdnholnkeoabTerm
namespace Go.Proofs.Ytkkpdnholnkeoab
open Go.RowKit

def follow (i j : Nat) : Bool := decide (i + 1 = j)
set_option maxHeartbeats 400000 in
theorem follows_any (i1 t1 k1 : Int) (v1 : Value) (i2 : Nat) (t2 k2 : Int) (v2 : Value) (i : Nat) (hi : i1 = (i : Int)) (h1 : i < 18446744073709551616) (h2 : i2 < 18446744073709551616) (w : World) :
    Calls Try.prog 25 #[.agg #[.int .u64 i1, .int .u64 t1, .int .u8 k1, v1], .agg #[.int .u64 (i2 : Int), .int .u64 t2, .int .u8 k2, v2]] w fun e w' => e = .returned (.bool (follow i i2)) ∧ Fr (fun _ => False) w w' := by
  subst hi
  have f := ((Fr.refl (fun _ => False) w).alloc (.cells #[.int .u64 (i : Int), .int .u64 t1, .int .u8 k1, v1] 36)).alloc (.cells #[.int .u64 (i2 : Int), .int .u64 t2, .int .u8 k2, v2] 36)
  have F : Hid (Fr _ _ _) := f
  clear f
  by_cases hlt : i < i2
  · have e1 : (i2 : Int) - (i : Int) = ((i2 - i : Nat) : Int) := by omega
    obtain ⟨z, Hz⟩ : ∃ z, Hid (z = i2 - i) := ⟨_, rfl⟩
    rw [← Hz.out] at e1
    have hzl : z < 18446744073709551616 := by rw [Hz.out]; omega
    go_enter Try.func25, Try.ntmps25
    go_wp2
    go_ret
    refine ⟨?_, F.out⟩
    have := Hz.out
    unfold follow
    by_cases hz : z = 1
    · have : i + 1 = i2 := by omega
      simp [hz, this]
    · have : ¬ i + 1 = i2 := by omega
      simp [this]
      omega
  · go_enter Try.func25, Try.ntmps25
    go_wp2
    go_ret
    refine ⟨?_, F.out⟩
    have : ¬ i + 1 = i2 := by omega
    simp [follow, this]
theorem row_nil (w : World) : Row w none [] 0 := ⟨Nat.le_refl _, Nat.zero_le _, by simp, fun _ => rfl, fun h => absurd rfl h⟩
set_option maxHeartbeats 400000 in
theorem clone_any (ao : Option Addr) (l : List Nat) (cap : Nat) (w : World) (hr : Row w ao l cap) (hlen : l.length ≤ 1000000) :
    Calls Try.prog 33 #[.slice ao l.length cap] w fun e w' => ∃ a1 c1, e = .returned (.slice a1 l.length c1) ∧ Row w' a1 l c1 ∧ (∀ a, a1 = some a → w.heap.size ≤ a.block) ∧ Fr (fun _ => False) w w' := by
  have q := fun (w : World) (a : Option Addr) (n c n' c' : Nat) => Lib.run_eql_slice_nil (P := Try.prog) w 22 _ a n c n' c' Try.underlying22
  cases ao with
  | none =>
    have hc := hr.2.2.2.1 rfl
    subst hc
    have hl : l = [] := List.eq_nil_of_length_eq_zero (by have := hr.1; omega)
    subst hl
    simp only [List.length_nil]
    go_enter Try.func33, Try.ntmps33
    go_wp2
    go_ret
    exact ⟨none, 0, rfl, row_nil _, fun a ha => (by cases ha), Fr.refl _ _⟩
  | some a =>
    have f0 := (Fr.refl (fun _ => False) w).alloc (.cells #[] 5)
    have hown : Own (w.alloc (.cells #[] 5)) w.heap.size (.slice (some ⟨w.heap.size, 0, none⟩) 0 0) [] := ⟨World.ownsRow_made w #[] 0 (Nat.le_refl _) (Nat.zero_le _) (by simp), by simp⟩
    have hr1 := f0.row hr (by simp)
    have HR : Hid (Row _ _ _ _) := hr1
    clear hr hr1
    go_enter Try.func33, Try.ntmps33
    go_wp2_with (at_builtin; refine wpList_append_bytes rfl (.tmp 5) (.tmp 6) rfl w.heap.size _ [] rfl hown (some a) l cap rfl HR.out (by simp; omega) (by simp) ?_)
    intro v1 w1 ho1 hg1 _
    have f1 : Fr (fun _ => False) w w1 := f0.grown hg1 (fun k hk => by simp [Value.ownBlock] at hk; omega)
    obtain ⟨a1, c1, hv, hr1, hb1⟩ := ho1.row
    subst hv
    go_wp2
    go_ret
    exact ⟨a1, c1, rfl, hr1, fun a ha => (hb1 a ha).1, f1⟩
/-- an entry's own: what two of them have in common where one is a copy. -/
def En.p (x : En) : Nat × Nat × Nat × List Nat := (x.i, x.t, x.k, x.d)
theorem ERow.cells {w : World} {R D : Nat → Prop} {a : Addr} {es : List En} {cap : Nat} (h : ERow w R D (some a) es cap) : ∀ j u, (flat es)[j]? = some u → w.cell? (a.add j) = some u := by
  intro j u hu
  have hj : j < es.length * 4 := by rw [← flat_length]; exact (List.getElem?_eq_some_iff.1 hu).1
  obtain ⟨b, off, he, _, hc⟩ := h.2.2.2.2 (fun e => by rw [e] at hj; simp at hj)
  cases he
  have hadd : (⟨b, off, none⟩ : Addr).add j = ⟨b, off + j, none⟩ := by unfold Addr.add; split <;> simp_all
  have := hc (j / 4) (by omega) (j % 4) (by omega)
  rw [← flat_get es (j / 4) (j % 4) (by omega) (by omega), show j / 4 * 4 + j % 4 = j by omega, hu] at this
  rw [hadd, this]
set_option maxHeartbeats 400000 in
theorem cloneE_any (ao : Option Addr) (es : List En) (cap : Nat) (w : World) (R D : Nat → Prop) (hr : ERow w R D ao es cap) (hD : ∀ k, D k → k < w.heap.size) (hlen : es.length ≤ 1000000) :
    Calls Try.prog 37 #[.slice ao es.length cap] w fun e w' => ∃ v, e = .returned v ∧ OwnE w' (fun k => D k ∨ w.heap.size ≤ k) v es ∧ (∀ k, v.ownBlock = some k → w.heap.size ≤ k) ∧ Fr (fun _ => False) w w' := by
  have q := fun (w : World) (a : Option Addr) (n c n' c' : Nat) => Lib.run_eql_slice_nil (P := Try.prog) w 28 _ a n c n' c' Try.underlying28
  cases ao with
  | none =>
    have hc := hr.2.2.1 rfl
    subst hc
    have hl : es = [] := List.eq_nil_of_length_eq_zero (by have := hr.1; omega)
    subst hl
    simp only [List.length_nil]
    go_enter Try.func37, Try.ntmps37
    go_wp2
    go_ret
    exact ⟨_, rfl, OwnE.nil _ _, fun k hk => by simp [Value.ownBlock] at hk, Fr.refl _ _⟩
  | some a =>
    have f0 := (Fr.refl (fun _ => False) w).alloc (.cells #[] 36)
    have hown : OwnE (w.alloc (.cells #[] 36)) (fun k => D k ∨ w.heap.size ≤ k) (.slice (some ⟨w.heap.size, 0, none⟩) 0 0) [] := ⟨World.ownsRow_made w #[] 0 (Nat.zero_le _) (Nat.zero_le _) (by simp), fun k hk => by cases hk; exact .inr (Nat.le_refl _), by simp⟩
    have hr1 := hr.fr f0 (by simp) (by simp)
    have HC : Hid (∀ j u, (flat es)[j]? = some u → (w.alloc (.cells #[] 36)).cell? (a.add j) = some u) := hr1.cells
    have HE : Hid (∀ x ∈ es, EG (w.alloc (.cells #[] 36)) (fun k => (D k ∨ w.heap.size ≤ k) ∧ (Value.slice (some ⟨w.heap.size, 0, none⟩) 0 0).ownBlock ≠ some k) x) := fun x hx => ⟨(hr1.2.2.2.1 x hx).i, (hr1.2.2.2.1 x hx).t, (hr1.2.2.2.1 x hx).k, (hr1.2.2.2.1 x hx).row, fun hne b hb => ⟨.inl ((hr1.2.2.2.1 x hx).blk hne b hb), fun e => by
      have := hD _ ((hr1.2.2.2.1 x hx).blk hne b hb)
      simp [Value.ownBlock] at e
      omega⟩⟩
    clear hr hr1
    go_enter Try.func37, Try.ntmps37
    go_wp2_with (at_builtin; refine wpList_append_ents rfl (.tmp 5) (.tmp 6) rfl (fun k => D k ∨ w.heap.size ≤ k) _ [] rfl hown a es cap rfl HC.out HE.out (fun k hk => .inr (by simp at hk; omega)) (by simp; omega) ?_)
    intro v1 w1 ho1 hg1 hat
    have f1 : Fr (fun _ => False) w w1 := f0.grown hg1 (fun k hk => by simp [Value.ownBlock] at hk; omega)
    obtain ⟨a1, c1, hv, _⟩ := ho1.form
    subst hv
    go_wp2
    go_ret
    refine ⟨_, rfl, ho1, fun k hk => ?_, f1⟩
    have hk' : (Value.slice a1 es.length c1).ownBlock = some k := hk
    rcases hat with e | e
    · rw [e] at hk'; simp [Value.ownBlock] at hk'; omega
    · rw [e] at hk'; simp at hk'; omega
theorem heap_setCell_same (w : World) (g j : Nat) (u : Value) (cur : Array Value) (e : TypeId) (fz : Nat × Nat) (hg : w.heap[g]? = some (.cells cur e fz)) : (w.setCell ⟨g, j, none⟩ u).heap[g]? = some (.cells (cur.setIfInBounds j u) e fz) := by
  simp [World.setCell, Array.getElem?_modify, hg]
theorem ownsRow_set {w : World} {base : Nat} {e : TypeId} {size n g cap : Nat} {xs : List Value} (h : w.ownsRow base e size (.slice (some ⟨g, 0, none⟩) n cap) n xs) (j : Nat) (u : Value) : (w.setCell ⟨g, j, none⟩ u).ownsRow base e size (.slice (some ⟨g, 0, none⟩) n cap) n (xs.set j u) := by
  obtain ⟨hl, h⟩ := h
  refine ⟨by simpa using hl, ?_⟩
  rcases h with ⟨he, _⟩ | ⟨g', cp, cur, he, hbg, hg, hn, hm, hs, ht⟩
  · cases he
  · cases he
    refine .inr ⟨g, cap, cur.setIfInBounds j u, rfl, hbg, heap_setCell_same w g j u cur e _ hg, hn, hm, by simpa using hs, ?_⟩
    rw [← ht]
    simp [List.take_set]
theorem flat_set (es : List En) (k : Nat) (hk : k < es.length) (a : Option Addr) (c : Nat) : flat (es.set k { es.getD k default with a := a, c := c }) = (flat es).set (k * 4 + 3) (.slice a (es.getD k default).d.length c) := by
  induction es generalizing k with
  | nil => simp at hk
  | cons x es ih =>
    have e : ∀ y l, flat (y :: l) = y.cells ++ flat l := fun y l => by simp [flat]
    have hx : x.cells.length = 4 := rfl
    cases k with
    | zero => simp only [List.set_cons_zero, e, List.getD_cons_zero]; rfl
    | succ k =>
      have := ih k (by simpa using hk)
      simp only [List.set_cons_succ, e, List.getD_cons_succ]
      rw [this, List.set_append_right _ _ (by omega), hx]
      congr 2
      omega
end Go.Proofs.Ytkkpdnholnkeoab
