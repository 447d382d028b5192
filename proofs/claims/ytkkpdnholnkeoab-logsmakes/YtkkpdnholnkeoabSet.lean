/- Entries of a row, written over; which entries stand one behind the other. -/
import Derived.Test.YtkkpdnholnkeoabLawB
namespace Go.Proofs.Ytkkpdnholnkeoab
open Go.RowKit

theorem flat_cons (x : En) (l : List En) : flat (x :: l) = x.cells ++ flat l := by simp [flat]
theorem flat_seti (es : List En) (k : Nat) (hk : k < es.length) (j : Nat) : flat (es.set k { es.getD k default with i := j }) = (flat es).set (k * 4) (.int .u64 (j : Int)) := by
  induction es generalizing k with
  | nil => simp at hk
  | cons x es ih =>
    have hx : x.cells.length = 4 := rfl
    cases k with
    | zero => simp only [List.set_cons_zero, flat_cons, List.getD_cons_zero]; rfl
    | succ k =>
      have := ih k (by simpa using hk)
      simp only [List.set_cons_succ, flat_cons, List.getD_cons_succ]
      rw [this, List.set_append_right _ _ (by omega), hx]
      congr 2
      omega
theorem flat_sett (es : List En) (k : Nat) (hk : k < es.length) (j : Nat) : flat (es.set k { es.getD k default with t := j }) = (flat es).set (k * 4 + 1) (.int .u64 (j : Int)) := by
  induction es generalizing k with
  | nil => simp at hk
  | cons x es ih =>
    have hx : x.cells.length = 4 := rfl
    cases k with
    | zero => simp only [List.set_cons_zero, flat_cons, List.getD_cons_zero]; rfl
    | succ k =>
      have := ih k (by simpa using hk)
      simp only [List.set_cons_succ, flat_cons, List.getD_cons_succ]
      rw [this, List.set_append_right _ _ (by omega), hx]
      congr 2
      omega
theorem flat_setx (es : List En) (k : Nat) (hk : k < es.length) (x : En) : flat (es.set k x) = ((((flat es).set (k * 4) (.int .u64 (x.i : Int))).set (k * 4 + 1) (.int .u64 (x.t : Int))).set (k * 4 + 2) (.int .u8 (x.k : Int))).set (k * 4 + 3) (.slice x.a x.d.length x.c) := by
  induction es generalizing k with
  | nil => simp at hk
  | cons y es ih =>
    have hx : y.cells.length = 4 := rfl
    cases k with
    | zero => simp only [List.set_cons_zero, flat_cons]; rfl
    | succ k =>
      have := ih k (by simpa using hk)
      simp only [List.set_cons_succ, flat_cons]
      rw [this]
      simp only [List.set_append_right _ _ (show y.cells.length ≤ (k + 1) * 4 by omega), List.set_append_right _ _ (show y.cells.length ≤ (k + 1) * 4 + 1 by omega), List.set_append_right _ _ (show y.cells.length ≤ (k + 1) * 4 + 2 by omega), List.set_append_right _ _ (show y.cells.length ≤ (k + 1) * 4 + 3 by omega), hx]
      rw [show (k + 1) * 4 - 4 = k * 4 by omega, show (k + 1) * 4 + 1 - 4 = k * 4 + 1 by omega, show (k + 1) * 4 + 2 - 4 = k * 4 + 2 by omega, show (k + 1) * 4 + 3 - 4 = k * 4 + 3 by omega]
theorem EG.set {w : World} {D : Nat → Prop} {g j : Nat} {u : Value} {x : En} (h : EG w (fun k => D k ∧ some g ≠ some k) x) : EG (w.setCell ⟨g, j, none⟩ u) (fun k => D k ∧ some g ≠ some k) x :=
  h.fr ((Fr.refl (fun b => b = g) w).setCell (p := ⟨g, j, none⟩) (Or.inl rfl) u) (fun k hk e => hk.2 (by rw [e]))
section
variable {w : World} {D : Nat → Prop} {g cap : Nat} {es : List En}
theorem OwnE.mk' (ho : w.ownsRow 0 36 4 (.slice (some ⟨g, 0, none⟩) es.length cap) es.length (flat es)) (hb : D g) (he : ∀ x ∈ es, EG w (fun k => D k ∧ some g ≠ some k) x) : OwnE w D (.slice (some ⟨g, 0, none⟩) es.length cap) es :=
  ⟨ho, fun k hk => by cases hk; exact hb, he⟩
theorem OwnE.seti (h : OwnE w D (.slice (some ⟨g, 0, none⟩) es.length cap) es) (k : Nat) (hk : k < es.length) (j : Nat) (hj : j < 18446744073709551616) : OwnE (w.setCell ⟨g, k * 4, none⟩ (.int .u64 (j : Int))) D (.slice (some ⟨g, 0, none⟩) es.length cap) (es.set k { es.getD k default with i := j }) := by
  have h1 := ownsRow_set h.own (k * 4) (.int .u64 (j : Int))
  rw [← flat_seti es k hk j] at h1
  have hl : (es.set k { es.getD k default with i := j }).length = es.length := by simp
  have := OwnE.mk' (es := es.set k { es.getD k default with i := j }) (cap := cap) (by rw [hl]; exact h1) (h.blk g rfl) (fun x hx => by
    rcases List.mem_or_eq_of_mem_set hx with hx | rfl
    · exact (h.each x hx).set
    · have e := h.each _ (getD_mem hk)
      exact ⟨hj, e.t, e.k, e.set.row, e.blk⟩)
  rwa [hl] at this
theorem OwnE.sett (h : OwnE w D (.slice (some ⟨g, 0, none⟩) es.length cap) es) (k : Nat) (hk : k < es.length) (j : Nat) (hj : j < 18446744073709551616) : OwnE (w.setCell ⟨g, k * 4 + 1, none⟩ (.int .u64 (j : Int))) D (.slice (some ⟨g, 0, none⟩) es.length cap) (es.set k { es.getD k default with t := j }) := by
  have h1 := ownsRow_set h.own (k * 4 + 1) (.int .u64 (j : Int))
  rw [← flat_sett es k hk j] at h1
  have hl : (es.set k { es.getD k default with t := j }).length = es.length := by simp
  have := OwnE.mk' (es := es.set k { es.getD k default with t := j }) (cap := cap) (by rw [hl]; exact h1) (h.blk g rfl) (fun x hx => by
    rcases List.mem_or_eq_of_mem_set hx with hx | rfl
    · exact (h.each x hx).set
    · have e := h.each _ (getD_mem hk)
      exact ⟨e.i, hj, e.k, e.set.row, e.blk⟩)
  rwa [hl] at this
theorem OwnE.setx (h : OwnE w D (.slice (some ⟨g, 0, none⟩) es.length cap) es) (k : Nat) (hk : k < es.length) (x : En) (hx : EG w (fun k => D k ∧ some g ≠ some k) x) : OwnE ((((w.setCell ⟨g, k * 4, none⟩ (.int .u64 (x.i : Int))).setCell ⟨g, k * 4 + 1, none⟩ (.int .u64 (x.t : Int))).setCell ⟨g, k * 4 + 2, none⟩ (.int .u8 (x.k : Int))).setCell ⟨g, k * 4 + 3, none⟩ (.slice x.a x.d.length x.c)) D (.slice (some ⟨g, 0, none⟩) es.length cap) (es.set k x) := by
  have h1 := ownsRow_set (ownsRow_set (ownsRow_set (ownsRow_set h.own (k * 4) (.int .u64 (x.i : Int))) (k * 4 + 1) (.int .u64 (x.t : Int))) (k * 4 + 2) (.int .u8 (x.k : Int))) (k * 4 + 3) (.slice x.a x.d.length x.c)
  rw [← flat_setx es k hk x] at h1
  have hl : (es.set k x).length = es.length := by simp
  have := OwnE.mk' (es := es.set k x) (cap := cap) (by rw [hl]; exact h1) (h.blk g rfl) (fun y hy => by
    rcases List.mem_or_eq_of_mem_set hy with hy | rfl
    · exact (h.each y hy).set.set.set.set
    · exact hx.set.set.set.set)
  rwa [hl] at this
end
/-- entries stand one behind the other: place by place. -/
theorem inOrder_iff (es : List En) : ∀ i t, inOrder i t es = true ↔ ∀ k, k < es.length → (es.getD k default).i = (if k = 0 then i else (es.getD (k - 1) default).i) + 1 ∧ (if k = 0 then t else (es.getD (k - 1) default).t) ≤ (es.getD k default).t := by
  induction es with
  | nil => intro i t; simp [inOrder]
  | cons x es ih =>
    intro i t
    simp only [inOrder, Bool.and_eq_true, ih, follow, decide_eq_true_eq]
    constructor
    · rintro ⟨⟨h1, h2⟩, h3⟩ k hk
      cases k with
      | zero => simp; omega
      | succ k =>
        have := h3 k (by simpa using hk)
        cases k with
        | zero => simpa using this
        | succ k => simpa using this
    · intro h
      refine ⟨⟨?_, ?_⟩, fun k hk => ?_⟩
      · have := h 0 (by simp); simp at this; omega
      · have := h 0 (by simp); simp at this; omega
      · have := h (k + 1) (by simpa using hk)
        cases k with
        | zero => simpa using this
        | succ k => simpa using this
theorem getD_seti (es : List En) (k : Nat) (hk : k < es.length) (x : En) (q : Nat) : (es.set k x).getD q default = if q = k then x else es.getD q default := by
  by_cases h : q = k
  · subst h; rw [if_pos rfl]; exact getD_set_self es q hk x
  · rw [if_neg h]; exact getD_set_ne es k q (fun e => h e.symm) x
/-- an entry of another index does not stand there. -/
theorem order_badi {es : List En} {i t : Nat} (hix : ∀ k, k < es.length → (es.getD k default).i = i + 1 + k) (k : Nat) (hk : k < es.length) (j : Nat) (hj : j ≠ i + 1 + k) : inOrder i t (es.set k { es.getD k default with i := j }) = false := by
  cases h : inOrder i t (es.set k { es.getD k default with i := j })
  · rfl
  · exfalso
    have h1 := ((inOrder_iff _ i t).1 h k (by simpa using hk)).1
    simp only [getD_seti es k hk, if_true] at h1
    by_cases h0 : k = 0
    · rw [if_pos h0] at h1; omega
    · rw [if_neg h0, if_neg (show ¬ k - 1 = k by omega)] at h1
      have := hix (k - 1) (by omega)
      omega
/-- an entry of another term stands there, if terms don't fall. -/
theorem order_term {es : List En} {i t : Nat} (ho : inOrder i t es = true) (k : Nat) (hk : k < es.length) (q : Nat) : inOrder i t (es.set k { es.getD k default with t := q }) = (decide ((if k = 0 then t else (es.getD (k - 1) default).t) ≤ q) && (decide (k + 1 = es.length) || decide (q ≤ (es.getD (k + 1) default).t))) := by
  have h0 := (inOrder_iff es i t).1 ho
  rw [Bool.eq_iff_iff, inOrder_iff]
  simp only [List.length_set, Bool.and_eq_true, Bool.or_eq_true, decide_eq_true_eq]
  constructor
  · intro h
    refine ⟨?_, ?_⟩
    · have := (h k hk).2
      simp only [getD_seti es k hk, if_true] at this
      by_cases hk0 : k = 0
      · rw [if_pos hk0] at this ⊢; exact this
      · rw [if_neg hk0, if_neg (show ¬ k - 1 = k by omega)] at this
        rw [if_neg hk0]; exact this
    · by_cases hl : k + 1 = es.length
      · exact .inl hl
      · right
        have := (h (k + 1) (by omega)).2
        simp only [getD_seti es k hk, show k + 1 - 1 = k by omega, if_true] at this
        rw [if_neg (show ¬ k + 1 = 0 by omega), if_neg (show ¬ k + 1 = k by omega)] at this
        exact this
  · rintro ⟨h1, h2⟩ p hp
    have hb := h0 p hp
    simp only [getD_seti es k hk]
    by_cases hpk : p = k
    · subst hpk
      rw [if_pos rfl]
      by_cases hp0 : p = 0
      · rw [if_pos hp0] at hb h1 ⊢
        rw [if_pos hp0]
        exact ⟨hb.1, h1⟩
      · rw [if_neg hp0] at hb h1 ⊢
        rw [if_neg hp0, if_neg (by omega)]
        exact ⟨hb.1, h1⟩
    · rw [if_neg hpk]
      by_cases hp0 : p = 0
      · rw [if_pos hp0, if_pos hp0]
        rw [if_pos hp0, if_pos hp0] at hb
        exact hb
      · rw [if_neg hp0, if_neg hp0] at hb ⊢
        by_cases hp1 : p - 1 = k
        · rw [if_pos hp1]
          have : p = k + 1 := by omega
          subst this
          rcases h2 with h2 | h2
          · omega
          · exact ⟨by rw [hb.1, show k + 1 - 1 = k by omega], h2⟩
        · rw [if_neg hp1]; exact hb
end Go.Proofs.Ytkkpdnholnkeoab
