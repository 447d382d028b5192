/- The statement LogsFits, walked. -/
import Derived.Test.YtkkpdnholnkeoabEnts
namespace Go.Proofs.Ytkkpdnholnkeoab
open Go.RowKit

/-- inOrder, of what entries have in common with their copies. -/
def inOrderP : Nat → Nat → List (Nat × Nat × Nat × List Nat) → Bool
  | _, _, [] => true
  | i, t, x :: r => follow i x.1 && decide (t ≤ x.2.1) && inOrderP x.1 x.2.1 r
theorem inOrder_p (es : List En) : ∀ i t, inOrder i t es = inOrderP i t (es.map En.p) := by
  induction es with
  | nil => intro i t; rfl
  | cons x es ih => intro i t; simp only [inOrder, List.map_cons, inOrderP, ih]; rfl
theorem inOrder_append (ps : List (Nat × Nat × Nat × List Nat)) (x : Nat × Nat × Nat × List Nat) : ∀ i t, inOrderP i t (ps ++ [x]) = (inOrderP i t ps && (match ps.getLast? with | none => follow i x.1 && decide (t ≤ x.2.1) | some y => follow y.1 x.1 && decide (y.2.1 ≤ x.2.1))) := by
  induction ps with
  | nil => intro i t; simp [inOrderP]
  | cons y ps ih =>
    intro i t
    simp only [List.cons_append, inOrderP, ih]
    cases ps with
    | nil => simp [inOrderP, Bool.and_assoc]
    | cons z ps =>
      cases hg : (z :: ps).getLast? with
      | none => simp at hg
      | some q => simp [inOrderP, Bool.and_assoc, List.getLast?_cons_cons, hg]
theorem entsP_getLast (at_ : Nat) (terms kinds : List Nat) (k : Nat) : (entsP at_ terms kinds (k + 1)).getLast? = some (entP at_ terms kinds k) := by
  rw [entsP_succ]; simp
theorem entsP_order (at_ : Nat) (terms kinds : List Nat) (t : Nat) (ht : t ≤ 1) (k : Nat) (hk : k ≤ terms.length) : inOrderP at_ t (entsP at_ terms kinds k) = true := by
  induction k with
  | zero => rfl
  | succ k ih =>
    rw [entsP_succ, inOrder_append, ih (by omega)]
    cases k with
    | zero =>
      simp [entsP, entP, follow, tsum]
      omega
    | succ k =>
      rw [entsP_getLast]
      have := tsum_succ terms (k + 1) (by omega)
      simp [entP, follow]
      omega
theorem p_t {es ys : List En} (h : ys.map En.p = es.map En.p) (k : Nat) (hk : k < es.length) : (ys.getD k default).t = (es.getD k default).t := by
  have hl : ys.length = es.length := by simpa using congrArg List.length h
  have := congrArg (fun l => l[k]?) h
  simp [hk, hl] at this
  have h2 := congrArg (fun p => p.2.1) this
  simp [List.getD_eq_getElem?_getD, hk, hl]
  exact h2
/-- what a law begins with: a snapshot, entries, a log of them. -/
theorem begun (n : Nat) (hn : n < 256) (a1 : Option Addr) (terms : List Nat) (c1 : Nat) (a2 : Option Addr) (kinds : List Nat) (c2 : Nat) (w W : World) (hW : Fr (fun _ => False) w W) (h1 : Row w a1 terms c1) (h2 : Row w a2 kinds c2) :
    Calls Try.prog 11 #[.int .u64 ((n % 7 : Nat) : Int), .slice a1 terms.length c1, .slice a2 kinds.length c2] W fun e w' => ∃ ao cap es, e = .returned (.slice ao es.length cap) ∧ es.length ≤ 30 ∧ es.map En.p = entsP (n % 7) terms kinds (min terms.length 30) ∧ OwnE w' (fun k => W.heap.size ≤ k) (.slice ao es.length cap) es ∧ Fr (fun _ => False) W w' ∧ inOrder (n % 7) (n % 2) es = true ∧
      (∀ X (dv : Value), Fr (fun _ => False) w' X → Calls Try.prog 12 #[.agg #[.int .u64 ((n % 7 : Nat) : Int), .int .u64 ((n % 2 : Nat) : Int), .int .u64 (n : Int), dv], .slice ao es.length cap] X fun e x' => ∃ gb v ys, e = .returned (.tuple #[.pointer (some ⟨gb, 0, none⟩), .int .i64 0]) ∧ X.heap.size ≤ gb ∧ Lg x' gb (fun k => X.heap.size ≤ k ∧ k ≠ gb) (n % 7) (n % 2) n ys v ∧ ys.map En.p = es.map En.p ∧ Fr (fun _ => False) X x') := by
  refine (entries_any (n % 7) (by omega) a1 terms c1 a2 kinds c2 W (hW.row h1 (by simp)) (hW.row h2 (by simp))).mono ?_
  rintro e w' ⟨v, es, rfl, ho, hp, hf⟩
  have hl : es.length = min terms.length 30 := by simpa [entsP] using congrArg List.length hp
  have hord : inOrder (n % 7) (n % 2) es = true := by rw [inOrder_p, hp]; exact entsP_order _ _ _ _ (by omega) _ (by omega)
  obtain ⟨ao, cap, hv, hr, _⟩ := ho.row
  subst hv
  have hd : ∀ x ∈ es, x.d.length ≤ 1000000 := fun x hx => by
    have : x.p ∈ es.map En.p := List.mem_map_of_mem hx
    rw [hp] at this
    obtain ⟨k, _, hk⟩ := List.mem_map.1 this
    have := congrArg (fun p => p.2.2.2) hk
    simp [entP, En.p] at this
    rw [← this]; simp
  refine ⟨ao, cap, es, rfl, by omega, hp, ho, hf, hord, fun X dv fX => ?_⟩
  have hrX := hr.fr fX (by simp) (by simp)
  have hlt := ho.lt
  have hr2 : ERow X (fun k => k < X.heap.size) (fun k => k < X.heap.size) ao es cap := by
    have hs := fX.size
    refine ⟨hrX.1, hrX.2.1, hrX.2.2.1, fun x hx => (hrX.2.2.2.1 x hx).mono (fun k hk _ => hk), fun hne => ?_⟩
    obtain ⟨b, off, he, hb, hc⟩ := hrX.2.2.2.2 hne
    exact ⟨b, off, he, by have := hlt b hb; omega, hc⟩
  refine (new_any (n % 7) (n % 2) n dv ao es cap X _ _ hr2 (fun _ h => h) (fun _ h => h) (by omega) hd (by omega) (by omega) (by omega)).mono ?_
  rintro e x' ⟨f2, h | h⟩
  · rw [hord] at h; exact absurd h.1 (by simp)
  · obtain ⟨_, gb, v, ys, rfl, hgb, hg, hyp⟩ := h
    exact ⟨gb, v, ys, rfl, hgb, hg, hyp, f2⟩
theorem termAt_p {es ys : List En} (h : ys.map En.p = es.map En.p) (base term i : Nat) : termAt base term ys i = termAt base term es i := by
  have hl : ys.length = es.length := by simpa using congrArg List.length h
  unfold termAt
  rw [hl]
  by_cases h1 : i = base
  · rw [if_pos h1, if_pos h1]
  · rw [if_neg h1, if_neg h1]
    by_cases h2 : base < i ∧ i ≤ base + es.length
    · rw [if_pos h2, if_pos h2, p_t h _ (by omega)]
    · rw [if_neg h2, if_neg h2]
end Go.Proofs.Ytkkpdnholnkeoab
