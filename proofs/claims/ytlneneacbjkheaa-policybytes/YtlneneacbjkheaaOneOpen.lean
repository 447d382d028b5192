/- The statement PolicyPlays, walked. -/
import Derived.Test.YtlneneacbjkheaaTold
namespace Go.Proofs.Ytlneneacbjkheaa
open Go.RowKit
attribute [local go_sem] run_store_float
/-- of the rules of one number at most one is open. -/
def OneOpen (gs : List Gr) : Prop := ∀ i j, i < j → j < gs.length → (gr gs i).u = 0 → (gr gs j).u = 0 → (gr gs i).r.id ≠ (gr gs j).r.id
theorem oneOpen_nil : OneOpen [] := fun i j _ hj => by simp at hj
theorem gr_map {gs : List Gr} (f : Gr → Gr) {i : Nat} (hi : i < gs.length) : gr (gs.map f) i = f (gr gs i) := by
  simp [gr, List.getD_eq_getElem?_getD, hi]
theorem gr_snoc_lt {gs : List Gr} {x : Gr} {i : Nat} (hi : i < gs.length) : gr (gs ++ [x]) i = gr gs i := by
  unfold gr
  rw [List.getD_eq_getElem?_getD, List.getD_eq_getElem?_getD, List.getElem?_append_left hi]
theorem revX_yes {id em : Nat} {x : Gr} (h : hit id x = true) : revX id em x = { x with u := em } := by unfold revX; rw [if_pos h]
theorem revX_no {id em : Nat} {x : Gr} (h : hit id x = false) : revX id em x = x := by unfold revX; rw [h]; rfl
theorem gr_snoc {gs : List Gr} {x : Gr} : gr (gs ++ [x]) gs.length = x := by
  simp [gr, List.getD_eq_getElem?_getD]
theorem revX_u {id em : Nat} {x : Gr} (he : 1 ≤ em) : (revX id em x).u = 0 → x.u = 0 ∧ x.r.id ≠ id ∧ revX id em x = x := by
  unfold revX hit
  by_cases h : x.r.id = id ∧ x.u = 0
  · simp [h]; omega
  · have : (decide (x.r.id = id) && decide (x.u = 0)) = false := by
      cases hc : (decide (x.r.id = id) && decide (x.u = 0)) with
      | false => rfl
      | true => simp at hc; exact absurd hc h
    rw [this]
    simp only [Bool.false_eq_true, if_false]
    exact fun hu => ⟨hu, fun e => h ⟨e, hu⟩, trivial⟩
theorem revX_id (id em : Nat) (x : Gr) : (revX id em x).r = x.r := by unfold revX; split <;> rfl
theorem oneOpen_rev {gs : List Gr} {id em : Nat} (h : OneOpen gs) (he : 1 ≤ em) : OneOpen (gs.map (revX id em)) := by
  intro i j hij hj hi0 hj0
  rw [List.length_map] at hj
  rw [gr_map _ (by omega)] at hi0 ⊢
  rw [gr_map _ hj] at hj0 ⊢
  rw [revX_id, revX_id]
  exact h i j hij hj (revX_u he hi0).1 (revX_u he hj0).1
theorem oneOpen_snoc {gs : List Gr} {x : Rl} {em f : Nat} (h : OneOpen gs) (he : 1 ≤ em) : OneOpen (gs.map (revX x.id em) ++ [⟨x, f, 0⟩]) := by
  intro i j hij hj hi0 hj0
  have hl : (gs.map (revX x.id em)).length = gs.length := List.length_map ..
  have hj' : j < gs.length + 1 := by simpa using hj
  by_cases hjn : j = gs.length
  · subst hjn
    rw [gr_snoc_lt (by omega)] at hi0 ⊢
    rw [gr_map _ hij] at hi0 ⊢
    have hx : gr (gs.map (revX x.id em) ++ [(⟨x, f, 0⟩ : Gr)]) gs.length = ⟨x, f, 0⟩ := by rw [← hl]; exact gr_snoc
    rw [hx, revX_id]
    exact (revX_u he hi0).2.1
  · rw [gr_snoc_lt (by omega)] at hi0 ⊢
    rw [gr_snoc_lt (by omega)] at hj0 ⊢
    exact oneOpen_rev h he i j hij (by omega) hi0 hj0
/-- what the program's end leaves is what the document's leaves. -/
theorem end_rev {gs : List Gr} {id n : Nat} {ok : Bool} (ep : Nat) (h : OneOpen gs) (hL : LastAt gs (fun x => decide (x.r.id = id) && x.open) n ok) :
    endG gs n ok ep = gs.map (revX id (max ep 1)) ∧ ok = gs.any (hit id) := by
  have hh : ∀ x : Gr, (decide (x.r.id = id) && x.open) = hit id x := fun x => rfl
  simp only [hh] at hL
  have hget : ∀ i, i < gs.length → gs[i]? = some (gr gs i) := fun i hi => by
    simp [gr, List.getD_eq_getElem?_getD, hi]
  rcases hL with ⟨rfl, h1, h2, h3⟩ | ⟨rfl, rfl, h3⟩
  · have hone : ∀ j, j < gs.length → j ≠ n → hit id (gr gs j) = false := fun j hj hne => by
      rcases Nat.lt_or_ge n j with h4 | h4
      · exact h3 j h4 hj
      · cases hc : hit id (gr gs j) with
        | false => rfl
        | true =>
          simp [hit] at hc h2
          exact absurd (hc.1.trans h2.1.symm) (h j n (by omega) h1 hc.2 h2.2)
    refine ⟨?_, ?_⟩
    · unfold endG
      rw [if_pos rfl]
      apply List.ext_getElem?
      intro i
      by_cases hi : i < gs.length
      · rw [List.getElem?_map, hget i hi]
        by_cases hin : i = n
        · subst hin
          rw [List.getElem?_set_self (by omega), Option.map_some, revX_yes h2]
        · rw [List.getElem?_set_ne (Ne.symm hin), hget i hi, Option.map_some, revX_no (hone i hi hin)]
      · rw [List.getElem?_eq_none (by simp; omega), List.getElem?_eq_none (by simp; omega)]
    · have : hit id (gr gs n) = true := h2
      symm
      rw [List.any_eq_true]
      exact ⟨gr gs n, List.mem_of_getElem? (hget n h1), this⟩
  · refine ⟨?_, ?_⟩
    · unfold endG
      rw [if_neg (by decide)]
      apply List.ext_getElem?
      intro i
      by_cases hi : i < gs.length
      · rw [List.getElem?_map, hget i hi, Option.map_some, revX_no (h3 i hi)]
      · rw [List.getElem?_eq_none (by omega), List.getElem?_eq_none (by simp; omega)]
    · symm
      rw [List.any_eq_false]
      intro x hx
      obtain ⟨i, hi, rfl⟩ := List.mem_iff_getElem.1 hx
      have : hit id (gr gs i) = false := h3 i hi
      rw [show gr gs i = gs[i] by simp [gr, List.getD_eq_getElem?_getD, hi]] at this
      rw [this]; exact Bool.false_ne_true
end Go.Proofs.Ytlneneacbjkheaa
