/- Who votes, told forward. -/
import Derived.Test.YtkkpdnholnkeoabFrom
import Derived.Test.YtkkpdnholnkeoabSame
namespace Go.Proofs.Ytkkpdnholnkeoab
open Go.RowKit

def hitP (upTo : Nat) (x : Nat × Nat × Nat × List Nat) : Bool := decide (x.2.2.1 = 1) && decide (x.1 ≤ upTo)
def vstep (upTo : Nat) (a : Nat × Nat) (x : Nat × Nat × Nat × List Nat) : Nat × Nat := if hitP upTo x then (mask x.2.2.2, x.1) else a
def vfold (base voters upTo : Nat) (ps : List (Nat × Nat × Nat × List Nat)) : Nat × Nat := ps.foldl (vstep upTo) (voters, base)
theorem find_fold (base voters upTo : Nat) (l : List En) : (match l.find? (hit upTo) with | some x => (mask x.d, x.i) | none => (voters, base)) = (l.reverse.map En.p).foldl (vstep upTo) (voters, base) := by
  induction l with
  | nil => rfl
  | cons x l ih =>
    rw [List.reverse_cons, List.map_append, List.foldl_append, ← ih]
    have e : hitP upTo x.p = hit upTo x := rfl
    by_cases h : hit upTo x = true
    · simp [h, vstep, e]
      exact ⟨rfl, rfl⟩
    · simp [h, vstep, e]
theorem vtold_fold (base voters : Nat) (es : List En) (upTo : Nat) : vtold base voters es upTo = vfold base voters upTo (es.map En.p) := by
  unfold vtold vfold
  have := find_fold base voters upTo es.reverse
  rw [List.reverse_reverse] at this
  exact this
theorem vfold_succ (base voters upTo : Nat) (ms : List En) (k : Nat) (h : k < ms.length) : vfold base voters upTo ((ms.take (k + 1)).map En.p) = vstep upTo (vfold base voters upTo ((ms.take k).map En.p)) (ms.getD k default).p := by
  unfold vfold
  rw [List.take_succ_eq_append_getElem h, List.map_append, List.foldl_append]
  simp [List.getD_eq_getElem?_getD, h]
theorem lastT_end (term : Nat) (es : List En) (x : En) : lastT term (es ++ [x]) = x.t := by
  unfold lastT
  rw [if_neg (by simp)]
  simp [List.getD_eq_getElem?_getD]
theorem lastT_take (term : Nat) (ms : List En) (k : Nat) (h : k < ms.length) : lastT term (ms.take (k + 1)) = (ms.getD k default).t := by
  rw [List.take_succ_eq_append_getElem h, lastT_end]
  simp [List.getD_eq_getElem?_getD, h]
theorem lastT_p {es ys : List En} (h : ys.map En.p = es.map En.p) (term : Nat) : lastT term ys = lastT term es := by
  have hl : ys.length = es.length := by simpa using congrArg List.length h
  unfold lastT
  by_cases he : es = []
  · subst he
    have : ys = [] := List.eq_nil_of_length_eq_zero (by simpa using hl)
    subst this
    rfl
  · have hy : ys ≠ [] := fun e => he (List.eq_nil_of_length_eq_zero (by rw [← hl, e]; rfl))
    have : 0 < es.length := List.length_pos_iff.2 he
    rw [if_neg he, if_neg hy, hl]
    have := p_get h (es.length - 1) (by omega)
    exact congrArg (fun p => p.2.1) this
end Go.Proofs.Ytkkpdnholnkeoab
