/- All labels below one, and the document's order, as they are built. -/
import Derived.Test.YtjbkmflbhlnbpabMeth
namespace Go.Proofs.Ytjbkmflbhlnbpab
open Go.RowKit

def belowL (l : List Nat) (a : Int) : List Nat := (List.range l.length).filter fun b => Lat.leq l (b : Int) a
theorem filter_step (P : Nat → Bool) (k : Nat) : (List.range (k + 1)).filter P = (List.range k).filter P ++ (if P k then [k] else []) := by
  rw [List.range_succ, List.filter_append]
  congr 1
  cases h : P k <;> simp [h]
theorem filter_len (P : Nat → Bool) (k : Nat) : ((List.range k).filter P).length ≤ k := Nat.le_trans (List.length_filter_le _ _) (by simp)
/-- what stands in the order behind k counts and a labels of the next. -/
def ordUpto (l : List Nat) (k a : Nat) : List Nat := ((List.range k).flatMap fun k => (List.range l.length).filter fun a => Lat.cnt l a == k) ++ (List.range a).filter fun a => Lat.cnt l a == k
theorem ordUpto_next (l : List Nat) (k : Nat) : ordUpto l k l.length = ordUpto l (k + 1) 0 := by
  unfold ordUpto
  rw [List.range_succ, List.flatMap_append]
  simp
theorem ordUpto_step (l : List Nat) (k a : Nat) : ordUpto l k (a + 1) = ordUpto l k a ++ (if Lat.cnt l a == k then [a] else []) := by
  unfold ordUpto
  rw [filter_step, List.append_assoc]
theorem ordUpto_end (l : List Nat) : ordUpto l (l.length + 1) 0 = Lat.order l := by simp [ordUpto, Lat.order]
theorem ordUpto_len (l : List Nat) (k a : Nat) (hk : k ≤ l.length) (ha : a ≤ l.length) : (ordUpto l k a).length ≤ 17 * l.length + 17 * l.length * l.length := by
  unfold ordUpto
  rw [List.length_append, List.length_flatMap]
  have h1 := filter_len (fun a => Lat.cnt l a == k) a
  have h2 : ((List.range k).map fun k => ((List.range l.length).filter fun a => Lat.cnt l a == k).length).sum ≤ k * l.length := by
    clear hk h1
    induction k with
    | zero => simp
    | succ k ih =>
      rw [List.range_succ, List.map_append, List.sum_append]
      have := filter_len (fun a => Lat.cnt l a == k) l.length
      simp only [List.map_cons, List.map_nil, List.sum_cons, List.sum_nil, Nat.add_zero]
      rw [Nat.add_mul, Nat.one_mul]
      omega
  have h3 : k * l.length ≤ l.length * l.length := Nat.mul_le_mul_right _ hk
  have h4 : l.length * l.length ≤ 17 * l.length * l.length := by rw [Nat.mul_assoc]; omega
  omega

end Go.Proofs.Ytjbkmflbhlnbpab
