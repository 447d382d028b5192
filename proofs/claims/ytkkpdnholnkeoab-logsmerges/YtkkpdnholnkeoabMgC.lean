/- Which entries are lacking, as the law tells it; what stands there then. -/
import Derived.Test.YtkkpdnholnkeoabMgB
import Derived.Test.YtkkpdnholnkeoabLawB
namespace Go.Proofs.Ytkkpdnholnkeoab
open Go.RowKit
theorem lk_iff {ys es : List En} (hp : ys.map En.p = es.map En.p) (nb nt K j : Nat) (x : En) (hx : x.i = nb + K + j) : lkB nb nt ys x = false ↔ (K + j = 0 ∨ (K + j ≤ es.length ∧ (es.getD (K + j - 1) default).t = x.t)) := by
  unfold lkB
  rw [termAt_p hp]
  unfold termAt
  rw [hx]
  by_cases h0 : K + j = 0
  · have : ¬ nb < nb + K + j := by omega
    simp [this, h0]
  · have h1 : nb < nb + K + j := by omega
    have h2 : ¬ nb + K + j = nb := by omega
    rw [if_neg h2]
    by_cases h3 : K + j ≤ es.length
    · rw [if_pos ⟨h1, by omega⟩, show nb + K + j - nb - 1 = K + j - 1 by omega]
      simp [h1, h3]
      intro a b; omega
    · rw [if_neg (fun h => h3 (by omega))]
      simp [h1, h3]
      omega
theorem want_p {ys es zs cs : List En} (hp : ys.map En.p = es.map En.p) (hz : zs.map En.p = cs.map En.p) (q : Nat) : (es.take q ++ cs).map En.p = (ys.take q ++ zs).map En.p := by
  rw [List.map_append, List.map_append, hz, List.map_take, List.map_take, hp]
theorem p_i {es ys : List En} (h : ys.map En.p = es.map En.p) (k : Nat) (hk : k < es.length) : (ys.getD k default).i = (es.getD k default).i := by
  have hl : ys.length = es.length := by simpa using congrArg List.length h
  have e1 : (ys.map En.p)[k]? = some (ys.getD k default).p := by simp [List.getD_eq_getElem?_getD, List.getElem?_eq_getElem (show k < ys.length by omega)]
  have e2 : (es.map En.p)[k]? = some (es.getD k default).p := by simp [List.getD_eq_getElem?_getD, List.getElem?_eq_getElem hk]
  rw [h, e2] at e1
  simp at e1
  exact (congrArg (fun p : Nat × Nat × Nat × List Nat => p.1) e1).symm
theorem want_ix {es cs : List En} {nb K m q : Nat} (hes : ∀ k, k < es.length → (es.getD k default).i = nb + 1 + k) (hcs : ∀ j, j < cs.length → (cs.getD j default).i = nb + K + j) (hq : K + m = q + 1) (hqL : q ≤ es.length) (k : Nat) (hk : k < (es.take q ++ cs.drop m).length) : ((es.take q ++ cs.drop m).getD k default).i = nb + 1 + k := by
  simp at hk
  by_cases h : k < q
  · rw [show (es.take q ++ cs.drop m).getD k default = es.getD k default by simp [List.getD_eq_getElem?_getD, List.getElem?_append_left (show k < (es.take q).length by simp; omega),  h]]
    exact hes k (by omega)
  · rw [show (es.take q ++ cs.drop m).getD k default = cs.getD (m + (k - q)) default by
      simp [List.getD_eq_getElem?_getD, List.getElem?_append_right (show (es.take q).length ≤ k by simp; omega), Nat.min_eq_left hqL]]
    rw [hcs _ (by omega)]
    omega
end Go.Proofs.Ytkkpdnholnkeoab
