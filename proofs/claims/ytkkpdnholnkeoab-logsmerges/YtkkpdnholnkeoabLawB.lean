/- A snapshot's box; the law's entries one by one. -/
import Derived.Test.YtkkpdnholnkeoabFitsW
import Derived.Test.YtkkpdnholnkeoabLook
import Derived.Test.YtkkpdnholnkeoabCompact
namespace Go.Proofs.Ytkkpdnholnkeoab
open Go.RowKit

/-- a snapshot's box. -/
structure Box26 (w : World) (b i t n : Nat) : Prop where
  c0 : w.cell? ⟨b, 0, none⟩ = some (.int .u64 (i : Int))
  c1 : w.cell? ⟨b, 1, none⟩ = some (.int .u64 (t : Int))
  c2 : w.cell? ⟨b, 2, none⟩ = some (.int .u64 (n : Int))
  c3 : w.cell? ⟨b, 3, none⟩ = some (.slice none 0 0)
  z0 : w.frozen? ⟨b, 0, none⟩ = false
  z1 : w.frozen? ⟨b, 1, none⟩ = false
  z2 : w.frozen? ⟨b, 2, none⟩ = false
theorem Box26.lt {w : World} {b i t n : Nat} (h : Box26 w b i t n) : b < w.heap.size := World.block_lt_of_cell? _ _ h.c0
theorem Box26.fr {S : Nat → Prop} {w w1 : World} {b i t n : Nat} (h : Box26 w b i t n) (f : Fr S w w1) (hb : ¬ S b) : Box26 w1 b i t n :=
  ⟨f.cell h.c0 hb, f.cell h.c1 hb, f.cell h.c2 hb, f.cell h.c3 hb, (f.frozenEq h.lt hb).trans h.z0, (f.frozenEq h.lt hb).trans h.z1, (f.frozenEq h.lt hb).trans h.z2⟩
theorem Box26.new (w : World) (i t n : Nat) : Box26 (w.alloc (.cells #[.int .u64 (i : Int), .int .u64 (t : Int), .int .u64 (n : Int), .slice none 0 0] 26)) w.heap.size i t n := by
  constructor <;> simp
theorem Box26.setI {w : World} {b i t n : Nat} (h : Box26 w b i t n) (i' : Nat) : Box26 (w.setCell ⟨b, 0, none⟩ (.int .u64 (i' : Int))) b i' t n :=
  ⟨World.cell?_setCell_same _ _ _ h.c0, (World.cell?_setCell_other _ _ _ _ (by simp)).trans h.c1, (World.cell?_setCell_other _ _ _ _ (by simp)).trans h.c2, (World.cell?_setCell_other _ _ _ _ (by simp)).trans h.c3, by simpa using h.z0, by simpa using h.z1, by simpa using h.z2⟩
theorem Box26.setT {w : World} {b i t n : Nat} (h : Box26 w b i t n) (t' : Nat) : Box26 (w.setCell ⟨b, 1, none⟩ (.int .u64 (t' : Int))) b i t' n :=
  ⟨(World.cell?_setCell_other _ _ _ _ (by simp)).trans h.c0, World.cell?_setCell_same _ _ _ h.c1, (World.cell?_setCell_other _ _ _ _ (by simp)).trans h.c2, (World.cell?_setCell_other _ _ _ _ (by simp)).trans h.c3, by simpa using h.z0, by simpa using h.z1, by simpa using h.z2⟩
theorem Box26.setV {w : World} {b i t n : Nat} (h : Box26 w b i t n) (n' : Nat) : Box26 (w.setCell ⟨b, 2, none⟩ (.int .u64 (n' : Int))) b i t n' :=
  ⟨(World.cell?_setCell_other _ _ _ _ (by simp)).trans h.c0, (World.cell?_setCell_other _ _ _ _ (by simp)).trans h.c1, World.cell?_setCell_same _ _ _ h.c2, (World.cell?_setCell_other _ _ _ _ (by simp)).trans h.c3, by simpa using h.z0, by simpa using h.z1, by simpa using h.z2⟩
theorem ents_p {es : List En} {at_ K : Nat} {terms kinds : List Nat} (h : es.map En.p = entsP at_ terms kinds K) (k : Nat) (hk : k < es.length) : (es.getD k default).p = entP at_ terms kinds k := by
  have hl : es.length = K := by simpa [entsP] using congrArg List.length h
  have := congrArg (fun l => l[k]?) h
  simp [entsP, hk, show k < K by omega] at this
  simp [List.getD_eq_getElem?_getD, hk]
  exact this
theorem ents_ix {es : List En} {at_ K : Nat} {terms kinds : List Nat} (h : es.map En.p = entsP at_ terms kinds K) (k : Nat) (hk : k < es.length) : (es.getD k default).i = at_ + 1 + k := by
  have := congrArg (fun p => p.1) (ents_p h k hk)
  simp [entP, En.p] at this
  simp [List.getD_eq_getElem?_getD] at this ⊢
  omega
theorem ents_d {es : List En} {at_ K : Nat} {terms kinds : List Nat} (h : es.map En.p = entsP at_ terms kinds K) : ∀ x ∈ es, x.d.length ≤ 1000000 := by
  intro x hx
  obtain ⟨k, hk, rfl⟩ := mem_getD hx
  have := congrArg (fun p => p.2.2.2) (ents_p h k hk)
  have e : (es.getD k default).d = [terms.getD k 0] := this
  rw [e]; simp
/-- a row that was made, as one that came in. -/
theorem OwnE.erow {w : World} {D : Nat → Prop} {ao : Option Addr} {cap : Nat} {es : List En} (h : OwnE w D (.slice ao es.length cap) es) : ERow w D D ao es cap := by
  obtain ⟨ao', cap', he, hr, _⟩ := h.row
  cases he
  refine ⟨hr.1, hr.2.1, hr.2.2.1, fun x hx => (hr.2.2.2.1 x hx).mono (fun k _ hk => hk.1), fun hne => ?_⟩
  obtain ⟨b, off, he, hb, hc⟩ := hr.2.2.2.2 hne
  exact ⟨b, off, he, h.blk b hb, hc⟩
theorem ERow.rest {w : World} {R D : Nat → Prop} {ao : Option Addr} {es : List En} {cap m : Nat} (h : ERow w R D ao es cap) (hm : m ≤ es.length) : ERow w R D (restA ao cap m) (es.drop m) (cap - m) := by
  have hl := h.1
  by_cases hml : m < es.length
  · obtain ⟨b, off, x, he, _⟩ := h.at hml
    subst he
    have := h.drop m hm
    rw [show restA (some ⟨b, off, none⟩) cap m = some ⟨b, off + m * 4, none⟩ by simp [restA, show ¬ cap = m by omega]; unfold Addr.add; split <;> simp_all]
    exact this
  · have : es.drop m = [] := List.drop_eq_nil_of_le (by omega)
    rw [this]
    refine ⟨Nat.zero_le _, Nat.le_trans (Nat.sub_le _ _) h.2.1, fun h0 => ?_, by simp, fun h => absurd rfl h⟩
    have : ao = none := by cases ao; rfl; simp [restA] at h0
    have := h.2.2.1 this
    omega
theorem drop_ix {es : List En} {base : Nat} (h : ∀ k, k < es.length → (es.getD k default).i = base + 1 + k) (m k : Nat) (hk : k < (es.drop m).length) : ((es.drop m).getD k default).i = base + m + 1 + k := by
  simp at hk
  have := h (m + k) (by omega)
  simp [List.getD_eq_getElem?_getD, List.getElem?_drop] at this ⊢
  omega
end Go.Proofs.Ytkkpdnholnkeoab
