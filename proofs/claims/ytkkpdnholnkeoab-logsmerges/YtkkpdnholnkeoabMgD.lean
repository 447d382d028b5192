/- A copy of a row's front. -/
import Derived.Test.YtkkpdnholnkeoabMgC
namespace Go.Proofs.Ytkkpdnholnkeoab
open Go.RowKit
theorem run_take (w : World) (ty : TypeId) (R2 D2 DD : Nat → Prop) (ao : Option Addr) (es : List En) (cap : Nat) (hr : ERow w R2 D2 ao es cap) (q : Nat) (hq : q ≤ es.length) (hD : ∀ k, k < w.heap.size → D2 k → DD k) (hnew : ∀ k, w.heap.size ≤ k → DD k) (hlen : es.length ≤ 100000) :
    ∃ v' w', (Builtin.append_ #[28, 28] ty #[.slice none 0 0, .slice ao q cap]).run Try.prog w = .ok v' w' ∧ OwnE w' DD v' (es.take q) ∧ Fr (fun _ => False) w w' ∧ (∀ k, v'.ownBlock = some k → w.heap.size ≤ k) := by
  cases ao with
  | none =>
    have hc := hr.2.2.1 rfl
    have hl : es = [] := List.eq_nil_of_length_eq_zero (by have := hr.1; omega)
    subst hl
    subst hc
    have hq0 : q = 0 := by simpa using hq
    subst hq0
    obtain ⟨i, hi, hz0, hz1, hz2⟩ := info_parts Try.info36
    refine ⟨.slice none 0 0, w, run_append_owned_none (P := Try.prog) (w := w) 0 28 ty 36 i 4 Try.underlying28 hi (.slice none 0 0) _ _ (OwnE.nil w DD).own, by simpa using OwnE.nil w DD, Fr.refl _ _, fun k hk => by simp [Value.ownBlock] at hk⟩
  | some a =>
    have hlq : (es.take q).length = q := by simp; omega
    have hcell : ∀ j u, (flat (es.take q))[j]? = some u → w.cell? (a.add j) = some u := fun j u hu => by
      rw [flat_take, List.getElem?_take] at hu
      split at hu
      · exact hr.cells j u hu
      · cases hu
    obtain ⟨v', w', hrun, h1, h2, h3⟩ := run_append_ents w ty DD (.slice none 0 0) [] (OwnE.nil w DD) a (es.take q) cap hcell (fun x hx => (hr.2.2.2.1 x (List.mem_of_mem_take hx)).mono (fun k hk h => ⟨hD k hk h, by simp [Value.ownBlock]⟩)) hnew (by simp; omega)
    rw [hlq] at hrun
    rw [List.nil_append] at h1
    refine ⟨v', w', hrun, h1, (Fr.refl _ w).grown h2 (fun k hk => by simp [Value.ownBlock] at hk), fun k hk => ?_⟩
    rcases h3 with e | e
    · rw [e] at hk; simp [Value.ownBlock] at hk
    · rw [e] at hk; cases hk; exact Nat.le_refl _
theorem step_append_ex {P : Program} {ops : Array Oper} {o : Oper} {a : Act} {w : World} {K : Act → World → Prop} {Q : Exit → Act → World → Prop} {E : Prop} {Pq : Value → World → Prop}
    (hg : o.guard = none) (s x : Operand) (t : TypeId) (hop : o.op = Op.call { callee := Callee.builtin Builtin.append, args := #[s, x], argTypes := #[t, t] })
    {vs vx : Value} (hs : a.eval s = vs) (hx : a.eval x = vx) (H : ∃ v' w', (Builtin.append_ #[t, t] o.type #[vs, vx]).run P w = .ok v' w' ∧ Pq v' w')
    (hK : ∀ v' w', Pq v' w' → K (a.put o.dst v') w') :
    if Region.wanted o (yielded ops a.tmps) = true then Oper.wp P o a w K Q else E := by
  obtain ⟨v', w', hrun, hp⟩ := H
  exact step_append_eq hg s x t hop hrun hs hx (hK v' w' hp)
theorem d_of_p {zs cs : List En} (h : zs.map En.p = cs.map En.p) (M : Nat) (hc : ∀ y ∈ cs, y.d.length ≤ M) : ∀ x ∈ zs, x.d.length ≤ M := by
  intro x hx
  have : x.p ∈ cs.map En.p := by rw [← h]; exact List.mem_map.2 ⟨x, hx, rfl⟩
  obtain ⟨y, hy, he⟩ := List.mem_map.1 this
  have hd : y.d = x.d := congrArg (fun p : Nat × Nat × Nat × List Nat => p.2.2.2) he
  rw [← hd]
  exact hc y hy
end Go.Proofs.Ytkkpdnholnkeoab
