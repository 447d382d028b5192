/- Rows of things that are some cells each, without anything behind them: rows that came in, rows that a call has made. -/
import Derived.Test.YtaalkhipncbjpaaBase
import Derived.Maps.AppendAt
namespace Go.Proofs.Ytaalkhipncbjpaa
open Go.RowKit

/-- A THING OF SOME CELLS. -/
class Enc (α : Type) where
  cells : α → List Value
  sz : Nat
  dflt : α
  pos : 0 < sz
  len : ∀ x, (cells x).length = sz
  one : ∀ x, ∀ u ∈ cells x, u.oneCell' = true
section
variable {α : Type} [Enc α]
def flat (l : List α) : List Value := l.flatMap Enc.cells
theorem flat_cons (x : α) (l : List α) : flat (x :: l) = Enc.cells x ++ flat l := by simp [flat]
theorem flat_nil : flat ([] : List α) = [] := rfl
theorem flat_length (l : List α) : (flat l).length = l.length * Enc.sz α := by
  induction l with
  | nil => simp [flat_nil]
  | cons x l ih => rw [flat_cons, List.length_append, ih, Enc.len, List.length_cons, Nat.succ_mul, Nat.add_comm]
theorem flat_append (a b : List α) : flat (a ++ b) = flat a ++ flat b := List.flatMap_append
theorem flat_get (l : List α) (k f : Nat) (hk : k < l.length) (hf : f < Enc.sz α) : (flat l)[k * Enc.sz α + f]? = (Enc.cells (l.getD k Enc.dflt))[f]? := by
  induction l generalizing k with
  | nil => simp at hk
  | cons x l ih =>
    have hx : (Enc.cells x).length = Enc.sz α := Enc.len x
    rw [flat_cons]
    cases k with
    | zero => rw [List.getElem?_append_left (by omega)]; simp
    | succ k =>
      have h1 : (k + 1) * Enc.sz α + f = Enc.sz α + (k * Enc.sz α + f) := by rw [Nat.succ_mul]; omega
      rw [h1, List.getElem?_append_right (by omega), hx, show Enc.sz α + (k * Enc.sz α + f) - Enc.sz α = k * Enc.sz α + f by omega, ih k (by simpa using hk)]
      simp
theorem flat_take (l : List α) (n : Nat) : flat (l.take n) = (flat l).take (n * Enc.sz α) := by
  induction l generalizing n with
  | nil => simp [flat_nil]
  | cons x l ih =>
    have hx : (Enc.cells x).length = Enc.sz α := Enc.len x
    cases n with
    | zero => simp [flat_nil]
    | succ n =>
      rw [List.take_succ_cons, flat_cons, flat_cons, ih, List.take_append, hx, List.take_of_length_le (l := Enc.cells x) (by rw [hx, Nat.succ_mul]; omega), show (n + 1) * Enc.sz α - Enc.sz α = n * Enc.sz α by rw [Nat.succ_mul]; omega]
theorem flat_one (l : List α) : ∀ u ∈ flat l, u.oneCell' = true := by
  intro u hu
  obtain ⟨x, _, h⟩ := List.mem_flatMap.1 hu
  exact Enc.one x u h
/-- one cell of one of them is another one. -/
theorem flat_set (l : List α) (k f : Nat) (y : α) (u : Value) (hk : k < l.length) (hf : f < Enc.sz α) (hy : Enc.cells y = (Enc.cells (l.getD k Enc.dflt)).set f u) : flat (l.set k y) = (flat l).set (k * Enc.sz α + f) u := by
  induction l generalizing k with
  | nil => simp at hk
  | cons x l ih =>
    have hx : (Enc.cells x).length = Enc.sz α := Enc.len x
    cases k with
    | zero =>
      simp only [List.getD_cons_zero] at hy
      rw [List.set_cons_zero, flat_cons, flat_cons, hy, List.set_append_left _ _ (by omega)]
      simp
    | succ k =>
      simp only [List.getD_cons_succ] at hy
      rw [List.set_cons_succ, flat_cons, flat_cons, ih k (by simpa using hk) hy, List.set_append_right _ _ (by rw [hx, Nat.succ_mul]; omega), hx]
      congr 2
      rw [Nat.succ_mul]; omega

/-- A ROW THAT CAME IN. -/
def RowF (w : World) (ao : Option Addr) (l : List α) (cap : Nat) : Prop :=
  l.length ≤ cap ∧ cap ≤ maxLen ∧ (ao = none → cap = 0) ∧
  (l ≠ [] → ∃ b off, ao = some ⟨b, off, none⟩ ∧ ∀ i, i < l.length → ∀ f, f < Enc.sz α → w.cell? ⟨b, off + (i * Enc.sz α + f), none⟩ = (Enc.cells (l.getD i Enc.dflt))[f]?)
theorem RowF.nil (w : World) : RowF w none ([] : List α) 0 := ⟨Nat.le_refl _, Nat.zero_le _, fun _ => rfl, fun h => absurd rfl h⟩
theorem RowF.lens {w : World} {ao : Option Addr} {l : List α} {cap : Nat} (h : RowF w ao l cap) : l.length ≤ 9223372036854775807 ∧ cap ≤ 9223372036854775807 ∧ l.length ≤ cap := by
  have := h.1; have := h.2.1; unfold maxLen at this; omega
theorem enc_some (x : α) (f : Nat) (hf : f < Enc.sz α) : ∃ v, (Enc.cells x)[f]? = some v := ⟨_, List.getElem?_eq_getElem (by rw [Enc.len]; exact hf)⟩
theorem RowF.fr {S : Nat → Prop} {w w1 : World} {ao : Option Addr} {l : List α} {cap : Nat} (h : RowF w ao l cap) (f : Fr S w w1) (hs : ∀ a, ao = some a → ¬ S a.block) : RowF w1 ao l cap := by
  obtain ⟨h1, h2, h3, h4⟩ := h
  refine ⟨h1, h2, h3, fun hne => ?_⟩
  obtain ⟨b, off, he, hc⟩ := h4 hne
  refine ⟨b, off, he, fun i hi g hg => ?_⟩
  have hcell := hc i hi g hg
  obtain ⟨v, hv⟩ := enc_some (l.getD i Enc.dflt) g hg
  rw [hv] at hcell ⊢
  exact f.cell hcell (show ¬ S b from hs ⟨b, off, none⟩ he)
theorem RowF.cells {w : World} {a : Addr} {l : List α} {cap : Nat} (h : RowF w (some a) l cap) : ∀ j u, (flat l)[j]? = some u → w.cell? (a.add j) = some u := by
  intro j u hu
  have hj : j < l.length * Enc.sz α := by rw [← flat_length]; exact (List.getElem?_eq_some_iff.1 hu).1
  obtain ⟨b, off, he, hc⟩ := h.2.2.2 (fun e => by rw [e] at hj; simp at hj)
  cases he
  have hadd : (⟨b, off, none⟩ : Addr).add j = ⟨b, off + j, none⟩ := by unfold Addr.add; split <;> simp_all
  have hp := Enc.pos (α := α)
  have h1 : j / Enc.sz α < l.length := (Nat.div_lt_iff_lt_mul hp).2 hj
  have h2 : j % Enc.sz α < Enc.sz α := Nat.mod_lt _ hp
  have := hc (j / Enc.sz α) h1 (j % Enc.sz α) h2
  rw [← flat_get l _ _ h1 h2, show j / Enc.sz α * Enc.sz α + j % Enc.sz α = j by rw [Nat.mul_comm]; exact Nat.div_add_mod j _, hu] at this
  rw [hadd, this]

/-- A ROW THAT A CALL HAS MADE. -/
def OwnF (w : World) (base : Nat) (e : TypeId) (v : Value) (l : List α) : Prop := w.ownsRow base e (Enc.sz α) v l.length (flat l)
theorem OwnF.nil (w : World) (base : Nat) (e : TypeId) : OwnF w base e (.slice none 0 0) ([] : List α) := World.ownsRow_nil w base e _
theorem OwnF.lt {w : World} {base : Nat} {e : TypeId} {v : Value} {l : List α} (h : OwnF w base e v l) : ∀ k, v.ownBlock = some k → base ≤ k ∧ k < w.heap.size := World.ownsRow.lt h
theorem OwnF.fr {S : Nat → Prop} {w w1 : World} {base : Nat} {e : TypeId} {v : Value} {l : List α} (h : OwnF w base e v l) (f : Fr S w w1) (hs : ∀ k, v.ownBlock = some k → ¬ S k) : OwnF w1 base e v l := by
  refine ⟨h.1, ?_⟩
  rcases h.2 with hn | ⟨g, cap, cur, rfl, hbg, hg, rest⟩
  · exact .inl hn
  · exact .inr ⟨g, cap, cur, rfl, hbg, (f.block g (Array.getElem?_eq_some_iff.1 hg).1 (hs g rfl)).trans hg, rest⟩
theorem OwnF.rebase {w : World} {base b2 : Nat} {e : TypeId} {v : Value} {l : List α} (h : OwnF w base e v l) (hb : b2 ≤ base) : OwnF w b2 e v l := by
  refine ⟨h.1, ?_⟩
  rcases h.2 with hn | ⟨g, cap, cur, rfl, hbg, rest⟩
  · exact .inl hn
  · exact .inr ⟨g, cap, cur, rfl, by omega, rest⟩
/-- how it looks, and what its cells hold. -/
theorem OwnF.row {w : World} {base : Nat} {e : TypeId} {v : Value} {l : List α} (h : OwnF w base e v l) :
    ∃ ao cap, v = .slice ao l.length cap ∧ RowF w ao l cap ∧ (∀ a, ao = some a → a.off = 0 ∧ a.spot = none ∧ v.ownBlock = some a.block ∧ ∀ j, w.frozen? ⟨a.block, j, none⟩ = false) := by
  obtain ⟨hl, ho⟩ := h
  rcases ho with ⟨rfl, h0⟩ | ⟨g, cap, cur, rfl, hbg, hg, hn, hm, hs, ht⟩
  · have : l = [] := List.eq_nil_of_length_eq_zero h0
    subst this
    exact ⟨none, 0, rfl, RowF.nil _, fun a ha => by cases ha⟩
  · refine ⟨_, cap, rfl, ⟨hn, hm, fun h => (by cases h), fun _ => ⟨g, 0, rfl, fun i hi f hf => ?_⟩⟩, fun a ha => by cases ha; exact ⟨rfl, rfl, rfl, fun j => frozen_of_row w g j cur e hg⟩⟩
    · have hlt : i * Enc.sz α + f < l.length * Enc.sz α := by
        have : (i + 1) * Enc.sz α ≤ l.length * Enc.sz α := Nat.mul_le_mul_right _ hi
        rw [Nat.succ_mul] at this; omega
      rw [← flat_get l i f hi hf, ← ht, List.getElem?_take, if_pos hlt, Nat.zero_add, cell_of_row w g _ cur e (0, 0) hg]
      simp
theorem OwnF.form {w : World} {base : Nat} {e : TypeId} {v : Value} {l : List α} (h : OwnF w base e v l) : ∃ ao cap, v = .slice ao l.length cap ∧ l.length ≤ 9223372036854775807 ∧ cap ≤ 9223372036854775807 ∧ l.length ≤ cap := by
  obtain ⟨ao, cap, hv, hr, _⟩ := h.row
  exact ⟨ao, cap, hv, hr.lens⟩
theorem heap_setCell_same (w : World) (g j : Nat) (u : Value) (cur : Array Value) (e : TypeId) (fz : Nat × Nat) (hg : w.heap[g]? = some (.cells cur e fz)) : (w.setCell ⟨g, j, none⟩ u).heap[g]? = some (.cells (cur.setIfInBounds j u) e fz) := by
  simp [World.setCell, Array.getElem?_modify, hg]
/-- one cell of one of its things is written over. -/
theorem OwnF.set {w : World} {base : Nat} {e : TypeId} {g cap : Nat} {l : List α} (h : OwnF w base e (.slice (some ⟨g, 0, none⟩) l.length cap) l) (k f : Nat) (y : α) (u : Value) (hk : k < l.length) (hf : f < Enc.sz α) (hy : Enc.cells y = (Enc.cells (l.getD k Enc.dflt)).set f u) :
    OwnF (w.setCell ⟨g, k * Enc.sz α + f, none⟩ u) base e (.slice (some ⟨g, 0, none⟩) l.length cap) (l.set k y) := by
  obtain ⟨hl, h⟩ := h
  refine ⟨by rw [flat_length], ?_⟩
  rw [List.length_set]
  rcases h with ⟨he, _⟩ | ⟨g', cp, cur, he, hbg, hg, hn, hm, hs, ht⟩
  · cases he
  · cases he
    refine .inr ⟨g, cap, cur.setIfInBounds (k * Enc.sz α + f) u, rfl, hbg, heap_setCell_same w g _ u cur e _ hg, hn, hm, by simpa using hs, ?_⟩
    rw [flat_set l k f y u hk hf hy, ← ht]
    simp [List.take_set]
/-- 'append(s, x...)': s is the call's own, x whatever row. -/
theorem run_append_f {P : Program} (w : World) (st ty e : TypeId) (hst : P.underlying st = some (.slice e)) (z : Value) (bytes : Nat) (hinfo : (P.info? e).map (fun i => (i.zero, i.size, i.bytes)) = some (some z, Enc.sz α, bytes)) (hzs : z.cells.size = Enc.sz α) (hby : bytes ≤ 4096)
    (base : Nat) (v : Value) (l : List α) (hown : OwnF w base e v l) (a : Addr) (m : List α) (cap : Nat)
    (hcell : ∀ j u, (flat m)[j]? = some u → w.cell? (a.add j) = some u) (hbase : base ≤ w.heap.size) (hlen : l.length + m.length ≤ 1000000) :
    ∃ v' w', (Builtin.append_ #[st, st] ty #[v, .slice (some a) m.length cap]).run P w = .ok v' w' ∧ OwnF w' base e v' (l ++ m) ∧ w.grownBy w' v.ownBlock ∧ (v'.ownBlock = v.ownBlock ∨ v'.ownBlock = some w.heap.size) := by
  obtain ⟨i, hi, hz0, hz1, hz2⟩ := info_parts hinfo
  have hb : (l.length + m.length) * bytes ≤ 1000000 * 4096 := Nat.mul_le_mul hlen hby
  obtain ⟨v', w', hrun, ho, hg, _, hat⟩ := run_append_own_at (P := P) w base st ty e i z (Enc.sz α) bytes hst hi hz0 hz1 hz2 hzs (Enc.pos (α := α)) v l.length (flat l) hown a m.length cap (flat m) (by rw [flat_length]) hcell (flat_one m) (by unfold maxLen; omega) (by omega) hbase
  exact ⟨v', w', hrun, by unfold OwnF; rw [List.length_append, flat_append]; exact ho, hg, hat⟩
theorem wpList_append_f {P : Program} {w : World} {ops : Array Oper} {rest : List Oper} {o : Oper} {a : Act} {Q : Exit → Act → World → Prop} (hgd : o.guard = none) (s x : Operand) (st e : TypeId)
    (ho : o.op = .call { callee := .builtin .append, args := #[s, x], argTypes := #[st, st] }) (hst : P.underlying st = some (.slice e)) (z : Value) (bytes : Nat) (hinfo : (P.info? e).map (fun i => (i.zero, i.size, i.bytes)) = some (some z, Enc.sz α, bytes)) (hzs : z.cells.size = Enc.sz α) (hby : bytes ≤ 4096)
    (base : Nat) (v : Value) (l : List α) (hs : a.eval s = v) (hown : OwnF w base e v l) (ad : Addr) (m : List α) (cap : Nat) (hx : a.eval x = .slice (some ad) m.length cap)
    (hcell : ∀ j u, (flat m)[j]? = some u → w.cell? (ad.add j) = some u) (hbase : base ≤ w.heap.size) (hlen : l.length + m.length ≤ 1000000)
    (h : ∀ v' w', OwnF w' base e v' (l ++ m) → w.grownBy w' v.ownBlock → (v'.ownBlock = v.ownBlock ∨ v'.ownBlock = some w.heap.size) → wpList P ops Q rest (a.put o.dst v') w') :
    wpList P ops Q (o :: rest) a w := by
  refine wpList_plain hgd fun K hK => ?_
  obtain ⟨v', w', hrun, h1, h2, h3⟩ := run_append_f (P := P) w st o.type e hst z bytes hinfo hzs hby base v l hown ad m cap hcell hbase hlen
  unfold Oper.wp execOp
  simp only [ho, resolve, invoke, builtin, Sem.run_bind, Sem.run_pure, Result.andThen_ok, List.map_toArray, List.map_cons, List.map_nil, hs, hx, hrun]
  exact hK _ _ (h v' w' h1 h2 h3)
/-- one of them, laid by itself. -/
theorem one_f (w : World) (x : α) (e : TypeId) (cs : Array Value) (hcs : cs = (Enc.cells x).toArray) : ∀ j u, (flat [x])[j]? = some u → (w.alloc (.cells cs e)).cell? ((⟨w.heap.size, 0, none⟩ : Addr).add j) = some u := by
  intro j u hu
  have hadd : (⟨w.heap.size, 0, none⟩ : Addr).add j = ⟨w.heap.size, 0 + j, none⟩ := by unfold Addr.add; split <;> simp_all
  rw [hadd, Nat.zero_add, cell_of_row _ w.heap.size j _ e (0, 0) (heap_alloc_new w _), hcs]
  simpa [flat] using hu
end
end Go.Proofs.Ytaalkhipncbjpaa
