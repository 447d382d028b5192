/- Bytes that an append may follow: a row of the call's own, or one that is full; and the writer's seal, the records. -/
import Derived.Test.YtlcakglmheleeaaDoorPure
namespace Go.Proofs.YtlcakglmheleeaaDoor
open Go.RowKit

def Lays (w : World) (base : Nat) (v : Value) (l : List Nat) : Prop :=
  Own w base v l ∨ ∃ b off, v = .slice (some ⟨b, off, none⟩) l.length l.length ∧ Row w (some ⟨b, off, none⟩) l l.length ∧ base ≤ b ∧ b < w.heap.size
theorem Lays.row {w : World} {base : Nat} {v : Value} {l : List Nat} (h : Lays w base v l) :
    ∃ ao cap, v = .slice ao l.length cap ∧ Row w ao l cap ∧ ∀ a, ao = some a → base ≤ a.block ∧ a.block < w.heap.size ∧ v.ownBlock = some a.block := by
  rcases h with h | ⟨b, off, rfl, hr, hb, hlt⟩
  · obtain ⟨ao, cap, hv, hr, ha⟩ := h.row
    exact ⟨ao, cap, hv, hr, fun a e => ⟨(ha a e).1, (ha a e).2.1, (ha a e).2.2.1⟩⟩
  · exact ⟨_, _, rfl, hr, fun a e => by cases e; exact ⟨hb, hlt, rfl⟩⟩
theorem Lays.nil (w : World) (base : Nat) : Lays w base (.slice none 0 0) [] := .inl (Own.nil _ _)
theorem Lays.lt {w : World} {base : Nat} {v : Value} {l : List Nat} (h : Lays w base v l) : ∀ k, v.ownBlock = some k → base ≤ k ∧ k < w.heap.size := by
  rcases h with h | ⟨b, off, rfl, hr, hb, hlt⟩
  · exact h.lt
  · intro k hk
    simp [Value.ownBlock] at hk
    omega
theorem Lays.bytes {w : World} {base : Nat} {v : Value} {l : List Nat} (h : Lays w base v l) : ∀ x ∈ l, x < 256 := by
  obtain ⟨_, _, _, hr, _⟩ := h.row
  exact hr.2.2.1
theorem Lays.fr {S : Nat → Prop} {w w1 : World} {base : Nat} {v : Value} {l : List Nat} (h : Lays w base v l) (f : Fr S w w1) (hs : ∀ k, v.ownBlock = some k → ¬ S k) : Lays w1 base v l := by
  rcases h with h | ⟨b, off, rfl, hr, hb, hlt⟩
  · exact .inl (h.fr f hs)
  · exact .inr ⟨b, off, rfl, f.row hr (fun _ a e => by cases e; exact hs b rfl), hb, Nat.lt_of_lt_of_le hlt f.size⟩
theorem Lays.rebase {w : World} {base b2 : Nat} {v : Value} {l : List Nat} (h : Lays w base v l) (hb : b2 ≤ base) : Lays w b2 v l := by
  rcases h with ⟨⟨hl, h⟩, h2⟩ | ⟨b, off, rfl, hr, hb', hlt⟩
  · refine .inl ⟨⟨hl, ?_⟩, h2⟩
    rcases h with hn | ⟨g, cap, cur, rfl, hbg, rest⟩
    · exact .inl hn
    · exact .inr ⟨g, cap, cur, rfl, by omega, rest⟩
  · exact .inr ⟨b, off, rfl, hr, by omega, hlt⟩
theorem Fresh.lays {w0 w : World} {ao : Option Addr} {l : List Nat} (h : Fresh w0 w ao l) : Lays w w0.heap.size (.slice ao l.length l.length) l := by
  obtain ⟨hr, ha⟩ := h
  cases ao with
  | none =>
    have hl : l = [] := List.eq_nil_of_length_eq_zero (hr.2.2.2.1 rfl)
    subst hl
    exact Lays.nil _ _
  | some a =>
    obtain ⟨h1, h2, h3, h4, _⟩ := ha a rfl
    obtain ⟨b, off, sp⟩ := a
    simp only at h3 h4
    subst h3 h4
    exact .inr ⟨b, 0, rfl, hr, h1, h2⟩
theorem run_append_lays (w : World) (ty : TypeId) (base : Nat) (v : Value) (l : List Nat) (hown : Lays w base v l)
    (ao : Option Addr) (m : List Nat) (cap : Nat) (hr : Row w ao m cap) (hm : m ≠ []) (hlen : l.length + m.length ≤ 70368744177664) (hbase : base ≤ w.heap.size) :
    ∃ v' w', (Builtin.append_ #[23, 23] ty #[v, .slice ao m.length cap]).run Tryd.prog w = .ok v' w' ∧ Own w' base v' (l ++ m) ∧ w.grownBy w' v.ownBlock ∧ (∀ k, v'.ownBlock = some k → v.ownBlock = some k ∨ w.heap.size ≤ k) := by
  rcases hown with hown | ⟨b, off, rfl, hrow, hb, hlt⟩
  · exact run_append_bytes w ty base v l hown ao m cap hr (by omega) hbase
  · obtain ⟨i, hi, hz0, hz1, hz2⟩ := info_parts Tryd.info5
    have hbytes : ∀ x ∈ l ++ m, x < 256 := fun x hx => by rcases List.mem_append.1 hx with h | h; exact hrow.2.2.1 x h; exact hr.2.2.1 x h
    have hcell : ∀ {ad : Addr} {q : List Nat} {c : Nat}, Row w (some ad) q c → ∀ j u, (cellsOf q)[j]? = some u → w.cell? (ad.add j) = some u := by
      intro ad q c hq j u hu
      have hj : j < q.length := by
        have := (List.getElem?_eq_some_iff.1 hu).1
        rwa [cellsOf_length] at this
      obtain ⟨b, off, he, hc⟩ := hq.2.2.2.2 (fun e => by rw [e] at hj; simp at hj)
      cases he
      rw [cellsOf_get q j hj] at hu
      cases hu
      have := hc j hj
      rw [show (⟨b, off, none⟩ : Addr).add j = ⟨b, off + j, none⟩ from by unfold Addr.add; split <;> simp_all]
      exact this
    obtain ⟨bm, om, hae, _⟩ := hr.2.2.2.2 hm
    subst hae
    have hpos : 0 < m.length := List.length_pos_iff.2 hm
    have hz : i.size = 1 := hz1
    have hrun := run_append_grow (P := Tryd.prog) w 23 ty 5 i (.int .u8 0) Tryd.underlying23 hi hz0 ⟨b, off, none⟩ l.length l.length (cellsOf l) (by rw [cellsOf_length, hz1, Nat.mul_one]) (hcell hrow) ⟨bm, om, none⟩ m.length cap (cellsOf m) (by rw [cellsOf_length, hz1, Nat.mul_one]) (hcell hr) (by omega) (by omega) (growslice_fits (by omega) (by rw [hz2]; omega))
    refine ⟨_, _, hrun, ⟨⟨?_, .inr ⟨w.heap.size, _, _, by rw [List.length_append], hbase, heap_alloc_new w.drew _, ?_, ?_, ?_, ?_⟩⟩, hbytes⟩, ⟨rfl, rfl, rfl, by simp, fun k hk _ => heap_alloc_old w.drew _ hk⟩, fun k hk => ?_⟩
    · rw [cellsOf_length]; simp
    · rw [List.length_append]; exact grownCap_ge w _ _ 5
    · exact grownCap_le_maxLen w _ _ 5 (by unfold maxLen; omega)
    · have hge := grownCap_ge w (l.length + m.length) l.length 5
      simp only [Array.size_append, List.size_toArray, size_zeroCells, cellsOf_length]
      show l.length + m.length + _ * 1 = _
      omega
    · simp only [Array.toList_append, List.append_assoc]
      rw [← List.append_assoc, ← cellsOf_append]
      have : (l ++ m).length * 1 = (cellsOf (l ++ m)).length := by rw [cellsOf_length]; omega
      rw [this]
      exact List.take_left
    · simp [Value.ownBlock] at hk
      exact .inr (by omega)
theorem wpList_append_lays {w : World} {ops : Array Oper} {rest : List Oper} {o : Oper} {a : Act} {Q : Exit → Act → World → Prop} (hgd : o.guard = none) (s x : Operand)
    (ho : o.op = .call { callee := .builtin .append, args := #[s, x], argTypes := #[23, 23] })
    (base : Nat) (v : Value) (l : List Nat) (hs : a.eval s = v) (hown : Lays w base v l)
    (ao : Option Addr) (m : List Nat) (cap : Nat) (hx : a.eval x = .slice ao m.length cap) (hr : Row w ao m cap) (hm : m ≠ [])
    (hlen : l.length + m.length ≤ 70368744177664) (hbase : base ≤ w.heap.size)
    (h : ∀ v' w', Own w' base v' (l ++ m) → w.grownBy w' v.ownBlock → (∀ k, v'.ownBlock = some k → v.ownBlock = some k ∨ w.heap.size ≤ k) → wpList Tryd.prog ops Q rest (a.put o.dst v') w') :
    wpList Tryd.prog ops Q (o :: rest) a w := by
  refine wpList_plain hgd fun K hK => ?_
  obtain ⟨v', w', hrun, h1, h2, h3⟩ := run_append_lays w o.type base v l hown ao m cap hr hm hlen hbase
  unfold Oper.wp execOp
  simp only [ho, resolve, invoke, builtin, Sem.run_bind, Sem.run_pure, Result.andThen_ok, List.map_toArray, List.map_cons, List.map_nil, hs, hx, hrun]
  exact hK _ _ (h v' w' h1 h2 h3)

end Go.Proofs.YtlcakglmheleeaaDoor
