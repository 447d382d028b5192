/- What a walk is told of bytes in memory, and how the model's numbers are the plain ones. -/
import Derived.Test.YtaalkhipncbjpaaRows
import Derived.WalkKit
import Derived.WalkLawsBesides
import Derived.Below
import Derived.Laws.BitsLemmas
namespace Go.Proofs.Ytaalkhipncbjpaa
open Go.RowKit

/-- BYTES IN MEMORY: a slice's first cells. -/
def Row (w : World) (ao : Option Addr) (l : List Nat) (cap : Nat) : Prop :=
  l.length ≤ cap ∧ cap ≤ maxLen ∧ (∀ x ∈ l, x < 256) ∧ (ao = none → cap = 0) ∧
  (l ≠ [] → ∃ b off, ao = some ⟨b, off, none⟩ ∧ ∀ i, i < l.length → w.cell? ⟨b, off + i, none⟩ = some (.int .u8 ((l.getD i 0 : Nat) : Int)))
theorem ret_int {k : IntKind} {a b : Int} (h : a = b) : Ending.returned (.int k a) = .returned (.int k b) := by rw [h]

/-- WHAT IS LEFT ALONE: every block that was there and isn't in S. -/
structure Fr (S : Nat → Prop) (w w' : World) : Prop where
  os : w'.os = w.os
  tape : w'.tape = w.tape
  output : w'.output = w.output
  size : w.heap.size ≤ w'.heap.size
  block : ∀ k, k < w.heap.size → ¬ S k → w'.heap[k]? = w.heap[k]?

section
variable {S : Nat → Prop} {w w1 w2 : World}
theorem Fr.refl (S : Nat → Prop) (w : World) : Fr S w w := ⟨rfl, rfl, rfl, Nat.le_refl _, fun _ _ _ => rfl⟩
theorem Fr.trans (h : Fr S w w1) (k : Fr S w1 w2) : Fr S w w2 :=
  ⟨k.os.trans h.os, k.tape.trans h.tape, k.output.trans h.output, Nat.le_trans h.size k.size, fun i hi hs => (k.block i (Nat.lt_of_lt_of_le hi h.size) hs).trans (h.block i hi hs)⟩
theorem Fr.mono {T : Nat → Prop} (h : Fr S w w1) (hT : ∀ k, k < w.heap.size → S k → T k) : Fr T w w1 :=
  ⟨h.os, h.tape, h.output, h.size, fun i hi hs => h.block i hi fun hk => hs (hT i hi hk)⟩
/-- two steps, of which the second may touch what is new besides. -/
theorem Fr.trans' {T : Nat → Prop} (h : Fr S w w1) (k : Fr T w1 w2) (hT : ∀ i, i < w.heap.size → T i → S i) : Fr S w w2 :=
  ⟨k.os.trans h.os, k.tape.trans h.tape, k.output.trans h.output, Nat.le_trans h.size k.size, fun i hi hs => (k.block i (Nat.lt_of_lt_of_le hi h.size) fun ht => hs (hT i hi ht)).trans (h.block i hi hs)⟩
theorem Fr.drew (h : Fr S w w1) : Fr S w w1.drew := ⟨h.os, h.tape, h.output, h.size, h.block⟩
theorem Fr.alloc (h : Fr S w w1) (o : Obj) : Fr S w (w1.alloc o) :=
  ⟨h.os, h.tape, h.output, by have := h.size; simp; omega, fun k hk hs => (Below.heap_alloc w1 o k (Nat.lt_of_lt_of_le hk h.size)).trans (h.block k hk hs)⟩
theorem Fr.grown {row : Option Nat} (h : Fr S w w1) (hg : w1.grownBy w2 row) (hr : ∀ k, row = some k → S k ∨ w.heap.size ≤ k) : Fr S w w2 :=
  ⟨hg.os.trans h.os, hg.tape.trans h.tape, hg.output.trans h.output, Nat.le_trans h.size hg.size, fun k hk hs =>
    (hg.block k (Nat.lt_of_lt_of_le hk h.size) (fun e => by rcases hr k e.symm with h' | h'; exact hs h'; omega)).trans (h.block k hk hs)⟩
theorem Fr.setCell (h : Fr S w w1) {p : Addr} (hp : S p.block ∨ w.heap.size ≤ p.block) (u : Value) : Fr S w (w1.setCell p u) :=
  ⟨h.os, h.tape, h.output, by simpa using h.size, fun k hk hs =>
    (Below.heap_setCell w1 p u k (fun e => by subst e; rcases hp with h' | h'; exact hs h'; omega)).trans (h.block k hk hs)⟩
theorem Fr.cellEq (h : Fr S w w1) {a : Addr} (hb : a.block < w.heap.size) (hs : ¬ S a.block) : w1.cell? a = w.cell? a := World.cell?_of_block (h.block _ hb hs)
theorem Fr.frozenEq (h : Fr S w w1) {a : Addr} (hb : a.block < w.heap.size) (hs : ¬ S a.block) : w1.frozen? a = w.frozen? a := World.frozen?_of_block (h.block _ hb hs)
theorem Fr.cell (h : Fr S w w1) {a : Addr} {v : Value} (hc : w.cell? a = some v) (hs : ¬ S a.block) : w1.cell? a = some v :=
  (h.cellEq (World.block_lt_of_cell? _ _ hc) hs).trans hc
theorem Fr.below (h : Fr S w w1) {B : Nat} (hB : B ≤ w.heap.size) (hs : ∀ k, k < w.heap.size → S k → B ≤ k) : Below B w w1 :=
  ⟨h.os, h.tape, h.output, h.size, fun k hk => h.block k (by omega) fun e => by have := hs k (by omega) e; omega⟩
theorem Fr.row (h : Fr S w w1) {ao : Option Addr} {l : List Nat} {cap : Nat} (hr : Row w ao l cap) (hs : l ≠ [] → ∀ a, ao = some a → ¬ S a.block) : Row w1 ao l cap := by
  obtain ⟨h1, h2, h3, h4, h5⟩ := hr
  refine ⟨h1, h2, h3, h4, fun hl => ?_⟩
  obtain ⟨b, off, rfl, hc⟩ := h5 hl
  exact ⟨b, off, rfl, fun i hi => h.cell (hc i hi) (hs hl ⟨b, off, none⟩ rfl)⟩
end

/-- bytes as the model's cells. -/
def cellsOf (l : List Nat) : List Value := l.map fun x => Value.int .u8 ((x : Nat) : Int)
theorem cellsOf_append (l m : List Nat) : cellsOf (l ++ m) = cellsOf l ++ cellsOf m := List.map_append
theorem cellsOf_length (l : List Nat) : (cellsOf l).length = l.length := List.length_map ..
theorem cellsOf_one (l : List Nat) : ∀ u ∈ cellsOf l, u.oneCell' = true := by
  intro u hu; simp [cellsOf] at hu; obtain ⟨x, _, rfl⟩ := hu; rfl
theorem cellsOf_get (l : List Nat) (j : Nat) (hj : j < l.length) : (cellsOf l)[j]? = some (.int .u8 ((l.getD j 0 : Nat) : Int)) := by
  simp [cellsOf, hj]

/-- A SLICE OF BYTES THAT THE CALL HAS MADE. -/
def Own (w : World) (base : Nat) (v : Value) (l : List Nat) : Prop := w.ownsRow base 5 1 v l.length (cellsOf l) ∧ (∀ x ∈ l, x < 256)
theorem Own.nil (w : World) (base : Nat) : Own w base (.slice none 0 0) [] := ⟨World.ownsRow_nil w base 5 1, by simp⟩
theorem Own.row {w : World} {base : Nat} {v : Value} {l : List Nat} (h : Own w base v l) :
    ∃ ao cap, v = .slice ao l.length cap ∧ Row w ao l cap ∧ ∀ a, ao = some a → base ≤ a.block ∧ a.block < w.heap.size ∧ v.ownBlock = some a.block ∧ a.off = 0 ∧ a.spot = none := by
  obtain ⟨⟨hl, h⟩, hb⟩ := h
  rcases h with ⟨rfl, h0⟩ | ⟨g, cap, cur, rfl, hbg, hg, hn, hm, hs, ht⟩
  · have : l = [] := List.eq_nil_of_length_eq_zero h0
    subst this
    exact ⟨none, 0, rfl, ⟨by simp, Nat.zero_le _, hb, fun _ => rfl, fun h => absurd rfl h⟩, fun a ha => by cases ha⟩
  · have hlt : g < w.heap.size := (Array.getElem?_eq_some_iff.1 hg).1
    refine ⟨_, cap, rfl, ⟨hn, hm, hb, fun h => (by cases h), fun _ => ⟨g, 0, rfl, fun i hi => ?_⟩⟩, fun a ha => by cases ha; exact ⟨hbg, hlt, rfl, rfl, rfl⟩⟩
    have h1 := cellsOf_get l i hi
    rw [← ht, List.getElem?_take, if_pos (by omega)] at h1
    rw [Nat.zero_add, cell_of_row w g i cur 5 (0, 0) hg]
    simpa using h1
theorem Own.fr {S : Nat → Prop} {w w1 : World} {base : Nat} {v : Value} {l : List Nat} (h : Own w base v l) (f : Fr S w w1) (hs : ∀ k, v.ownBlock = some k → ¬ S k) : Own w1 base v l := by
  refine ⟨⟨h.1.1, ?_⟩, h.2⟩
  rcases h.1.2 with hn | ⟨g, cap, cur, rfl, hbg, hg, rest⟩
  · exact .inl hn
  · exact .inr ⟨g, cap, cur, rfl, hbg, (f.block g (Array.getElem?_eq_some_iff.1 hg).1 (hs g rfl)).trans hg, rest⟩
theorem Own.lt {w : World} {base : Nat} {v : Value} {l : List Nat} (h : Own w base v l) : ∀ k, v.ownBlock = some k → base ≤ k ∧ k < w.heap.size := h.1.lt

theorem Try.info5 : (Try.prog.info? 5).map (fun i => (i.zero, i.size, i.bytes)) = some (some (.int .u8 0), 1, 1) := by kernel_rfl

theorem run_append_bytes (w : World) (ty : TypeId) (base : Nat) (v : Value) (l : List Nat) (hown : Own w base v l)
    (ao : Option Addr) (m : List Nat) (cap : Nat) (hr : Row w ao m cap) (hlen : l.length + m.length ≤ 140737488355328) (hbase : base ≤ w.heap.size) :
    ∃ v' w', (Builtin.append_ #[27, 27] ty #[v, .slice ao m.length cap]).run Try.prog w = .ok v' w' ∧ Own w' base v' (l ++ m) ∧ w.grownBy w' v.ownBlock ∧ (∀ k, v'.ownBlock = some k → v.ownBlock = some k ∨ w.heap.size ≤ k) := by
  obtain ⟨i, hi, hz0, hz1, hz2⟩ := info_parts Try.info5
  obtain ⟨h1, h2, h3, h4, h5⟩ := hr
  have hbytes : ∀ x ∈ l ++ m, x < 256 := fun x hx => by rcases List.mem_append.1 hx with h | h; exact hown.2 x h; exact h3 x h
  cases ao with
  | none =>
    have hc := h4 rfl
    subst hc
    have hm : m = [] := List.eq_nil_of_length_eq_zero (by omega)
    subst hm
    refine ⟨v, w, run_append_owned_none (P := Try.prog) (w := w) base 27 ty 5 i 1 Try.underlying27 hi v _ _ hown.1, by simpa using hown, ⟨rfl, rfl, rfl, Nat.le_refl _, fun _ _ _ => rfl⟩, fun k hk => .inl hk⟩
  | some ad =>
    have hnews : ∀ j u, (cellsOf m)[j]? = some u → w.cell? (ad.add j) = some u := by
      intro j u hu
      have hj : j < m.length := by
        have := (List.getElem?_eq_some_iff.1 hu).1
        rwa [cellsOf_length] at this
      obtain ⟨b, off, he, hc⟩ := h5 (fun e => by rw [e] at hj; simp at hj)
      cases he
      rw [cellsOf_get m j hj] at hu
      cases hu
      have := hc j hj
      rw [show (⟨b, off, none⟩ : Addr).add j = ⟨b, off + j, none⟩ from by unfold Addr.add; split <;> simp_all]
      exact this
    obtain ⟨v', w', hrun, ho, hg, hiff⟩ := run_append_own (P := Try.prog) w base 27 ty 5 i (.int .u8 0) 1 1 Try.underlying27 hi hz0 hz1 hz2 rfl (by decide) v l.length (cellsOf l) hown.1 ad m.length cap (cellsOf m) (by simp [cellsOf_length]) hnews (cellsOf_one m) (by unfold maxLen; omega) (by omega) hbase
    refine ⟨v', w', hrun, ⟨by rw [cellsOf_append, List.length_append]; exact ho, hbytes⟩, hg, ?_⟩
    intro k hk
    rcases hown.1.2 with ⟨rfl, h0⟩ | ⟨g, cp, cur, rfl, hbg, hgg, hn, hm, hs, ht⟩
    · by_cases hm0 : m.length = 0
      · have := hiff.2 ⟨rfl, hm0⟩
        subst this
        simp [Value.ownBlock] at hk
      · have hr2 := run_append_nil (P := Try.prog) w 27 ty 5 i (.int .u8 0) Try.underlying27 hi hz0 ad m.length cap (cellsOf m) (by rw [cellsOf_length, hz1, Nat.mul_one]) hnews (by omega) (by omega) (by rw [hz2]; omega)
        rw [hrun] at hr2
        cases hr2
        simp [Value.ownBlock] at hk
        exact .inr (by omega)
    · by_cases hroom : l.length + m.length ≤ cp
      · have hr2 := run_append_room (P := Try.prog) w 27 ty 5 i Try.underlying27 hi g l.length cp cur hgg ad m.length cap (cellsOf m) (by rw [cellsOf_length, hz1, Nat.mul_one]) hnews (cellsOf_one m) hroom (by rw [cellsOf_length, hz1, hs]; omega)
        rw [hrun] at hr2
        cases hr2
        exact .inl hk
      · have holds : ∀ j u, (cellsOf l)[j]? = some u → w.cell? ((⟨g, 0, none⟩ : Addr).add j) = some u := hown.1.cells (g := g) rfl
        have hr2 := run_append_grow (P := Try.prog) w 27 ty 5 i (.int .u8 0) Try.underlying27 hi hz0 ⟨g, 0, none⟩ l.length cp (cellsOf l) (by rw [cellsOf_length, hz1, Nat.mul_one]) holds ad m.length cap (cellsOf m) (by rw [cellsOf_length, hz1, Nat.mul_one]) hnews (by omega) (by omega) (growslice_fits (by omega) (by rw [hz2]; omega))
        rw [hrun] at hr2
        cases hr2
        simp [Value.ownBlock] at hk
        exact .inr (by omega)

/-- 'append(s, x...)': s is the call's own, x whatever bytes. -/
theorem wpList_append_bytes {w : World} {ops : Array Oper} {rest : List Oper} {o : Oper} {a : Act} {Q : Exit → Act → World → Prop} (hgd : o.guard = none) (s x : Operand)
    (ho : o.op = .call { callee := .builtin .append, args := #[s, x], argTypes := #[27, 27] })
    (base : Nat) (v : Value) (l : List Nat) (hs : a.eval s = v) (hown : Own w base v l)
    (ao : Option Addr) (m : List Nat) (cap : Nat) (hx : a.eval x = .slice ao m.length cap) (hr : Row w ao m cap)
    (hlen : l.length + m.length ≤ 140737488355328) (hbase : base ≤ w.heap.size)
    (h : ∀ v' w', Own w' base v' (l ++ m) → w.grownBy w' v.ownBlock → (∀ k, v'.ownBlock = some k → v.ownBlock = some k ∨ w.heap.size ≤ k) → wpList Try.prog ops Q rest (a.put o.dst v') w') :
    wpList Try.prog ops Q (o :: rest) a w := by
  refine wpList_plain hgd fun K hK => ?_
  obtain ⟨v', w', hrun, h1, h2, h3⟩ := run_append_bytes w o.type base v l hown ao m cap hr hlen hbase
  unfold Oper.wp execOp
  simp only [ho, resolve, invoke, builtin, Sem.run_bind, Sem.run_pure, Result.andThen_ok, List.map_toArray, List.map_cons, List.map_nil, hs, hx, hrun]
  exact hK _ _ (h v' w' h1 h2 h3)
end Go.Proofs.Ytaalkhipncbjpaa
