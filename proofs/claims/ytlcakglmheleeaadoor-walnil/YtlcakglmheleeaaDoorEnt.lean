/- Entries in memory: rows of them that came in, and rows that a call has made. -/
import Derived.Test.YtlcakglmheleeaaDoorRecs3
import Derived.Maps.AppendAt
import Derived.Deep.RegionHeld3
import Derived.Deep.RegionLaw
namespace Go.Proofs.YtlcakglmheleeaaDoor
open Go.RowKit

/-- AN ENTRY: index, term, kind, data, and where its data lie. -/
structure En where
  i : Nat
  t : Nat
  k : Nat
  d : List Nat
  a : Option Addr
  c : Nat
instance : Inhabited En := ⟨⟨0, 0, 0, [], none, 0⟩⟩
def En.cells (x : En) : List Value := [.int .u64 (x.i : Int), .int .u64 (x.t : Int), .int .u8 (x.k : Int), .slice x.a x.d.length x.c]
def flat (es : List En) : List Value := es.flatMap En.cells
theorem flat_length (es : List En) : (flat es).length = es.length * 4 := by
  induction es with
  | nil => rfl
  | cons x es ih =>
    have e : flat (x :: es) = x.cells ++ flat es := by simp [flat]
    have hx : x.cells.length = 4 := rfl
    rw [e, List.length_append, ih, hx, List.length_cons]
    omega
theorem flat_append (a b : List En) : flat (a ++ b) = flat a ++ flat b := List.flatMap_append
theorem flat_get (es : List En) (k f : Nat) (hk : k < es.length) (hf : f < 4) : (flat es)[k * 4 + f]? = (es.getD k default).cells[f]? := by
  induction es generalizing k with
  | nil => simp at hk
  | cons x es ih =>
    have e : flat (x :: es) = x.cells ++ flat es := by simp [flat]
    have hx : x.cells.length = 4 := rfl
    rw [e]
    cases k with
    | zero => rw [List.getElem?_append_left (by omega)]; simp
    | succ k =>
      rw [List.getElem?_append_right (by omega), hx]
      have := ih k (by simpa using hk)
      rw [show (k + 1) * 4 + f - 4 = k * 4 + f by omega, this]
      simp
theorem flat_take (es : List En) (n : Nat) : flat (es.take n) = (flat es).take (n * 4) := by
  induction es generalizing n with
  | nil => simp [flat]
  | cons x es ih =>
    have e : ∀ l, flat (x :: l) = x.cells ++ flat l := fun l => by simp [flat]
    have hx : x.cells.length = 4 := rfl
    cases n with
    | zero => simp [flat]
    | succ n =>
      rw [List.take_succ_cons, e, e, ih, List.take_append, hx, List.take_of_length_le (l := x.cells) (by omega), show (n + 1) * 4 - 4 = n * 4 by omega]
theorem flat_one (es : List En) : ∀ u ∈ flat es, u.oneCell' = true := by
  intro u hu
  simp [flat, En.cells] at hu
  obtain ⟨x, _, h⟩ := hu
  rcases h with rfl | rfl | rfl | rfl <;> rfl
/-- what holds of an entry in memory: its numbers are within, its data lie there, in blocks of D. -/
structure EG (w : World) (D : Nat → Prop) (x : En) : Prop where
  i : x.i < 18446744073709551616
  t : x.t < 18446744073709551616
  k : x.k < 256
  row : Row w x.a x.d x.c
  blk : x.d ≠ [] → ∀ a, x.a = some a → D a.block
theorem row_blk {w : World} {ao : Option Addr} {l : List Nat} {cap : Nat} (h : Row w ao l cap) (hl : l ≠ []) : ∀ a, ao = some a → a.block < w.heap.size := by
  intro a ha
  obtain ⟨b, off, he, hc⟩ := h.2.2.2.2 hl
  rw [he] at ha
  cases ha
  exact World.block_lt_of_cell? _ _ (hc 0 (by cases l; exact absurd rfl hl; simp))
theorem EG.fr {S D : Nat → Prop} {w w1 : World} {x : En} (h : EG w D x) (f : Fr S w w1) (hs : ∀ k, D k → ¬ S k) : EG w1 D x :=
  ⟨h.i, h.t, h.k, f.row h.row (fun hne a ha => hs _ (h.blk hne a ha)), h.blk⟩
theorem EG.mono {D E : Nat → Prop} {w : World} {x : En} (h : EG w D x) (hs : ∀ k, k < w.heap.size → D k → E k) : EG w E x :=
  ⟨h.i, h.t, h.k, h.row, fun hne a ha => hs _ (row_blk h.row hne a ha) (h.blk hne a ha)⟩
/-- ENTRIES IN MEMORY: their row lies in a block of R, their data in blocks of D. -/
def ERow (w : World) (R D : Nat → Prop) (ao : Option Addr) (es : List En) (cap : Nat) : Prop :=
  es.length ≤ cap ∧ cap ≤ maxLen ∧ (ao = none → cap = 0) ∧ (∀ x ∈ es, EG w D x) ∧
  (es ≠ [] → ∃ b off, ao = some ⟨b, off, none⟩ ∧ R b ∧ ∀ i, i < es.length → ∀ f, f < 4 → w.cell? ⟨b, off + (i * 4 + f), none⟩ = (es.getD i default).cells[f]?)
theorem ERow.nil (w : World) (R D : Nat → Prop) : ERow w R D none [] 0 := ⟨Nat.le_refl _, Nat.zero_le _, fun _ => rfl, by simp, fun h => absurd rfl h⟩
theorem ERow.len {w : World} {R D : Nat → Prop} {ao : Option Addr} {es : List En} {cap : Nat} (h : ERow w R D ao es cap) : es.length ≤ 9223372036854775807 ∧ cap ≤ 9223372036854775807 ∧ es.length ≤ cap := by
  have := h.1; have := h.2.1; unfold maxLen at this; omega
theorem ERow.fr {S R D : Nat → Prop} {w w1 : World} {ao : Option Addr} {es : List En} {cap : Nat} (h : ERow w R D ao es cap) (f : Fr S w w1) (hr : ∀ k, R k → ¬ S k) (hd : ∀ k, D k → ¬ S k) : ERow w1 R D ao es cap := by
  obtain ⟨h1, h2, h3, h4, h5⟩ := h
  refine ⟨h1, h2, h3, fun x hx => (h4 x hx).fr f hd, fun hne => ?_⟩
  obtain ⟨b, off, he, hb, hc⟩ := h5 hne
  refine ⟨b, off, he, hb, fun i hi g hg => ?_⟩
  have hcell := hc i hi g hg
  have hsome : ∃ v, (es.getD i default).cells[g]? = some v := ⟨_, List.getElem?_eq_getElem (by show g < 4; exact hg)⟩
  obtain ⟨v, hv⟩ := hsome
  rw [hv] at hcell ⊢
  exact f.cell hcell (hr b hb)
theorem ERow.at {w : World} {R D : Nat → Prop} {ao : Option Addr} {es : List En} {cap k : Nat} (h : ERow w R D ao es cap) (hk : k < es.length) :
    ∃ b off x, ao = some ⟨b, off, none⟩ ∧ R b ∧ w.cell? ⟨b, off + k * 4, none⟩ = some (.int .u64 (x.i : Int)) ∧ w.cell? ⟨b, off + k * 4 + 1, none⟩ = some (.int .u64 (x.t : Int)) ∧ w.cell? ⟨b, off + k * 4 + 2, none⟩ = some (.int .u8 (x.k : Int)) ∧ w.cell? ⟨b, off + k * 4 + 3, none⟩ = some (.slice x.a x.d.length x.c) ∧ EG w D x ∧ Hid (x = es.getD k default) := by
  obtain ⟨b, off, he, hb, hc⟩ := h.2.2.2.2 (fun e => by rw [e] at hk; simp at hk)
  have hm : es.getD k default ∈ es := by rw [List.getD_eq_getElem?_getD, List.getElem?_eq_getElem hk]; exact List.getElem_mem _
  refine ⟨b, off, es.getD k default, he, hb, hc k hk 0 (by omega), ?_, ?_, ?_, h.2.2.2.1 _ hm, rfl⟩
  · exact hc k hk 1 (by omega)
  · exact hc k hk 2 (by omega)
  · exact hc k hk 3 (by omega)
/-- ENTRIES THAT A CALL HAS MADE: the row and the data lie in blocks of D, no data in the row. -/
structure OwnE (w : World) (D : Nat → Prop) (v : Value) (es : List En) : Prop where
  own : w.ownsRow 0 50 4 v es.length (flat es)
  blk : ∀ k, v.ownBlock = some k → D k
  each : ∀ x ∈ es, EG w (fun k => D k ∧ v.ownBlock ≠ some k) x
theorem OwnE.nil (w : World) (D : Nat → Prop) : OwnE w D (.slice none 0 0) [] := ⟨World.ownsRow_nil w 0 50 4, fun k hk => (by simp [Value.ownBlock] at hk), by simp⟩
theorem OwnE.lt {w : World} {D : Nat → Prop} {v : Value} {es : List En} (h : OwnE w D v es) : ∀ k, v.ownBlock = some k → k < w.heap.size := fun k hk => (h.own.lt k hk).2
theorem OwnE.fr {S D : Nat → Prop} {w w1 : World} {v : Value} {es : List En} (h : OwnE w D v es) (f : Fr S w w1) (hs : ∀ k, D k → ¬ S k) : OwnE w1 D v es := by
  refine ⟨⟨h.own.1, ?_⟩, h.blk, fun x hx => (h.each x hx).fr f (fun k hk => hs k hk.1)⟩
  rcases h.own.2 with hn | ⟨g, cap, cur, rfl, hbg, hg, rest⟩
  · exact .inl hn
  · exact .inr ⟨g, cap, cur, rfl, hbg, (f.block g (Array.getElem?_eq_some_iff.1 hg).1 (hs g (h.blk g rfl))).trans hg, rest⟩
theorem OwnE.mono {D E : Nat → Prop} {w : World} {v : Value} {es : List En} (h : OwnE w D v es) (hs : ∀ k, k < w.heap.size → D k → E k) : OwnE w E v es :=
  ⟨h.own, fun k hk => hs k (h.lt k hk) (h.blk k hk), fun x hx => (h.each x hx).mono (fun k hk hd => ⟨hs k hk hd.1, hd.2⟩)⟩
theorem OwnE.row {w : World} {D : Nat → Prop} {v : Value} {es : List En} (h : OwnE w D v es) :
    ∃ ao cap, v = .slice ao es.length cap ∧ ERow w (fun k => v.ownBlock = some k) (fun k => D k ∧ v.ownBlock ≠ some k) ao es cap ∧ (∀ a, ao = some a → a.off = 0 ∧ a.spot = none ∧ v.ownBlock = some a.block) := by
  have he := h.each
  obtain ⟨⟨hl, ho⟩, hb, _⟩ := h
  rcases ho with ⟨rfl, h0⟩ | ⟨g, cap, cur, rfl, hbg, hg, hn, hm, hs, ht⟩
  · have : es = [] := List.eq_nil_of_length_eq_zero h0
    subst this
    exact ⟨none, 0, rfl, ERow.nil _ _ _, fun a ha => by cases ha⟩
  · refine ⟨_, cap, rfl, ⟨hn, hm, fun h => (by cases h), he, fun _ => ⟨g, 0, rfl, rfl, fun i hi f hf => ?_⟩⟩, fun a ha => by cases ha; exact ⟨rfl, rfl, rfl⟩⟩
    rw [← flat_get es i f hi hf, ← ht, List.getElem?_take, if_pos (by omega), Nat.zero_add, cell_of_row w g _ cur 50 (0, 0) hg]
    simp
theorem OwnE.form {w : World} {D : Nat → Prop} {v : Value} {es : List En} (h : OwnE w D v es) : ∃ ao cap, v = .slice ao es.length cap ∧ es.length ≤ 9223372036854775807 ∧ cap ≤ 9223372036854775807 ∧ es.length ≤ cap := by
  obtain ⟨ao, cap, hv, hr, _⟩ := h.row
  exact ⟨ao, cap, hv, hr.len⟩
theorem OwnE.take {w : World} {D : Nat → Prop} {ao : Option Addr} {cap : Nat} {es : List En} (h : OwnE w D (.slice ao es.length cap) es) (n : Nat) (hn : n ≤ es.length) : OwnE w D (.slice ao n cap) (es.take n) := by
  have hln : (es.take n).length = n := by simp; omega
  obtain ⟨⟨hl, ho⟩, hb, he⟩ := h
  have hob : (Value.slice ao n cap).ownBlock = (Value.slice ao es.length cap).ownBlock := by cases ao <;> rfl
  refine ⟨⟨by rw [flat_length], ?_⟩, by rw [hob]; exact hb, fun x hx => by rw [hob]; exact he x (List.mem_of_mem_take hx)⟩
  rw [hln, flat_take]
  rcases ho with ⟨he, h0⟩ | ⟨g, cp, cur, he, hbg, hg, hn1, hm, hs, ht⟩
  · injection he with e1 e2 e3
    obtain rfl : n = 0 := by omega
    exact .inl ⟨by rw [e1, e3], rfl⟩
  · cases he
    refine .inr ⟨g, _, cur, rfl, hbg, hg, by omega, hm, hs, ?_⟩
    rw [← ht, List.take_take]
    congr 1
    omega
theorem Tryd.info50 : (Tryd.prog.info? 50).map (fun i => (i.zero, i.size, i.bytes)) = some (some (.agg #[.int .u64 0, .int .u64 0, .int .u8 0, .slice none 0 0]), 4, 48) := by kernel_rfl
/-- 'append(s, x...)': s is the call's own, x whatever entries. -/
theorem run_append_ents (w : World) (ty : TypeId) (D : Nat → Prop) (v : Value) (es : List En) (hown : OwnE w D v es) (a : Addr) (ms : List En) (cap : Nat)
    (hcell : ∀ j u, (flat ms)[j]? = some u → w.cell? (a.add j) = some u) (hms : ∀ x ∈ ms, EG w (fun k => D k ∧ v.ownBlock ≠ some k) x) (hnew : ∀ k, w.heap.size ≤ k → D k) (hlen : es.length + ms.length ≤ 1000000) :
    ∃ v' w', (Builtin.append_ #[32, 32] ty #[v, .slice (some a) ms.length cap]).run Tryd.prog w = .ok v' w' ∧ OwnE w' D v' (es ++ ms) ∧ w.grownBy w' v.ownBlock ∧ (v'.ownBlock = v.ownBlock ∨ v'.ownBlock = some w.heap.size) := by
  obtain ⟨i, hi, hz0, hz1, hz2⟩ := info_parts Tryd.info50
  obtain ⟨v', w', hrun, ho, hg, _, hat⟩ := run_append_own_at (P := Tryd.prog) w 0 32 ty 50 i _ 4 48 Tryd.underlying32 hi hz0 hz1 hz2 rfl (by decide) v es.length (flat es) hown.own a ms.length cap (flat ms) (by rw [flat_length]) hcell (flat_one ms) (by unfold maxLen; omega) (by omega) (Nat.zero_le _)
  have hfr : Fr (fun k => v.ownBlock = some k) w w' := (Fr.refl _ w).grown hg (fun k hk => .inl hk)
  have hlt := hown.lt
  refine ⟨v', w', hrun, ⟨by rw [List.length_append, flat_append]; exact ho, ?_, ?_⟩, hg, hat⟩
  · intro k hk
    rcases hat with e | e
    · exact hown.blk k (by rw [← e]; exact hk)
    · rw [e] at hk; exact hnew k (by cases hk; exact Nat.le_refl _)
  · have key : ∀ x, EG w (fun k => D k ∧ v.ownBlock ≠ some k) x → EG w' (fun k => D k ∧ v'.ownBlock ≠ some k) x := by
      intro x hx
      refine ⟨hx.i, hx.t, hx.k, hfr.row hx.row (fun hne a ha => (hx.blk hne a ha).2), fun hne b hb => ⟨(hx.blk hne b hb).1, fun e => ?_⟩⟩
      rcases hat with e2 | e2
      · exact (hx.blk hne b hb).2 (by rw [← e2, e])
      · rw [e2] at e
        have := row_blk hx.row hne b hb
        have e3 := Option.some.inj e
        omega
    intro x hx
    rcases List.mem_append.1 hx with h | h
    · exact key x (hown.each x h)
    · exact key x (hms x h)
theorem wpList_append_ents {w : World} {ops : Array Oper} {rest : List Oper} {o : Oper} {a : Act} {Q : Exit → Act → World → Prop} (hgd : o.guard = none) (s x : Operand)
    (ho : o.op = .call { callee := .builtin .append, args := #[s, x], argTypes := #[32, 32] })
    (D : Nat → Prop) (v : Value) (es : List En) (hs : a.eval s = v) (hown : OwnE w D v es) (ad : Addr) (ms : List En) (cap : Nat) (hx : a.eval x = .slice (some ad) ms.length cap)
    (hcell : ∀ j u, (flat ms)[j]? = some u → w.cell? (ad.add j) = some u) (hms : ∀ x ∈ ms, EG w (fun k => D k ∧ v.ownBlock ≠ some k) x) (hnew : ∀ k, w.heap.size ≤ k → D k) (hlen : es.length + ms.length ≤ 1000000)
    (h : ∀ v' w', OwnE w' D v' (es ++ ms) → w.grownBy w' v.ownBlock → (v'.ownBlock = v.ownBlock ∨ v'.ownBlock = some w.heap.size) → wpList Tryd.prog ops Q rest (a.put o.dst v') w') :
    wpList Tryd.prog ops Q (o :: rest) a w := by
  refine wpList_plain hgd fun K hK => ?_
  obtain ⟨v', w', hrun, h1, h2, h3⟩ := run_append_ents w o.type D v es hown ad ms cap hcell hms hnew hlen
  unfold Oper.wp execOp
  simp only [ho, resolve, invoke, builtin, Sem.run_bind, Sem.run_pure, Result.andThen_ok, List.map_toArray, List.map_cons, List.map_nil, hs, hx, hrun]
  exact hK _ _ (h v' w' h1 h2 h3)
/-- one entry, laid by itself. -/
theorem one_cells (w : World) (x : En) : ∀ j u, (flat [x])[j]? = some u → (w.alloc (.cells #[.int .u64 (x.i : Int), .int .u64 (x.t : Int), .int .u8 (x.k : Int), .slice x.a x.d.length x.c] 50)).cell? ((⟨w.heap.size, 0, none⟩ : Addr).add j) = some u := by
  intro j u hu
  have hadd : (⟨w.heap.size, 0, none⟩ : Addr).add j = ⟨w.heap.size, 0 + j, none⟩ := by unfold Addr.add; split <;> simp_all
  rw [hadd, Nat.zero_add, cell_of_row _ w.heap.size j _ 50 (0, 0) (heap_alloc_new w _)]
  simpa [flat, En.cells] using hu
/-- an entry's own: what two of them have in common where one is a copy. -/
def En.p (x : En) : Nat × Nat × Nat × List Nat := (x.i, x.t, x.k, x.d)
theorem ERow.cells {w : World} {R D : Nat → Prop} {a : Addr} {es : List En} {cap : Nat} (h : ERow w R D (some a) es cap) : ∀ j u, (flat es)[j]? = some u → w.cell? (a.add j) = some u := by
  intro j u hu
  have hj : j < es.length * 4 := by rw [← flat_length]; exact (List.getElem?_eq_some_iff.1 hu).1
  obtain ⟨b, off, he, _, hc⟩ := h.2.2.2.2 (fun e => by rw [e] at hj; simp at hj)
  cases he
  have hadd : (⟨b, off, none⟩ : Addr).add j = ⟨b, off + j, none⟩ := by unfold Addr.add; split <;> simp_all
  have := hc (j / 4) (by omega) (j % 4) (by omega)
  rw [← flat_get es (j / 4) (j % 4) (by omega) (by omega), show j / 4 * 4 + j % 4 = j by omega, hu] at this
  rw [hadd, this]
end Go.Proofs.YtlcakglmheleeaaDoor
