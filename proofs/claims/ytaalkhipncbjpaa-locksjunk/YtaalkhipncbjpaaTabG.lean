/- A table of holds, and what a hold more comes to. -/
import Derived.Test.YtaalkhipncbjpaaTabF
import Derived.Test.YtaalkhipncbjpaaLawM
namespace Go.Proofs.Ytaalkhipncbjpaa
open Go Go.RowKit
theorem gd {l : List Hd} {k : Nat} (h : k < l.length) : l.getD k dH = l[k] := by
  rw [List.getD_eq_getElem?_getD, List.getElem?_eq_getElem h]; rfl
theorem srt_iff (l : List Hd) : Srt l ↔ l.Pairwise (fun a b => a.lt b.a0 b.a1) := by
  rw [List.pairwise_iff_getElem]
  constructor
  · intro h i j hi hj hij
    have := h i j hij hj
    rwa [gd hi, gd hj] at this
  · intro h i j hij hj
    rw [gd (Nat.lt_trans hij hj), gd hj]
    exact h i j _ hj hij
/-- no two of them meet. -/
def Alone (l : List Hd) : Prop := l.Pairwise fun a b => a.meets b = false
/-- where a transaction stands, or would stand. -/
structure At (l : List Hd) (s q p : Nat) : Prop where
  le : p ≤ l.length
  lo : ∀ k, k < p → (l.getD k dH).lt s q
  hi : ∀ k, p ≤ k → k < l.length → ¬ (l.getD k dH).lt s q
def heldAt (l : List Hd) (s q p : Nat) : Bool := decide (p < l.length ∧ (l.getD p dH).a0 = s ∧ (l.getD p dH).a1 = q)
def skipAt (l : List Hd) (s q p : Nat) : Nat := if heldAt l s q p = true then p + 1 else p
/-- a hold in its place. -/
def putH (l : List Hd) (p : Nat) (x : Hd) : List Hd := l.take p ++ x :: l.drop (skipAt l x.a0 x.a1 p)
theorem skip_le (l : List Hd) (s q p : Nat) : p ≤ skipAt l s q p := by unfold skipAt; split <;> omega
theorem put_pw {R : Hd → Hd → Prop} {l : List Hd} (h : l.Pairwise R) (p n : Nat) (hpn : p ≤ n) (x : Hd) (h1 : ∀ a ∈ l.take p, R a x) (h2 : ∀ b ∈ l.drop n, R x b) : (l.take p ++ x :: l.drop n).Pairwise R := by
  have hs : (l.take p ++ l.drop n).Sublist l := by
    have e : l.drop n = (l.drop p).drop (n - p) := by rw [List.drop_drop]; congr 1; omega
    have := List.Sublist.append (List.Sublist.refl (l.take p)) ((List.drop_sublist (n - p) (l.drop p)))
    rw [← e, List.take_append_drop] at this
    exact this
  obtain ⟨a1, a2, a3⟩ := List.pairwise_append.1 (h.sublist hs)
  refine List.pairwise_append.2 ⟨a1, List.pairwise_cons.2 ⟨h2, a2⟩, fun a ha b hb => ?_⟩
  rcases List.mem_cons.1 hb with rfl | hb
  · exact h1 a ha
  · exact a3 a ha b hb
theorem at_lo {l : List Hd} {s q p : Nat} (hp : At l s q p) : ∀ a ∈ l.take p, a.lt s q := by
  intro a ha
  obtain ⟨k, hk, rfl⟩ := List.getElem_of_mem ha
  rw [List.length_take] at hk
  have := hp.lo k (by omega)
  rw [gd (by omega)] at this
  simpa using this
theorem at_hi {l : List Hd} {s q p : Nat} (hs : Srt l) (hp : At l s q p) : ∀ b ∈ l.drop (skipAt l s q p), s < b.a0 ∨ (s = b.a0 ∧ q < b.a1) := by
  intro b hb
  obtain ⟨j, hj, rfl⟩ := List.getElem_of_mem hb
  rw [List.length_drop] at hj
  rw [List.getElem_drop]
  have hsk := skip_le l s q p
  have hk : skipAt l s q p + j < l.length := by omega
  have h1 := hp.hi (skipAt l s q p + j) (by omega) hk
  rw [gd hk] at h1
  by_cases hh : heldAt l s q p = true
  · have hn : skipAt l s q p = p + 1 := by unfold skipAt; rw [if_pos hh]
    have h2 := of_decide_eq_true hh
    have h3 := hs p (skipAt l s q p + j) (by omega) hk
    rw [gd hk] at h3
    unfold Hd.lt at h3
    omega
  · have hn : skipAt l s q p = p := by unfold skipAt; rw [if_neg hh]
    by_cases hj0 : j = 0
    · subst hj0
      have h2 : ¬ (p < l.length ∧ (l.getD p dH).a0 = s ∧ (l.getD p dH).a1 = q) := fun h => hh (decide_eq_true h)
      have hpl : p < l.length := by omega
      rw [gd hpl] at h2
      have e : l[skipAt l s q p + 0] = l[p] := by congr 1
      rw [e] at h1 ⊢
      unfold Hd.lt at h1
      omega
    · have hpl : p < l.length := by omega
      have h2 := hp.hi p (Nat.le_refl _) hpl
      have h3 := hs p (skipAt l s q p + j) (by omega) hk
      rw [gd hk] at h3
      unfold Hd.lt at h2 h3
      omega
theorem put_srt {l : List Hd} {p : Nat} {x : Hd} (hs : Srt l) (hp : At l x.a0 x.a1 p) : Srt (putH l p x) :=
  (srt_iff _).2 (put_pw ((srt_iff _).1 hs) p _ (skip_le _ _ _ _) x (at_lo hp) (fun b hb => at_hi hs hp b hb))
theorem put_alone {l : List Hd} {p : Nat} {x : Hd} (ha : Alone l) (hs : Srt l) (hp : At l x.a0 x.a1 p) (hm : ∀ y ∈ l, y.id x = false → y.meets x = false) : Alone (putH l p x) := by
  refine put_pw ha p _ (skip_le _ _ _ _) x (fun a h => hm a (List.mem_of_mem_take h) ?_) (fun b h => ?_)
  · have := at_lo hp a h
    unfold Hd.lt at this
    unfold Hd.id
    exact decide_eq_false (by omega)
  · have := at_hi hs hp b h
    show x.meets b = false
    rw [Hd.meets_comm]
    refine hm b (List.mem_of_mem_drop h) ?_
    unfold Hd.id
    exact decide_eq_false (by omega)
theorem mem_put {l : List Hd} {p : Nat} {x y : Hd} (h : y ∈ putH l p x) : y = x ∨ y ∈ l := by
  rcases List.mem_append.1 h with h | h
  · exact .inr (List.mem_of_mem_take h)
  · rcases List.mem_cons.1 h with h | h
    · exact .inl h
    · exact .inr (List.mem_of_mem_drop h)
theorem put_held {l : List Hd} {p : Nat} {x : Hd} (h : heldAt l x.a0 x.a1 p = true) : putH l p x = l.set p x := by
  have hp := (of_decide_eq_true h).1
  unfold putH skipAt
  rw [if_pos h, List.set_eq_take_append_cons_drop, if_pos hp]
theorem put_new {l : List Hd} {p : Nat} {x : Hd} (h : heldAt l x.a0 x.a1 p = false) : putH l p x = l.take p ++ x :: l.drop p := by
  unfold putH skipAt
  rw [if_neg (by rw [h]; simp)]
theorem put_len {l : List Hd} {p : Nat} {x : Hd} (hp : p ≤ l.length) : (putH l p x).length ≤ l.length + 1 := by
  unfold putH
  have := skip_le l x.a0 x.a1 p
  simp
  omega
theorem Hd.like.meets {x h : Hd} (e : x.like h) (y : Hd) : y.meets x = y.meets h := by
  obtain ⟨_, _, _, eg, es, ep, _⟩ := e
  unfold Hd.meets Hd.wr Hd.rd
  rw [eg, es, ep]
theorem Hd.like.id {x h : Hd} (e : x.like h) (y : Hd) : y.id x = y.id h := by
  unfold Hd.id
  rw [e.1, e.2.1]
theorem Hd.ok.lt {w : World} {x : Hd} (h : x.ok w) : x.ins (fun k => k < w.heap.size) := by
  obtain ⟨h1, h2, h3, h4⟩ := h
  refine ⟨fun n a e => ?_, fun n a e => ?_, fun n a e => ?_, fun n a e => ?_⟩
  · obtain ⟨b, off, e2, hc⟩ := h1.2.2.2 n
    cases e.symm.trans e2
    exact World.block_lt_of_cell? _ _ (hc 0 (List.length_pos_iff.2 n))
  · obtain ⟨b, off, e2, hc⟩ := h2.2.2.2 n
    cases e.symm.trans e2
    exact World.block_lt_of_cell? _ _ (hc 0 (List.length_pos_iff.2 n)).1
  · obtain ⟨b, off, e2, hc⟩ := h3.2.2.2 n
    cases e.symm.trans e2
    exact World.block_lt_of_cell? _ _ (hc 0 (List.length_pos_iff.2 n))
  · obtain ⟨b, off, e2, hc⟩ := h4.2.2.2.2 n
    cases e.symm.trans e2
    exact World.block_lt_of_cell? _ _ (hc 0 (List.length_pos_iff.2 n))
theorem Hd.ins.and {D E : Nat → Prop} {x : Hd} (h : x.ins D) (k : x.ins E) : x.ins (fun j => D j ∧ E j) :=
  ⟨fun n a e => ⟨h.1 n a e, k.1 n a e⟩, fun n a e => ⟨h.2.1 n a e, k.2.1 n a e⟩, fun n a e => ⟨h.2.2.1 n a e, k.2.2.1 n a e⟩, fun n a e => ⟨h.2.2.2 n a e, k.2.2.2 n a e⟩⟩
def Hd.sh (x : Hd) : Prop := x.g.length ≤ 1000 ∧ x.s.length ≤ 1000 ∧ x.p.length ≤ 1000 ∧ x.dl.length ≤ 1000
theorem Hd.like.sh {x h : Hd} (e : x.like h) (k : h.sh) : x.sh := by
  obtain ⟨_, _, _, eg, es, ep, ed⟩ := e
  unfold Hd.sh at *
  rw [eg, es, ep, ed]
  exact k
/-- A TABLE: its cell, its row of holds; they rise, no two meet; what they hold lies in blocks of its own. -/
structure TabP (w : World) (base tb : Nat) (ao : Option Addr) (cap : Nat) (l : List Hd) : Prop where
  cell : w.cell? ⟨tb, 0, none⟩ = some (.slice ao l.length cap)
  free : w.frozen? ⟨tb, 0, none⟩ = false
  low : base ≤ tb
  own : OwnF w base 29 (.slice ao l.length cap) l
  beside : ∀ a, ao = some a → a.block ≠ tb
  srt : Srt l
  alone : Alone l
  ok : ∀ x ∈ l, x.ok w
  ins : ∀ x ∈ l, x.ins (fun k => base ≤ k ∧ k ≠ tb ∧ ∀ a, ao = some a → k ≠ a.block)
  sh : ∀ x ∈ l, x.sh
section
variable {w w1 : World} {base tb : Nat} {ao : Option Addr} {cap : Nat} {l : List Hd}
theorem TabP.lt (h : TabP w base tb ao cap l) : tb < w.heap.size := World.block_lt_of_cell? _ _ h.cell
theorem TabP.row (h : TabP w base tb ao cap l) : RowF w ao l cap := by
  obtain ⟨ao1, c1, e, hr, _⟩ := h.own.row
  cases e
  exact hr
theorem TabP.blk (h : TabP w base tb ao cap l) : ∀ a, ao = some a → (Value.slice ao l.length cap).ownBlock = some a.block ∧ base ≤ a.block ∧ a.block < w.heap.size := by
  intro a ha
  obtain ⟨ao1, c1, e, hr, hb⟩ := h.own.row
  cases e
  have h1 := (hb a ha).2.2.1
  exact ⟨h1, h.own.lt _ h1⟩
theorem TabP.fr (h : TabP w base tb ao cap l) (f : Fr (fun _ => False) w w1) : TabP w1 base tb ao cap l :=
  ⟨f.cell h.cell (by simp), (f.frozenEq (a := ⟨tb, 0, none⟩) h.lt (by simp)).trans h.free, h.low, h.own.fr f (by simp), h.beside, h.srt, h.alone, fun x hx => (h.ok x hx).fr f, h.ins, h.sh⟩
theorem tab_new (w : World) (t : TypeId) : TabP (w.alloc (.cells #[.slice none 0 0] t)) w.heap.size w.heap.size none 0 [] :=
  ⟨by simp, by simp, Nat.le_refl _, OwnF.nil _ _ _, fun _ h => (by cases h), fun i j _ h => absurd h (Nat.not_lt_zero _), List.Pairwise.nil, fun _ h => (by cases h), fun _ h => (by cases h), fun _ h => (by cases h)⟩
/-- a world in which the cell tells of another row, that holds one more. -/
theorem TabP.put {a1 : Option Addr} {c1 : Nat} {p : Nat} {x : Hd} (h : TabP w base tb ao cap l) {wA wI : World} (fA : Fr (fun _ => False) w wA) (fI : Fr (fun k => (Value.slice ao l.length cap).ownBlock = some k) wA wI)
    (hp : At l x.a0 x.a1 p) (hm : ∀ y ∈ l, y.id x = false → y.meets x = false) (hx : x.ok wA) (hsh : x.sh) (hxi : x.ins (fun k => w.heap.size ≤ k))
    (ho : OwnF wI base 29 (.slice a1 (putH l p x).length c1) (putH l p x))
    (hb : ∀ a, a1 = some a → (∃ b, ao = some b ∧ a.block = b.block) ∨ wA.heap.size ≤ a.block) :
    TabP (wI.setCell ⟨tb, 0, none⟩ (.slice a1 (putH l p x).length c1)) base tb a1 c1 (putH l p x) := by
  have hlt := h.lt
  have hfs := fA.size
  have hbk := h.blk
  have hnt : ¬ (Value.slice ao l.length cap).ownBlock = some tb := fun e => by
    obtain ⟨ao1, c1', e1, _, hb1⟩ := h.own.row
    cases e1
    cases ao with
    | none => simp [Value.ownBlock] at e
    | some a => 
      have h1 := (hbk a rfl).1
      rw [h1] at e
      exact h.beside a rfl (by simpa using e)
  have hc : wI.cell? ⟨tb, 0, none⟩ = some (.slice ao l.length cap) := fI.cell (fA.cell h.cell (by simp)) hnt
  have hz : wI.frozen? ⟨tb, 0, none⟩ = false := (fI.frozenEq (a := ⟨tb, 0, none⟩) (by show tb < _; omega) hnt).trans ((fA.frozenEq (a := ⟨tb, 0, none⟩) hlt (by simp)).trans h.free)
  have hnb : ∀ a, a1 = some a → a.block ≠ tb := fun a ha => by
    rcases hb a ha with ⟨b, hb1, hb2⟩ | hb1
    · rw [hb2]; exact h.beside b hb1
    · omega
  have FS : Fr (fun k => k = tb) wI (wI.setCell ⟨tb, 0, none⟩ (.slice a1 (putH l p x).length c1)) := (Fr.refl (fun k => k = tb) wI).setCell (p := ⟨tb, 0, none⟩) (Or.inl rfl) _
  have hob : ∀ k, (Value.slice a1 (putH l p x).length c1).ownBlock = some k → ∃ a, a1 = some a ∧ a.block = k := fun k e => by
    obtain ⟨ao1, cc, e1, _, hb1⟩ := ho.row
    cases e1
    cases a1 with
    | none => simp [Value.ownBlock] at e
    | some a =>
      have h1 := (hb1 a rfl).2.2.1
      rw [h1] at e
      exact ⟨a, rfl, by simpa using e⟩
  have hpl : p ≤ l.length := hp.le
  have hxl : x.ins (fun k => w.heap.size ≤ k ∧ k < wA.heap.size) := hxi.and hx.lt
  have hol : ∀ y ∈ l, y.ins (fun k => (base ≤ k ∧ k ≠ tb ∧ ∀ a, ao = some a → k ≠ a.block) ∧ k < w.heap.size) := fun y hy => (h.ins y hy).and (h.ok y hy).lt
  have hS : ∀ k, (Value.slice ao l.length cap).ownBlock = some k → ∃ a, ao = some a ∧ a.block = k := fun k e => by
    cases ao with
    | none => simp [Value.ownBlock] at e
    | some a =>
      rw [(hbk a rfl).1] at e
      exact ⟨a, rfl, by simpa using e⟩
  refine ⟨World.cell?_setCell_same _ _ _ hc, by simpa using hz, h.low, ho.fr FS (fun k e e2 => ?_), hnb, put_srt h.srt hp, put_alone h.alone h.srt hp hm, fun y hy => ?_, fun y hy => ?_, fun y hy => ?_⟩
  · obtain ⟨a, ha, hk⟩ := hob k e
    exact hnb a ha (hk.trans e2)
  · rcases mem_put hy with rfl | hy
    · refine ((hx.frD fI hxl (fun k hk e => ?_)).frD FS hxl (fun k hk e => by omega))
      obtain ⟨a, ha, e2⟩ := hS k e
      have := hbk a ha
      omega
    · refine (((h.ok y hy).fr fA).frD fI (hol y hy) (fun k hk e => ?_)).frD FS (hol y hy) (fun k hk e => hk.1.2.1 e)
      obtain ⟨a, ha, e2⟩ := hS k e
      exact hk.1.2.2 a ha e2.symm
  · rcases mem_put hy with rfl | hy
    · refine hxl.mono (fun k hk => ⟨?_, by omega, fun a ha e => ?_⟩)
      · have := h.low; omega
      · rcases hb a ha with ⟨b, hb1, hb2⟩ | hb1
        · have := hbk b hb1; omega
        · omega
    · refine (hol y hy).mono (fun k hk => ⟨hk.1.1, hk.1.2.1, fun a ha e => ?_⟩)
      rcases hb a ha with ⟨b, hb1, hb2⟩ | hb1
      · exact hk.1.2.2 b hb1 (by omega)
      · omega
  · rcases mem_put hy with rfl | hy
    · exact hsh
    · exact h.sh y hy
end
end Go.Proofs.Ytaalkhipncbjpaa
