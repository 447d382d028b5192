/- What each round of LocksPlays finds: the tape, the table, the document's list, each beside the others. -/
import Derived.Test.YtaalkhipncbjpaaTabQ
import Derived.Test.YtaalkhipncbjpaaTabO
import Derived.Test.YtaalkhipncbjpaaTabN
import Derived.Test.YtaalkhipncbjpaaTabL
import Derived.Test.YtaalkhipncbjpaaTabR
namespace Go.Proofs.Ytaalkhipncbjpaa
open Go Go.RowKit
theorem key_conf {x y : Hd} (e : x.key = y.key) (h : Hd) : (!x.id h && x.meets h) = (!y.id h && y.meets h) := by
  simp only [Hd.key, Prod.mk.injEq] at e
  obtain ⟨h1, h2, h3, h4, h5, h6, h7⟩ := e
  unfold Hd.id Hd.meets Hd.wr Hd.rd
  rw [h1, h2, h4, h5, h6]
theorem TabP.frS {S : Nat → Prop} {w w1 : World} {base tb : Nat} {ao : Option Addr} {cap : Nat} {l : List Hd} (h : TabP w base tb ao cap l) (f : Fr S w w1) (hs : ∀ k, S k → k < base) : TabP w1 base tb ao cap l := by
  have hlo := h.low
  have ht : ¬ S tb := fun e => by have := hs _ e; omega
  exact ⟨f.cell h.cell ht, (f.frozenEq (a := ⟨tb, 0, none⟩) h.lt ht).trans h.free, h.low, h.own.fr f (fun k e e2 => by have := h.own.lt k e; have := hs _ e2; omega), h.beside, h.srt, h.alone, fun x hx => (h.ok x hx).frD f (h.ins x hx) (fun k hk e => by have := hs _ e; omega), h.ins, h.sh⟩
theorem OwnF.blkLe {w : World} {base : Nat} {a1 : Option Addr} {n c1 : Nat} {m : List Hd} (h : OwnF w base 29 (.slice a1 n c1) m) : ∀ a, a1 = some a → base ≤ a.block ∧ a.block < w.heap.size := by
  intro a ha
  obtain ⟨ao1, cc, e1, _, hb1⟩ := h.row
  cases e1
  exact h.lt _ (hb1 a ha).2.2.1
structure Pl (w0 w : World) (tp tb : Nat) (ta : Option Addr) (tl : List Nat) (tc : Nat) (ao : Option Addr) (cap : Nat) (l : List Hd) (am : Option Addr) (m : List Hd) (cm : Nat) : Prop where
  lo : w0.heap.size ≤ tp ∧ tp < tb
  tape : ∃ j, Tp w tp ta tl tc j
  ta0 : tl ≠ [] → ∀ a, ta = some a → a.block < w0.heap.size
  tab : TabP w tb tb ao cap l
  row : RowF w am m cm
  blk : ∀ a, am = some a → a.block ≠ tb ∧ a.block ≠ tp ∧ a.block < w.heap.size ∧ ∀ b, ao = some b → a.block ≠ b.block
  ok : ∀ x ∈ m, x.ok w
  ins : ∀ x ∈ m, x.ins (fun k => k ≠ tb ∧ k ≠ tp ∧ ∀ b, ao = some b → k ≠ b.block)
  fr : Fr (fun _ => False) w0 w
section
variable {w0 w w1 : World} {tp tb : Nat} {ta : Option Addr} {tl : List Nat} {tc : Nat} {ao : Option Addr} {cap : Nat} {l : List Hd} {am : Option Addr} {m : List Hd} {cm : Nat}
theorem Pl.ta1 (h : Pl w0 w tp tb ta tl tc ao cap l am m cm) : tl ≠ [] → ∀ a, ta = some a → a.block < w.heap.size := fun hne a ha => by
  have := h.ta0 hne a ha
  have := h.fr.size
  omega
theorem Pl.fr0 (h : Pl w0 w tp tb ta tl tc ao cap l am m cm) (f : Fr (fun _ => False) w w1) : Pl w0 w1 tp tb ta tl tc ao cap l am m cm :=
  ⟨h.lo, by obtain ⟨j, hj⟩ := h.tape; exact ⟨j, hj.fr f (by simp) (by simp)⟩, h.ta0, h.tab.fr f, h.row.fr f (by simp), fun a ha => by have h9 := h.blk a ha; have := f.size; exact ⟨h9.1, h9.2.1, by omega, h9.2.2.2⟩, fun x hx => (h.ok x hx).fr f, h.ins, h.fr.trans f⟩
theorem Pl.frT (h : Pl w0 w tp tb ta tl tc ao cap l am m cm) (f : Fr (fun k => k = tp) w w1) (ht : ∃ j, Tp w1 tp ta tl tc j) : Pl w0 w1 tp tb ta tl tc ao cap l am m cm :=
  ⟨h.lo, ht, h.ta0, h.tab.frS f (fun k e => by have := h.lo; omega), h.row.fr f (fun a ha e => (h.blk a ha).2.1 e), fun a ha => by have h9 := h.blk a ha; have := f.size; exact ⟨h9.1, h9.2.1, by omega, h9.2.2.2⟩, fun x hx => (h.ok x hx).frD f (h.ins x hx) (fun k hk e => hk.2.1 e), h.ins, h.fr.trans' f (fun i hi e => by have := h.lo; omega)⟩
theorem Pl.newm {a1 : Option Addr} {c1 : Nat} {m1 : List Hd} (h : Pl w0 w tp tb ta tl tc ao cap l am m cm) (f : Fr (fun _ => False) w w1) (ho : OwnF w1 w.heap.size 29 (.slice a1 m1.length c1) m1) (hk : ∀ x ∈ m1, x.ok w ∧ x.ins (fun k => k ≠ tb ∧ k ≠ tp ∧ ∀ b, ao = some b → k ≠ b.block)) : Pl w0 w1 tp tb ta tl tc ao cap l a1 m1 c1 := by
  have k := h.fr0 f
  obtain ⟨ao1, c2, e1, hr, _⟩ := ho.row
  cases e1
  refine ⟨k.lo, k.tape, k.ta0, k.tab, hr, fun a ha => ?_, fun x hx => (hk x hx).1.fr f, fun x hx => (hk x hx).2, k.fr⟩
  have h1 := ho.blkLe a ha
  have h2 := h.tab.lt
  have h3 := h.lo
  exact ⟨by omega, by omega, h1.2, fun b hb => by have := h.tab.blk b hb; omega⟩
theorem Pl.newt {a1 : Option Addr} {c1 : Nat} {l1 : List Hd} (h : Pl w0 w tp tb ta tl tc ao cap l am m cm) (f : Fr (fun k => k = tb ∨ ∃ a, ao = some a ∧ a.block = k) w w1) (ht : TabP w1 tb tb a1 c1 l1) (hn : ∀ a, a1 = some a → (∃ b, ao = some b ∧ a.block = b.block) ∨ w.heap.size ≤ a.block) : Pl w0 w1 tp tb ta tl tc a1 c1 l1 am m cm := by
  have hlo := h.lo
  have hbk := h.tab.blk
  have hsz := h.fr.size
  have hin : ∀ x ∈ m, x.ins (fun k => (k ≠ tb ∧ k ≠ tp ∧ ∀ b, ao = some b → k ≠ b.block) ∧ k < w.heap.size) := fun x hx => (h.ins x hx).and (h.ok x hx).lt
  refine ⟨h.lo, ?_, h.ta0, ht, h.row.fr f (fun a ha e => ?_), fun a ha => ?_, fun x hx => (h.ok x hx).frD f (h.ins x hx) (fun k hk e => ?_), fun x hx => (hin x hx).mono (fun k hk => ⟨hk.1.1, hk.1.2.1, fun b hb e => ?_⟩), h.fr.trans' f (fun i hi e => ?_)⟩
  · obtain ⟨j, hj⟩ := h.tape
    refine ⟨j, hj.fr f (fun e => ?_) (fun hne a ha e => ?_)⟩
    · rcases e with e | ⟨a, ha, e⟩
      · omega
      · have := hbk a ha; omega
    · have := h.ta0 hne a ha
      rcases e with e | ⟨b, hb, e⟩
      · omega
      · have := hbk b hb; omega
  · have := h.blk a ha
    rcases e with e | ⟨b, hb, e⟩
    · exact this.1 e
    · exact this.2.2.2 b hb e.symm
  · have h1 := h.blk a ha
    have := f.size
    refine ⟨h1.1, h1.2.1, by omega, fun b hb e => ?_⟩
    rcases hn b hb with ⟨c, hc, e2⟩ | h2
    · exact h1.2.2.2 c hc (e.trans e2)
    · omega
  · rcases e with e | ⟨b, hb, e⟩
    · exact hk.1 e
    · exact hk.2.2 b hb e.symm
  · rcases hn b hb with ⟨c, hc, e2⟩ | h2
    · exact hk.1.2.2 c hc (e.trans e2)
    · omega
  · rcases e with e | ⟨b, hb, e⟩
    · omega
    · have := hbk b hb; omega
end
end Go.Proofs.Ytaalkhipncbjpaa
