/- The program's writer lays what the document says, behind what was laid, and touches nothing but its own memory. The program's own copy of bytes is new memory that holds just these bytes; Done answers such a copy of what was laid. -/
import Derived.Test.YtaalkhipncbjpaaBase
import Derived.Test.YtaalkhipncbjpaaOPure
namespace Go.Proofs.Ytaalkhipncbjpaa
open Go.RowKit

/-- A WRITER at block wb, whose bytes are l, in the slice v. -/
structure Wr (w : World) (base wb : Nat) (v : Value) (l : List Nat) : Prop where
  cell : w.cell? ⟨wb, 0, none⟩ = some v
  free : w.frozen? ⟨wb, 0, none⟩ = false
  own : Own w base v l
  apart : v.ownBlock ≠ some wb
/-- what a writer may touch. -/
def wset (wb : Nat) (v : Value) : Nat → Prop := fun k => k = wb ∨ v.ownBlock = some k
/-- from one state of a writer to a later one. -/
structure Later (w : World) (wb : Nat) (v : Value) (w' : World) (v' : Value) : Prop where
  fr : Fr (wset wb v) w w'
  new : ∀ k, v'.ownBlock = some k → v.ownBlock = some k ∨ w.heap.size ≤ k
theorem Later.refl (w : World) (wb : Nat) (v : Value) : Later w wb v w v := ⟨Fr.refl _ _, fun _ h => .inl h⟩
theorem Later.trans {w w1 w2 : World} {wb : Nat} {v v1 v2 : Value} (h : Later w wb v w1 v1) (k : Later w1 wb v1 w2 v2) : Later w wb v w2 v2 :=
  ⟨h.fr.trans' k.fr fun i hi ht => by
      rcases ht with rfl | ht
      · exact .inl rfl
      · rcases h.new i ht with h' | h'
        · exact .inr h'
        · omega,
   fun i hi => by
      rcases k.new i hi with h' | h'
      · exact h.new i h'
      · have := h.fr.size; exact .inr (by omega)⟩
theorem Later.alloc {w w1 : World} {wb : Nat} {v v1 : Value} (h : Later w wb v w1 v1) (o : Obj) : Later w wb v (w1.alloc o) v1 := ⟨h.fr.alloc o, h.new⟩
theorem Wr.alloc {w : World} {base wb : Nat} {v : Value} {l : List Nat} (h : Wr w base wb v l) (o : Obj) : Wr (w.alloc o) base wb v l :=
  ⟨((Fr.refl (fun _ => False) w).alloc o).cell h.cell (by simp), (((Fr.refl (fun _ => False) w).alloc o).frozenEq (World.block_lt_of_cell? _ _ h.cell) (by simp)).trans h.free,
   h.own.fr ((Fr.refl (fun _ => False) w).alloc o) (by simp), h.apart⟩

theorem own_setCell {w : World} {base : Nat} {v : Value} {l : List Nat} (h : Own w base v l) (p : Addr) (u : Value) (hne : v.ownBlock ≠ some p.block) : Own (w.setCell p u) base v l :=
  h.fr (S := fun k => k = p.block) ((Fr.refl (fun k => k = p.block) w).setCell (p := p) (Or.inl rfl) u) (fun k hk e => hne (by rw [hk, e]))

set_option maxHeartbeats 400000 in
theorem lay_any (base wb : Nat) (v : Value) (l : List Nat) (ao : Option Addr) (m : List Nat) (cap : Nat) (w : World) (hw : Wr w base wb v l) (hr : Row w ao m cap) (hb : base ≤ w.heap.size) (hlen : l.length + m.length ≤ 140737488355328) :
    Calls Try.prog 95 #[.pointer (some ⟨wb, 0, none⟩), .slice ao m.length cap] w fun e w' => e = .returned (.pointer (some ⟨wb, 0, none⟩)) ∧ ∃ v', Wr w' base wb v' (l ++ m) ∧ Later w wb v w' v' := by
  obtain ⟨hc, hf, ho, hap⟩ := hw
  have hlt := World.block_lt_of_cell? _ _ hc
  obtain ⟨a0, c0, hv, hrow, hblk⟩ := ho.row
  subst hv
  go_enter Try.func95, Try.ntmps95
  go_wp2_with (at_builtin; refine wpList_append_bytes rfl (.tmp 11) (.tmp 12) rfl base _ l rfl ho ao m cap rfl hr hlen hb ?_)
  intro v' w1 ho1 hg hnew
  obtain ⟨a1, c1, hv1, hrow1, hblk1⟩ := ho1.row
  subst hv1
  have fr1 : Fr (wset wb (.slice a0 l.length c0)) w w1 := (Fr.refl _ w).grown hg (fun k hk => .inl (.inr hk))
  have hwb : some wb ≠ (Value.slice a0 l.length c0).ownBlock := fun e => hap e.symm
  have hc1 : w1.cell? ⟨wb, 0, none⟩ = some (.slice a0 l.length c0) := hg.cell hc hwb
  have hf1 : w1.frozen? ⟨wb, 0, none⟩ = false := (World.frozen?_of_block (hg.block wb hlt hwb)).trans hf
  have hap1 : (Value.slice a1 (l ++ m).length c1).ownBlock ≠ some wb := fun e => by
    rcases hnew wb e with h | h
    · exact hap h
    · have : wb < w.heap.size := hlt; omega
  go_wp2
  go_ret
  refine ⟨rfl, .slice a1 (l ++ m).length c1, ⟨?_, ?_, own_setCell ho1 _ _ hap1, hap1⟩, ⟨fr1.setCell (.inl (.inl rfl)) _, hnew⟩⟩
  · rw [List.length_append]; exact World.cell?_setCell_same _ _ _ hc1
  · simp [hf1]

theorem row_one (w : World) (x : Nat) (hx : x < 256) : Row (w.alloc (.cells #[.int .u8 (x : Int)] 5)) (some ⟨w.heap.size, 0, none⟩) [x] 1 := by
  refine ⟨by simp, by unfold maxLen; simp, by simpa using hx, fun h => (by cases h), fun _ => ⟨w.heap.size, 0, rfl, fun i hi => ?_⟩⟩
  simp at hi
  subst hi
  simp

set_option maxHeartbeats 400000 in
theorem wnum_any (base wb : Nat) (v : Value) (l : List Nat) (n nb : Nat) (w : World) (hw : Wr w base wb v l) (hb : base ≤ w.heap.size) (hn : n < 18446744073709551616) (hnb : nb ≤ 8) (hlen : l.length + 8 ≤ 140737488355328) :
    Calls Try.prog 57 #[.pointer (some ⟨wb, 0, none⟩), .int .u64 (n : Int), .int .i64 (nb : Int)] w fun e w' => e = .returned (.pointer (some ⟨wb, 0, none⟩)) ∧ ∃ v', Wr w' base wb v' (l ++ Crc.le nb n) ∧ Later w wb v w' v' := by
  go_enter Try.func57, Try.ntmps57
  go_wp2
  go_loopw [1, 9] (fun t i wr => ∃ (k n1 : Nat) (v1 : Value), k ≤ nb ∧ i = .int .i64 (k : Int) ∧ t = .int .u64 (n1 : Int) ∧ n1 < 18446744073709551616 ∧ Hid (n1 = n / 256 ^ k) ∧ Wr wr base wb v1 (l ++ Crc.le k n) ∧ Later w wb v wr v1) (fun _ i _ => nb - (intOf i).toNat)
  case atStart => exact ⟨0, n, v, Nat.zero_le _, rfl, rfl, hn, by show n = n / 256 ^ 0; simp, by simpa [Crc.le] using hw, Later.refl _ _ _⟩
  case round =>
    obtain ⟨k, n1, v1, hk, rfl, rfl, hn1, Hn, hwr, hlat⟩ := hrel
    by_cases hlt : k < nb
    · obtain ⟨x, hx, ex, Hx⟩ : ∃ x : Nat, x < 256 ∧ (n1 : Int) % 256 = (x : Int) ∧ Hid (x = n1 % 256) := ⟨n1 % 256, by omega, by omega, rfl⟩
      obtain ⟨n2, hn2, en, Hn2⟩ : ∃ n2 : Nat, n2 < 18446744073709551616 ∧ (n1 : Int) / 256 = (n2 : Int) ∧ Hid (n2 = n1 / 256) := ⟨n1 / 256, by omega, by omega, rfl⟩
      have hll : (l ++ Crc.le k n).length + [x].length ≤ 140737488355328 := by simp [Crc.le_length]; omega
      have hbr : base ≤ (wr.alloc (.cells #[.int .u8 (x : Int)] 5)).heap.size := by have := hlat.fr.size; simp; omega
      go_wp2_with fail
      refine (lay_any base wb v1 (l ++ Crc.le k n) (some ⟨wr.heap.size, 0, none⟩) [x] 1 _ (hwr.alloc _) (row_one wr x hx) hbr hll).mono ?_
      rintro e w1 ⟨rfl, v2, hw2, hl2⟩
      go_wp2
      go_roundw
      case rel => exact ⟨k + 1, n2, v2, by omega, by go_num, rfl, hn2, by show n2 = _; rw [Hn2.out, Hn.out, Nat.div_div_eq_div_mul, Nat.pow_succ], by rw [Crc.le_snoc, ← List.append_assoc, ← Hn.out, ← Hx.out]; exact hw2, hlat.trans (Later.trans ((Later.refl _ _ _).alloc _) hl2)⟩
      case measure => simp [intOf]; omega
    · have hkn : k = nb := by omega
      subst hkn
      go_wp2
      go_ret
      exact ⟨rfl, v1, hwr, hlat⟩
end Go.Proofs.Ytaalkhipncbjpaa
namespace Go.Proofs.Ytaalkhipncbjpaa
open Go.RowKit

/-- NEW BYTES: a slice that is full, in a block that wasn't there, and may be written. -/
def Fresh (w w' : World) (ao : Option Addr) (l : List Nat) : Prop :=
  Row w' ao l l.length ∧ ∀ a, ao = some a → w.heap.size ≤ a.block ∧ a.block < w'.heap.size ∧ a.off = 0 ∧ a.spot = none ∧ ∃ cur, w'.heap[a.block]? = some (.cells cur 5 (0, 0))

theorem fresh_of_own {w w1 : World} {a1 : Option Addr} {l : List Nat} {c1 : Nat} (ho : Own w1 w.heap.size (.slice a1 l.length c1) l) : Fresh w w1 a1 l := by
  obtain ⟨a, c, he, hrow, hb⟩ := ho.row
  cases he
  refine ⟨⟨Nat.le_refl _, Nat.le_trans hrow.1 hrow.2.1, hrow.2.2.1, fun e => ?_, hrow.2.2.2.2⟩, fun a ha => ?_⟩
  · have := hrow.2.2.2.1 e; have := hrow.1; omega
  · obtain ⟨b1, b2, b3, b4, b5⟩ := hb a ha
    refine ⟨b1, b2, b4, b5, ?_⟩
    rcases ho.1.2 with ⟨h, _⟩ | ⟨g, cap, cur, hv, hbg, hg, rest⟩
    · rw [ha] at h; simp at h
    · cases hv; cases ha; exact ⟨cur, hg⟩

set_option maxHeartbeats 400000 in
theorem own_anyO (ao : Option Addr) (l : List Nat) (cap : Nat) (w : World) (hr : Row w ao l cap) (hlen : l.length ≤ 140737488355328) :
    Calls Try.prog 61 #[.slice ao l.length cap] w fun e w' => ∃ a1, e = .returned (.slice a1 l.length l.length) ∧ Fresh w w' a1 l ∧ Fr (fun _ => False) w w' := by
  go_enter Try.func61, Try.ntmps61
  go_wp2_with (at_builtin; refine wpList_append_bytes rfl (.const (.slice none 0 0)) (.tmp 4) rfl w.heap.size _ [] rfl (Own.nil w _) ao l cap rfl hr (by simpa using hlen) (Nat.le_refl _) ?_)
  intro v' w1 ho1 hg _
  obtain ⟨a1, c1, hv1, hrow1, hblk1⟩ := ho1.row
  subst hv1
  have hfr : Fr (fun _ => False) w w1 := (Fr.refl _ w).grown hg (fun k hk => by cases hk)
  have hfresh := fresh_of_own ho1
  have h1 := hrow1.1
  have h2 := hrow1.2.1
  unfold maxLen at h2
  cases a1 with
  | none =>
    have h3 := hrow1.2.2.2.1 rfl
    subst h3
    have h4 : l = [] := List.eq_nil_of_length_eq_zero (by omega)
    subst h4
    clear hr hlen
    go_wp2
    go_ret
    exact ⟨none, rfl, hfresh, hfr⟩
  | some a =>
    obtain ⟨b1, b2, b3, b4, b5⟩ := hblk1 a rfl
    obtain ⟨g, o, sp⟩ := a
    simp only at b4 b5
    subst b4 b5
    clear hr hblk1
    go_wp2
    go_ret
    exact ⟨some ⟨g, 0, none⟩, rfl, hfresh, hfr⟩

set_option maxHeartbeats 400000 in
theorem done_any (base wb : Nat) (v : Value) (l : List Nat) (w : World) (hw : Wr w base wb v l) (hlen : l.length ≤ 140737488355328) :
    Calls Try.prog 28 #[.pointer (some ⟨wb, 0, none⟩)] w fun e w' => ∃ a1, e = .returned (.slice a1 l.length l.length) ∧ Fresh w w' a1 l ∧ Fr (fun _ => False) w w' := by
  obtain ⟨hc, hf, ho, hap⟩ := hw
  obtain ⟨a0, c0, hv, hrow, hblk⟩ := ho.row
  subst hv
  go_enter Try.func28, Try.ntmps28
  go_wp2_with fail
  refine (own_anyO a0 l c0 w hrow hlen).mono ?_
  rintro e w1 ⟨a1, rfl, h1, h2⟩
  go_wp2
  go_ret
  exact ⟨a1, rfl, h1, h2⟩
end Go.Proofs.Ytaalkhipncbjpaa
