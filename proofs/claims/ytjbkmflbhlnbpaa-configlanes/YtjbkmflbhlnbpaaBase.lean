/- What a walk is told of numbers in memory; what is left alone. -/
import Derived.Test.YtjbkmflbhlnbpaaLat2
import Derived.Deep.QuietTactic
import Derived.BigQuiet
namespace Go.Proofs.Ytjbkmflbhlnbpaa
open Go.RowKit
theorem ret_int {k : IntKind} {a b : Int} (h : a = b) : Ending.returned (.int k a) = .returned (.int k b) := by rw [h]
/-- WHAT IS LEFT ALONE: every block that was there and isn't in S. -/
structure Fr (S : Nat → Prop) (w w' : World) : Prop where
  os : w'.os = w.os
  tape : w'.tape = w.tape
  output : w'.output = w.output
  size : w.heap.size ≤ w'.heap.size
  block : ∀ k, k < w.heap.size → ¬ S k → w'.heap[k]? = w.heap[k]?

section
variable {S : Nat → Prop} {w w1 w2 : World}
theorem Fr.refl (S : Nat → Prop) (w : World) : Fr S w w := ⟨rfl, rfl, rfl, Nat.le_refl _, fun _ _ _ => rfl⟩
theorem Fr.trans (h : Fr S w w1) (k : Fr S w1 w2) : Fr S w w2 :=
  ⟨k.os.trans h.os, k.tape.trans h.tape, k.output.trans h.output, Nat.le_trans h.size k.size, fun i hi hs => (k.block i (Nat.lt_of_lt_of_le hi h.size) hs).trans (h.block i hi hs)⟩
theorem Fr.mono {T : Nat → Prop} (h : Fr S w w1) (hT : ∀ k, k < w.heap.size → S k → T k) : Fr T w w1 :=
  ⟨h.os, h.tape, h.output, h.size, fun i hi hs => h.block i hi fun hk => hs (hT i hi hk)⟩
/-- two steps, of which the second may touch what is new besides. -/
theorem Fr.trans' {T : Nat → Prop} (h : Fr S w w1) (k : Fr T w1 w2) (hT : ∀ i, i < w.heap.size → T i → S i) : Fr S w w2 :=
  ⟨k.os.trans h.os, k.tape.trans h.tape, k.output.trans h.output, Nat.le_trans h.size k.size, fun i hi hs => (k.block i (Nat.lt_of_lt_of_le hi h.size) fun ht => hs (hT i hi ht)).trans (h.block i hi hs)⟩
theorem Fr.drew (h : Fr S w w1) : Fr S w w1.drew := ⟨h.os, h.tape, h.output, h.size, h.block⟩
theorem Fr.alloc (h : Fr S w w1) (o : Obj) : Fr S w (w1.alloc o) :=
  ⟨h.os, h.tape, h.output, by have := h.size; simp; omega, fun k hk hs => (Below.heap_alloc w1 o k (Nat.lt_of_lt_of_le hk h.size)).trans (h.block k hk hs)⟩
theorem Fr.grown {row : Option Nat} (h : Fr S w w1) (hg : w1.grownBy w2 row) (hr : ∀ k, row = some k → S k ∨ w.heap.size ≤ k) : Fr S w w2 :=
  ⟨hg.os.trans h.os, hg.tape.trans h.tape, hg.output.trans h.output, Nat.le_trans h.size hg.size, fun k hk hs =>
    (hg.block k (Nat.lt_of_lt_of_le hk h.size) (fun e => by rcases hr k e.symm with h' | h'; exact hs h'; omega)).trans (h.block k hk hs)⟩
theorem Fr.setCell (h : Fr S w w1) {p : Addr} (hp : S p.block ∨ w.heap.size ≤ p.block) (u : Value) : Fr S w (w1.setCell p u) :=
  ⟨h.os, h.tape, h.output, by simpa using h.size, fun k hk hs =>
    (Below.heap_setCell w1 p u k (fun e => by subst e; rcases hp with h' | h'; exact hs h'; omega)).trans (h.block k hk hs)⟩
theorem Fr.cellEq (h : Fr S w w1) {a : Addr} (hb : a.block < w.heap.size) (hs : ¬ S a.block) : w1.cell? a = w.cell? a := World.cell?_of_block (h.block _ hb hs)
theorem Fr.frozenEq (h : Fr S w w1) {a : Addr} (hb : a.block < w.heap.size) (hs : ¬ S a.block) : w1.frozen? a = w.frozen? a := World.frozen?_of_block (h.block _ hb hs)
theorem Fr.cell (h : Fr S w w1) {a : Addr} {v : Value} (hc : w.cell? a = some v) (hs : ¬ S a.block) : w1.cell? a = some v :=
  (h.cellEq (World.block_lt_of_cell? _ _ hc) hs).trans hc
theorem Fr.below (h : Fr S w w1) {B : Nat} (hB : B ≤ w.heap.size) (hs : ∀ k, k < w.heap.size → S k → B ≤ k) : Below B w w1 :=
  ⟨h.os, h.tape, h.output, h.size, fun k hk => h.block k (by omega) fun e => by have := hs k (by omega) e; omega⟩
theorem Fr.drewN (h : Fr S w w1) (n : Nat) : Fr S w (w1.drewN n) := ⟨h.os, h.tape, h.output, h.size, h.block⟩
end

/-- NUMBERS IN MEMORY, at an address. -/
def At (k : IntKind) (w : World) (b off : Nat) (l : List Nat) : Prop := ∀ i, i < l.length → w.cell? ⟨b, off + i, none⟩ = some (.int k ((l.getD i 0 : Nat) : Int))
theorem At.fr {k : IntKind} {S : Nat → Prop} {w w1 : World} {b off : Nat} {l : List Nat} (h : At k w b off l) (f : Fr S w w1) (hs : ¬ S b) : At k w1 b off l := fun i hi => f.cell (h i hi) hs
theorem bit_at (m i : Nat) : ((m / 2 ^ i) &&& 1 = 1) ↔ m.testBit i = true := by
  rw [Nat.and_one_is_mod, Nat.testBit_eq_decide_div_mod_eq, decide_eq_true_iff]

theorem has_eq (m i : Nat) (hm : m < 18446744073709551616) : (bits .and .u64 ((m : Int) / 2 ^ i) 1 == 1) = m.testBit i := by
  have h1 : (m : Int) / 2 ^ i = ((m / 2 ^ i : Nat) : Int) := by simp
  have h2 := u64_and_nat (m / 2 ^ i) 1 (Nat.lt_of_le_of_lt (Nat.div_le_self _ _) hm) (by decide)
  rw [h1, show (1 : Int) = ((1 : Nat) : Int) from rfl, h2, Bool.eq_iff_iff, ← bit_at m i, beq_iff_eq]
  omega
theorem andNot_eq (s m : Nat) (hs : s < 18446744073709551616) (hm : m < 18446744073709551616) : (bits .andNot .u64 (s : Int) (m : Int) == 0) = Lat.sub s m := by
  rw [u64_andNot_nat s m hs hm, Bool.eq_iff_iff, beq_iff_eq]
  unfold Lat.sub
  rw [beq_iff_eq]
  omega

set_option maxHeartbeats 400000 in
theorem has_any (m i : Nat) (w : World) (hm : m < 18446744073709551616) (hi : i < 64) :
    Calls Try.prog 58 #[.int .u64 (m : Int), .int .i64 (i : Int)] w fun e w' => e = .returned (.bool (m.testBit i)) ∧ w' = w := by
  go_enter Try.func58, Try.ntmps58
  go_wp2
  go_ret
  refine ⟨?_, rfl⟩
  show Ending.returned (.bool (bits .and .u64 ((m : Int) / 2 ^ i) 1 == 1)) = _
  rw [has_eq m i hm]

/-- one of some numbers, as a cell tells it. -/
theorem At.one {k : IntKind} {w : World} {b off : Nat} {l : List Nat} (h : At k w b off l) {M : Nat} (hb : ∀ x ∈ l, x < M) (i : Nat) (hi : i < l.length) : ∃ c, c < M ∧ w.cell? ⟨b, off + i, none⟩ = some (.int k (c : Int)) ∧ Hid (c = l.getD i 0) :=
  ⟨l.getD i 0, by rw [List.getD_eq_getElem?_getD, List.getElem?_eq_getElem hi]; exact hb _ (List.getElem_mem hi), h i hi, rfl⟩

set_option maxHeartbeats 400000 in
theorem nearest_any (b off cap : Nat) (l : List Nat) (s : Nat) (w : World) (hl : l.length ≤ 64) (hb : ∀ x ∈ l, x < 18446744073709551616) (hs : s < 18446744073709551616) (hc : At .u64 w b off l) :
    Calls Try.prog 59 #[.slice (some ⟨b, off, none⟩) l.length cap, .int .u64 (s : Int)] w fun e w' => e = .returned (.int .i64 (Lat.near l s)) ∧ w' = w := by
  go_enter Try.func59, Try.ntmps59
  go_wp2
  go_loop [5, 6, 9] (fun _ _ i => ∃ k : Nat, k ≤ l.length ∧ i = .int .i64 (k : Int) ∧ Hid (∀ j, j < k → (s.testBit j && Lat.sub s (l.getD j 0)) = false)) (fun _ _ i => l.length - (intOf i).toNat)
  case atStart => exact ⟨0, Nat.zero_le _, rfl, fun j hj => by omega⟩
  case round =>
    obtain ⟨k, hk, rfl, Hn⟩ := hrel
    by_cases hlt : k < l.length
    · obtain ⟨c, hcl, hcell, Hc⟩ := hc.one hb k hlt
      have h1 := fun W => has_any s k W hs (by omega)
      have h2 := andNot_eq s c hs hcl
      clear hc hb
      cases ht : s.testBit k with
      | true =>
        rw [ht] at h1
        cases hu : Lat.sub s c with
        | true =>
          rw [hu] at h2
          have HF : Hid (Lat.near l s = (k : Int)) := Lat.first_at hlt (by show (_ && _) = true; rw [ht, ← Hc.out, hu]; rfl) Hn.out
          clear ht hu
          go_wp2_with fail
          refine (h1 _).mono ?_
          rintro e w2 ⟨rfl, hw⟩
          subst w2
          go_wp2
          go_ret
          exact ⟨ret_int HF.out.symm, rfl⟩
        | false =>
          rw [hu] at h2
          have HF : Hid (∀ j, j < k + 1 → (s.testBit j && Lat.sub s (l.getD j 0)) = false) := fun j hj => by
            rcases Nat.lt_succ_iff_lt_or_eq.1 hj with h | h
            · exact Hn.out j h
            · subst h; rw [← Hc.out, hu, Bool.and_false]
          clear ht hu
          go_wp2_with fail
          refine (h1 _).mono ?_
          rintro e w2 ⟨rfl, hw⟩
          subst w2
          go_wp2
          go_round
          case rel => exact ⟨k + 1, by omega, by go_num, HF.out⟩
          case measure => simp [intOf]; omega
      | false =>
        rw [ht] at h1
        have HF : Hid (∀ j, j < k + 1 → (s.testBit j && Lat.sub s (l.getD j 0)) = false) := fun j hj => by
          rcases Nat.lt_succ_iff_lt_or_eq.1 hj with h | h
          · exact Hn.out j h
          · subst h; rw [ht, Bool.false_and]
        clear ht
        go_wp2_with fail
        refine (h1 _).mono ?_
        rintro e w2 ⟨rfl, hw⟩
        subst w2
        go_wp2
        go_round
        case rel => exact ⟨k + 1, by omega, by go_num, HF.out⟩
        case measure => simp [intOf]; omega
    · have hkl : k = l.length := by omega
      have hfin : Hid (Lat.near l s = -1) := Lat.first_none (fun j hj => Hn.out j (by omega))
      clear hkl
      go_wp2
      go_ret
      exact ⟨ret_int hfin.out.symm, rfl⟩
end Go.Proofs.Ytjbkmflbhlnbpaa
