/- The statements LabelKnown and LabelKeeps, walked. -/
import Derived.Test.YtggcfhebidjajaaKnownL
namespace Go.Proofs.Ytggcfhebidjajaa
open Go.RowKit

set_option maxHeartbeats 1000000 in
theorem known_walk (k : Nat) (w : World) (hk : k < 256) :
    Calls Try.prog 5 #[.int .u8 (k : Int)] w fun e w' => e = .returned (.bool true) ∧ Fr (fun _ => False) w w' := by
  obtain ⟨l1, l2, l3, l4⟩ := lats_fine k
  have hF := fine_of (lats k) l2 l1 l3 l4
  have h0 := lattices_any k w hk
  generalize lats k = l at *
  go_enter Try.func5, Try.ntmps5
  go_wp2_with fail
  refine h0.mono ?_
  rintro e w1 ⟨g, c, rfl, _, hA, f1⟩
  have h1 := new_ok g 0 c l w1 l2 l1 l3 hA.1 l4
  unfold madeAt at h1
  go_wp2_with fail
  refine h1.mono ?_
  rintro e w2 ⟨p, bu, cu, bd, bo, rfl, hL, _, _, _, _, f2⟩
  go_wp2_with fail
  refine (awake_any w2).mono ?_
  rintro e w3 ⟨rfl, f3⟩
  have h3 := told_any g 0 c p bu cu bd bo l w3 hF ((hA.1.fr f2 (by simp)).fr f3 (by simp)) (hL.fr f3)
  clear h0 h1
  go_wp2_with fail
  refine h3.mono ?_
  rintro e w4 ⟨rfl, f4⟩
  go_wp2
  go_ret
  exact ⟨rfl, (f1.trans f2).trans (f3.trans f4)⟩

/-- cells that are there. -/
def Somes (w : World) (g n : Nat) : Prop := ∀ i, i < n → ∃ v, w.cell? ⟨g, i, none⟩ = some v
theorem At.somes {k : IntKind} {w : World} {g : Nat} {l : List Nat} (h : At k w g 0 l) : Somes w g l.length := fun i hi => ⟨_, by have := h i hi; rwa [Nat.zero_add] at this⟩
theorem Somes.set {w : World} {g n : Nat} (h : Somes w g n) (a : Addr) (v : Value) : Somes (w.setCell a v) g n := fun i hi => by
  obtain ⟨u, hu⟩ := h i hi
  by_cases e : a = ⟨g, i, none⟩
  · subst e
    exact ⟨v, World.cell?_setCell_same _ _ _ hu⟩
  · exact ⟨u, by rw [World.cell?_setCell_other _ _ _ _ e]; exact hu⟩
theorem LatAt.frS {S : Nat → Prop} {w w1 : World} {p bu cu bd bo : Nat} {l : List Nat} (h : LatAt w p bu cu bd bo l) (f : Fr S w w1) (h1 : ¬ S p) (h2 : ¬ S bu) (h3 : ¬ S bd) (h4 : ¬ S bo) : LatAt w1 p bu cu bd bo l :=
  ⟨f.cell h.c0 h1, f.cell h.c1 h1, f.cell h.c2 h1, h.ru.fr f h2, h.rd.fr f h3, h.ro.fr f h4⟩
set_option maxHeartbeats 1000000 in
theorem keeps_walk (k : Nat) (w : World) (hk : k < 256) :
    Calls Try.prog 7 #[.int .u8 (k : Int)] w fun e w' => e = .returned (.bool true) ∧ Fr (fun _ => False) w w' := by
  obtain ⟨l1, l2, l3, l4⟩ := lats_fine k
  have hF := fine_of (lats k) l2 l1 l3 l4
  have h0 := fun w => lattices_any k w hk
  generalize lats k = l at *
  go_enter Try.func7, Try.ntmps7
  go_wp2_with fail
  refine (h0 w).mono ?_
  rintro e w1 ⟨g, c, rfl, hg, hA, f1⟩
  have h1 := new_ok g 0 c l w1 l2 l1 l3 hA.1 l4
  unfold madeAt at h1
  go_wp2_with fail
  refine h1.mono ?_
  rintro e w2 ⟨p, bu, cu, bd, bo, rfl, hL, hp, hbu, hbd, hbo, f2⟩
  have h2 := order_any w2 p bu cu bd bo l hF hL
  clear h1
  go_wp2_with fail
  refine h2.mono ?_
  rintro e w3 ⟨g3, c3, rfl, hg3, hA3, hz3, f3⟩
  have hL3 := hL.fr f3
  have hgl : g < w1.heap.size := World.block_lt_of_cell? _ _ (hA.1 0 (by omega))
  have s2 := f2.size
  have sU := ((hA.1.fr f2 (by simp)).fr f3 (by simp)).somes
  have sO := hA3.somes
  rw [Lat.order_length] at sO
  have zU : ∀ i, w3.frozen? ⟨g, i, none⟩ = false := fun i => by
    rw [f3.frozenEq (by show g < w2.heap.size; omega) (by simp), f2.frozenEq (by exact hgl) (by simp)]
    exact hA.2 i
  have hpl : p < w2.heap.size := World.block_lt_of_cell? _ _ hL.c0
  have hbul : bu < w2.heap.size := World.block_lt_of_cell? _ _ (hL.ru 0 (by omega))
  have hbdl : bd < w2.heap.size := World.block_lt_of_cell? _ _ (hL.rd 0 (by rw [Lat.turn_length]; omega))
  have hbol : bo < w2.heap.size := World.block_lt_of_cell? _ _ (hL.ro 0 (by rw [Lat.order_length]; omega))
  have f03 := (f1.trans f2).trans f3
  have s1 := f1.size
  clear h2 hA hA3 hL
  go_wp2
  go_loopw [7] (fun i wr => ∃ j : Nat, j ≤ l.length ∧ i = .int .i64 (j : Int) ∧ Somes wr g l.length ∧ Somes wr g3 l.length ∧ (∀ i, wr.frozen? ⟨g, i, none⟩ = false) ∧ (∀ i, wr.frozen? ⟨g3, i, none⟩ = false) ∧ Fr (fun x => x = g ∨ x = g3) w3 wr) (fun i _ => l.length - (intOf i).toNat)
  case atStart => exact ⟨0, Nat.zero_le _, rfl, sU, sO, zU, hz3, Fr.refl _ _⟩
  case round =>
    clear sU sO zU hz3
    obtain ⟨j, hj, rfl, sU, sO, zU, zO, f4⟩ := hrel
    by_cases hlt : j < l.length
    · obtain ⟨u1, hu1⟩ := sU j hlt
      have sO1 := sO.set ⟨g, j, none⟩ (.int .u64 0)
      obtain ⟨u2, hu2⟩ := sO1 j hlt
      have z1 := zU j
      have z2 : (wr.setCell ⟨g, j, none⟩ (.int .u64 0)).frozen? ⟨g3, j, none⟩ = false := by simpa using zO j
      go_wp2
      go_roundw
      case rel => exact ⟨j + 1, by omega, by go_num, (sU.set _ _).set _ _, sO1.set _ _, fun i => by simpa using zU i, fun i => by simpa using zO i, (f4.setCell (Or.inl (Or.inl rfl)) _).setCell (Or.inl (Or.inr rfl)) _⟩
      case measure => simp [intOf]; omega
    · have hL4 := hL3.frS f4 (by omega) (by omega) (by omega) (by omega)
      have f04 : Fr (fun _ => False) w wr := f03.trans' f4 (fun i hi e => by omega)
      clear sU sO zU zO f4 hL3
      go_wp2_with fail
      refine (awake_any wr).mono ?_
      rintro e w5 ⟨rfl, f5⟩
      go_wp2_with fail
      refine (h0 w5).mono ?_
      rintro e w6 ⟨g6, c6, rfl, _, hA6, f6⟩
      have h7 := told_any g6 0 c6 p bu cu bd bo l w6 hF hA6.1 ((hL4.fr f5).fr f6)
      go_wp2_with fail
      refine h7.mono ?_
      rintro e w7 ⟨rfl, f7⟩
      go_wp2
      go_ret
      exact ⟨rfl, (f04.trans f5).trans (f6.trans f7)⟩
/-- a byte that came in, as a number. -/
theorem byte_of {n : Int} (h : (Lit.int .u8 n).wf = true) : ∃ k : Nat, n = k ∧ k < 256 := by
  simp [Lit.wf, IntKind.min, IntKind.max, IntKind.signed, IntKind.bits] at h
  exact ⟨n.toNat, by omega, by omega⟩
theorem known_byte (n : Int) (w : World) (h : (Lit.int .u8 n).wf = true) : Calls Try.prog 5 #[.int .u8 n] w fun e w' => e = .returned (.bool true) ∧ Fr (fun _ => False) w w' := by
  obtain ⟨k, rfl, hk⟩ := byte_of h
  exact known_walk k w hk
theorem keeps_byte (n : Int) (w : World) (h : (Lit.int .u8 n).wf = true) : Calls Try.prog 7 #[.int .u8 n] w fun e w' => e = .returned (.bool true) ∧ Fr (fun _ => False) w w' := by
  obtain ⟨k, rfl, hk⟩ := byte_of h
  exact keeps_walk k w hk
end Go.Proofs.Ytggcfhebidjajaa
