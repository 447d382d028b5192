/- lay.Number, lay.Rule: what they lay. -/
import Derived.Test.YtaalkhipncbjpaaOBackN
import Derived.Test.YtaalkhipncbjpaaOLaid
import Derived.Deep.RegionHeld3
namespace Go.Proofs.Ytaalkhipncbjpaa
open Go.RowKit
theorem Wr.frS {S : Nat → Prop} {w w1 : World} {base wb : Nat} {v : Value} {l : List Nat} (h : Wr w base wb v l) (f : Fr S w w1) (hs : ¬ S wb) (ho : ∀ k, v.ownBlock = some k → ¬ S k) : Wr w1 base wb v l :=
  ⟨f.cell h.cell hs, (f.frozenEq (World.block_lt_of_cell? _ _ h.cell) hs).trans h.free, h.own.fr f ho, h.apart⟩
theorem Wr.drew {w : World} {base wb : Nat} {v : Value} {l : List Nat} (h : Wr w base wb v l) : Wr w.drew base wb v l :=
  h.frS (Fr.refl (fun _ => False) w).drew (by simp) (by simp)
theorem Later.drew {w : World} {wb : Nat} {v : Value} : Later w wb v w.drew v := ⟨(Fr.refl _ _).drew, fun _ h => .inl h⟩
/-- a block that a writer doesn't touch. -/
structure Ap (w : World) (c wb : Nat) (v : Value) : Prop where
  ne : c ≠ wb
  no : v.ownBlock ≠ some c
  lt : c < w.heap.size
theorem Later.ap {w w1 : World} {c wb : Nat} {v v1 : Value} (h : Later w wb v w1 v1) (ha : Ap w c wb v) : Ap w1 c wb v1 :=
  ⟨ha.ne, fun e => by
    rcases h.new c e with h' | h'
    · exact ha.no h'
    · have := ha.lt; omega, Nat.lt_of_lt_of_le ha.lt h.fr.size⟩
theorem Later.cell {w w1 : World} {c wb : Nat} {v v1 : Value} (h : Later w wb v w1 v1) (ha : Ap w c wb v) {o : Nat} {u : Value} (hc : w.cell? ⟨c, o, none⟩ = some u) : w1.cell? ⟨c, o, none⟩ = some u :=
  h.fr.cell hc fun hs => by
    rcases hs with e | e
    · exact ha.ne e
    · exact ha.no e
theorem wnum_step {base wb c : Nat} {v : Value} {l : List Nat} {w : World} (n nb : Nat) (hw : Wr w base wb v l) (hb : base ≤ w.heap.size) (ha : Ap w c wb v) (hn : n < 18446744073709551616) (hnb : nb ≤ 8) (hlen : l.length ≤ 1000000) :
    Calls Try.prog 57 #[.pointer (some ⟨wb, 0, none⟩), .int .u64 (n : Int), .int .i64 (nb : Int)] w fun e w' => e = .returned (.pointer (some ⟨wb, 0, none⟩)) ∧ ∃ v', Wr w' base wb v' (l ++ Crc.le nb n) ∧ Later w wb v w' v' ∧ base ≤ w'.heap.size ∧ Ap w' c wb v' ∧
      (∀ o u, w.cell? ⟨c, o, none⟩ = some u → w'.cell? ⟨c, o, none⟩ = some u) := by
  refine (wnum_any base wb v l n nb w hw hb hn hnb (by omega)).mono ?_
  rintro e w' ⟨rfl, v', hw', hl'⟩
  exact ⟨rfl, v', hw', hl', Nat.le_trans hb hl'.fr.size, hl'.ap ha, fun o u hc => hl'.cell ha hc⟩
set_option maxHeartbeats 400000 in
theorem laynum_any {base wb c : Nat} {v : Value} {l : List Nat} {w : World} (x : Nat) (hx : x < 18446744073709551616) (hw : Wr w base wb v l) (hb : base ≤ w.heap.size) (ha : Ap w c wb v) (hlen : l.length ≤ 1000000) :
    Calls Try.prog 59 #[.pointer (some ⟨wb, 0, none⟩), .float .f64 x] w fun e w' => e = .returned (.tuple #[]) ∧ ∃ v', Wr w' base wb v' (l ++ Crc.le 8 (Fl.rk x)) ∧ Later w wb v w' v' ∧ base ≤ w'.heap.size ∧ Ap w' c wb v' ∧
      (∀ o u, w.cell? ⟨c, o, none⟩ = some u → w'.cell? ⟨c, o, none⟩ = some u) := by
  have hr : Fl.rk x < 18446744073709551616 := by have := rk_le x hx; omega
  have K : Hid (Calls _ _ _ _ _) := wnum_step (Fl.rk x) 8 hw hb ha hr (by omega) hlen
  clear hw hb ha
  go_enter Try.func59, Try.ntmps59
  go_wp2_with fail
  refine (rank_any x w hx).mono ?_
  rintro e w1 ⟨rfl, hw1⟩
  subst w1
  go_wp2_with fail
  refine K.out.mono ?_
  rintro e w1 ⟨rfl, v', h1, h2, h3, h4, h5⟩
  go_wp2
  go_end0
  exact ⟨rfl, v', h1, h2, h3, h4, h5⟩
end Go.Proofs.Ytaalkhipncbjpaa
