/- One struct, appended onto nothing. -/
import Derived.Test.YtaalkhipncbjpaaBase
namespace Go.Proofs.Ytaalkhipncbjpaa
open Go.RowKit
/-- ONE STRUCT, appended onto nothing: a row of its own. -/
theorem grow_nil {P : Program} (W : World) (T ty e : TypeId) (i : TypeInfo) (z : Value) (sz by' : Nat) (hT : P.underlying T = some (.slice e)) (hi : P.info? e = some i) (hz0 : i.zero = some z) (hz1 : i.size = sz) (hz2 : i.bytes = by') (hzc : z.cells.size = sz) (hsz : 0 < sz) (hby : by' ≤ 1000000)
    (a : Addr) (xs : List Value) (hl : xs.length = sz) (h1 : ∀ u ∈ xs, u.oneCell' = true) (hnews : ∀ j v, xs[j]? = some v → W.cell? (a.add j) = some v) :
    ∃ cp w', (Builtin.append_ #[T, T] ty #[.slice none 0 0, .slice (some a) 1 1]).run P W = .ok (.slice (some ⟨W.heap.size, 0, none⟩) 1 cp) w' ∧
      (∀ j u, xs[j]? = some u → w'.cell? ⟨W.heap.size, j, none⟩ = some u) ∧ (∀ j, w'.frozen? ⟨W.heap.size, j, none⟩ = false) ∧ (1 ≤ cp ∧ cp ≤ 9223372036854775807) ∧ Fr (fun _ => False) W w' := by
  obtain ⟨v', w', hrun, ho, hg, hiff⟩ := run_append_own (P := P) W W.heap.size T ty e i _ sz by' hT hi hz0 hz1 hz2 hzc hsz (.slice none 0 0) 0 [] (World.ownsRow_nil _ _ _ _) a 1 1 xs (by simp [hl]) hnews h1 (by unfold maxLen; omega) (by omega) (by simp)
  have hr := run_append_nil (P := P) W T ty e i _ hT hi hz0 a 1 1 xs (by rw [hz1, hl]; omega) hnews (by omega) (by omega) (by rw [hz2]; omega)
  rw [hrun] at hr
  injection hr with e1 e2
  rw [e1] at ho
  obtain ⟨_, hn | ⟨g, cap, cur, he, hbg, hgg, hn, hm, hs, ht⟩⟩ := ho
  · cases hn.1
  have he' := he
  injection he' with a1 a2 a3
  injection a1 with a1
  have hgs : W.heap.size = g := by have := congrArg Addr.block a1; simpa using this
  subst hgs
  refine ⟨cap, w', ?_, fun j u hj => ?_, fun j => by simp [World.frozen?, hgg], ?_, (Fr.refl _ W).grown hg (fun k e => by simp [Value.ownBlock] at e)⟩
  · rw [hrun, e1, he]
  · have hlt : j < sz := by rw [← hl]; exact (List.getElem?_eq_some_iff.1 hj).1
    rw [cell_of_row w' _ j cur e (0, 0) hgg]
    have : xs[j]? = (List.take (1 * sz) cur.toList)[j]? := by rw [ht]; simp
    rw [← hj, this, List.getElem?_take, if_pos (by omega)]
    simp
  · unfold maxLen at hm
    omega
end Go.Proofs.Ytaalkhipncbjpaa
