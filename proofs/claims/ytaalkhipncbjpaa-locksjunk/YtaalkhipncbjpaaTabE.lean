/- slices.Insert of one hold, anywhere in a row of one's own. -/
import Derived.Test.YtaalkhipncbjpaaTabD
import Derived.Lib.AppendZerosOnto
import Derived.Lib.Overlaps
import Derived.Laws.CopyRow
namespace Go.Proofs.Ytaalkhipncbjpaa
open Go Go.RowKit
section
variable {P : Program}
/-- copy, of elements of k cells, into a row that is not frozen. -/
theorem run_copy_k (w : World) (dT sT ty elem : TypeId) (k g o dLen dCap : Nat) (a : Addr) (sLen sCap n : Nat) (cur : Array Value) (t : TypeId) (cs : List Value)
    (hu : P.underlying dT = some (.slice elem)) (hs : (P.info? elem).map (·.size) = some k)
    (hg : w.heap[g]? = some (.cells cur t (0, 0))) (hmin : Nat.min sLen dLen = n) (hn : cs.length = n * k)
    (hsrc : ∀ j v, cs[j]? = some v → w.cell? (a.add j) = some v) (hfit : o + cs.length ≤ cur.size) (h1 : ∀ v ∈ cs, v.oneCell' = true) :
    (Builtin.copy_ #[dT, sT] ty #[.slice (some ⟨g, o, none⟩) dLen dCap, .slice (some a) sLen sCap]).run P w =
      .ok (goInt n) (w.setRow g (cur.toList.take o ++ cs ++ cur.toList.drop (o + cs.length)).toArray) := by
  have hl := run_loadCells_list (P := P) w a cs hsrc
  have hst := run_storeCells_at P g o t cs 0 cur w hg (by simpa using hfit) h1
  cases hq : P.info? elem with
  | none => simp [hq] at hs
  | some i =>
    have hi : i.size = k := by simpa [hq] using hs
    simp [Builtin.copy_, run_underlying hu, Builtin.lenOf, Builtin.firstCells, sizeOf, typeInfo, hq, hi, hmin, ← hn, hl, hst]
theorem wp_copy_eq (w : World) {o : Oper} {a : Act} {K : Act → World → Prop} {Q : Exit → Act → World → Prop} (d s : Operand) (t t' : TypeId)
    (ho : o.op = .call { callee := .builtin .copy, args := #[d, s], argTypes := #[t, t'] }) (v u : Value) (hd : a.eval d = v) (hs : a.eval s = u) {v' : Value} {w' : World}
    (hr : (Builtin.copy_ #[t, t'] o.type #[v, u]).run P w = .ok v' w') (h : K (a.put o.dst v') w') : o.wp P a w K Q := by
  unfold Oper.wp execOp
  simp only [ho, resolve, invoke, builtin, Sem.run_bind, Sem.run_pure, Result.andThen_ok, List.map_toArray, List.map_cons, List.map_nil, hd, hs, hr]
  exact h
theorem wpList_copy_eq (w : World) {ops : Array Oper} {rest : List Oper} {o : Oper} {a : Act} {Q : Exit → Act → World → Prop} (hgd : o.guard = none) (d s : Operand) (t t' : TypeId)
    (ho : o.op = .call { callee := .builtin .copy, args := #[d, s], argTypes := #[t, t'] }) (v u : Value) (hd : a.eval d = v) (hs : a.eval s = u) {v' : Value} {w' : World}
    (hr : (Builtin.copy_ #[t, t'] o.type #[v, u]).run P w = .ok v' w') (h : wpList P ops Q rest (a.put o.dst v') w') : wpList P ops Q (o :: rest) a w :=
  wpList_plain hgd fun _ hK => wp_copy_eq w d s t t' ho v u hd hs hr (hK _ _ h)
end
section
variable {β : Type}
/-- what stands in a list from k on is another list. -/
def over (c : List β) (k : Nat) (x : List β) : List β := c.take k ++ x ++ c.drop (k + x.length)
theorem over_len (c x : List β) (k : Nat) (h : k + x.length ≤ c.length) : (over c k x).length = c.length := by simp [over]; omega
theorem over_take (c x : List β) (k : Nat) (h : k ≤ c.length) : (over c k x).take k = c.take k := by
  unfold over
  rw [List.append_assoc, List.take_append_of_le_length (by simp; omega), List.take_take, Nat.min_self]
theorem over_drop (c x : List β) (k : Nat) (h : k ≤ c.length) : (over c k x).drop k = x ++ c.drop (k + x.length) := by
  unfold over
  rw [List.append_assoc, List.drop_append, List.drop_eq_nil_of_le (by simp; omega)]
  simp [Nat.min_eq_left h]
/-- first what stood from k on goes up, then x comes in. -/
theorem over_room (c f x : List β) (k m : Nat) (hf : c.take m = f) (hk : k ≤ m) (hm : m + x.length ≤ c.length) :
    (over (over c (k + x.length) (f.drop k)) k x).take (m + x.length) = f.take k ++ x ++ f.drop k ∧ (over (over c (k + x.length) (f.drop k)) k x).length = c.length := by
  have hfl : f.length = m := by rw [← hf]; simp; omega
  have hdl : (f.drop k).length = m - k := by simp [hfl]
  have h1 : (over c (k + x.length) (f.drop k)).length = c.length := over_len _ _ _ (by rw [hdl]; omega)
  refine ⟨?_, by rw [over_len _ _ _ (by omega)]; exact h1⟩
  have h2 : (over c (k + x.length) (f.drop k)).take k = f.take k := by
    have h3 := over_take c (f.drop k) (k + x.length) (by omega)
    have h4 := congrArg (List.take k) h3
    rw [List.take_take, List.take_take, Nat.min_eq_left (by omega)] at h4
    rw [h4, ← hf, List.take_take, Nat.min_eq_left hk]
  have h5 : (over c (k + x.length) (f.drop k)).drop (k + x.length) = f.drop k ++ c.drop (k + x.length + (f.drop k).length) := over_drop _ _ _ (by omega)
  show (List.take k _ ++ x ++ List.drop (k + x.length) _).take (m + x.length) = _
  rw [h2, h5, ← List.append_assoc, List.take_append_of_le_length (by simp [hfl]; omega), List.take_of_length_le (by simp [hfl]; omega)]
/-- into a new row: first x, then what stood from k on. -/
theorem over_grow (c f x : List β) (k m : Nat) (hf : f.length = m) (hc : c.take k = f.take k) (hk : k ≤ m) (hm : m + x.length ≤ c.length) :
    (over (over c k x) (k + x.length) (f.drop k)).take (m + x.length) = f.take k ++ x ++ f.drop k ∧ (over (over c k x) (k + x.length) (f.drop k)).length = c.length := by
  have hdl : (f.drop k).length = m - k := by simp [hf]
  have h1 : (over c k x).length = c.length := over_len _ _ _ (by omega)
  refine ⟨?_, by rw [over_len _ _ _ (by rw [hdl]; omega)]; exact h1⟩
  have h2 : (over c k x).take (k + x.length) = f.take k ++ x := by
    unfold over
    rw [hc, List.take_append_of_le_length (by simp [hf]; omega), List.take_of_length_le (by simp [hf]; omega)]
  show (List.take (k + x.length) _ ++ f.drop k ++ _).take (m + x.length) = _
  rw [h2, List.take_append_of_le_length (by simp [hf]; omega), List.take_of_length_le (by simp [hf]; omega)]
end
theorem flat_drop {α : Type} [Enc α] (l : List α) (n : Nat) (hn : n ≤ l.length) : flat (l.drop n) = (flat l).drop (n * Enc.sz α) := by
  have h := congrArg flat (List.take_append_drop n l)
  rw [flat_append, flat_take] at h
  have h2 := flat_length l
  have h3 : n * Enc.sz α ≤ l.length * Enc.sz α := Nat.mul_le_mul_right _ hn
  have h4 := congrArg (List.drop (n * Enc.sz α)) h
  rw [List.drop_left' (by rw [List.length_take, h2]; omega)] at h4
  exact h4
end Go.Proofs.Ytaalkhipncbjpaa
