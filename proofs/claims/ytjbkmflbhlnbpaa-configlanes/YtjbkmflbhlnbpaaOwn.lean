/- Slices that a call has made itself, and what append makes of them. -/
import Derived.Test.YtjbkmflbhlnbpaaTurn
import Derived.Test.YtjbkmflbhlnbpaaDepth2
namespace Go.Proofs.Ytjbkmflbhlnbpaa
open Go.RowKit

/-- numbers as the model's cells. -/
def cellsOf (k : IntKind) (l : List Nat) : List Value := l.map fun x => Value.int k ((x : Nat) : Int)
theorem cellsOf_append (k : IntKind) (l m : List Nat) : cellsOf k (l ++ m) = cellsOf k l ++ cellsOf k m := List.map_append
theorem cellsOf_length (k : IntKind) (l : List Nat) : (cellsOf k l).length = l.length := List.length_map ..
theorem cellsOf_one (k : IntKind) (l : List Nat) : ∀ u ∈ cellsOf k l, u.oneCell' = true := by
  intro u hu; simp [cellsOf] at hu; obtain ⟨x, _, rfl⟩ := hu; rfl
theorem cellsOf_get (k : IntKind) (l : List Nat) (j : Nat) (hj : j < l.length) : (cellsOf k l)[j]? = some (.int k ((l.getD j 0 : Nat) : Int)) := by
  simp [cellsOf, hj]
/-- A SLICE OF NUMBERS THAT THE CALL HAS MADE. -/
def Own (k : IntKind) (e : TypeId) (w : World) (base : Nat) (v : Value) (l : List Nat) : Prop := w.ownsRow base e 1 v l.length (cellsOf k l)
section
variable {k : IntKind} {e : TypeId} {w w1 : World} {base : Nat} {v : Value} {l : List Nat}
theorem Own.nil (k : IntKind) (e : TypeId) (w : World) (base : Nat) : Own k e w base (.slice none 0 0) [] := World.ownsRow_nil w base e 1
theorem Own.row (h : Own k e w base v l) : ∃ ao cap, v = .slice ao l.length cap ∧ (l ≠ [] → ∃ g, ao = some ⟨g, 0, none⟩ ∧ base ≤ g ∧ At k w g 0 l ∧ ∀ i, w.frozen? ⟨g, i, none⟩ = false) := by
  obtain ⟨hl, h⟩ := h
  rcases h with ⟨rfl, h0⟩ | ⟨g, cap, cur, rfl, hbg, hg, hn, hm, hs, ht⟩
  · exact ⟨none, 0, by rw [h0], fun hne => absurd (List.eq_nil_of_length_eq_zero h0) hne⟩
  · refine ⟨_, cap, rfl, fun _ => ⟨g, rfl, hbg, fun i hi => ?_, fun i => by simp [World.frozen?, hg]⟩⟩
    have h1 := cellsOf_get k l i hi
    rw [← ht, List.getElem?_take, if_pos (by omega)] at h1
    rw [Nat.zero_add, cell_of_row w g i cur e (0, 0) hg]
    simpa using h1
theorem Own.fr {S : Nat → Prop} (h : Own k e w base v l) (f : Fr S w w1) (hs : ∀ j, base ≤ j → j < w.heap.size → ¬ S j) : Own k e w1 base v l := by
  refine ⟨h.1, ?_⟩
  rcases h.2 with hn | ⟨g, cap, cur, rfl, hbg, hg, rest⟩
  · exact .inl hn
  · have hlt := (Array.getElem?_eq_some_iff.1 hg).1
    exact .inr ⟨g, cap, cur, rfl, hbg, (f.block g hlt (hs g hbg hlt)).trans hg, rest⟩
theorem Own.lt (h : Own k e w base v l) : ∀ j, v.ownBlock = some j → base ≤ j ∧ j < w.heap.size := World.ownsRow.lt h
end
/-- what is asked of a type of slices of numbers. -/
structure Kind (k : IntKind) (t e : TypeId) : Prop where
  under : Try.prog.underlying t = some (.slice e)
  info : (Try.prog.info? e).map (fun i => (i.zero, i.size, i.bytes)) = some (some (.int k 0), 1, 8)
theorem kindU : Kind .u64 22 42 := ⟨Try.underlying22, Try.info42⟩
theorem kindI : Kind .i64 39 3 := ⟨Try.underlying39, Try.info3⟩

theorem run_append (k : IntKind) (t e : TypeId) (hk : Kind k t e) (w : World) (ty : TypeId) (base : Nat) (v : Value) (l : List Nat) (hown : Own k e w base v l)
    (b off : Nat) (m : List Nat) (cap : Nat) (hr : At k w b off m) (hlen : l.length + m.length ≤ 1000000) (hbase : base ≤ w.heap.size) :
    ∃ v' w', (Builtin.append_ #[t, t] ty #[v, .slice (some ⟨b, off, none⟩) m.length cap]).run Try.prog w = .ok v' w' ∧ Own k e w' base v' (l ++ m) ∧ w.grownBy w' v.ownBlock := by
  obtain ⟨i, hi, hz0, hz1, hz2⟩ := info_parts hk.info
  have hnews : ∀ j u, (cellsOf k m)[j]? = some u → w.cell? ((⟨b, off, none⟩ : Addr).add j) = some u := by
    intro j u hu
    have hj : j < m.length := by
      have := (List.getElem?_eq_some_iff.1 hu).1
      rwa [cellsOf_length] at this
    rw [cellsOf_get k m j hj] at hu
    cases hu
    rw [show (⟨b, off, none⟩ : Addr).add j = ⟨b, off + j, none⟩ from by unfold Addr.add; split <;> simp_all]
    exact hr j hj
  obtain ⟨v', w', hrun, ho, hg, _⟩ := run_append_own (P := Try.prog) w base t ty e i (.int k 0) 1 8 hk.under hi hz0 hz1 hz2 rfl (by decide) v l.length (cellsOf k l) hown ⟨b, off, none⟩ m.length cap (cellsOf k m) (by simp [cellsOf_length]) hnews (cellsOf_one k m) (by unfold maxLen; omega) (by omega) hbase
  exact ⟨v', w', hrun, by unfold Own; rw [cellsOf_append, List.length_append]; exact ho, hg⟩

/-- 'append(s, x...)': s is the call's own. -/
theorem wpList_append (k : IntKind) (t e : TypeId) (hk : Kind k t e) {w : World} {ops : Array Oper} {rest : List Oper} {o : Oper} {a : Act} {Q : Exit → Act → World → Prop} (hgd : o.guard = none) (s x : Operand)
    (ho : o.op = .call { callee := .builtin .append, args := #[s, x], argTypes := #[t, t] })
    (base : Nat) (v : Value) (l : List Nat) (hs : a.eval s = v) (hown : Own k e w base v l)
    (b off : Nat) (m : List Nat) (cap : Nat) (hx : a.eval x = .slice (some ⟨b, off, none⟩) m.length cap) (hr : At k w b off m)
    (hlen : l.length + m.length ≤ 1000000) (hbase : base ≤ w.heap.size)
    (h : ∀ v' w', Own k e w' base v' (l ++ m) → w.grownBy w' v.ownBlock → wpList Try.prog ops Q rest (a.put o.dst v') w') :
    wpList Try.prog ops Q (o :: rest) a w := by
  refine wpList_plain hgd fun K hK => ?_
  obtain ⟨v', w', hrun, h1, h2⟩ := run_append k t e hk w o.type base v l hown b off m cap hr hlen hbase
  unfold Oper.wp execOp
  simp only [ho, resolve, invoke, builtin, Sem.run_bind, Sem.run_pure, Result.andThen_ok, List.map_toArray, List.map_cons, List.map_nil, hs, hx, hrun]
  exact hK _ _ (h v' w' h1 h2)
/-- one number, in a block of its own. -/
theorem at_one (k : IntKind) (w : World) (x : Nat) (e : TypeId) : At k (w.alloc (.cells #[.int k (x : Int)] e)) w.heap.size 0 [x] := fun i hi => by
  simp at hi
  subst hi
  rw [cell_of_row _ w.heap.size (0 + 0) _ e (0, 0) (heap_alloc_new w _)]
  rfl
theorem Fr.own {S : Nat → Prop} {w w1 w2 : World} {v : Value} {base : Nat} (h : Fr S w w1) (hg : w1.grownBy w2 v.ownBlock) (hb : ∀ j, v.ownBlock = some j → base ≤ j) (hs : ∀ j, base ≤ j → S j ∨ w.heap.size ≤ j) : Fr S w w2 :=
  h.grown hg fun j hj => hs j (hb j hj)

set_option maxHeartbeats 400000 in
theorem cloneU_any (b off cap : Nat) (l : List Nat) (w : World) (hl : l.length ≤ 64) (hl0 : 0 < l.length) (hc : At .u64 w b off l) :
    Calls Try.prog 34 #[.slice (some ⟨b, off, none⟩) l.length cap] w fun e w' => ∃ g c, e = .returned (.slice (some ⟨g, 0, none⟩) l.length c) ∧ w.heap.size ≤ g ∧ At .u64 w' g 0 l ∧ Fr (fun _ => False) w w' := by
  have hA : At .u64 (w.alloc (.cells #[] 42)) b off l := hc.fr ((Fr.refl (fun _ => False) w).alloc _) (by simp)
  have hO : Own .u64 42 (w.alloc (.cells #[] 42)) w.heap.size (.slice (some ⟨w.heap.size, 0, none⟩) 0 0) [] := World.ownsRow_made w #[] 0 (Nat.le_refl _) (Nat.zero_le _) (by simp)
  clear hc
  have q := fun (w : World) (a : Option Addr) (n c n' c' : Nat) => Lib.run_eql_slice_nil (P := Try.prog) w 22 _ a n c n' c' Try.underlying22
  go_enter Try.func34, Try.ntmps34
  go_wp2_with (refine wpList_append .u64 22 42 kindU rfl _ _ rfl w.heap.size _ [] rfl hO b off l cap rfl hA (by simp; omega) (by simp) ?_)
  intro v' w' ho hg
  obtain ⟨ao, c, rfl, hrow⟩ := ho.row
  obtain ⟨g, rfl, hge, hA2, _⟩ := hrow (fun e => by rw [e] at hl0; simp at hl0)
  go_wp2
  go_ret
  exact ⟨g, c, rfl, hge, hA2, ((Fr.refl (fun _ => False) w).alloc _).grown hg (fun j hj => by simp [Value.ownBlock] at hj; omega)⟩
end Go.Proofs.Ytjbkmflbhlnbpaa
