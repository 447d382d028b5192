/- A region that draws its order, in which a condition on the world holds till one of its operations (a store into what was read) has come up. -/
import Derived.Test.YtaalkhipncbjpaaBase
import Derived.Deep.RegionHeld
namespace Go.Proofs.Ytaalkhipncbjpaa
open Go Go.RowKit
section
variable {P : Program} {md : Region.Mode} {ops : Array Oper} {Q : Exit → Act → World → Prop} {st : Nat} {S : World → Prop}
/-- whatever order is picked; and as long as the operation st has not come up, S. -/
def Till (P : Program) (md : Region.Mode) (ops : Array Oper) (Q : Exit → Act → World → Prop) (st : Nat) (S : World → Prop) : Nat → Array Bool → Act → World → Prop
  | 0, ls, a, w => Region.ready md ops ls = [] ∧ Q .normal a w
  | n + 1, ls, a, w => (Region.ready md ops ls = [] → Q .normal a w) ∧
      ∀ i ∈ Region.ready md ops ls, wpOp P ops Q i (fun a1 w1 => ((ls.setIfInBounds i true).getD st true = false → S w1) ∧ Till P md ops Q st S n (ls.setIfInBounds i true) a1 w1) a w
theorem till_any : ∀ (n : Nat) (ls : Array Bool) (a : Act) (w : World), Till P md ops Q st S n ls a w → wpAny P md ops Q n ls a w
  | 0, _, _, _, h => h
  | n + 1, _, _, _, h => ⟨h.1, fun i hi => wpOp_mono (fun a1 w1 k => till_any n _ a1 w1 k.2) (h.2 i hi)⟩
theorem till_first {T : World → Prop} {i : Nat} {oi : Oper} {v : Value} (hi : ops[i]? = some oi) (hist : i ≠ st) (hsel : ∀ (j : Nat) (o : Oper) cs b, ops[j]? = some o → o.op ≠ .select cs b)
    (hQ : ∀ c a w, Q (.panic c) (a.put oi.dst v) w → Q (.panic c) a w) :
    ∀ (n : Nat) (ls : Array Bool) (a : Act) (w : World),
      (∀ j oj, ops[j]? = some oj → j ≠ i → ls.getD j true = false → (∀ e ∈ oj.after, Region.binds md e = true → e.on ≠ i) → oi.apart ops oj = true) →
      i ∈ Region.ready md ops ls → YieldsIf P ops T oi v a → T w → (ls.getD st true = false → S w) →
      ((∀ w, T w) ∨ ((∀ w, S w → T w) ∧ ls.getD st true = false ∧ (∀ o, ops[st]? = some o → ∃ e ∈ o.after, Region.binds md e = true ∧ e.on = i))) →
      Till P md ops Q st S n (ls.setIfInBounds i true) (a.put oi.dst v) w → Till P md ops Q st S (n + 1) ls a w := by
  intro n
  induction n with
  | zero =>
    intro ls a w _ hr hy hT hS hk H
    refine ⟨fun h => (by rw [h] at hr; cases hr), fun j hj => ?_⟩
    by_cases hji : j = i
    · subst hji; exact hy.wpOp hi hT ⟨fun h => hS (by rwa [getD_set_ne true hist] at h), H⟩
    · have h0 := ready_mono hj hji
      rw [H.1] at h0
      cases h0
  | succ n ih =>
    intro ls a w hfree hr hy hT hS hk H
    refine ⟨fun h => (by rw [h] at hr; cases hr), fun j hj => ?_⟩
    by_cases hji : j = i
    · subst hji; exact hy.wpOp hi hT ⟨fun h => hS (by rwa [getD_set_ne true hist] at h), H⟩
    · have h1 := H.2 j (ready_mono hj hji)
      obtain ⟨hjun, oj, hoj, hall⟩ := mem_ready.1 hj
      have hnot : ∀ e ∈ oj.after, Region.binds md e = true → e.on ≠ i := fun e he hb heq => by
        have k1 := hall e he hb
        have k0 := (mem_ready.1 hr).1
        rw [heq] at k1
        rcases Nat.lt_or_ge i ls.size with h' | h'
        · simp [h'] at k0 k1; rw [k0] at k1; cases k1
        · simp [Array.getElem?_eq_none h'] at k1
      have h2 := wpOp_putIf hoj (hfree j oj hoj hji hjun hnot) (fun cs b => hsel i oi cs b hi) (fun cs b => hsel j oj cs b hoj) hQ hy h1
      have hfree2 : ∀ k ok, ops[k]? = some ok → k ≠ i → (ls.setIfInBounds j true).getD k true = false → (∀ e ∈ ok.after, Region.binds md e = true → e.on ≠ i) → oi.apart ops ok = true := fun k ok hk hki hun hno => by
        refine hfree k ok hk hki ?_ hno
        by_cases hjk : j = k
        · subst hjk; exact hjun
        · rw [getD_set_ne true hjk] at hun; exact hun
      have hcomm : ((ls.setIfInBounds i true).setIfInBounds j true) = ((ls.setIfInBounds j true).setIfInBounds i true) := Array.setIfInBounds_comm _ _ (Ne.symm hji)
      refine wpOp_mono (fun a1 w1 h3 => ?_) h2
      obtain ⟨hy3, hS3, H3⟩ := h3
      rw [hcomm] at H3
      have hS4 : (ls.setIfInBounds j true).getD st true = false → S w1 := fun h => hS3 (by rw [hcomm, getD_set_ne true hist]; exact h)
      have hk4 : (∀ w, T w) ∨ ((∀ w, S w → T w) ∧ (ls.setIfInBounds j true).getD st true = false ∧ (∀ o, ops[st]? = some o → ∃ e ∈ o.after, Region.binds md e = true ∧ e.on = i)) := by
        rcases hk with hk | ⟨k1, k2, k3⟩
        · exact .inl hk
        · refine .inr ⟨k1, ?_, k3⟩
          have hjs : j ≠ st := fun e => by
            subst e
            obtain ⟨e, he, hb, hon⟩ := k3 oj hoj
            exact hnot e he hb hon
          rw [getD_set_ne true hjs]; exact k2
      have hT4 : T w1 := by
        rcases hk4 with hk4 | ⟨k1, k2, _⟩
        · exact hk4 w1
        · exact k1 w1 (hS4 k2)
      exact ⟨hS4, ih (ls.setIfInBounds j true) a1 w1 hfree2 (ready_mono hr (Ne.symm hji)) hy3 hT4 hS4 hk4 H3⟩
/-- does an operation wait for another one? -/
def waits (md : Region.Mode) (ops : Array Oper) (st i : Nat) : Bool := match ops[st]? with
  | none => true
  | some o => o.after.any fun e => Region.binds md e && decide (e.on = i)
theorem waits_spec {i : Nat} (h : waits md ops st i = true) (o : Oper) (ho : ops[st]? = some o) : ∃ e ∈ o.after, Region.binds md e = true ∧ e.on = i := by
  unfold waits at h
  rw [ho] at h
  obtain ⟨e, he, h2⟩ := Array.any_eq_true'.1 h
  simp only [Bool.and_eq_true, decide_eq_true_eq] at h2
  exact ⟨e, he, h2⟩
/-- one that yields its value in every world that meets S, and that st waits for, is taken first. -/
theorem till_take {i : Nat} {oi : Oper} {v : Value} {n : Nat} {ls : Array Bool} {a : Act} {w : World} (hi : ops[i]? = some oi) (hist : i ≠ st)
    (hs : Region.noSelect ops = true) (hf : Region.free md ops ls i = true) (hr : (Region.ready md ops ls).contains i = true) (hw : waits md ops st i = true) (hu : ls.getD st true = false)
    (hQ : ∀ c a w, Q (.panic c) (a.put oi.dst v) w → Q (.panic c) a w) (hy : YieldsIf P ops S oi v a) (hS : S w)
    (h : Till P md ops Q st S n (ls.setIfInBounds i true) (a.put oi.dst v) w) : Till P md ops Q st S (n + 1) ls a w :=
  till_first hi hist (Region.noSelect_spec hs) hQ n ls a w (Region.free_spec hi hf) (by simpa using hr) hy hS (fun _ => hS) (.inr ⟨fun _ h => h, hu, fun o ho => waits_spec hw o ho⟩) h
/-- one that yields its value in whatever world. -/
theorem till_takeA {i : Nat} {oi : Oper} {v : Value} {n : Nat} {ls : Array Bool} {a : Act} {w : World} (hi : ops[i]? = some oi) (hist : i ≠ st)
    (hs : Region.noSelect ops = true) (hf : Region.free md ops ls i = true) (hr : (Region.ready md ops ls).contains i = true)
    (hQ : ∀ c a w, Q (.panic c) (a.put oi.dst v) w → Q (.panic c) a w) (hy : YieldsIf P ops (fun _ => True) oi v a) (hS : ls.getD st true = false → S w)
    (h : Till P md ops Q st S n (ls.setIfInBounds i true) (a.put oi.dst v) w) : Till P md ops Q st S (n + 1) ls a w :=
  till_first hi hist (Region.noSelect_spec hs) hQ n ls a w (Region.free_spec hi hf) (by simpa using hr) hy trivial hS (.inl fun _ => trivial) h
/-- the sole one that may come up. -/
theorem till_one {i : Nat} {o : Oper} {n : Nat} {ls : Array Bool} {a : Act} {w : World} (hr : Region.ready md ops ls = [i]) (ho : ops[i]? = some o)
    (h : ∀ K : Act → World → Prop, Shut (∀ a1 w1, ((ls.setIfInBounds i true).getD st true = false → S w1) → (((ls.setIfInBounds i true).getD st true = false → S w1) → Till P md ops Q st S n (ls.setIfInBounds i true) a1 w1) → K a1 w1) → if Region.wanted o (yielded ops a.tmps) = true then Oper.wp P o a w K Q else K (a.put o.dst undef) w) :
    Till P md ops Q st S (n + 1) ls a w := by
  refine ⟨fun h0 => (by rw [h0] at hr; cases hr), fun j hj => ?_⟩
  rw [hr] at hj
  obtain rfl : j = i := by simpa using hj
  exact wpOp_step ho (fun K hK => h K (fun a1 w1 k1 k2 => hK a1 w1 ⟨k1, k2 k1⟩))
theorem till_oneB {i : Nat} {o : Oper} {n : Nat} {ls : Array Bool} {a : Act} {w : World} (hr : Region.ready md ops ls = [i]) (ho : ops[i]? = some o)
    (h : ∀ K : Act → World → Prop, Shut (∀ a1 w1, S w1 → (S w1 → Till P md ops Q st S n (ls.setIfInBounds i true) a1 w1) → K a1 w1) → if Region.wanted o (yielded ops a.tmps) = true then Oper.wp P o a w K Q else K (a.put o.dst undef) w) :
    Till P md ops Q st S (n + 1) ls a w := till_one hr ho fun K hK => h K (fun a1 w1 k1 k2 => hK.out a1 w1 (fun _ => k1) (fun _ => k2 k1))
theorem till_oneA {i : Nat} {o : Oper} {n : Nat} {ls : Array Bool} {a : Act} {w : World} (hr : Region.ready md ops ls = [i]) (ho : ops[i]? = some o) (hb : (ls.setIfInBounds i true).getD st true = true)
    (h : ∀ K : Act → World → Prop, Shut (∀ a1 w1, Till P md ops Q st S n (ls.setIfInBounds i true) a1 w1 → K a1 w1) → if Region.wanted o (yielded ops a.tmps) = true then Oper.wp P o a w K Q else K (a.put o.dst undef) w) :
    Till P md ops Q st S (n + 1) ls a w := till_one hr ho fun K hK => h K (fun a1 w1 k2 => hK.out a1 w1 (fun e => by rw [hb] at e; cases e) (fun _ => k2))
theorem till_takeB {i : Nat} {oi : Oper} {v : Value} {n : Nat} {ls : Array Bool} {a : Act} {w : World} (hi : ops[i]? = some oi) (hist : i ≠ st)
    (hs : Region.noSelect ops = true) (hf : Region.free md ops ls i = true) (hr : (Region.ready md ops ls).contains i = true) (hb : ls.getD st true = true)
    (hQ : ∀ c a w, Q (.panic c) (a.put oi.dst v) w → Q (.panic c) a w) (hy : YieldsIf P ops (fun _ => True) oi v a)
    (h : Till P md ops Q st S n (ls.setIfInBounds i true) (a.put oi.dst v) w) : Till P md ops Q st S (n + 1) ls a w :=
  till_takeA hi hist hs hf hr hQ hy (fun e => by rw [hb] at e; cases e) h
theorem till_done {ls : Array Bool} {a : Act} {w : World} (hr : Region.ready md ops ls = []) (h : Q .normal a w) : ∀ n, Till P md ops Q st S n ls a w
  | 0 => ⟨hr, h⟩
  | _ + 1 => ⟨fun _ => h, by rw [hr]; simp⟩
theorem till_begin (st : Nat) (S : World → Prop) {id : Nat} {a : Act} {w : World} (hm : P.follows .mixedOrders = true) (hS : S w.drew) (h : S w.drew → Till P .any ops Q st S ops.size (Array.replicate ops.size false) a w.drew) : (Code.region id ops true).wp P Q a w :=
  wp_region_any hm (till_any _ _ _ _ (h hS))
end
end Go.Proofs.Ytaalkhipncbjpaa
