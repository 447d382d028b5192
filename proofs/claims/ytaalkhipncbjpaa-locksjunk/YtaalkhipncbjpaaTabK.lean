/- A table, and the document's list of what is held; Len, Until. -/
import Derived.Test.YtaalkhipncbjpaaTabI
namespace Go.Proofs.Ytaalkhipncbjpaa
open Go Go.RowKit
/-- what a hold holds, wherever it lies. -/
def Hd.key (x : Hd) : Nat × Nat × Nat × List Nat × List (Nat × Nat) × List Nat × List Nat := (x.a0, x.a1, x.a2, x.g, x.s, x.p, x.dl)
theorem like_iff (x y : Hd) : x.like y ↔ x.key = y.key := by simp [Hd.like, Hd.key]
/-- is it that transaction's? -/
def Hd.is (x : Hd) (s q : Nat) : Bool := decide (x.a0 = s ∧ x.a1 = q)
def Rel (l m : List Hd) : Prop := (l.map Hd.key).Perm (m.map Hd.key)
theorem Rel.len {l m : List Hd} (h : Rel l m) : l.length = m.length := by simpa using h.length_eq
theorem Rel.symm {l m : List Hd} (h : Rel l m) : Rel m l := List.Perm.symm h
theorem Rel.mem {l m : List Hd} (h : Rel l m) {x : Hd} (hx : x ∈ l) : ∃ y ∈ m, y.key = x.key := by
  have : x.key ∈ m.map Hd.key := (List.Perm.mem_iff h).1 (List.mem_map_of_mem hx)
  simpa using this
theorem Rel.any {l m : List Hd} (h : Rel l m) {f : Hd → Bool} (hf : ∀ x y : Hd, x.key = y.key → f x = f y) : l.any f = m.any f := by
  rw [Bool.eq_iff_iff, List.any_eq_true, List.any_eq_true]
  constructor
  · rintro ⟨x, hx, h1⟩
    obtain ⟨y, hy, e⟩ := h.mem hx
    exact ⟨y, hy, by rw [hf y x e]; exact h1⟩
  · rintro ⟨x, hx, h1⟩
    obtain ⟨y, hy, e⟩ := h.symm.mem hx
    exact ⟨y, hy, by rw [hf y x e]; exact h1⟩
theorem key_is {x y : Hd} (h : x.key = y.key) (s q : Nat) : x.is s q = y.is s q := by
  simp only [Hd.key, Prod.mk.injEq] at h
  unfold Hd.is
  rw [h.1, h.2.1]
theorem Rel.drop {l m : List Hd} (h : Rel l m) (s q : Nat) : Rel (l.filter fun x => !x.is s q) (m.filter fun x => !x.is s q) := by
  have e : ∀ l : List Hd, (l.filter fun x => !x.is s q).map Hd.key = (l.map Hd.key).filter fun k => !decide (k.1 = s ∧ k.2.1 = q) := fun l => by
    rw [List.filter_map]; rfl
  unfold Rel
  rw [e, e]
  exact List.Perm.filter _ h
theorem drop_eq {l : List Hd} {s q p : Nat} (hs : Srt l) (hp : At l s q p) : l.take p ++ l.drop (skipAt l s q p) = l.filter fun x => !x.is s q := by
  have h1 : (l.take p).filter (fun x => !x.is s q) = l.take p := List.filter_eq_self.2 fun a ha => by
    have := at_lo hp a ha
    unfold Hd.lt at this
    unfold Hd.is
    rw [decide_eq_false (by omega)]; rfl
  have h2 : (l.drop (skipAt l s q p)).filter (fun x => !x.is s q) = l.drop (skipAt l s q p) := List.filter_eq_self.2 fun a ha => by
    have := at_hi hs hp a ha
    unfold Hd.is
    rw [decide_eq_false (by omega)]; rfl
  have h3 : (l.drop p).filter (fun x => !x.is s q) = (l.drop (skipAt l s q p)).filter (fun x => !x.is s q) := by
    by_cases hh : heldAt l s q p = true
    · have h4 := of_decide_eq_true hh
      have hn : skipAt l s q p = p + 1 := by unfold skipAt; rw [if_pos hh]
      rw [hn, List.drop_eq_getElem_cons h4.1, List.filter_cons_of_neg]
      rw [gd h4.1] at h4
      unfold Hd.is
      rw [decide_eq_true h4.2]; decide
    · have hn : skipAt l s q p = p := by unfold skipAt; rw [if_neg hh]
      rw [hn]
  conv => rhs; rw [← List.take_append_drop p l]
  rw [List.filter_append, h1, h3, h2]
theorem held_is {l : List Hd} {s q p : Nat} (hs : Srt l) (hp : At l s q p) : heldAt l s q p = l.any fun x => x.is s q := by
  by_cases hh : heldAt l s q p = true
  · have h4 := of_decide_eq_true hh
    rw [gd h4.1] at h4
    rw [hh]
    refine (List.any_eq_true.2 ⟨l[p], List.getElem_mem h4.1, ?_⟩).symm
    unfold Hd.is
    exact decide_eq_true h4.2
  · have h0 : heldAt l s q p = false := by simpa using hh
    rw [h0]
    have hn : skipAt l s q p = p := by unfold skipAt; rw [if_neg hh]
    have e := drop_eq hs hp
    rw [hn, List.take_append_drop] at e
    refine (List.any_eq_false.2 fun x hx => ?_).symm
    have h1 : x ∈ l.filter fun x => !x.is s q := e ▸ hx
    have := (List.mem_filter.1 h1).2
    simpa using this
theorem Rel.put {l m : List Hd} (h : Rel l m) {p : Nat} {x y : Hd} (hs : Srt l) (hp : At l x.a0 x.a1 p) (hk : x.key = y.key) : Rel (putH l p x) ((m.filter fun z => !z.is y.a0 y.a1) ++ [y]) := by
  have hk2 := hk
  simp only [Hd.key, Prod.mk.injEq] at hk2
  have e := drop_eq hs hp
  unfold Rel putH
  rw [List.map_append, List.map_cons, List.map_append, List.map_cons, List.map_nil]
  refine List.perm_middle.trans ?_
  refine List.Perm.trans ?_ (List.perm_append_comm)
  rw [← List.map_append, e, hk, hk2.1, hk2.2.1]
  exact List.Perm.cons _ (h.drop _ _)
theorem Rel.uniq {l m : List Hd} (h : Rel l m) (hs : Srt l) {i : Nat} (hi : i < l.length) {y : Hd} (hy : y ∈ m) (he : y.is (l.getD i dH).a0 (l.getD i dH).a1 = true) : y.key = (l.getD i dH).key := by
  obtain ⟨z, hz, e⟩ := h.symm.mem hy
  obtain ⟨j, hj, rfl⟩ := List.getElem_of_mem hz
  have h1 : l[j].is (l.getD i dH).a0 (l.getD i dH).a1 = true := by rw [key_is e]; exact he
  have h2 := of_decide_eq_true h1
  rw [← gd hj] at h2
  have : j = i := by
    rcases Nat.lt_trichotomy j i with h3 | h3 | h3
    · have := hs j i h3 hi; unfold Hd.lt at this; omega
    · exact h3
    · have := hs i j h3 hj; unfold Hd.lt at this; omega
  subst this
  rw [gd hj]
  exact e.symm
theorem same_key {x y : Hd} (h : x.key = y.key) : x.same y = true := by
  simp only [Hd.key, Prod.mk.injEq] at h
  obtain ⟨h1, h2, h3, h4, h5, h6, h7⟩ := h
  simp [Hd.same, Hd.id, h1, h2, h3, h4, h5, h6, h7]
set_option maxRecDepth 100000 in
set_option maxHeartbeats 2000000 in
theorem until1_any (x : Hd) (e0 bx : Nat) (w : World) (hc : w.cell? ⟨bx, 0, none⟩ = some (.int .u64 (e0 : Int))) : Calls Try.prog 75 #[.agg #[.int .u64 (x.a0 : Int), .int .u64 (x.a1 : Int), .int .u64 (x.a2 : Int), .slice x.ga x.g.length x.gc, .slice x.sa x.s.length x.sc, .slice x.pa x.p.length x.pc, .slice x.da x.dl.length x.dc], .pointer (some ⟨bx, 0, none⟩)] w fun e w' => e = .returned (.bool (decide (x.a2 ≤ e0))) ∧ Fr (fun _ => False) w w' := by
  have F0 : Hid (Fr (fun _ => False) w (w.alloc (.cells #[.int .u64 (x.a0 : Int), .int .u64 (x.a1 : Int), .int .u64 (x.a2 : Int), .slice x.ga x.g.length x.gc, .slice x.sa x.s.length x.sc, .slice x.pa x.p.length x.pc, .slice x.da x.dl.length x.dc] 29))) := (Fr.refl (fun _ => False) w).alloc _
  have c0 := F0.out.cell hc (by simp)
  by_cases h : x.a2 ≤ e0
  · have z : (x.a2 : Int) ≤ (e0 : Int) := by omega
    rw [decide_eq_true h]
    go_enter Try.func75, Try.ntmps75
    go_wp2
    go_ret
    exact ⟨rfl, F0.out⟩
  · have z : ¬ (x.a2 : Int) ≤ (e0 : Int) := by omega
    rw [decide_eq_false h]
    go_enter Try.func75, Try.ntmps75
    go_wp2
    go_ret
    exact ⟨rfl, F0.out⟩
set_option maxRecDepth 100000 in
set_option maxHeartbeats 2000000 in
theorem until_any (e0 : Nat) (base tb : Nat) (ao : Option Addr) (cap : Nat) (l : List Hd) (w : World) (hT : TabP w base tb ao cap l) :
    Calls Try.prog 36 #[.pointer (some ⟨tb, 0, none⟩), .int .u64 (e0 : Int)] w fun e w' => e = .returned (.bool (l.any fun x => decide (x.a2 ≤ e0))) ∧ Fr (fun _ => False) w w' := by
  have F0 : Hid (Fr (fun _ => False) w (w.alloc (.cells #[.int .u64 (e0 : Int)] 22))) := (Fr.refl (fun _ => False) w).alloc _
  have c0 := F0.out.cell hT.cell (by simp)
  have hb : (w.alloc (.cells #[.int .u64 (e0 : Int)] 22)).cell? ⟨w.heap.size, 0, none⟩ = some (.int .u64 (e0 : Int)) := by simp
  have K : Hid (Calls _ _ _ _ _) := contH75 (fun x => decide (x.a2 ≤ e0)) (.pointer (some ⟨w.heap.size, 0, none⟩)) ao l cap _ (hT.fr F0.out).row (fun W x f hx => until1_any x e0 w.heap.size W (f.cell hb (by simp)))
  generalize (l.any fun x => decide (x.a2 ≤ e0)) = t at *
  clear hT hb
  go_enter Try.func36, Try.ntmps36
  go_wp2_with fail
  refine K.out.mono ?_
  rintro e w1 ⟨rfl, f1⟩
  clear c0
  go_wp2
  go_ret
  exact ⟨rfl, F0.out.trans f1⟩
set_option maxRecDepth 100000 in
theorem len_any (base tb : Nat) (ao : Option Addr) (cap : Nat) (l : List Hd) (w : World) (hT : TabP w base tb ao cap l) :
    Calls Try.prog 35 #[.pointer (some ⟨tb, 0, none⟩)] w fun e w' => e = .returned (.int .i64 (l.length : Int)) ∧ w' = w := by
  have c0 := hT.cell
  clear hT
  go_enter Try.func35, Try.ntmps35
  go_wp2
  go_ret
  exact ⟨rfl, rfl⟩
end Go.Proofs.Ytaalkhipncbjpaa
