/- Slices of slices of bytes that begin anywhere in their row, and more behind them. -/
import Derived.Test.YtpnjcpamhelaeaaDoorLaw5
import Derived.ArgAppend
import Derived.Lib.LazyBuf
import Derived.Deep.Upon
namespace Go.Proofs.YtpnjcpamhelaeaaDoor
open Go.RowKit

/-- an element: bytes in blocks of S, apart from g. -/
def Elem (w : World) (S : Nat → Prop) (g : Nat) (u : Value) (l : List Nat) : Prop := ∃ ai ci, u = .slice ai l.length ci ∧ Row w ai l ci ∧ (l ≠ [] → ∀ a, ai = some a → S a.block ∧ a.block ≠ g)
/-- SLICES OF BYTES, beginning anywhere in their row; all lies in blocks of S. -/
def OffP (w : World) (S : Nat → Prop) (v : Value) (ps : List (List Nat)) : Prop :=
  (v = .slice none 0 0 ∧ ps = []) ∨
  ∃ g off cap N f, v = .slice (some ⟨g, off, none⟩) ps.length cap ∧ S g ∧ w.rowIs g 24 N f ∧ ps.length ≤ cap ∧ off + cap ≤ N ∧ cap ≤ maxLen ∧ ∀ i, i < ps.length → Elem w S g (f (off + i)) (ps.getD i [])
theorem OffP.nil (w : World) (S : Nat → Prop) : OffP w S (.slice none 0 0) [] := .inl ⟨rfl, rfl⟩
theorem OffP.form {w : World} {S : Nat → Prop} {v : Value} {ps : List (List Nat)} (h : OffP w S v ps) : ∃ ao cap, v = .slice ao ps.length cap ∧ ps.length ≤ cap := by
  rcases h with ⟨rfl, rfl⟩ | ⟨g, off, cap, N, f, rfl, _, _, h, _⟩
  · exact ⟨none, 0, rfl, by simp⟩
  · exact ⟨_, cap, rfl, h⟩
theorem Elem.fr {T S : Nat → Prop} {w w1 : World} {g : Nat} {u : Value} {l : List Nat} (h : Elem w S g u l) (f : Fr T w w1) (hs : ∀ k, S k → k ≠ g → ¬ T k) : Elem w1 S g u l := by
  obtain ⟨ai, ci, h1, h2, h3⟩ := h
  exact ⟨ai, ci, h1, f.row h2 (fun hne a ha => hs _ (h3 hne a ha).1 (h3 hne a ha).2), h3⟩
theorem OffP.fr {T S : Nat → Prop} {w w1 : World} {v : Value} {ps : List (List Nat)} (h : OffP w S v ps) (f : Fr T w w1) (hs : ∀ k, S k → ¬ T k) : OffP w1 S v ps := by
  rcases h with h | ⟨g, off, cap, N, f', rfl, hg, hri, h1, h2, h3, h4⟩
  · exact .inl h
  · exact .inr ⟨g, off, cap, N, f', rfl, hg, f.rowIs hri (hs g hg), h1, h2, h3, fun i hi => (h4 i hi).fr f (fun k hk _ => hs k hk)⟩
theorem OffP.mono {S T : Nat → Prop} {w : World} {v : Value} {ps : List (List Nat)} (h : OffP w S v ps) (hs : ∀ k, S k → T k) : OffP w T v ps := by
  rcases h with h | ⟨g, off, cap, N, f', rfl, hg, hri, h1, h2, h3, h4⟩
  · exact .inl h
  · refine .inr ⟨g, off, cap, N, f', rfl, hs g hg, hri, h1, h2, h3, fun i hi => ?_⟩
    obtain ⟨ai, ci, e1, e2, e3⟩ := h4 i hi
    exact ⟨ai, ci, e1, e2, fun hne a ha => ⟨hs _ (e3 hne a ha).1, (e3 hne a ha).2⟩⟩
theorem rowIs_arr2 (w : World) (cs : Array Value) (t : TypeId) : (w.alloc (.cells cs t)).rowIs w.heap.size t cs.size (fun i => cs.getD i undef) := World.rowIs_alloc w cs t _ (fun i hi => by simp [hi])
theorem Fr.setCells {S : Nat → Prop} {w w1 : World} (h : Fr S w w1) {g : Nat} (hg : S g ∨ w.heap.size ≤ g) : ∀ (vs : List Value) (o : Nat), Fr S w (w1.setCells g o vs) := by
  intro vs
  induction vs generalizing w1 with
  | nil => intro o; exact h
  | cons v r ih => intro o; exact ih (h.setCell (p := ⟨g, o, none⟩) hg v) (o + 1)
/-- what is grown. -/
theorem off_grown (w : World) (S T : Nat → Prop) (ps ps2 : List (List Nat)) (olds news : List Value) (z : Array Value) (hol : olds.length = ps.length) (hnl : news.length = ps2.length)
    (ho : ∀ i, i < ps.length → ∃ g u, olds[i]? = some u ∧ Elem w S g u (ps.getD i [])) (hn : ∀ i, i < ps2.length → ∃ ai ci, news[i]? = some (.slice ai (ps2.getD i []).length ci) ∧ Row w ai (ps2.getD i []) ci ∧ (ps2.getD i [] ≠ [] → ∀ a, ai = some a → T a.block))
    (cap : Nat) (hcap : ps.length + ps2.length ≤ cap) (hsz : z.size = cap - (ps.length + ps2.length)) (hcm : cap ≤ maxLen) :
    OffP (w.drew.alloc (.cells (olds.toArray ++ news.toArray ++ z) 24)) (fun k => S k ∨ T k ∨ k = w.heap.size) (.slice (some ⟨w.heap.size, 0, none⟩) (ps ++ ps2).length cap) (ps ++ ps2) := by
  have f0 : Fr (fun _ => False) w (w.drew.alloc (.cells (olds.toArray ++ news.toArray ++ z) 24)) := ((Fr.refl _ w).drew).alloc _
  have hri := rowIs_arr2 w.drew (olds.toArray ++ news.toArray ++ z) 24
  have hsize : (olds.toArray ++ news.toArray ++ z).size = cap := by simp [hol, hnl, hsz]; omega
  rw [hsize] at hri
  refine .inr ⟨w.heap.size, 0, cap, cap, _, rfl, .inr (.inr rfl), hri, by simp; omega, by omega, hcm, fun i hi => ?_⟩
  simp only [List.length_append] at hi
  by_cases h1 : i < ps.length
  · obtain ⟨g, u, e1, ai, ci, e2, e3, e4⟩ := ho i h1
    have e : (ps ++ ps2).getD i [] = ps.getD i [] := by simp [List.getD_eq_getElem?_getD, List.getElem?_append_left h1]
    have e5 : (olds.toArray ++ news.toArray ++ z).getD (0 + i) undef = u := by
      rw [Nat.zero_add, Array.getD_eq_getD_getElem?]
      rw [Array.getElem?_append_left (by simp [hol, hnl]; omega), Array.getElem?_append_left (by simp [hol]; omega)]
      simp [e1]
    rw [e, e5]
    exact ⟨ai, ci, e2, f0.row e3 (by simp), fun hne a ha => ⟨.inl (e4 hne a ha).1, by have := row_blk e3 hne a ha; omega⟩⟩
  · obtain ⟨ai, ci, e2, e3, e4⟩ := hn (i - ps.length) (by omega)
    have e : (ps ++ ps2).getD i [] = ps2.getD (i - ps.length) [] := by simp [List.getD_eq_getElem?_getD, List.getElem?_append_right (Nat.le_of_not_lt h1)]
    have e5 : (olds.toArray ++ news.toArray ++ z).getD (0 + i) undef = .slice ai (ps2.getD (i - ps.length) []).length ci := by
      rw [Nat.zero_add, Array.getD_eq_getD_getElem?]
      rw [Array.getElem?_append_left (by simp [hol, hnl]; omega), Array.getElem?_append_right (by simp [hol]; omega)]
      simp [hol, e2]
    rw [e, e5]
    exact ⟨ai, ci, rfl, f0.row e3 (by simp), fun hne a ha => ⟨.inr (.inl (e4 hne a ha)), by have := row_blk e3 hne a ha; omega⟩⟩
theorem run_append_off (w : World) (ty : TypeId) (S T : Nat → Prop) (v : Value) (ps : List (List Nat)) (h : OffP w S v ps) (b o2 : Nat) (ps2 : List (List Nat)) (c2 : Nat) (hr : PRowS w T (some ⟨b, o2, none⟩) ps2 c2) (hne : ps2 ≠ []) (hT : ∀ k, T k → ¬ S k) (hlen : ps.length + ps2.length ≤ 1000000) :
    ∃ v' w', (Builtin.append_ #[26, 26] ty #[v, .slice (some ⟨b, o2, none⟩) ps2.length c2]).run Tryd.prog w = .ok v' w' ∧ OffP w' (fun k => S k ∨ T k ∨ (w.heap.size ≤ k ∧ k < w'.heap.size)) v' (ps ++ ps2) ∧ Fr S w w' := by
  obtain ⟨i, hi, hz0, hz1, hz2⟩ := info_parts Tryd.info24
  obtain ⟨news, hnl, hn1, hnc, hni⟩ := hr.cells hne
  have hpos : 0 < ps2.length := List.length_pos_iff.2 hne
  have zs : ∀ n, (Builtin.zeroCells (Value.slice none 0 0).cells n).size = n := fun n => by rw [size_zeroCells]; simp [Value.cells]
  have wide : ∀ w' : World, w.heap.size < w'.heap.size → ∀ k, (S k ∨ T k ∨ k = w.heap.size) → (S k ∨ T k ∨ (w.heap.size ≤ k ∧ k < w'.heap.size)) := fun w' hw k hk => by
    rcases hk with h | h | h
    · exact .inl h
    · exact .inr (.inl h)
    · exact .inr (.inr ⟨by omega, by omega⟩)
  rcases h with ⟨rfl, rfl⟩ | ⟨g, off, cap, N, f, rfl, hg, hri, h1, h2, h3, h4⟩
  · have hrun := run_append_nil (P := Tryd.prog) w 26 ty 24 i (.slice none 0 0) Tryd.underlying26 hi hz0 ⟨b, o2, none⟩ ps2.length c2 news (by rw [hnl, hz1, Nat.mul_one]) hnc hpos (by simp at hlen; omega) (by rw [hz2]; simp at hlen; omega)
    have hge := grownCap_ge w ps2.length 0 24
    have hcm : grownCap w ps2.length 0 24 ≤ maxLen := grownCap_le_maxLen w ps2.length 0 24 (by unfold maxLen; simp at hlen; omega)
    refine ⟨_, _, hrun, ?_, ((Fr.refl _ w).drew).alloc _⟩
    have := off_grown w S T [] ps2 [] news (Builtin.zeroCells (Value.slice none 0 0).cells (grownCap w ps2.length 0 24 - ps2.length)) rfl hnl (fun i hi => absurd hi (by simp)) hni (grownCap w ps2.length 0 24) (by simpa using hge) (by rw [zs]; simp) hcm
    simp only [List.nil_append, Array.empty_append] at this ⊢
    exact this.mono (wide _ (by simp))
  · have hadd : ∀ j, (⟨g, off, none⟩ : Addr).add j = ⟨g, off + j, none⟩ := fun j => by unfold Addr.add; split <;> simp_all
    by_cases hroom : ps.length + ps2.length ≤ cap
    · have hrun := run_append_room_cells (P := Tryd.prog) w 26 ty 24 i Tryd.underlying26 hi g off ps.length cap ⟨b, o2, none⟩ ps2.length c2 news (by rw [hnl, hz1, Nat.mul_one]) hnc hn1 hroom (fun j hj => by rw [hz1, Nat.mul_one, hri.cell (by omega)]; rfl) (fun j hj => hri.frozen _)
      rw [hz1, Nat.mul_one] at hrun
      have fs : Fr (fun k => k = g) w (w.setCells g (off + ps.length) news) := (Fr.refl (fun k => k = g) w).setCells (g := g) (Or.inl rfl) news _
      refine ⟨_, _, hrun, ?_, fs.mono (fun k _ e => by rw [e]; exact hg)⟩
      have hri2 := rowIs_setCells news (off + ps.length) w f hri
      refine .inr ⟨g, off, cap, N, _, by rw [List.length_append], .inl hg, hri2, by simp; omega, h2, h3, fun k hk => ?_⟩
      simp only [List.length_append] at hk
      by_cases hk1 : k < ps.length
      · have e : (ps ++ ps2).getD k [] = ps.getD k [] := by simp [List.getD_eq_getElem?_getD, List.getElem?_append_left hk1]
        rw [e, if_neg (by omega)]
        obtain ⟨ai, ci, e1, e2, e3⟩ := (h4 k hk1).fr fs (fun x _ hx => hx)
        exact ⟨ai, ci, e1, e2, fun hne a ha => ⟨.inl (e3 hne a ha).1, (e3 hne a ha).2⟩⟩
      · have e : (ps ++ ps2).getD k [] = ps2.getD (k - ps.length) [] := by simp [List.getD_eq_getElem?_getD, List.getElem?_append_right (Nat.le_of_not_lt hk1)]
        obtain ⟨ai, ci, e1, e2, e3⟩ := hni (k - ps.length) (by omega)
        rw [e, if_pos (by omega), show off + k - (off + ps.length) = k - ps.length by omega, e1]
        have hng : ps2.getD (k - ps.length) [] ≠ [] → ∀ a, ai = some a → a.block ≠ g := fun hx a ha e => hT _ (e3 hx a ha) (by rw [e]; exact hg)
        exact ⟨ai, ci, rfl, fs.row e2 (fun hx a ha => hng hx a ha), fun hx a ha => ⟨.inr (.inl (e3 hx a ha)), hng hx a ha⟩⟩
    · have hol : ((List.range ps.length).map fun j => f (off + j)).length = ps.length := by simp
      have hrun := run_append_grow (P := Tryd.prog) w 26 ty 24 i (.slice none 0 0) Tryd.underlying26 hi hz0 ⟨g, off, none⟩ ps.length cap ((List.range ps.length).map fun j => f (off + j)) (by rw [hol, hz1, Nat.mul_one]) (fun j u hu => by
        have hj : j < ps.length := by have := (List.getElem?_eq_some_iff.1 hu).1; simpa using this
        simp [hj] at hu
        rw [hadd, hri.cell (by omega), hu]) ⟨b, o2, none⟩ ps2.length c2 news (by rw [hnl, hz1, Nat.mul_one]) hnc (by omega) (by omega) (growslice_fits (by omega) (by rw [hz2]; omega))
      have hge := grownCap_ge w (ps.length + ps2.length) cap 24
      have hcm : grownCap w (ps.length + ps2.length) cap 24 ≤ maxLen := grownCap_le_maxLen w (ps.length + ps2.length) cap 24 (by unfold maxLen; omega)
      refine ⟨_, _, hrun, ?_, ((Fr.refl _ w).drew).alloc _⟩
      have := off_grown w S T ps ps2 ((List.range ps.length).map fun j => f (off + j)) news (Builtin.zeroCells (Value.slice none 0 0).cells (grownCap w (ps.length + ps2.length) cap 24 - (ps.length + ps2.length))) hol hnl (fun j hj => ⟨g, f (off + j), by simp [hj], h4 j hj⟩) hni (grownCap w (ps.length + ps2.length) cap 24) hge (by rw [zs]) hcm
      rw [List.length_append] at this
      exact this.mono (wide _ (by simp))
/-- 'append(s, x...)' of slices of bytes. -/
theorem wpList_append_off {w : World} {ops : Array Oper} {rest : List Oper} {o : Oper} {a : Act} {Q : Exit → Act → World → Prop} (hgd : o.guard = none) (s x : Operand)
    (ho : o.op = .call { callee := .builtin .append, args := #[s, x], argTypes := #[26, 26] })
    (S T : Nat → Prop) (v : Value) (ps : List (List Nat)) (hs : a.eval s = v) (hown : OffP w S v ps) (b o2 : Nat) (ps2 : List (List Nat)) (c2 : Nat) (hx : a.eval x = .slice (some ⟨b, o2, none⟩) ps2.length c2)
    (hr : PRowS w T (some ⟨b, o2, none⟩) ps2 c2) (hne : ps2 ≠ []) (hT : ∀ k, T k → ¬ S k) (hlen : ps.length + ps2.length ≤ 1000000)
    (h : ∀ v' w', OffP w' (fun k => S k ∨ T k ∨ (w.heap.size ≤ k ∧ k < w'.heap.size)) v' (ps ++ ps2) → Fr S w w' → wpList Tryd.prog ops Q rest (a.put o.dst v') w') :
    wpList Tryd.prog ops Q (o :: rest) a w := by
  refine wpList_plain hgd fun K hK => ?_
  obtain ⟨v', w', hrun, h1, h2⟩ := run_append_off w o.type S T v ps hown b o2 ps2 c2 hr hne hT hlen
  unfold Oper.wp execOp
  simp only [ho, resolve, invoke, builtin, Sem.run_bind, Sem.run_pure, Result.andThen_ok, List.map_toArray, List.map_cons, List.map_nil, hs, hx, hrun]
  exact hK _ _ (h v' w' h1 h2)
end Go.Proofs.YtpnjcpamhelaeaaDoor
