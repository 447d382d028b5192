/- Slices of slices of bytes: those that a call has made, and more behind them. -/
import Derived.Test.YtpnjcpamhelaeaaDoorSplit2
import Derived.Maps.AppendAt
namespace Go.Proofs.YtpnjcpamhelaeaaDoor
open Go.RowKit

/-- SLICES OF BYTES, in memory, whose bytes lie in blocks of S. -/
def PRowS (w : World) (S : Nat → Prop) (ao : Option Addr) (ps : List (List Nat)) (cap : Nat) : Prop :=
  ps.length ≤ cap ∧ cap ≤ maxLen ∧
  (ps ≠ [] → ∃ b off, ao = some ⟨b, off, none⟩ ∧ ∀ i, i < ps.length → ∃ ai ci, w.cell? ⟨b, off + i, none⟩ = some (.slice ai (ps.getD i []).length ci) ∧ Row w ai (ps.getD i []) ci ∧ (ps.getD i [] ≠ [] → ∀ a, ai = some a → S a.block))
theorem PRowS.row {w : World} {S : Nat → Prop} {ao : Option Addr} {ps : List (List Nat)} {cap : Nat} (h : PRowS w S ao ps cap) : PRow w ao ps cap := by
  refine ⟨h.1, h.2.1, fun hne => ?_⟩
  obtain ⟨b, off, he, hc⟩ := h.2.2 hne
  exact ⟨b, off, he, fun i hi => by obtain ⟨ai, ci, h1, h2, _⟩ := hc i hi; exact ⟨ai, ci, h1, h2⟩⟩
/-- SLICES OF BYTES THAT THE CALL HAS MADE. -/
def OwnP (w : World) (base : Nat) (v : Value) (ps : List (List Nat)) : Prop :=
  ∃ xs : List Value, w.ownsRow base 24 1 v ps.length xs ∧ ∀ i, i < ps.length → ∃ ai ci, xs[i]? = some (.slice ai (ps.getD i []).length ci) ∧ Row w ai (ps.getD i []) ci ∧ (ps.getD i [] ≠ [] → ∀ a, ai = some a → base ≤ a.block ∧ v.ownBlock ≠ some a.block)
theorem OwnP.nil (w : World) (base : Nat) : OwnP w base (.slice none 0 0) [] := ⟨[], World.ownsRow_nil w base 24 1, fun i hi => absurd hi (by simp)⟩
theorem OwnP.lt {w : World} {base : Nat} {v : Value} {ps : List (List Nat)} (h : OwnP w base v ps) : ∀ k, v.ownBlock = some k → base ≤ k ∧ k < w.heap.size := by
  obtain ⟨xs, h, _⟩ := h; exact h.lt
theorem OwnP.prow {w : World} {base : Nat} {v : Value} {ps : List (List Nat)} (h : OwnP w base v ps) :
    ∃ ao cap, v = .slice ao ps.length cap ∧ PRowS w (fun k => base ≤ k ∧ v.ownBlock ≠ some k) ao ps cap ∧ ∀ a, ao = some a → a.off = 0 ∧ a.spot = none ∧ v.ownBlock = some a.block := by
  obtain ⟨xs, ⟨hl, h⟩, hx⟩ := h
  rcases h with ⟨rfl, h0⟩ | ⟨g, cap, cur, rfl, hbg, hg, hn, hm, hs, ht⟩
  · have : ps = [] := List.eq_nil_of_length_eq_zero h0
    subst this
    exact ⟨none, 0, rfl, ⟨by simp, Nat.zero_le _, fun h => absurd rfl h⟩, fun a ha => by cases ha⟩
  · refine ⟨_, cap, rfl, ⟨hn, hm, fun _ => ⟨g, 0, rfl, fun i hi => ?_⟩⟩, fun a ha => by cases ha; exact ⟨rfl, rfl, rfl⟩⟩
    obtain ⟨ai, ci, h1, h2, h3⟩ := hx i hi
    refine ⟨ai, ci, ?_, h2, h3⟩
    rw [← ht, List.getElem?_take, if_pos (by omega)] at h1
    rw [Nat.zero_add, cell_of_row w g i cur 24 (0, 0) hg]
    simpa using h1
theorem row_blk {w : World} {ao : Option Addr} {l : List Nat} {cap : Nat} (h : Row w ao l cap) (hl : l ≠ []) : ∀ a, ao = some a → a.block < w.heap.size := by
  intro a ha
  obtain ⟨b, off, he, hc⟩ := h.2.2.2.2 hl
  rw [he] at ha
  cases ha
  exact World.block_lt_of_cell? _ _ (hc 0 (by cases l; exact absurd rfl hl; simp))
theorem OwnP.fr {S : Nat → Prop} {w w1 : World} {base : Nat} {v : Value} {ps : List (List Nat)} (h : OwnP w base v ps) (f : Fr S w w1) (hs : ∀ k, base ≤ k → ¬ S k) : OwnP w1 base v ps := by
  obtain ⟨xs, ⟨hl, h⟩, hx⟩ := h
  refine ⟨xs, ⟨hl, ?_⟩, fun i hi => ?_⟩
  · rcases h with hn | ⟨g, cap, cur, rfl, hbg, hg, rest⟩
    · exact .inl hn
    · exact .inr ⟨g, cap, cur, rfl, hbg, (f.block g (Array.getElem?_eq_some_iff.1 hg).1 (hs g hbg)).trans hg, rest⟩
  · obtain ⟨ai, ci, h1, h2, h3⟩ := hx i hi
    exact ⟨ai, ci, h1, f.row h2 (fun hne a ha => hs _ (h3 hne a ha).1), h3⟩
theorem OwnP.base {w : World} {b c : Nat} {v : Value} {ps : List (List Nat)} (h : OwnP w b v ps) (hc : c ≤ b) : OwnP w c v ps := by
  obtain ⟨xs, ⟨hl, h⟩, hx⟩ := h
  refine ⟨xs, ⟨hl, ?_⟩, fun i hi => ?_⟩
  · rcases h with hn | ⟨g, cap, cur, rfl, hbg, rest⟩
    · exact .inl hn
    · exact .inr ⟨g, cap, cur, rfl, Nat.le_trans hc hbg, rest⟩
  · obtain ⟨ai, ci, h1, h2, h3⟩ := hx i hi
    exact ⟨ai, ci, h1, h2, fun hne a ha => ⟨Nat.le_trans hc (h3 hne a ha).1, (h3 hne a ha).2⟩⟩
/-- the cells of slices that lie somewhere. -/
theorem PRowS.cells {w : World} {S : Nat → Prop} {b off : Nat} {ps : List (List Nat)} {cap : Nat} (h : PRowS w S (some ⟨b, off, none⟩) ps cap) (hne : ps ≠ []) :
    ∃ news : List Value, news.length = ps.length ∧ (∀ u ∈ news, u.oneCell' = true) ∧ (∀ j u, news[j]? = some u → w.cell? ((⟨b, off, none⟩ : Addr).add j) = some u) ∧
      ∀ i, i < ps.length → ∃ ai ci, news[i]? = some (.slice ai (ps.getD i []).length ci) ∧ Row w ai (ps.getD i []) ci ∧ (ps.getD i [] ≠ [] → ∀ a, ai = some a → S a.block) := by
  obtain ⟨b', off', he, hc⟩ := h.2.2 hne
  cases he
  have hadd : ∀ j, (⟨b, off, none⟩ : Addr).add j = ⟨b, off + j, none⟩ := fun j => by unfold Addr.add; split <;> simp_all
  refine ⟨(List.range ps.length).map fun i => (w.cell? ⟨b, off + i, none⟩).getD undef, by simp, ?_, ?_, ?_⟩
  · intro u hu
    simp only [List.mem_map, List.mem_range] at hu
    obtain ⟨i, hi, rfl⟩ := hu
    obtain ⟨ai, ci, h1, _⟩ := hc i hi
    rw [h1]; rfl
  · intro j u hu
    have hj : j < ps.length := by
      have := (List.getElem?_eq_some_iff.1 hu).1
      simpa using this
    obtain ⟨ai, ci, h1, _⟩ := hc j hj
    simp [hj, h1] at hu
    rw [hadd, h1, ← hu]
    simp [hj]
  · intro i hi
    obtain ⟨ai, ci, h1, h2, h3⟩ := hc i hi
    exact ⟨ai, ci, by simp [hi, h1], h2, h3⟩
/-- 'append(s, x...)' of slices of bytes. -/
theorem wpList_append_slices {w : World} {ops : Array Oper} {rest : List Oper} {o : Oper} {a : Act} {Q : Exit → Act → World → Prop} (hgd : o.guard = none) (s x : Operand)
    (ho : o.op = .call { callee := .builtin .append, args := #[s, x], argTypes := #[26, 26] })
    (base : Nat) (v : Value) (ps : List (List Nat)) (hs : a.eval s = v) (hown : OwnP w base v ps)
    (b off : Nat) (ps2 : List (List Nat)) (cap : Nat) (hx : a.eval x = .slice (some ⟨b, off, none⟩) ps2.length cap) (hr : PRowS w (fun k => base ≤ k ∧ v.ownBlock ≠ some k) (some ⟨b, off, none⟩) ps2 cap) (hne : ps2 ≠ [])
    (hlen : ps.length + ps2.length ≤ 10000000) (hbase : base ≤ w.heap.size)
    (h : ∀ v' w', OwnP w' base v' (ps ++ ps2) → w.grownBy w' v.ownBlock → (v'.ownBlock = v.ownBlock ∨ v'.ownBlock = some w.heap.size) → wpList Tryd.prog ops Q rest (a.put o.dst v') w') :
    wpList Tryd.prog ops Q (o :: rest) a w := by
  obtain ⟨i, hi, hz0, hz1, hz2⟩ := info_parts Tryd.info24
  obtain ⟨news, hnl, hn1, hnc, hni⟩ := hr.cells hne
  obtain ⟨xs, hox, hxi⟩ := hown
  refine wpList_append_own_at (P := Tryd.prog) w hgd s x 26 ho base 24 i (.slice none 0 0) 1 24 Tryd.underlying26 hi hz0 hz1 hz2 rfl (by decide) v ps.length xs hs hox ⟨b, off, none⟩ ps2.length cap news hx (by rw [hnl, Nat.mul_one]) hnc hn1 (by unfold maxLen; omega) (by omega) hbase ?_
  intro v' w' ho' hg _ hat
  have hfr : Fr (fun k => v.ownBlock = some k) w w' := (Fr.refl _ w).grown hg (fun k hk => .inl hk)
  have hxl : xs.length = ps.length := by have := hox.1; omega
  refine h v' w' ⟨xs ++ news, by rw [List.length_append]; exact ho', fun k hk => ?_⟩ hg hat
  have key : ∀ (ai : Option Addr) (r : List Nat) (ci : Nat), Row w ai r ci → (r ≠ [] → ∀ a, ai = some a → base ≤ a.block ∧ v.ownBlock ≠ some a.block) → Row w' ai r ci ∧ (r ≠ [] → ∀ a, ai = some a → base ≤ a.block ∧ v'.ownBlock ≠ some a.block) := by
    intro ai r ci h1 h2
    refine ⟨hfr.row h1 (fun hr a ha => (h2 hr a ha).2), fun hr a ha => ⟨(h2 hr a ha).1, fun e => ?_⟩⟩
    rcases hat with e2 | e2
    · exact (h2 hr a ha).2 (by rw [← e2, e])
    · rw [e2] at e
      have := row_blk h1 hr a ha
      have e3 := Option.some.inj e
      omega
  by_cases hkp : k < ps.length
  · obtain ⟨ai, ci, h1, h2, h3⟩ := hxi k hkp
    have e : (ps ++ ps2).getD k [] = ps.getD k [] := by simp [List.getD_eq_getElem?_getD, List.getElem?_append_left hkp]
    rw [e]
    obtain ⟨k1, k2⟩ := key ai _ ci h2 h3
    exact ⟨ai, ci, by rw [List.getElem?_append_left (by omega)]; exact h1, k1, k2⟩
  · have hk2 : k - ps.length < ps2.length := by simp at hk; omega
    obtain ⟨ai, ci, h1, h2, h3⟩ := hni (k - ps.length) hk2
    have e : (ps ++ ps2).getD k [] = ps2.getD (k - ps.length) [] := by simp [List.getD_eq_getElem?_getD, List.getElem?_append_right (Nat.le_of_not_lt hkp)]
    rw [e]
    obtain ⟨k1, k2⟩ := key ai _ ci h2 h3
    exact ⟨ai, ci, by rw [List.getElem?_append_right (by omega), hxl]; exact h1, k1, k2⟩
/-- one slice of bytes, laid by itself. -/
theorem prow_one (w : World) (S : Nat → Prop) (ao : Option Addr) (l : List Nat) (cap : Nat) (hr : Row w ao l cap) (hs : l ≠ [] → ∀ a, ao = some a → S a.block) : PRowS (w.alloc (.cells #[.slice ao l.length cap] 24)) S (some ⟨w.heap.size, 0, none⟩) [l] 1 := by
  refine ⟨by simp, by unfold maxLen; simp, fun _ => ⟨w.heap.size, 0, rfl, fun i hi => ?_⟩⟩
  have : i = 0 := by simpa using hi
  subst this
  exact ⟨ao, cap, by simp, ((Fr.refl (fun _ => False) w).alloc _).row hr (by simp), hs⟩
end Go.Proofs.YtpnjcpamhelaeaaDoor
