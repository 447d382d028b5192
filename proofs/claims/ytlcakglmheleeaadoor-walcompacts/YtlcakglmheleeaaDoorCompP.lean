/- What the law's image comes to, as bytes. -/
import Derived.Test.YtlcakglmheleeaaDoorCompS
namespace Go.Proofs.YtlcakglmheleeaaDoor
open Go.RowKit

theorem recsE_le (es : List Pe) (h : ∀ e ∈ es, e.2.2.2.length ≤ 200) : (recsE es).length ≤ es.length * 230 := by
  induction es with
  | nil => simp [recsE]
  | cons e es ih =>
    have e1 : recsE (e :: es) = entB e ++ recsE es := by simp [recsE]
    have h1 := h e (by simp)
    have h2 := ih (fun x hx => h x (by simp [hx]))
    rw [e1, List.length_append, entB_length, List.length_cons]
    omega
theorem wholeB_le (m : Img) (h : ∀ e ∈ m.es, e.2.2.2.length ≤ 200) (hs : m.sd.length ≤ 200) (hn : m.es.length ≤ 60) : (wholeB m).length ≤ 20000 := by
  have h1 := recsE_le m.es h
  unfold wholeB saveB
  rw [if_pos rfl]
  split
  · simp only [List.length_append, snapB_length, hardB_length]
    omega
  · simp only [List.length_append, List.length_nil, hardB_length]
    omega
theorem ensW_get (si : Nat) (rs : List Rc) (n i : Nat) (hi : i < n) : ((ensW si rs n).map En.p).getD i default = (enW si (rs.getD i default) i).p := by
  simp [ensW, List.getD_eq_getElem?_getD, hi]
/-- the law's whole image. -/
theorem comp_img {w : World} (s : Rc) (rs : List Rc) (si : Nat) (hs : RcG w s) (hsd : s.d.length ≤ 200) (hrs : ∀ x ∈ rs, RcG w x) (hrd : ∀ x ∈ rs, x.d.length ≤ 200) (hn : rs.length ≤ 60) (hsi : 1 ≤ si ∧ si ≤ 1000) :
    scan img0 (wholeB ⟨s.b, 2, si, s.b, 7, s.d, (ensW si rs rs.length).map En.p⟩) = (⟨s.b, 2, si, s.b, 7, s.d, (ensW si rs rs.length).map En.p⟩, (wholeB ⟨s.b, 2, si, s.b, 7, s.d, (ensW si rs rs.length).map En.p⟩).length) := by
  have hmem : ∀ j, j < rs.length → rs.getD j default ∈ rs := fun j hj => by rw [List.getD_eq_getElem?_getD, List.getElem?_eq_getElem hj]; exact List.getElem_mem _
  refine scan_whole _ hs.b (by show (-1 : Int) ≤ 2; decide) (by show (2 : Int) < 65535; decide) (by show si < _; omega) hs.b (by show (7 : Nat) < _; decide) (by show s.d.length ≤ _; omega) hs.row.2.2.1 (by simp [hasSnap]) ?_ ?_
  · intro e he
    obtain ⟨x, hx, rfl⟩ := List.mem_map.1 he
    obtain ⟨j, hj, rfl⟩ := List.mem_map.1 hx
    have hm := hmem j (List.mem_range.1 hj)
    have hg := hrs _ hm
    have hd := hrd _ hm
    exact ⟨by show (si + j + 1) % 18446744073709551616 < _; omega, hg.b, hg.k, by show (rs.getD j default).d.length ≤ _; omega, hg.row.2.2.1⟩
  · intro i hi
    have hi' : i < rs.length := by simpa [ensW_length] using hi
    show (((ensW si rs rs.length).map En.p).getD i default).1 = si + i + 1
    rw [ensW_get _ _ _ _ hi']
    show (si + i + 1) % 18446744073709551616 = _
    omega
theorem comp_len {w : World} (s : Rc) (rs : List Rc) (si : Nat) (_hs : RcG w s) (hsd : s.d.length ≤ 200) (hrd : ∀ x ∈ rs, x.d.length ≤ 200) (hn : rs.length ≤ 60) :
    (wholeB ⟨s.b, 2, si, s.b, 7, s.d, (ensW si rs rs.length).map En.p⟩).length ≤ 20000 := by
  have hmem : ∀ j, j < rs.length → rs.getD j default ∈ rs := fun j hj => by rw [List.getD_eq_getElem?_getD, List.getElem?_eq_getElem hj]; exact List.getElem_mem _
  refine wholeB_le _ ?_ hsd (by simpa [ensW_length] using hn)
  intro e he
  obtain ⟨x, hx, rfl⟩ := List.mem_map.1 he
  obtain ⟨j, hj, rfl⟩ := List.mem_map.1 hx
  exact hrd _ (hmem j (List.mem_range.1 hj))
end Go.Proofs.YtlcakglmheleeaaDoor
