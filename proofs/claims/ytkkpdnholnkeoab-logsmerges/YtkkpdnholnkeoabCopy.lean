/- The program's copies of entries; Reset. -/
import Derived.Test.YtkkpdnholnkeoabMake
namespace Go.Proofs.Ytkkpdnholnkeoab
open Go.RowKit

theorem getD_set_self (es : List En) (k : Nat) (hk : k < es.length) (x : En) : (es.set k x).getD k default = x := by
  simp [List.getD_eq_getElem?_getD, hk]
theorem getD_set_ne (es : List En) (k j : Nat) (h : k ≠ j) (x : En) : (es.set k x).getD j default = es.getD j default := by
  simp [List.getD_eq_getElem?_getD, List.getElem?_set_ne h]
theorem map_p_set (es : List En) (k : Nat) (hk : k < es.length) (x : En) (hx : x.p = (es.getD k default).p) : (es.set k x).map En.p = es.map En.p := by
  rw [List.map_set, hx]
  apply List.ext_getElem?
  intro j
  by_cases hj : k = j
  · subst hj; simp [hk]
  · simp [List.getElem?_set_ne hj]
theorem mem_getD {es : List En} {x : En} (h : x ∈ es) : ∃ k, k < es.length ∧ x = es.getD k default := by
  obtain ⟨k, hk, e⟩ := List.getElem_of_mem h
  exact ⟨k, hk, by simp [List.getD_eq_getElem?_getD, hk, e]⟩
theorem getD_mem {es : List En} {k : Nat} (hk : k < es.length) : es.getD k default ∈ es := by
  rw [List.getD_eq_getElem?_getD, List.getElem?_eq_getElem hk]; exact List.getElem_mem _
set_option maxHeartbeats 1000000 in
theorem copies_any (ao : Option Addr) (es : List En) (cap : Nat) (w : World) (R D : Nat → Prop) (hr : ERow w R D ao es cap) (hD : ∀ k, D k → k < w.heap.size) (hlen : es.length ≤ 100000) (hd : ∀ x ∈ es, x.d.length ≤ 1000000) :
    Calls Try.prog 26 #[.slice ao es.length cap] w fun e w' => ∃ v ys, e = .returned v ∧ OwnE w' (fun k => w.heap.size ≤ k) v ys ∧ ys.map En.p = es.map En.p ∧ Fr (fun _ => False) w w' := by
  go_enter Try.func26, Try.ntmps26
  go_wp2_with fail
  refine (cloneE_any ao es cap w R D hr hD (by omega)).mono ?_
  rintro e w1 ⟨v, rfl, ho, hvb, f1⟩
  obtain ⟨a1, c1, hv, hrow, hao⟩ := ho.row
  subst hv
  have hl := hrow.len
  have HO : Hid (OwnE w1 (fun k => D k ∨ w.heap.size ≤ k) (.slice a1 es.length c1) es) := ho
  have HV : Hid (∀ k, (Value.slice a1 es.length c1).ownBlock = some k → w.heap.size ≤ k) := hvb
  have F1 : Hid (Fr (fun _ => False) w w1) := f1
  have HE : Hid (∀ x ∈ es, EG w D x) := hr.2.2.2.1
  have HD : Hid (∀ k, D k → k < w.heap.size) := hD
  have HL : Hid (∀ x ∈ es, x.d.length ≤ 1000000) := hd
  have HA : Hid (es ≠ [] → ∃ g, a1 = some ⟨g, 0, none⟩) := fun hne => by
    obtain ⟨b, off, he, _⟩ := hrow.2.2.2.2 hne
    have := (hao _ he).1
    simp at this
    subst this
    exact ⟨b, he⟩
  clear hr hD ho hrow hvb f1 hd hao
  go_wp2
  go_loopw [9] (fun i wr => ∃ (k : Nat) (ys : List En), k ≤ es.length ∧ i = .int .i64 (k : Int) ∧ ys.length = es.length ∧ ys.map En.p = es.map En.p ∧ wr.ownsRow 0 36 4 (.slice a1 es.length c1) es.length (flat ys) ∧ (∀ j, j < k → EG wr (fun b => w.heap.size ≤ b ∧ (Value.slice a1 es.length c1).ownBlock ≠ some b) (ys.getD j default)) ∧ (∀ j, k ≤ j → ys.getD j default = es.getD j default) ∧ Fr (fun _ => False) w wr) (fun i _ => es.length - (intOf i).toNat)
  case atStart => exact ⟨0, es, Nat.zero_le _, rfl, rfl, rfl, HO.out.own, fun j hj => absurd hj (by omega), fun _ _ => rfl, F1.out⟩
  case round =>
    obtain ⟨k, ys, hk, rfl, hyl, hyp, hown, hdone, hrest, hfr⟩ := hrel
    by_cases hlt : k < es.length
    · obtain ⟨g, rfl⟩ := HA.out (fun e => by rw [e] at hlt; simp at hlt)
      have hgb := HV.out g rfl
      have hx := HE.out _ (getD_mem hlt)
      have hxl := HL.out _ (getD_mem hlt)
      have hyk := hrest k (Nat.le_refl _)
      have hc : wr.cell? ⟨g, k * 4 + 3, none⟩ = some (.slice (es.getD k default).a (es.getD k default).d.length (es.getD k default).c) := by
        have h1 := hown.cells (g := g) rfl (k * 4 + 3) (.slice (es.getD k default).a (es.getD k default).d.length (es.getD k default).c) (by rw [flat_get ys k 3 (by omega) (by omega), hyk]; rfl)
        rwa [show (⟨g, 0, none⟩ : Addr).add (k * 4 + 3) = ⟨g, 0 + (k * 4 + 3), none⟩ from by unfold Addr.add; split <;> simp_all, Nat.zero_add] at h1
      have hgl : g < wr.heap.size := World.block_lt_of_cell? _ _ hc
      have hz : wr.frozen? ⟨g, k * 4 + 3, none⟩ = false := by
        rcases hown.2 with ⟨he, _⟩ | ⟨g', cp, cur, he, _, hgg, _⟩
        · cases he
        · cases he; simp [World.frozen?, hgg]
      obtain ⟨x, Hx⟩ : ∃ x, Hid (es.getD k default = x) := ⟨_, rfl⟩
      rw [Hx.out] at hc hx hxl hyk
      have K : Hid (Calls _ _ _ _ _) := clone_any x.a x.d x.c wr (hfr.row hx.row (by simp)) hxl
      have HO2 : Hid (wr.ownsRow 0 36 4 (.slice (some ⟨g, 0, none⟩) es.length c1) es.length (flat ys)) := hown
      have HDn : Hid (∀ j, j < k → EG wr (fun b => w.heap.size ≤ b ∧ (Value.slice (some ⟨g, 0, none⟩) es.length c1).ownBlock ≠ some b) (ys.getD j default)) := hdone
      have HRs : Hid (∀ j, k ≤ j → ys.getD j default = es.getD j default) := hrest
      have HFR : Hid (Fr (fun _ => False) w wr) := hfr
      have HX : Hid (EG w D x) := hx
      have HY : Hid (ys.getD k default = x) := hyk
      have HP : Hid (ys.map En.p = es.map En.p) := hyp
      have HYL : Hid (ys.length = es.length) := hyl
      have k1 : (0 : Int) ≤ (k : Int) := by omega
      have k2 : (k : Int) < (es.length : Int) := by omega
      clear hown hdone hrest hfr hx hyk hyp hyl
      go_wp2_with fail
      refine K.out.mono ?_
      rintro e w2 ⟨a2, c2, rfl, hr2, hb2, f2⟩
      have hc2 : w2.cell? ⟨g, k * 4 + 3, none⟩ = some (.slice x.a x.d.length x.c) := f2.cell hc (by simp)
      have hz2 : w2.frozen? ⟨g, k * 4 + 3, none⟩ = false := (f2.frozenEq (a := ⟨g, k * 4 + 3, none⟩) hgl (by simp)).trans hz
      have HR2 : Hid (Row w2 a2 x.d c2) := hr2
      have HB2 : Hid (∀ a, a2 = some a → wr.heap.size ≤ a.block) := hb2
      have F2 : Hid (Fr (fun _ => False) wr w2) := f2
      clear hr2 hb2 f2 hc hz
      go_wp2
      go_roundw
      case rel =>
        have hown2 : w2.ownsRow 0 36 4 (.slice (some ⟨g, 0, none⟩) es.length c1) es.length (flat ys) := by
          refine ⟨HO2.out.1, ?_⟩
          rcases HO2.out.2 with hn | ⟨g', cp, cur, he, hbg, hg, rest⟩
          · exact .inl hn
          · exact .inr ⟨g', cp, cur, he, hbg, (F2.out.block g' (Array.getElem?_eq_some_iff.1 hg).1 (by simp)).trans hg, rest⟩
        have hset := ownsRow_set hown2 (k * 4 + 3) (.slice a2 x.d.length c2)
        have hyl := HYL.out
        have hfs := flat_set ys k (by omega) a2 c2
        rw [HY.out] at hfs
        rw [← hfs] at hset
        have fw : Fr (fun b => b = g) wr (w2.setCell ⟨g, k * 4 + 3, none⟩ (.slice a2 x.d.length c2)) := (F2.out.mono (T := fun b => b = g) (fun _ _ h => h.elim)).setCell (p := ⟨g, k * 4 + 3, none⟩) (Or.inl rfl) _
        refine ⟨k + 1, ys.set k { x with a := a2, c := c2 }, by omega, by go_num, by simpa using hyl, ?_, hset, fun j hj => ?_, fun j hj => ?_, (HFR.out.trans F2.out).setCell (p := ⟨g, k * 4 + 3, none⟩) (Or.inr hgb) _⟩
        · rw [map_p_set ys k (by omega) _ (by rw [HY.out]; rfl)]; exact HP.out
        · by_cases hjk : k = j
          · subst hjk
            rw [getD_set_self ys k (by omega)]
            have fs := (Fr.refl (fun b => b = g) w2).setCell (p := ⟨g, k * 4 + 3, none⟩) (Or.inl rfl) (.slice a2 x.d.length c2)
            have hne : ∀ a, a2 = some a → a.block ≠ g := fun a ha e => by have := HB2.out a ha; omega
            exact ⟨HX.out.i, HX.out.t, HX.out.k, fs.row HR2.out (fun _ a ha e => hne a ha e), fun _ a ha => ⟨by have := HB2.out a ha; have := HFR.out.size; exact Nat.le_trans HFR.out.size (HB2.out a ha), fun e => hne a ha (by simp [Value.ownBlock] at e; exact e.symm)⟩⟩
          · rw [getD_set_ne ys k j hjk]
            exact (HDn.out j (by omega)).fr fw (fun b hb e => hb.2 (by simp [Value.ownBlock]; exact e.symm))
        · rw [getD_set_ne ys k j (by omega)]
          exact HRs.out j (by omega)
      case measure => simp [intOf]; omega
    · have hkn : k = es.length := by omega
      subst hkn
      have HO2 : Hid (wr.ownsRow 0 36 4 (.slice a1 es.length c1) es.length (flat ys)) := hown
      have HDn : Hid _ := hdone
      have HFR : Hid (Fr (fun _ => False) w wr) := hfr
      have HYL : Hid (ys.length = es.length) := hyl
      have HP : Hid (ys.map En.p = es.map En.p) := hyp
      clear hown hdone hrest hfr hyp hyl
      go_wp2
      go_ret
      refine ⟨_, ys, rfl, ⟨by rw [HYL.out]; exact HO2.out, HV.out, fun x hx => ?_⟩, HP.out, HFR.out⟩
      obtain ⟨j, hj, rfl⟩ := mem_getD hx
      exact HDn.out j (by rw [← HYL.out]; exact hj)
end Go.Proofs.Ytkkpdnholnkeoab
