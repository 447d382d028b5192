/- Records of which an image is made; the law's awake. -/
import Derived.Test.YtlcakglmheleeaaDoorScan
import Derived.Test.YtlcakglmheleeaaDoorBytes
namespace Go.Proofs.YtlcakglmheleeaaDoor
open Go.RowKit

theorem take_hardB (m : Img) (t : Nat) (vo : Int) (ht : t < 18446744073709551616) (h1 : -1 ≤ vo) (h2 : vo < 65535) : takeOk m 1 (bodyH t vo) = true ∧ takeV m 1 (bodyH t vo) = { m with tm := t, vo := vo } := by
  have := readH_back t vo ht h1 h2
  unfold takeOk takeV
  simp only [if_true, this]
  refine ⟨trivial, ?_⟩
  have : (((vo + 1).toNat : Nat) : Int) - 1 = vo := by omega
  rw [this]
theorem scan_hard (m : Img) (t : Nat) (vo : Int) (r : List Nat) (ht : t < 18446744073709551616) (h1 : -1 ≤ vo) (h2 : vo < 65535) :
    scan m (hardB t vo ++ r) = ((scan { m with tm := t, vo := vo } r).1, 19 + (scan { m with tm := t, vo := vo } r).2) := by
  obtain ⟨e1, e2⟩ := take_hardB m t vo ht h1 h2
  unfold hardB
  rw [scan_rec m 1 _ r (by omega) (bodyH_lt t vo) (by rw [bodyH_length]; decide) e1, e2, bodyH_length]
theorem take_entB (m : Img) (e : Pe) (h1 : e.1 < 18446744073709551616) (h2 : e.2.1 < 18446744073709551616) (h3 : e.2.2.1 < 256) (hl : e.2.2.2.length ≤ maxRec) : takeOk m 2 (bodyE e) = canE m e.1 ∧ takeV m 2 (bodyE e) = putE m e := by
  have := readE_back e h1 h2 h3 hl
  unfold takeOk takeV
  simp [this]
theorem take_snapB (m : Img) (e : Nat × Nat × Nat × List Nat) (h1 : e.1 < 18446744073709551616) (h2 : e.2.1 < 18446744073709551616) (h3 : e.2.2.1 < 18446744073709551616) (hl : e.2.2.2.length ≤ maxRec) : takeOk m 3 (bodyS e) = true ∧ takeV m 3 (bodyS e) = { m with si := e.1, st := e.2.1, sv := e.2.2.1, sd := e.2.2.2, es := [] } := by
  have := readS_back e h1 h2 h3 hl
  unfold takeOk takeV
  simp [this]
theorem scan_ent (m : Img) (e : Pe) (r : List Nat) (h1 : e.1 < 18446744073709551616) (h2 : e.2.1 < 18446744073709551616) (h3 : e.2.2.1 < 256) (hl : e.2.2.2.length ≤ 1000000) (hb : ∀ x ∈ e.2.2.2, x < 256) (hc : canE m e.1 = true) :
    scan m (entB e ++ r) = ((scan (putE m e) r).1, e.2.2.2.length + 30 + (scan (putE m e) r).2) := by
  have hml : maxRec = 1048576 := rfl
  obtain ⟨e1, e2⟩ := take_entB m e h1 h2 h3 (by omega)
  unfold entB
  rw [scan_rec m 2 _ r (by omega) (bodyE_lt e hb) (by rw [bodyE_length]; omega) (by rw [e1, hc]), e2, bodyE_length]
  congr 2
  omega
theorem scan_ent_no (m : Img) (e : Pe) (r : List Nat) (h1 : e.1 < 18446744073709551616) (h2 : e.2.1 < 18446744073709551616) (h3 : e.2.2.1 < 256) (hl : e.2.2.2.length ≤ 1000000) (hb : ∀ x ∈ e.2.2.2, x < 256) (hc : canE m e.1 = false) :
    scan m (entB e ++ r) = (m, 0) := by
  have hml : maxRec = 1048576 := rfl
  obtain ⟨e1, _⟩ := take_entB m e h1 h2 h3 (by omega)
  unfold entB
  exact scan_stop m 2 _ r (by omega) (bodyE_lt e hb) (by rw [bodyE_length]; omega) (by rw [e1, hc])
theorem scan_snap (m : Img) (e : Nat × Nat × Nat × List Nat) (r : List Nat) (h1 : e.1 < 18446744073709551616) (h2 : e.2.1 < 18446744073709551616) (h3 : e.2.2.1 < 18446744073709551616) (hl : e.2.2.2.length ≤ 1000000) (hb : ∀ x ∈ e.2.2.2, x < 256) :
    scan m (snapB e ++ r) = ((scan { m with si := e.1, st := e.2.1, sv := e.2.2.1, sd := e.2.2.2, es := [] } r).1, e.2.2.2.length + 37 + (scan { m with si := e.1, st := e.2.1, sv := e.2.2.1, sd := e.2.2.2, es := [] } r).2) := by
  have hml : maxRec = 1048576 := rfl
  obtain ⟨e1, e2⟩ := take_snapB m e h1 h2 h3 (by omega)
  unfold snapB
  rw [scan_rec m 3 _ r (by omega) (bodyS_lt e hb) (by rw [bodyS_length]; omega) e1, e2, bodyS_length]
  congr 2
  omega
theorem scan_few (m : Img) (r : List Nat) (h : r.length < 9) : scan m r = (m, 0) := scan_none _ _ _ (first_few r h)
set_option maxRecDepth 100000 in
set_option maxHeartbeats 800000 in
theorem awake_any (w : World) (ht : Tab w) : Calls Tryd.prog 9 #[] w fun e w' => e = .returned (.bool true) ∧ Fr (fun _ => False) w w' := by
  have HT : Hid (Tab w) := ht
  have HE : Hid (Calls _ _ _ _ _) := bytes_any true 3 2 1 none [] 0 w (fun _ => False) (fun _ => False) (ERow.nil _ _ _) ht (by omega) (by omega) (by omega) (by simp) (by simp)
  have HS : Hid (∀ q, q = saveB true 3 1 (List.map En.p []) → scan img0 (q ++ q.take 5) = ({ img0 with tm := 3, vo := 1 }, 19) ∧ q.length = 19) := by
    intro q hq
    have hq' : q = hardB 3 1 := by rw [hq]; simp [saveB, recsE]
    subst hq'
    rw [scan_hard img0 3 1 _ (by omega) (by omega) (by omega), scan_few _ _ (by rw [List.length_take]; omega)]
    exact ⟨rfl, hardB_length 3 1⟩
  clear ht
  go_enter Tryd.func9, Tryd.ntmps9
  go_wp2_with fail
  refine HE.out.mono ?_
  rintro e w1 ⟨v1, rfl, h1, f1⟩
  obtain ⟨q, Hq⟩ : ∃ q, Hid (q = saveB true 3 1 (List.map En.p [])) := ⟨_, rfl⟩
  rw [← Hq.out] at h1
  obtain ⟨e1, e2⟩ := HS.out q Hq.out
  obtain ⟨a1, c1, hv1, r1, _⟩ := h1.row
  subst hv1
  have F1 : Hid (Fr (fun _ => False) w w1) := f1
  have L1 : Hid (Lays w1 w.heap.size (.slice a1 q.length c1) q) := h1
  have HRT : Hid (Row w1 a1 (q.take 5) c1) := r1.takeC 5
  have HNE : Hid (q.take 5 ≠ []) := by intro e; have := congrArg List.length e; rw [List.length_take, e2] at this; simp at this
  have HT5 : Hid ((q.take 5).length = 5) := by show _ = _; rw [List.length_take, e2]; rfl
  have HS1 : Hid (scan img0 (q ++ q.take 5) = ({ img0 with tm := 3, vo := 1 }, 19)) := e1
  have HQL : Hid (q.length = 19) := e2
  have hc19 : 19 ≤ c1 := by have := r1.1; omega
  have hc5 : (5 : Int) ≤ (c1 : Int) := by omega
  have hql : q.length = 19 := e2
  have L2 : Hid (Lays w1 w.heap.size (.slice a1 19 c1) q) := by have := h1; rw [hql] at this; exact this
  rw [hql]
  have hsz : w.heap.size ≤ w1.heap.size := f1.size
  clear e1 e2 h1 r1 f1 hql HE HS
  go_wp2_with (at_builtin; refine wpList_append_lays rfl (.tmp 11) (.tmp 13) rfl w.heap.size _ q rfl L2.out a1 (q.take 5) c1 (by rw [HT5.out]; rfl) HRT.out HNE.out (by rw [HT5.out, HQL.out]; decide) hsz ?_)
  intro v2 w2 o2 g2 _
  have F2 : Hid (Fr (fun _ => False) w w2) := F1.out.grown g2 (fun k hk => .inr (L2.out.lt k hk).1)
  obtain ⟨l2, Hl2⟩ : ∃ l2, Hid (q ++ q.take 5 = l2) := ⟨_, rfl⟩
  rw [Hl2.out] at o2 HS1
  obtain ⟨a2, c2, hv2, r2, _⟩ := o2.row
  subst hv2
  have HLL : Hid (l2.length = 24) := by show _ = _; rw [← Hl2.out, List.length_append, HT5.out, HQL.out]
  have K : Hid (Calls _ _ _ _ _) := scan_any a2 l2 c2 w2 (F2.out.tab HT.out (by simp)) r2 (by rw [HLL.out]; omega)
  clear o2 g2 r2
  go_wp2_with fail
  refine K.out.mono ?_
  rintro e w3 ⟨m, u, sa, sc, v, es, hmu, rfl, _, hown, _, _, f3⟩
  obtain ⟨va, vc, hv, _⟩ := hown.form
  subst hv
  clear hown
  have hmu2 : (m, u) = ({ img0 with tm := 3, vo := 1 }, 19) := by rw [hmu.out, HS1.out]
  cases hmu2
  have F3 : Hid (Fr (fun _ => False) w w3) := F2.out.trans f3
  clear f3 hmu K
  go_wp2
  go_ret
  exact ⟨rfl, F3.out.alloc _⟩
end Go.Proofs.YtlcakglmheleeaaDoor
