/- The program's records of an image. -/
import Derived.Test.YtlcakglmheleeaaDoorBytes
namespace Go.Proofs.YtlcakglmheleeaaDoor
open Go.RowKit

theorem recsE_length (es : List Pe) (h : ∀ e ∈ es, e.2.2.2.length ≤ 1000000) : (recsE es).length ≤ es.length * 1000030 := by
  induction es with
  | nil => simp [recsE]
  | cons e es ih =>
    have h1 := ih (fun x hx => h x (List.mem_cons_of_mem _ hx))
    have h2 := h e (List.mem_cons_self ..)
    have : recsE (e :: es) = entB e ++ recsE es := by simp [recsE]
    rw [this, List.length_append, entB_length, List.length_cons]
    omega
def hasSnap (si sv : Nat) : Bool := decide (0 < si) || decide (sv ≠ 0)
def wholeB (m : Img) : List Nat := (if hasSnap m.si m.sv then snapB (m.si, m.st, m.sv, m.sd) else []) ++ saveB true m.tm m.vo m.es
set_option maxRecDepth 100000 in
set_option maxHeartbeats 1600000 in
theorem whole_any (t n si st sv : Nat) (vo : Int) (sa ea : Option Addr) (sd : List Nat) (sc : Nat) (es : List En) (c : Nat) (w : World) (R D : Nat → Prop) (hr : ERow w R D ea es c) (hs : Row w sa sd sc) (ht : Tab w) (ht64 : t < 18446744073709551616) (hn : vo + 1 = (n : Int)) (hn2 : n < 65536)
    (hsi : si < 18446744073709551616) (hst : st < 18446744073709551616) (hsv : sv < 18446744073709551616) (hsd : sd.length ≤ 1000000) (hlen : es.length ≤ 100000) (hd : ∀ x ∈ es, x.d.length ≤ 1000000) :
    Calls Tryd.prog 18 #[.agg #[.int .u64 (t : Int), .int .i64 vo, .int .u64 (si : Int), .int .u64 (st : Int), .int .u64 (sv : Int), .slice sa sd.length sc, .slice ea es.length c]] w fun e w' => ∃ v, e = .returned v ∧ Lays w' w.heap.size v (wholeB ⟨t, vo, si, st, sv, sd, es.map En.p⟩) ∧ Fr (fun _ => False) w w' := by
  obtain ⟨W, HW⟩ : ∃ W, Hid (W = w.alloc (.cells #[.int .u64 (t : Int), .int .i64 vo, .int .u64 (si : Int), .int .u64 (st : Int), .int .u64 (sv : Int), .slice sa sd.length sc, .slice ea es.length c] 42)) := ⟨_, rfl⟩
  have F0 : Hid (Fr (fun _ => False) w W) := by show Fr _ _ _; rw [HW.out]; exact (Fr.refl _ _).alloc _
  have HX : Hid (W.cell? ⟨w.heap.size, 0, none⟩ = some (.int .u64 (t : Int)) ∧ W.cell? ⟨w.heap.size, 1, none⟩ = some (.int .i64 vo) ∧ W.cell? ⟨w.heap.size, 6, none⟩ = some (.slice ea es.length c)) := by rw [HW.out]; exact ⟨by simp, by simp, by simp⟩
  have HR : Hid (ERow w R D ea es c) := hr
  have HS : Hid (Row w sa sd sc) := hs
  have HT : Hid (Tab w) := ht
  have HD : Hid (∀ x ∈ es, x.d.length ≤ 1000000) := hd
  have hl := hr.len
  have HLS : Hid (∀ e ∈ es.map En.p, e.2.2.2.length ≤ 1000000) := fun e he => by obtain ⟨x, hx, rfl⟩ := List.mem_map.1 he; exact hd x hx
  have HSL : Hid ((saveB true t vo (es.map En.p)).length ≤ 19 + 100000 * 1000030) := by
    show _ ≤ _
    have := recsE_length _ HLS.out
    rw [List.length_map] at this
    simp only [saveB, if_true, List.length_append, hardB_length]
    have h2 : es.length * 1000030 ≤ 100000 * 1000030 := Nat.mul_le_mul_right _ hlen
    omega
  have HSN : Hid (saveB true t vo (es.map En.p) ≠ []) := by
    intro e
    have := congrArg List.length e
    simp only [saveB, if_true, List.length_append, hardB_length, List.length_nil] at this
    omega
  have KB : Hid (∀ w1, Fr (fun _ => False) w w1 → Calls Tryd.prog 17 #[.agg #[.bool true, .int .u64 (t : Int), .int .i64 vo, .slice ea es.length c]] w1 fun e w' => ∃ v, e = .returned v ∧ Lays w' w1.heap.size v (saveB true t vo (es.map En.p)) ∧ Fr (fun _ => False) w1 w') := fun w1 f => bytes_any true t n vo ea es c w1 R D (hr.fr f (by simp) (by simp)) (f.tab ht (by simp)) ht64 hn hn2 hlen hd
  have KS : Hid (Calls _ _ _ _ _) := snapR_step si st sv sa sd sc W (F0.out.tab HT.out (by simp)) (F0.out.row HS.out (by simp)) hsi hst hsv (by omega)
  have HWB : Hid (∀ q, q = saveB true t vo (es.map En.p) → wholeB ⟨t, vo, si, st, sv, sd, es.map En.p⟩ = (if hasSnap si sv then snapB (si, st, sv, sd) else []) ++ q) := by intro q hq; rw [hq]; rfl
  clear hr hs ht hd
  by_cases h1 : hasSnap si sv = true
  · have HH : Hid (hasSnap si sv = true) := h1
    have HPB : Hid ((snapB (si, st, sv, sd)).length ≤ 1000037) := by show _ ≤ _; rw [snapB_length]; show sd.length + 37 ≤ _; omega
    have key : (0 < si) ∨ (¬ 0 < si ∧ ¬ sv = 0) := by
      unfold hasSnap at h1
      simp at h1
      omega
    clear h1
    rcases key with k1 | ⟨k1, k2⟩
    all_goals
      go_enter Tryd.func18, Tryd.ntmps18
      go_wp2_with fail
      rw [← HW.out]
      refine KS.out.mono ?_
      rintro e w1 ⟨a1, q, rfl, h1, E1, f1⟩
      have F1 : Hid (Fr (fun _ => False) w w1) := F0.out.trans f1
      have hx0 := f1.cell HX.out.1 (by simp)
      have hx1 := f1.cell HX.out.2.1 (by simp)
      have hx2 := f1.cell HX.out.2.2 (by simp)
      have L1 : Hid (Lays w1 w.heap.size (.slice a1 q.length q.length) q) := h1.lays.rebase F0.out.size
      have HQL : Hid (q.length ≤ 1000037) := by show _ ≤ _; rw [E1.out]; exact HPB.out
      clear h1 f1
      go_wp2_with fail
      refine (KB.out w1 F1.out).mono ?_
      rintro e w2 ⟨v2, rfl, h2, f2⟩
      have F2 : Hid (Fr (fun _ => False) w w2) := F1.out.trans f2
      have L2 : Hid (Lays w2 w.heap.size (.slice a1 q.length q.length) q) := L1.out.fr f2 (by simp)
      obtain ⟨sB, Hs⟩ : ∃ sB, Hid (saveB true t vo (es.map En.p) = sB) := ⟨_, rfl⟩
      rw [Hs.out] at h2
      obtain ⟨a2, c2, hv2, r2, _⟩ := h2.row
      subst hv2
      have HR2 : Hid (Row w2 a2 sB c2) := r2
      have HN2 : Hid (sB ≠ []) := by rw [← Hs.out]; exact HSN.out
      have HNL : Hid (q.length + sB.length ≤ 70368744177664) := by show _ ≤ _; have := HQL.out; have := HSL.out; rw [Hs.out] at this; omega
      have hsz : w.heap.size ≤ w2.heap.size := F2.out.size
      clear h2 f2 r2
      go_wp2_with (at_builtin; refine wpList_append_lays rfl (.tmp 17) (.tmp 23) rfl w.heap.size _ q rfl L2.out a2 sB c2 rfl HR2.out HN2.out HNL.out hsz ?_)
      intro v3 w3 o3 g3 _
      have F3 : Hid (Fr (fun _ => False) w w3) := F2.out.grown g3 (fun i hi => .inr (L2.out.lt i hi).1)
      obtain ⟨l3, Hl3⟩ : ∃ l3, Hid (q ++ sB = l3) := ⟨_, rfl⟩
      rw [Hl3.out] at o3
      have O3 : Hid (Own w3 w.heap.size v3 l3) := o3
      obtain ⟨a3, c3', hv3, _, _⟩ := o3.row
      subst hv3
      clear o3 g3
      go_wp2
      go_ret
      exact ⟨_, rfl, by rw [HWB.out sB Hs.out.symm, HH.out, if_pos rfl, ← E1.out, Hl3.out]; exact .inl O3.out, F3.out⟩
  · have HH : Hid (hasSnap si sv = false) := by show _ = _; simpa using h1
    have k1 : ¬ 0 < si := by intro h; apply h1; simp [hasSnap, h]
    have k2 : sv = 0 := by
      by_cases h : sv = 0
      · exact h
      · exact absurd (by simp [hasSnap, h]) h1
    have k1' : si = 0 := by omega
    have HK : Hid (Calls _ _ _ _ _) := KB.out W F0.out
    clear h1 k1 KS
    subst k2 k1'
    have HW0 := HW.out
    rw [show ((0 : Nat) : Int) = 0 from rfl] at HW0
    have HW1 : Hid _ := HW0
    clear HW0 HW
    go_enter Tryd.func18, Tryd.ntmps18
    go_wp2_with fail
    rw [← HW1.out]
    refine HK.out.mono ?_
    rintro e w2 ⟨v2, rfl, h2, f2⟩
    have F2 : Hid (Fr (fun _ => False) w w2) := F0.out.trans f2
    obtain ⟨sB, Hs⟩ : ∃ sB, Hid (saveB true t vo (es.map En.p) = sB) := ⟨_, rfl⟩
    rw [Hs.out] at h2
    obtain ⟨a2, c2, hv2, r2, _⟩ := h2.row
    subst hv2
    have HR2 : Hid (Row w2 a2 sB c2) := r2
    have HN2 : Hid (sB ≠ []) := by rw [← Hs.out]; exact HSN.out
    have HNL : Hid (([] : List Nat).length + sB.length ≤ 70368744177664) := by show _ ≤ _; have := HSL.out; rw [Hs.out] at this; simp; omega
    have hsz : w.heap.size ≤ w2.heap.size := F2.out.size
    clear h2 f2 r2
    go_wp2_with (at_builtin; refine wpList_append_lays rfl (.tmp 17) (.tmp 23) rfl w.heap.size _ [] rfl (Lays.nil _ _) a2 sB c2 rfl HR2.out HN2.out HNL.out hsz ?_)
    intro v3 w3 o3 g3 _
    have F3 : Hid (Fr (fun _ => False) w w3) := F2.out.grown g3 (fun i hi => by simp [Value.ownBlock] at hi)
    have O3 : Hid (Own w3 w.heap.size v3 sB) := o3
    obtain ⟨a3, c3', hv3, _, _⟩ := o3.row
    subst hv3
    clear o3 g3
    go_wp2
    go_ret
    exact ⟨_, rfl, by rw [HWB.out sB Hs.out.symm, HH.out]; simpa using .inl O3.out, F3.out⟩
end Go.Proofs.YtlcakglmheleeaaDoor
