/- The document's records of an image. -/
import Derived.Test.YtlcakglmheleeaaDoorWhole
namespace Go.Proofs.YtlcakglmheleeaaDoor
open Go.RowKit

theorem refentry_step (x : En) (w : World) (hr : Row w x.a x.d x.c) (hi64 : x.i < 18446744073709551616) (ht64 : x.t < 18446744073709551616) (hk8 : x.k < 256) (hd : x.d.length ≤ 900000) :
    Calls Tryd.prog 16 #[.agg #[.int .u64 (x.i : Int), .int .u64 (x.t : Int), .int .u8 (x.k : Int), .slice x.a x.d.length x.c]] w fun e w' => ∃ a1 c1 q, e = .returned (.slice a1 (q : List Nat).length c1) ∧ Own w' w.heap.size (.slice a1 q.length c1) q ∧ Hid (q = entB x.p) ∧ Fr (fun _ => False) w w' := by
  refine (refentry_any x.i x.t x.k x.a x.d x.c w hr hi64 ht64 hk8 hd).mono ?_
  rintro e w' ⟨v, rfl, o, f⟩
  obtain ⟨a1, c1, hv, r, _⟩ := o.row
  subst hv
  exact ⟨a1, c1, _, rfl, o, rfl, f⟩
theorem refhard_step (t n : Nat) (vo : Int) (w : World) (ht64 : t < 18446744073709551616) (hn : vo + 1 = (n : Int)) (hn2 : n < 65536) :
    Calls Tryd.prog 15 #[.agg #[.int .u64 (t : Int), .int .i64 vo]] w fun e w' => ∃ a1 c1 q, e = .returned (.slice a1 (q : List Nat).length c1) ∧ Own w' w.heap.size (.slice a1 q.length c1) q ∧ Hid (q = hardB t vo) ∧ Fr (fun _ => False) w w' := by
  refine (refhard_any t n vo w ht64 hn hn2).mono ?_
  rintro e w' ⟨v, rfl, o, f⟩
  obtain ⟨a1, c1, hv, r, _⟩ := o.row
  subst hv
  exact ⟨a1, c1, _, rfl, o, rfl, f⟩
theorem refsnap_step (i t k : Nat) (ao : Option Addr) (d : List Nat) (cap : Nat) (w : World) (hr : Row w ao d cap) (hi64 : i < 18446744073709551616) (ht64 : t < 18446744073709551616) (hk64 : k < 18446744073709551616) (hd : d.length ≤ 900000) :
    Calls Tryd.prog 31 #[.agg #[.int .u64 (i : Int), .int .u64 (t : Int), .int .u64 (k : Int), .slice ao d.length cap]] w fun e w' => ∃ a1 c1 q, e = .returned (.slice a1 (q : List Nat).length c1) ∧ Own w' w.heap.size (.slice a1 q.length c1) q ∧ Hid (q = snapB (i, t, k, d)) ∧ Fr (fun _ => False) w w' := by
  refine (refsnap_any i t k ao d cap w hr hi64 ht64 hk64 hd).mono ?_
  rintro e w' ⟨v, rfl, o, f⟩
  obtain ⟨a1, c1, hv, r, _⟩ := o.row
  subst hv
  exact ⟨a1, c1, _, rfl, o, rfl, f⟩
set_option maxRecDepth 100000 in
set_option maxHeartbeats 1600000 in
theorem refwhole_any (t n si st sv : Nat) (vo : Int) (sa ea : Option Addr) (sd : List Nat) (sc : Nat) (es : List En) (c : Nat) (w : World) (R D : Nat → Prop) (hr : ERow w R D ea es c) (hs : Row w sa sd sc) (ht64 : t < 18446744073709551616) (hn : vo + 1 = (n : Int)) (hn2 : n < 65536)
    (hsi : si < 18446744073709551616) (hst : st < 18446744073709551616) (hsv : sv < 18446744073709551616) (hsd : sd.length ≤ 900000) (hlen : es.length ≤ 100000) (hd : ∀ x ∈ es, x.d.length ≤ 900000) :
    Calls Tryd.prog 19 #[.agg #[.int .u64 (t : Int), .int .i64 vo, .int .u64 (si : Int), .int .u64 (st : Int), .int .u64 (sv : Int), .slice sa sd.length sc, .slice ea es.length c]] w fun e w' => ∃ v, e = .returned v ∧ Own w' w.heap.size v (wholeB ⟨t, vo, si, st, sv, sd, es.map En.p⟩) ∧ Fr (fun _ => False) w w' := by
  obtain ⟨W, HW⟩ : ∃ W, Hid (W = w.alloc (.cells #[.int .u64 (t : Int), .int .i64 vo, .int .u64 (si : Int), .int .u64 (st : Int), .int .u64 (sv : Int), .slice sa sd.length sc, .slice ea es.length c] 34)) := ⟨_, rfl⟩
  have F0 : Hid (Fr (fun _ => False) w W) := by show Fr _ _ _; rw [HW.out]; exact (Fr.refl _ _).alloc _
  obtain ⟨b0, Hb0⟩ : ∃ b0, Hid (w.heap.size = b0) := ⟨_, rfl⟩
  obtain ⟨B, HB⟩ : ∃ B, Hid (B = b0 + 1) := ⟨_, rfl⟩
  have HB0 : Hid (w.heap.size ≤ B) := by show _ ≤ _; rw [HB.out, Hb0.out]; omega
  have HB1 : Hid (b0 < B) := by show _ < _; rw [HB.out]; omega
  have HBS : Hid (B ≤ w.heap.size + 1) := by show _ ≤ _; rw [HB.out, Hb0.out]; omega
  have HBS : Hid (B ≤ W.heap.size) := by show _ ≤ _; rw [HW.out]; simp; exact HBS.out
  have HX : Hid (W.cell? ⟨b0, 0, none⟩ = some (.int .u64 (t : Int)) ∧ W.cell? ⟨b0, 1, none⟩ = some (.int .i64 vo) ∧ W.cell? ⟨b0, 6, none⟩ = some (.slice ea es.length c)) := by rw [HW.out, ← Hb0.out]; exact ⟨by simp, by simp, by simp⟩
  have HR : Hid (ERow w R D ea es c) := hr
  have HS : Hid (Row w sa sd sc) := hs
  have HD : Hid (∀ x ∈ es, x.d.length ≤ 900000) := hd
  have hl := hr.len
  have KH : Hid (∀ w1, Fr (fun _ => False) w w1 → Calls Tryd.prog 15 #[.agg #[.int .u64 (t : Int), .int .i64 vo]] w1 fun e w' => ∃ a1 c1 q, e = .returned (.slice a1 (q : List Nat).length c1) ∧ Own w' w1.heap.size (.slice a1 q.length c1) q ∧ Hid (q = hardB t vo) ∧ Fr (fun _ => False) w1 w') := fun w1 _ => refhard_step t n vo w1 ht64 hn hn2
  have KS : Hid (Calls _ _ _ _ _) := refsnap_step si st sv sa sd sc W (F0.out.row HS.out (by simp)) hsi hst hsv (by omega)
  obtain ⟨PRE, HPR⟩ : ∃ PRE, Hid (PRE = if hasSnap si sv then snapB (si, st, sv, sd) else []) := ⟨_, rfl⟩
  have HWB : Hid (wholeB ⟨t, vo, si, st, sv, sd, es.map En.p⟩ = PRE ++ (hardB t vo ++ recsE (es.map En.p))) := by show _ = _; rw [HPR.out]; rfl
  clear hr hs hd
  by_cases h1 : hasSnap si sv = true
  · have HPS : Hid (PRE = snapB (si, st, sv, sd)) := by show _ = _; rw [HPR.out, h1, if_pos rfl]
    have HPB : Hid ((snapB (si, st, sv, sd)).length ≤ 900037) := by show _ ≤ _; rw [snapB_length]; show sd.length + 37 ≤ _; omega
    have key : (0 < si) ∨ (¬ 0 < si ∧ ¬ sv = 0) := by
      unfold hasSnap at h1
      simp at h1
      omega
    clear h1
    rcases key with k1 | ⟨k1, k2⟩
    all_goals
      go_enter Tryd.func19, Tryd.ntmps19
      go_wp2_with fail
      rw [← HW.out, Hb0.out]
      refine KS.out.mono ?_
      rintro e w0 ⟨a0, c0, q0, rfl, o0, E0, f0⟩
      have F01 : Hid (Fr (fun _ => False) w w0) := F0.out.trans f0
      have FW0 : Hid (Fr (fun _ => False) W w0) := f0
      have HR0 : Hid (Row w0 a0 q0 c0) := by obtain ⟨_, _, he, r, _⟩ := o0.row; cases he; exact r
      have HQ0 : Hid (([] : List Nat).length + q0.length ≤ 140737488355328) := by show _ ≤ _; rw [E0.out]; have := HPB.out; simp; omega
      have hsz0 : B ≤ w0.heap.size := Nat.le_trans HBS.out f0.size
      clear o0 f0
      go_wp2_with (at_builtin; refine wpList_append_bytes rfl (.tmp 15) (.tmp 18) rfl B _ [] rfl (Own.nil _ _) a0 q0 c0 rfl HR0.out HQ0.out hsz0 ?_)
      intro v1 w1 o1 g1 _
      have FG : Hid (Fr (fun _ => False) W w1) := FW0.out.grown g1 (fun i hi => by simp [Value.ownBlock] at hi)
      have F1 : Hid (Fr (fun _ => False) w w1) := F0.out.trans FG.out
      have hx0 := FG.out.cell HX.out.1 (by simp)
      have hx1 := FG.out.cell HX.out.2.1 (by simp)
      have hx := FG.out.cell HX.out.2.2 (by simp)
      obtain ⟨q, Hq⟩ : ∃ q, Hid (q0 = q) := ⟨_, rfl⟩
      rw [Hq.out] at o1
      have HPE : Hid (q = PRE) := by show _ = _; rw [← Hq.out, HPS.out, E0.out]
      have HQL : Hid (q.length ≤ 1000037) := by show _ ≤ _; rw [HPE.out, HPS.out]; have := HPB.out; omega
      obtain ⟨a1, c1, hv1, _, _⟩ := o1.row
      subst hv1
      have L1 : Hid (Own w1 B (.slice a1 q.length c1) q) := o1
      clear o1 g1 hsz0
      go_wp2_with fail
      refine (KH.out w1 F1.out).mono ?_
      rintro e w2 ⟨a2, c2, q2, rfl, o2, E2, f2⟩
      have F2 : Hid (Fr (fun _ => False) w w2) := F1.out.trans f2
      have L2 : Hid (Own w2 B (.slice a1 q.length c1) q) := L1.out.fr f2 (by simp)
      have HR2 : Hid (Row w2 a2 q2 c2) := by obtain ⟨_, _, he, r, _⟩ := o2.row; cases he; exact r
      have HQ2 : Hid (q2.length ≤ 19) := by show _ ≤ _; rw [E2.out, hardB_length]; omega
      have HNL : Hid ((q : List Nat).length + q2.length ≤ 140737488355328) := by show _ ≤ _; have := HQ2.out; have := HQL.out; omega
      have hsz : B ≤ w2.heap.size := Nat.le_trans (Nat.le_trans HBS.out FG.out.size) f2.size
      have hx2 := f2.cell hx (by simp)
      have HSZ : Hid (B ≤ w2.heap.size) := hsz
      have HX22 : Hid (w2.cell? ⟨b0, 6, none⟩ = some (.slice ea es.length c)) := hx2
      clear o2 f2 hx hx0 hx1
      go_wp2_with (at_builtin; refine wpList_append_bytes rfl (.tmp 20) (.tmp 23) rfl B _ q rfl L2.out a2 q2 c2 rfl HR2.out HNL.out hsz ?_)
      intro v3 w3 o3 g3 _
      have F3 : Hid (Fr (fun _ => False) w w3) := F2.out.grown g3 (fun i hi => .inr (by have := (L2.out.lt i hi).1; have := HB0.out; omega))
      have HX33 : Hid (w3.cell? ⟨b0, 6, none⟩ = some (.slice ea es.length c)) := g3.cell HX22.out (fun e => by have := (L2.out.lt b0 e.symm).1; have := HB1.out; omega)
      obtain ⟨l3, Hl3⟩ : ∃ l3, Hid (q ++ q2 = l3) := ⟨_, rfl⟩
      rw [Hl3.out] at o3
      have HL3 : Hid (l3.length ≤ 1000056) := by show _ ≤ _; rw [← Hl3.out, List.length_append]; have := HQ2.out; have := HQL.out; omega
      have HE3 : Hid (l3 = PRE ++ hardB t vo) := by show _ = _; rw [← Hl3.out, E2.out, HPE.out]
      have O3 : Hid (Own w3 B v3 l3) := o3
      obtain ⟨a3, c3, hv3, _, _⟩ := o3.row
      subst hv3
      have HS3 : Hid (B ≤ w3.heap.size) := Nat.le_trans HSZ.out g3.size
      clear o3 g3 hx2 hsz
      go_wp2
      go_loopw [3, 4] (fun pv iv wr => ∃ (k : Nat) (v : Value) (l : List Nat), k ≤ es.length ∧ iv = .int .i64 (k : Int) ∧ pv = v ∧ Own wr B v l ∧ Hid (l = PRE ++ hardB t vo ++ recsE ((es.take k).map En.p)) ∧ Hid (l.length ≤ 1000056 + k * 1000030) ∧ Hid (Fr (fun _ => False) w wr) ∧ wr.cell? ⟨b0, 6, none⟩ = some (.slice ea es.length c) ∧ Hid (B ≤ wr.heap.size)) (fun _ iv _ => es.length - (intOf iv).toNat)
      case atStart => exact ⟨0, _, l3, Nat.zero_le _, rfl, rfl, O3.out, by show _ = _; rw [HE3.out]; simp [recsE], by show _ ≤ _; have := HL3.out; omega, F3.out, HX33.out, HS3.out⟩
      case round =>
        obtain ⟨k, v, l, hk, rfl, rfl, hv, HLL, HLN, HF, hx, HBW⟩ := hrel
        obtain ⟨av, cv, hvv, hrv, _⟩ := hv.row
        subst hvv
        have HV : Hid (Own wr B (.slice av l.length cv) l) := hv
        have HXR : Hid _ := hx
        clear hv hrv
        by_cases hlt : k < es.length
        · obtain ⟨b, off, x, rfl, _, c0, c1, c2, c3, gx, Hx⟩ := (HR.out.fr HF.out (by simp) (by simp)).at hlt
          have hxd : x.d.length ≤ 900000 := HD.out x (by rw [Hx.out, List.getD_eq_getElem?_getD, List.getElem?_eq_getElem hlt]; exact List.getElem_mem _)
          have i1 : (0 : Int) ≤ (k : Int) := by omega
          have i2 : (k : Int) < (es.length : Int) := by omega
          have K : Hid (Calls _ _ _ _ _) := refentry_step x wr gx.row gx.i gx.t gx.k (by omega)
          clear gx
          go_wp2_with fail
          refine K.out.mono ?_
          rintro e w4 ⟨a4, c4, q4, rfl, o4, E4, f4⟩
          have F4 : Hid (Fr (fun _ => False) w w4) := HF.out.trans f4
          have HV4 : Hid (Own w4 B (.slice av l.length cv) l) := HV.out.fr f4 (by simp)
          have HR4 : Hid (Row w4 a4 q4 c4) := by obtain ⟨_, _, he, r, _⟩ := o4.row; cases he; exact r
          have HQ4 : Hid (q4.length = x.d.length + 30) := by show _ = _; rw [E4.out, entB_length]; rfl
          have HNL4 : Hid (l.length + q4.length ≤ 140737488355328) := by show _ ≤ _; rw [HQ4.out]; have := HLN.out; omega
          have hsz : B ≤ w4.heap.size := Nat.le_trans HBW.out f4.size
          have HX4 : Hid (w4.cell? ⟨b0, 6, none⟩ = some (.slice _ es.length c)) := f4.cell HXR.out (by simp)
          clear o4 f4 K hx
          go_wp2_with (at_builtin; refine wpList_append_bytes rfl (.tmp 32) (.tmp 38) rfl B _ l rfl HV4.out a4 q4 c4 rfl HR4.out HNL4.out hsz ?_)
          intro v5 w5 o5 g5 _
          have F5 : Hid (Fr (fun _ => False) w w5) := F4.out.grown g5 (fun i hi => .inr (by have := (HV4.out.lt i hi).1; have := HB0.out; omega))
          have HX5 : Hid (w5.cell? ⟨b0, 6, none⟩ = some (.slice _ es.length c)) := g5.cell HX4.out (fun e => by have := (HV4.out.lt b0 e.symm).1; have := HB1.out; omega)
          have HS5 : Hid (B ≤ w5.heap.size) := Nat.le_trans hsz g5.size
          obtain ⟨l5, Hl5⟩ : ∃ l5, Hid (l ++ q4 = l5) := ⟨_, rfl⟩
          rw [Hl5.out] at o5
          have O5 : Hid (Own w5 B v5 l5) := o5
          obtain ⟨a5, c5', hv5, _, _⟩ := o5.row
          subst hv5
          clear o5 g5 hsz
          go_wp2
          go_roundw
          case rel => exact ⟨k + 1, _, l5, by omega, by go_num, rfl, O5.out, by show _ = _; rw [← Hl5.out, recsE_succ es k hlt, HLL.out, E4.out, Hx.out]; simp [List.append_assoc], by show _ ≤ _; rw [← Hl5.out, List.length_append, HQ4.out]; have := HLN.out; omega, F5.out, HX5.out, HS5.out⟩
          case measure => simp [intOf]; omega
        · have i2 : ¬ (k : Int) < (es.length : Int) := by omega
          have HEQ : Hid (l = PRE ++ hardB t vo ++ recsE (es.map En.p)) := by show _ = _; rw [HLL.out, List.take_of_length_le (by omega)]
          go_wp2
          go_ret
          exact ⟨_, rfl, by rw [show wholeB ⟨t, vo, si, st, sv, sd, es.map En.p⟩ = l by rw [HEQ.out, HWB.out, List.append_assoc]]; exact HV.out.rebase HB0.out, HF.out⟩
  · have HPS : Hid (PRE = []) := by show _ = _; rw [HPR.out, if_neg h1]
    have k1 : ¬ 0 < si := by intro h; apply h1; simp [hasSnap, h]
    have k2 : sv = 0 := by
      by_cases h : sv = 0
      · exact h
      · exact absurd (by simp [hasSnap, h]) h1
    have k1' : si = 0 := by omega
    clear h1 k1 KS
    subst k2 k1'
    have HW0 := HW.out
    rw [show ((0 : Nat) : Int) = 0 from rfl] at HW0
    have HW1 : Hid _ := HW0
    have hx0 := HX.out.1
    have hx1 := HX.out.2.1
    have hx := HX.out.2.2
    have F1 := F0
    have HPE : Hid ([] = PRE) := by show _ = _; rw [HPS.out]
    have HQL : Hid (([] : List Nat).length ≤ 1000037) := by show _ ≤ _; simp
    have L1 : Hid (Own W B (.slice none 0 0) []) := Own.nil _ _
    clear HW0 HW
    go_enter Tryd.func19, Tryd.ntmps19
    go_wp2_with fail
    rw [← HW1.out, Hb0.out]
    refine (KH.out W F1.out).mono ?_
    rintro e w2 ⟨a2, c2, q2, rfl, o2, E2, f2⟩
    have F2 : Hid (Fr (fun _ => False) w w2) := F1.out.trans f2
    have L2 : Hid (Own w2 B (.slice none 0 0) []) := L1.out.fr f2 (by simp)
    have HR2 : Hid (Row w2 a2 q2 c2) := by obtain ⟨_, _, he, r, _⟩ := o2.row; cases he; exact r
    have HQ2 : Hid (q2.length ≤ 19) := by show _ ≤ _; rw [E2.out, hardB_length]; omega
    have HNL : Hid (([] : List Nat).length + q2.length ≤ 140737488355328) := by show _ ≤ _; have := HQ2.out; have := HQL.out; omega
    have hsz : B ≤ w2.heap.size := Nat.le_trans HBS.out f2.size
    have hx2 := f2.cell hx (by simp)
    have HSZ : Hid (B ≤ w2.heap.size) := hsz
    have HX22 : Hid (w2.cell? ⟨b0, 6, none⟩ = some (.slice ea es.length c)) := hx2
    clear o2 f2 hx hx0 hx1
    go_wp2_with (at_builtin; refine wpList_append_bytes rfl (.tmp 20) (.tmp 23) rfl B _ [] rfl L2.out a2 q2 c2 rfl HR2.out HNL.out hsz ?_)
    intro v3 w3 o3 g3 _
    have F3 : Hid (Fr (fun _ => False) w w3) := F2.out.grown g3 (fun i hi => .inr (by have := (L2.out.lt i hi).1; have := HB0.out; omega))
    have HX33 : Hid (w3.cell? ⟨b0, 6, none⟩ = some (.slice ea es.length c)) := g3.cell HX22.out (fun e => by have := (L2.out.lt b0 e.symm).1; have := HB1.out; omega)
    obtain ⟨l3, Hl3⟩ : ∃ l3, Hid (q2 = l3) := ⟨_, rfl⟩
    rw [Hl3.out] at o3
    have HL3 : Hid (l3.length ≤ 1000056) := by show _ ≤ _; rw [← Hl3.out]; have := HQ2.out; have := HQL.out; omega
    have HE3 : Hid (l3 = PRE ++ hardB t vo) := by show _ = _; rw [← Hl3.out, E2.out, ← HPE.out, List.nil_append]
    have O3 : Hid (Own w3 B v3 l3) := o3
    obtain ⟨a3, c3, hv3, _, _⟩ := o3.row
    subst hv3
    have HS3 : Hid (B ≤ w3.heap.size) := Nat.le_trans HSZ.out g3.size
    clear o3 g3 hx2 hsz
    go_wp2
    go_loopw [3, 4] (fun pv iv wr => ∃ (k : Nat) (v : Value) (l : List Nat), k ≤ es.length ∧ iv = .int .i64 (k : Int) ∧ pv = v ∧ Own wr B v l ∧ Hid (l = PRE ++ hardB t vo ++ recsE ((es.take k).map En.p)) ∧ Hid (l.length ≤ 1000056 + k * 1000030) ∧ Hid (Fr (fun _ => False) w wr) ∧ wr.cell? ⟨b0, 6, none⟩ = some (.slice ea es.length c) ∧ Hid (B ≤ wr.heap.size)) (fun _ iv _ => es.length - (intOf iv).toNat)
    case atStart => exact ⟨0, _, l3, Nat.zero_le _, rfl, rfl, O3.out, by show _ = _; rw [HE3.out]; simp [recsE], by show _ ≤ _; have := HL3.out; omega, F3.out, HX33.out, HS3.out⟩
    case round =>
      obtain ⟨k, v, l, hk, rfl, rfl, hv, HLL, HLN, HF, hx, HBW⟩ := hrel
      obtain ⟨av, cv, hvv, hrv, _⟩ := hv.row
      subst hvv
      have HV : Hid (Own wr B (.slice av l.length cv) l) := hv
      have HXR : Hid _ := hx
      clear hv hrv
      by_cases hlt : k < es.length
      · obtain ⟨b, off, x, rfl, _, c0, c1, c2, c3, gx, Hx⟩ := (HR.out.fr HF.out (by simp) (by simp)).at hlt
        have hxd : x.d.length ≤ 900000 := HD.out x (by rw [Hx.out, List.getD_eq_getElem?_getD, List.getElem?_eq_getElem hlt]; exact List.getElem_mem _)
        have i1 : (0 : Int) ≤ (k : Int) := by omega
        have i2 : (k : Int) < (es.length : Int) := by omega
        have K : Hid (Calls _ _ _ _ _) := refentry_step x wr gx.row gx.i gx.t gx.k (by omega)
        clear gx
        go_wp2_with fail
        refine K.out.mono ?_
        rintro e w4 ⟨a4, c4, q4, rfl, o4, E4, f4⟩
        have F4 : Hid (Fr (fun _ => False) w w4) := HF.out.trans f4
        have HV4 : Hid (Own w4 B (.slice av l.length cv) l) := HV.out.fr f4 (by simp)
        have HR4 : Hid (Row w4 a4 q4 c4) := by obtain ⟨_, _, he, r, _⟩ := o4.row; cases he; exact r
        have HQ4 : Hid (q4.length = x.d.length + 30) := by show _ = _; rw [E4.out, entB_length]; rfl
        have HNL4 : Hid (l.length + q4.length ≤ 140737488355328) := by show _ ≤ _; rw [HQ4.out]; have := HLN.out; omega
        have hsz : B ≤ w4.heap.size := Nat.le_trans HBW.out f4.size
        have HX4 : Hid (w4.cell? ⟨b0, 6, none⟩ = some (.slice _ es.length c)) := f4.cell HXR.out (by simp)
        clear o4 f4 K hx
        go_wp2_with (at_builtin; refine wpList_append_bytes rfl (.tmp 32) (.tmp 38) rfl B _ l rfl HV4.out a4 q4 c4 rfl HR4.out HNL4.out hsz ?_)
        intro v5 w5 o5 g5 _
        have F5 : Hid (Fr (fun _ => False) w w5) := F4.out.grown g5 (fun i hi => .inr (by have := (HV4.out.lt i hi).1; have := HB0.out; omega))
        have HX5 : Hid (w5.cell? ⟨b0, 6, none⟩ = some (.slice _ es.length c)) := g5.cell HX4.out (fun e => by have := (HV4.out.lt b0 e.symm).1; have := HB1.out; omega)
        have HS5 : Hid (B ≤ w5.heap.size) := Nat.le_trans hsz g5.size
        obtain ⟨l5, Hl5⟩ : ∃ l5, Hid (l ++ q4 = l5) := ⟨_, rfl⟩
        rw [Hl5.out] at o5
        have O5 : Hid (Own w5 B v5 l5) := o5
        obtain ⟨a5, c5', hv5, _, _⟩ := o5.row
        subst hv5
        clear o5 g5 hsz
        go_wp2
        go_roundw
        case rel => exact ⟨k + 1, _, l5, by omega, by go_num, rfl, O5.out, by show _ = _; rw [← Hl5.out, recsE_succ es k hlt, HLL.out, E4.out, Hx.out]; simp [List.append_assoc], by show _ ≤ _; rw [← Hl5.out, List.length_append, HQ4.out]; have := HLN.out; omega, F5.out, HX5.out, HS5.out⟩
        case measure => simp [intOf]; omega
      · have i2 : ¬ (k : Int) < (es.length : Int) := by omega
        have HEQ : Hid (l = PRE ++ hardB t vo ++ recsE (es.map En.p)) := by show _ = _; rw [HLL.out, List.take_of_length_le (by omega)]
        go_wp2
        go_ret
        exact ⟨_, rfl, by rw [show wholeB ⟨t, vo, 0, st, 0, sd, es.map En.p⟩ = l by rw [HEQ.out, HWB.out, List.append_assoc]]; exact HV.out.rebase HB0.out, HF.out⟩
end Go.Proofs.YtlcakglmheleeaaDoor
