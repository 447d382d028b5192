/- An image takes a record. -/
import Derived.Test.YtkkpdnholnkeoaaDoorTakeF
namespace Go.Proofs.YtkkpdnholnkeoaaDoor
open Go.RowKit

section
variable {w w1 : World} {mb : Nat} {D : Nat → Prop} {m : Img} {sa : Option Addr} {sc : Nat} {v : Value} {es : List En}
/-- an image that is there, whatever lies where. -/
def ImA (w : World) (mb : Nat) (D : Nat → Prop) (m : Img) : Prop := ∃ sa sc v es, Im w mb D m sa sc v es
theorem Im.len (h : Im w mb D m sa sc v es) : es.length = m.es.length := by rw [← h.eq, List.length_map]
theorem takeE_any (h : Im w mb D m sa sc v es) (x : En) (hxl : x.i < 18446744073709551616) (hlen : es.length < 1000000) (hnew : ∀ k, w.heap.size ≤ k → D k) (hg : EG w D x) (hgv : x.d ≠ [] → ∀ a, x.a = some a → v.ownBlock ≠ some a.block) :
    Calls Tryd.prog 53 #[.pointer (some ⟨mb, 0, none⟩), .agg #[.int .u64 (x.i : Int), .int .u64 (x.t : Int), .int .u8 (x.k : Int), .slice x.a x.d.length x.c]] w fun e w' => e = .returned (.bool (canE m x.i)) ∧ ImA w' mb D (if canE m x.i then putE m x.p else m) ∧ Fr (fun k => k = mb ∨ D k) w w' := by
  have hl := h.len
  by_cases h1 : x.i ≤ m.si
  · have hc : canE m x.i = false := by unfold canE; simp; omega
    rw [hc]
    refine (takeE_low h x h1).mono ?_
    rintro e w' ⟨rfl, f⟩
    exact ⟨rfl, ⟨_, _, _, _, h.fr f (by simp) (by simp)⟩, f.mono (fun _ _ h => h.elim)⟩
  · by_cases h2 : es.length < x.i - m.si - 1
    · have hc : canE m x.i = false := by unfold canE; simp; omega
      rw [hc]
      refine (takeE_high h x (by omega) h2 hxl).mono ?_
      rintro e w' ⟨rfl, f⟩
      exact ⟨rfl, ⟨_, _, _, _, h.fr f (by simp) (by simp)⟩, f.mono (fun _ _ h => h.elim)⟩
    · have hc : canE m x.i = true := by unfold canE; simp; omega
      rw [hc, if_pos rfl]
      refine (takeE_ok h x (by omega) (by omega) hxl hlen hnew hg hgv).mono ?_
      rintro e w' ⟨rfl, ⟨v', hi⟩, f⟩
      exact ⟨rfl, ⟨_, _, _, _, hi⟩, f.mono (fun k _ hk => hk.imp id (fun e => h.own.blk k e))⟩
def TakePost (w : World) (mb : Nat) (D : Nat → Prop) (m : Img) (k : Nat) (q : List Nat) (e : Ending) (w' : World) : Prop :=
  e = .returned (.bool (takeOk m k q)) ∧ ImA w' mb D (if takeOk m k q then takeV m k q else m) ∧ Fr (fun k => k = mb ∨ D k) w w'
theorem TakePost.yes {w w' : World} {k : Nat} {q : List Nat} (h : takeOk m k q = true) (hi : ImA w' mb D (takeV m k q)) (f : Fr (fun k => k = mb ∨ D k) w w') : TakePost w mb D m k q (.returned (.bool true)) w' :=
  ⟨by rw [h], by rw [h, if_pos rfl]; exact hi, f⟩
theorem TakePost.no {w w' : World} {k : Nat} {q : List Nat} (h : takeOk m k q = false) (hi : ImA w' mb D m) (f : Fr (fun k => k = mb ∨ D k) w w') : TakePost w mb D m k q (.returned (.bool false)) w' :=
  ⟨by rw [h], by rw [h]; exact hi, f⟩
theorem TakePost.mk' {w w' : World} {k : Nat} {q : List Nat} {b : Bool} {m' : Img} (h : takeOk m k q = b) (hv : takeV m k q = m') (hi : ImA w' mb D (if b then m' else m)) (f : Fr (fun k => k = mb ∨ D k) w w') : TakePost w mb D m k q (.returned (.bool b)) w' :=
  ⟨by rw [h], by rw [h, hv]; exact hi, f⟩
theorem p8 : (256 : Nat) ^ 8 = 18446744073709551616 := by decide
theorem p2 : (256 : Nat) ^ 2 = 65536 := by decide
theorem p1 : (256 : Nat) ^ 1 = 256 := by decide
set_option maxRecDepth 100000 in
set_option maxHeartbeats 800000 in
theorem take_hard (h : Im w mb D m sa sc v es) (ab : Option Addr) (q : List Nat) (cb : Nat) (hr : Row w ab q cb) (_hnew : ∀ k, w.heap.size ≤ k → D k) :
    Calls Tryd.prog 33 #[.pointer (some ⟨mb, 0, none⟩), .int .u8 1, .slice ab q.length cb] w fun e w' => TakePost w mb D m 1 q e w' := by
  have K0 : Hid (Calls _ _ _ _ _) := read_gen w ab q cb hr
  have HI : Hid (Im w mb D m sa sc v es) := h
  clear h hr
  go_enter Tryd.func33, Tryd.ntmps33
  go_wp2_with fail
  refine K0.out.mono ?_
  rintro e w1 ⟨rfl, h1, f1⟩
  go_wp2_with fail
  refine (rnum_gen (s := ⟨q, false⟩) 8 h1 (by omega)).mono ?_
  rintro e w2 ⟨t, s2, a2, c2, rfl, E2, S2, b2, h2, f2⟩
  have F2 : Hid (Fr (fun _ => False) w w2) := f1.trans' f2 (fun i hi e => by omega)
  have K3 : Hid (Calls _ _ _ _ _) := rnum_gen 2 h2 (by omega)
  clear h1 f1 h2 f2
  go_wp2_with fail
  refine K3.out.mono ?_
  rintro e w3 ⟨n, s3, a3, c3, rfl, E3, S3, b3, h3, f3⟩
  have F3 : Hid (Fr (fun _ => False) w w3) := F2.out.trans' f3 (fun i hi e => by omega)
  have H3 : Hid (Rd w3 w.heap.size a3 s3.l c3 s3.bad) := h3
  rw [p8] at b2
  rw [p2] at b3
  have HA : Hid (Fr (fun _ => False) w3 (w3.alloc (.cells #[.int .u64 (t : Int), .int .i64 ((n : Int) - 1)] 29))) := (Fr.refl _ _).alloc _
  have K4 : Hid (Calls _ _ _ _ _) := end_gen (H3.out.fr HA.out (by simp) (by simp))
  clear h3 f3 K3
  obtain ⟨b, Hb⟩ : ∃ b, Hid (endV s3 = b) := ⟨_, rfl⟩
  have HOK : Hid (takeOk m 1 q = b) := by show _ = _; rw [← Hb.out, S3.out, S2.out]; rfl
  have HV : Hid (takeV m 1 q = { m with tm := t, vo := (n : Int) - 1 }) := by show _ = _; rw [E3.out, S2.out, E2.out]; rfl
  rw [Hb.out] at K4
  clear Hb
  cases b with
  | true =>
    go_wp2_with fail
    refine K4.out.mono ?_
    rintro e w4 ⟨rfl, hw4⟩
    subst w4
    have FA : Hid (Fr (fun _ => False) w _) := F3.out.trans HA.out
    have K5 : Hid (Calls _ _ _ _ _) := takeHard_any (HI.out.fr FA.out (by simp) (by simp)) t ((n : Int) - 1) b2 (by omega)
    go_wp2_with fail
    refine K5.out.mono ?_
    rintro e w5 ⟨rfl, h5, f5⟩
    go_wp2
    go_ret
    exact TakePost.yes HOK.out (by rw [HV.out]; exact ⟨_, _, _, _, h5⟩) ((FA.out.mono (fun _ _ h => h.elim)).trans (f5.mono (fun _ _ h => .inl h)))
  | false =>
    go_wp2_with fail
    refine K4.out.mono ?_
    rintro e w4 ⟨rfl, hw4⟩
    subst w4
    have FA : Hid (Fr (fun _ => False) w _) := F3.out.trans HA.out
    go_wp2
    go_ret
    exact TakePost.no HOK.out ⟨_, _, _, _, HI.out.fr FA.out (by simp) (by simp)⟩ (FA.out.mono (fun _ _ h => h.elim))
set_option maxRecDepth 100000 in
set_option maxHeartbeats 1600000 in
theorem take_entry (h : Im w mb D m sa sc v es) (ab : Option Addr) (q : List Nat) (cb : Nat) (hr : Row w ab q cb) (hnew : ∀ k, w.heap.size ≤ k → D k) (hlen : es.length < 1000000) :
    Calls Tryd.prog 33 #[.pointer (some ⟨mb, 0, none⟩), .int .u8 2, .slice ab q.length cb] w fun e w' => TakePost w mb D m 2 q e w' := by
  have K0 : Hid (Calls _ _ _ _ _) := read_gen w ab q cb hr
  have HI : Hid (Im w mb D m sa sc v es) := h
  have HN : Hid (∀ k, w.heap.size ≤ k → D k) := hnew
  have HLN : Hid (es.length < 1000000) := hlen
  clear h hr hnew hlen
  go_enter Tryd.func33, Tryd.ntmps33
  go_wp2_with fail
  refine K0.out.mono ?_
  rintro e w1 ⟨rfl, h1, f1⟩
  go_wp2_with fail
  refine (rnum_gen (s := ⟨q, false⟩) 8 h1 (by omega)).mono ?_
  rintro e w2 ⟨i, s2, a2, c2, rfl, E2, S2, b2, h2, f2⟩
  have F2 : Hid (Fr (fun _ => False) w w2) := f1.trans' f2 (fun i hi e => by omega)
  have K3 : Hid (Calls _ _ _ _ _) := rnum_gen 8 h2 (by omega)
  rw [p8] at b2
  clear h1 f1 h2 f2
  go_wp2_with fail
  refine K3.out.mono ?_
  rintro e w3 ⟨t, s3, a3, c3, rfl, E3, S3, b3, h3, f3⟩
  have F3 : Hid (Fr (fun _ => False) w w3) := F2.out.trans' f3 (fun i hi e => by omega)
  have K4 : Hid (Calls _ _ _ _ _) := rnum_gen 1 h3 (by omega)
  rw [p8] at b3
  clear h3 f3 K3
  go_wp2_with fail
  refine K4.out.mono ?_
  rintro e w4 ⟨n, s4, a4, c4, rfl, E4, S4, b4, h4, f4⟩
  have F4 : Hid (Fr (fun _ => False) w w4) := F3.out.trans' f4 (fun i hi e => by omega)
  have K5 : Hid (Calls _ _ _ _ _) := bytes_gen maxRec h4 (by decide)
  rw [p1] at b4
  have en : (n : Int) % 256 = (n : Int) := by omega
  clear h4 f4 K4
  go_wp2_with fail
  refine K5.out.mono ?_
  rintro e w5 ⟨a5, d, s5, a6, c6, rfl, hfr, E5, S5, b5, h5, f5⟩
  have F5 : Hid (Fr (fun _ => False) w w5) := F4.out.trans' f5 (fun i hi e => by omega)
  have H5 : Hid (Rd w5 w.heap.size a6 s5.l c6 s5.bad) := h5
  have HFR : Hid (Fresh w4 w5 a5 d) := hfr
  have HA : Hid (Fr (fun _ => False) w5 (w5.alloc (.cells #[.int .u64 (i : Int), .int .u64 (t : Int), .int .u8 (n : Int), .slice a5 d.length d.length] 50))) := (Fr.refl _ _).alloc _
  have K6 : Hid (Calls _ _ _ _ _) := end_gen (H5.out.fr HA.out (by simp) (by simp))
  have HAB : Hid (∀ a, a5 = some a → w.heap.size ≤ a.block) := fun a ha => Nat.le_trans F4.out.size (HFR.out.2 a ha).1
  clear h5 f5 K5 hfr
  obtain ⟨b, Hb⟩ : ∃ b, Hid (endV s5 = b) := ⟨_, rfl⟩
  have HRD : Hid (readE q = ((i, t, n, d), b)) := by show _ = _; rw [← Hb.out, S5.out, E5.out, S4.out, E4.out, S3.out, E3.out, S2.out, E2.out]; rfl
  rw [Hb.out] at K6
  clear Hb
  have FA : Hid (Fr (fun _ => False) w _) := F5.out.trans HA.out
  cases b with
  | false =>
    have HOK : Hid (takeOk m 2 q = false) := by show _ = _; unfold takeOk; simp [HRD.out]
    go_wp2_with fail
    refine K6.out.mono ?_
    rintro e w6 ⟨rfl, hw6⟩
    subst w6
    go_wp2
    go_ret
    exact TakePost.no HOK.out ⟨_, _, _, _, HI.out.fr FA.out (by simp) (by simp)⟩ (FA.out.mono (fun _ _ h => h.elim))
  | true =>
    have HOK : Hid (takeOk m 2 q = canE m i) := by show _ = _; unfold takeOk; simp [HRD.out]
    have HV : Hid (takeV m 2 q = putE m (i, t, n, d)) := by show _ = _; unfold takeV; simp [HRD.out]
    have K7 : Hid (Calls _ _ _ _ _) := takeE_any (x := ⟨i, t, n, d, a5, d.length⟩) (HI.out.fr FA.out (by simp) (by simp)) b2 HLN.out (fun k hk => HN.out k (Nat.le_trans FA.out.size hk)) ⟨b2, b3, b4, HA.out.row HFR.out.1 (by simp), fun _ a ha => HN.out _ (HAB.out a ha)⟩ (fun _ a ha e => by have := HI.out.own.lt _ e; have := HAB.out a ha; omega)
    go_wp2_with fail
    refine K6.out.mono ?_
    rintro e w6 ⟨rfl, hw6⟩
    subst w6
    go_wp2_with fail
    refine K7.out.mono ?_
    rintro e w7 ⟨rfl, h7, f7⟩
    have H7 : Hid _ := h7
    have F7 : Hid (Fr (fun k => k = mb ∨ D k) w w7) := (FA.out.mono (fun _ _ h => h.elim)).trans f7
    clear h7 f7
    go_wp2
    go_ret
    exact TakePost.mk' HOK.out HV.out H7.out F7.out
set_option maxRecDepth 100000 in
set_option maxHeartbeats 1600000 in
theorem take_snap (h : Im w mb D m sa sc v es) (ab : Option Addr) (q : List Nat) (cb : Nat) (hr : Row w ab q cb) (hnew : ∀ k, w.heap.size ≤ k → D k) (_hlen : es.length < 1000000) :
    Calls Tryd.prog 33 #[.pointer (some ⟨mb, 0, none⟩), .int .u8 3, .slice ab q.length cb] w fun e w' => TakePost w mb D m 3 q e w' := by
  have K0 : Hid (Calls _ _ _ _ _) := read_gen w ab q cb hr
  have HI : Hid (Im w mb D m sa sc v es) := h
  have HN : Hid (∀ k, w.heap.size ≤ k → D k) := hnew
  clear h hr hnew
  go_enter Tryd.func33, Tryd.ntmps33
  go_wp2_with fail
  refine K0.out.mono ?_
  rintro e w1 ⟨rfl, h1, f1⟩
  go_wp2_with fail
  refine (rnum_gen (s := ⟨q, false⟩) 8 h1 (by omega)).mono ?_
  rintro e w2 ⟨i, s2, a2, c2, rfl, E2, S2, b2, h2, f2⟩
  have F2 : Hid (Fr (fun _ => False) w w2) := f1.trans' f2 (fun i hi e => by omega)
  have K3 : Hid (Calls _ _ _ _ _) := rnum_gen 8 h2 (by omega)
  rw [p8] at b2
  clear h1 f1 h2 f2
  go_wp2_with fail
  refine K3.out.mono ?_
  rintro e w3 ⟨t, s3, a3, c3, rfl, E3, S3, b3, h3, f3⟩
  have F3 : Hid (Fr (fun _ => False) w w3) := F2.out.trans' f3 (fun i hi e => by omega)
  have K4 : Hid (Calls _ _ _ _ _) := rnum_gen 8 h3 (by omega)
  rw [p8] at b3
  clear h3 f3 K3
  go_wp2_with fail
  refine K4.out.mono ?_
  rintro e w4 ⟨n, s4, a4, c4, rfl, E4, S4, b4, h4, f4⟩
  have F4 : Hid (Fr (fun _ => False) w w4) := F3.out.trans' f4 (fun i hi e => by omega)
  have K5 : Hid (Calls _ _ _ _ _) := bytes_gen maxRec h4 (by decide)
  rw [p8] at b4
  clear h4 f4 K4
  go_wp2_with fail
  refine K5.out.mono ?_
  rintro e w5 ⟨a5, d, s5, a6, c6, rfl, hfr, E5, S5, b5, h5, f5⟩
  have F5 : Hid (Fr (fun _ => False) w w5) := F4.out.trans' f5 (fun i hi e => by omega)
  have H5 : Hid (Rd w5 w.heap.size a6 s5.l c6 s5.bad) := h5
  have HFR : Hid (Fresh w4 w5 a5 d) := hfr
  have HA : Hid (Fr (fun _ => False) w5 (w5.alloc (.cells #[.int .u64 (i : Int), .int .u64 (t : Int), .int .u64 (n : Int), .slice a5 d.length d.length] 31))) := (Fr.refl _ _).alloc _
  have K6 : Hid (Calls _ _ _ _ _) := end_gen (H5.out.fr HA.out (by simp) (by simp))
  have HAB : Hid (∀ a, a5 = some a → w.heap.size ≤ a.block) := fun a ha => Nat.le_trans F4.out.size (HFR.out.2 a ha).1
  clear h5 f5 K5 hfr
  obtain ⟨b, Hb⟩ : ∃ b, Hid (endV s5 = b) := ⟨_, rfl⟩
  have HRD : Hid (readS q = ((i, t, n, d), b)) := by show _ = _; rw [← Hb.out, S5.out, E5.out, S4.out, E4.out, S3.out, E3.out, S2.out, E2.out]; rfl
  rw [Hb.out] at K6
  clear Hb
  have FA : Hid (Fr (fun _ => False) w _) := F5.out.trans HA.out
  cases b with
  | false =>
    have HOK : Hid (takeOk m 3 q = false) := by show _ = _; unfold takeOk; simp [HRD.out]
    go_wp2_with fail
    refine K6.out.mono ?_
    rintro e w6 ⟨rfl, hw6⟩
    subst w6
    go_wp2
    go_ret
    exact TakePost.no HOK.out ⟨_, _, _, _, HI.out.fr FA.out (by simp) (by simp)⟩ (FA.out.mono (fun _ _ h => h.elim))
  | true =>
    have HOK : Hid (takeOk m 3 q = true) := by show _ = _; unfold takeOk; simp [HRD.out]
    have HV : Hid (takeV m 3 q = { m with si := i, st := t, sv := n, sd := d, es := [] }) := by show _ = _; unfold takeV; simp [HRD.out]
    have K7 : Hid (Calls _ _ _ _ _) := takeSnap_any (HI.out.fr FA.out (by simp) (by simp)) i t n a5 d d.length (HA.out.row HFR.out.1 (by simp)) (fun _ a ha => HN.out _ (HAB.out a ha)) b2 b3 b4
    go_wp2_with fail
    refine K6.out.mono ?_
    rintro e w6 ⟨rfl, hw6⟩
    subst w6
    go_wp2_with fail
    refine K7.out.mono ?_
    rintro e w7 ⟨rfl, h7, f7⟩
    have H7 : Hid _ := h7
    have F7 : Hid (Fr (fun k => k = mb ∨ D k) w w7) := (FA.out.mono (fun _ _ h => h.elim)).trans (f7.mono (fun _ _ h => .inl h))
    clear h7 f7
    go_wp2
    go_ret
    exact TakePost.yes HOK.out (by rw [HV.out]; exact ⟨_, _, _, _, H7.out⟩) F7.out
set_option maxHeartbeats 800000 in
theorem take_other (h : Im w mb D m sa sc v es) (k : Nat) (ab : Option Addr) (q : List Nat) (cb : Nat) (hr : Row w ab q cb) (k1 : ¬ k = 1) (k2 : ¬ k = 2) (k3 : ¬ k = 3) :
    Calls Tryd.prog 33 #[.pointer (some ⟨mb, 0, none⟩), .int .u8 (k : Int), .slice ab q.length cb] w fun e w' => TakePost w mb D m k q e w' := by
  have K0 : Hid (Calls _ _ _ _ _) := read_gen w ab q cb hr
  have HI : Hid (Im w mb D m sa sc v es) := h
  have HOK : Hid (takeOk m k q = false) := by show _ = _; unfold takeOk; simp [k1, k2, k3]
  have j1 : ¬ (k : Int) = 1 := by omega
  have j2 : ¬ (k : Int) = 2 := by omega
  have j3 : ¬ (k : Int) = 3 := by omega
  clear h hr
  go_enter Tryd.func33, Tryd.ntmps33
  go_wp2_with fail
  refine K0.out.mono ?_
  rintro e w1 ⟨rfl, h1, f1⟩
  go_wp2
  go_ret
  exact TakePost.no HOK.out ⟨_, _, _, _, HI.out.fr f1 (by simp) (by simp)⟩ (f1.mono (fun _ _ h => h.elim))
theorem take_any (h : ImA w mb D m) (k : Nat) (ab : Option Addr) (q : List Nat) (cb : Nat) (hr : Row w ab q cb) (hnew : ∀ k, w.heap.size ≤ k → D k) (hlen : m.es.length < 1000000) :
    Calls Tryd.prog 33 #[.pointer (some ⟨mb, 0, none⟩), .int .u8 (k : Int), .slice ab q.length cb] w fun e w' => TakePost w mb D m k q e w' := by
  obtain ⟨sa, sc, v, es, h⟩ := h
  have hl := h.len
  by_cases k1 : k = 1
  · subst k1; exact take_hard h ab q cb hr hnew
  · by_cases k2 : k = 2
    · subst k2; exact take_entry h ab q cb hr hnew (by omega)
    · by_cases k3 : k = 3
      · subst k3; exact take_snap h ab q cb hr hnew (by omega)
      · exact take_other h k ab q cb hr k1 k2 k3
end
end Go.Proofs.YtkkpdnholnkeoaaDoor
