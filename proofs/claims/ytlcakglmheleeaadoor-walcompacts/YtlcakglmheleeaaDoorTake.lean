/- An image takes a record. -/
import Derived.Test.YtlcakglmheleeaaDoorTakeF
namespace Go.Proofs.YtlcakglmheleeaaDoor
open Go.RowKit

section
variable {w w1 : World} {mb : Nat} {D : Nat → Prop} {m : Img} {sa : Option Addr} {sc : Nat} {v : Value} {es : List En}
/-- an image that is there, whatever lies where. -/
def ImA (w : World) (mb : Nat) (D : Nat → Prop) (m : Img) : Prop := ∃ sa sc v es, Im w mb D m sa sc v es
theorem Im.len (h : Im w mb D m sa sc v es) : es.length = m.es.length := by rw [← h.eq, List.length_map]
theorem takeE_any (h : Im w mb D m sa sc v es) (x : En) (hxl : x.i < 18446744073709551616) (hlen : es.length < 1000000) (hnew : ∀ k, w.heap.size ≤ k → D k) (hg : EG w D x) (hgv : x.d ≠ [] → ∀ a, x.a = some a → v.ownBlock ≠ some a.block) :
    Calls Tryd.prog 53 #[.pointer (some ⟨mb, 0, none⟩), .agg #[.int .u64 (x.i : Int), .int .u64 (x.t : Int), .int .u8 (x.k : Int), .slice x.a x.d.length x.c]] w fun e w' => e = .returned (.bool (canE m x.i)) ∧ ImA w' mb D (if canE m x.i then putE m x.p else m) ∧ Fr (fun k => k = mb ∨ D k) w w' := by
  have hl := h.len
  by_cases h1 : x.i ≤ m.si
  · have hc : canE m x.i = false := by unfold canE; simp; omega
    rw [hc]
    refine (takeE_low h x h1).mono ?_
    rintro e w' ⟨rfl, f⟩
    exact ⟨rfl, ⟨_, _, _, _, h.fr f (by simp) (by simp)⟩, f.mono (fun _ _ h => h.elim)⟩
  · by_cases h2 : es.length < x.i - m.si - 1
    · have hc : canE m x.i = false := by unfold canE; simp; omega
      rw [hc]
      refine (takeE_high h x (by omega) h2 hxl).mono ?_
      rintro e w' ⟨rfl, f⟩
      exact ⟨rfl, ⟨_, _, _, _, h.fr f (by simp) (by simp)⟩, f.mono (fun _ _ h => h.elim)⟩
    · have hc : canE m x.i = true := by unfold canE; simp; omega
      rw [hc, if_pos rfl]
      refine (takeE_ok h x (by omega) (by omega) hxl hlen hnew hg hgv).mono ?_
      rintro e w' ⟨rfl, ⟨v', hi⟩, f⟩
      exact ⟨rfl, ⟨_, _, _, _, hi⟩, f.mono (fun k _ hk => hk.imp id (fun e => h.own.blk k e))⟩
def TakePost (w : World) (mb : Nat) (D : Nat → Prop) (m : Img) (k : Nat) (q : List Nat) (e : Ending) (w' : World) : Prop :=
  e = .returned (.bool (takeOk m k q)) ∧ ImA w' mb D (if takeOk m k q then takeV m k q else m) ∧ Fr (fun k => k = mb ∨ D k) w w'
theorem TakePost.yes {w w' : World} {k : Nat} {q : List Nat} (h : takeOk m k q = true) (hi : ImA w' mb D (takeV m k q)) (f : Fr (fun k => k = mb ∨ D k) w w') : TakePost w mb D m k q (.returned (.bool true)) w' :=
  ⟨by rw [h], by rw [h, if_pos rfl]; exact hi, f⟩
theorem TakePost.no {w w' : World} {k : Nat} {q : List Nat} (h : takeOk m k q = false) (hi : ImA w' mb D m) (f : Fr (fun k => k = mb ∨ D k) w w') : TakePost w mb D m k q (.returned (.bool false)) w' :=
  ⟨by rw [h], by rw [h]; exact hi, f⟩
theorem TakePost.mk' {w w' : World} {k : Nat} {q : List Nat} {b : Bool} {m' : Img} (h : takeOk m k q = b) (hv : takeV m k q = m') (hi : ImA w' mb D (if b then m' else m)) (f : Fr (fun k => k = mb ∨ D k) w w') : TakePost w mb D m k q (.returned (.bool b)) w' :=
  ⟨by rw [h], by rw [h, hv]; exact hi, f⟩
theorem p8 : (256 : Nat) ^ 8 = 18446744073709551616 := by decide
theorem p2 : (256 : Nat) ^ 2 = 65536 := by decide
theorem p1 : (256 : Nat) ^ 1 = 256 := by decide
set_option maxRecDepth 100000 in
set_option maxHeartbeats 800000 in
theorem take_hard (h : Im w mb D m sa sc v es) (ab : Option Addr) (q : List Nat) (cb : Nat) (hr : Row w ab q cb) (_hnew : ∀ k, w.heap.size ≤ k → D k) :
    Calls Tryd.prog 33 #[.pointer (some ⟨mb, 0, none⟩), .int .u8 1, .slice ab q.length cb] w fun e w' => TakePost w mb D m 1 q e w' := by
  have K0 : Hid (Calls _ _ _ _ _) := read_gen w ab q cb hr
  have HI : Hid (Im w mb D m sa sc v es) := h
  clear h hr
  go_enter Tryd.func33, Tryd.ntmps33
  go_wp2_with fail
  refine K0.out.mono ?_
  rintro e w1 ⟨rfl, h1, f1⟩
  go_wp2_with fail
  refine (rnum_gen (s := ⟨q, false⟩) 8 h1 (by omega)).mono ?_
  rintro e w2 ⟨t, s2, a2, c2, rfl, E2, S2, b2, h2, f2⟩
  have F2 : Hid (Fr (fun _ => False) w w2) := f1.trans' f2 (fun i hi e => by omega)
  have K3 : Hid (Calls _ _ _ _ _) := rnum_gen 2 h2 (by omega)
  clear h1 f1 h2 f2
  go_wp2_with fail
  refine K3.out.mono ?_
  rintro e w3 ⟨n, s3, a3, c3, rfl, E3, S3, b3, h3, f3⟩
  have F3 : Hid (Fr (fun _ => False) w w3) := F2.out.trans' f3 (fun i hi e => by omega)
  have H3 : Hid (Rd w3 w.heap.size a3 s3.l c3 s3.bad) := h3
  rw [p8] at b2
  rw [p2] at b3
  have HA : Hid (Fr (fun _ => False) w3 (w3.alloc (.cells #[.int .u64 (t : Int), .int .i64 ((n : Int) - 1)] 29))) := (Fr.refl _ _).alloc _
  have K4 : Hid (Calls _ _ _ _ _) := end_gen (H3.out.fr HA.out (by simp) (by simp))
  clear h3 f3 K3
  obtain ⟨b, Hb⟩ : ∃ b, Hid (endV s3 = b) := ⟨_, rfl⟩
  have HOK : Hid (takeOk m 1 q = b) := by show _ = _; rw [← Hb.out, S3.out, S2.out]; rfl
  have HV : Hid (takeV m 1 q = { m with tm := t, vo := (n : Int) - 1 }) := by show _ = _; rw [E3.out, S2.out, E2.out]; rfl
  rw [Hb.out] at K4
  clear Hb
  cases b with
  | true =>
    go_wp2_with fail
    refine K4.out.mono ?_
    rintro e w4 ⟨rfl, hw4⟩
    subst w4
    have FA : Hid (Fr (fun _ => False) w _) := F3.out.trans HA.out
    have K5 : Hid (Calls _ _ _ _ _) := takeHard_any (HI.out.fr FA.out (by simp) (by simp)) t ((n : Int) - 1) b2 (by omega)
    go_wp2_with fail
    refine K5.out.mono ?_
    rintro e w5 ⟨rfl, h5, f5⟩
    go_wp2
    go_ret
    exact TakePost.yes HOK.out (by rw [HV.out]; exact ⟨_, _, _, _, h5⟩) ((FA.out.mono (fun _ _ h => h.elim)).trans (f5.mono (fun _ _ h => .inl h)))
  | false =>
    go_wp2_with fail
    refine K4.out.mono ?_
    rintro e w4 ⟨rfl, hw4⟩
    subst w4
    have FA : Hid (Fr (fun _ => False) w _) := F3.out.trans HA.out
    go_wp2
    go_ret
    exact TakePost.no HOK.out ⟨_, _, _, _, HI.out.fr FA.out (by simp) (by simp)⟩ (FA.out.mono (fun _ _ h => h.elim))
theorem end_c (w : World) (rb : Nat) (s : Rs) (ao : Option Addr) (cap : Nat) (hc0 : w.cell? ⟨rb, 0, none⟩ = some (.slice ao s.l.length cap)) (hc1 : w.cell? ⟨rb, 1, none⟩ = some (.bool s.bad)) : Calls Tryd.prog 50 #[.pointer (some ⟨rb, 0, none⟩)] w fun e w' => e = .returned (.bool (endV s)) ∧ w' = w := by
  obtain ⟨l, bad⟩ := s
  show Calls Tryd.prog 50 #[.pointer (some ⟨rb, 0, none⟩)] w fun e w' => e = .returned (.bool (!bad && ((l.length : Int) == 0))) ∧ w' = w
  simp only at hc0 hc1
  cases bad
  · go_enter Tryd.func50, Tryd.ntmps50
    go_wp2_with fail
    refine (bad_any w rb false hc1).mono ?_
    rintro e w1 ⟨rfl, hw1⟩
    subst w1
    go_wp2_with fail
    refine (left_any w rb _ ao l.length cap hc0 rfl).mono ?_
    rintro e w1 ⟨rfl, hw1⟩
    subst w1
    go_wp2
    go_ret
    exact ⟨rfl, rfl⟩
  · go_enter Tryd.func50, Tryd.ntmps50
    go_wp2_with fail
    refine (bad_any w rb true hc1).mono ?_
    rintro e w1 ⟨rfl, hw1⟩
    subst w1
    go_wp2
    go_ret
    exact ⟨rfl, rfl⟩
theorem cells_four (W : World) (b : Nat) (v0 v1 v2 v3 : Value) (h : ∀ i, i < 4 → (W.cell? ⟨b, i, none⟩).isSome = true) :
    ((((((W.setCell ⟨b, 0, none⟩ v0).setCell ⟨b, 1, none⟩ v1).setCell ⟨b, 2, none⟩ v2).setCell ⟨b, 3, none⟩ v3).cell? ⟨b, 0, none⟩ = some v0 ∧
     (((((W.setCell ⟨b, 0, none⟩ v0).setCell ⟨b, 1, none⟩ v1).setCell ⟨b, 2, none⟩ v2).setCell ⟨b, 3, none⟩ v3)).cell? ⟨b, 1, none⟩ = some v1 ∧
     (((((W.setCell ⟨b, 0, none⟩ v0).setCell ⟨b, 1, none⟩ v1).setCell ⟨b, 2, none⟩ v2).setCell ⟨b, 3, none⟩ v3)).cell? ⟨b, 2, none⟩ = some v2 ∧
     (((((W.setCell ⟨b, 0, none⟩ v0).setCell ⟨b, 1, none⟩ v1).setCell ⟨b, 2, none⟩ v2).setCell ⟨b, 3, none⟩ v3)).cell? ⟨b, 3, none⟩ = some v3)) ∧
    Fr (fun k => k = b) W ((((W.setCell ⟨b, 0, none⟩ v0).setCell ⟨b, 1, none⟩ v1).setCell ⟨b, 2, none⟩ v2).setCell ⟨b, 3, none⟩ v3) := by
  obtain ⟨u0, h0⟩ := Option.isSome_iff_exists.1 (h 0 (by omega))
  obtain ⟨u1, h1⟩ := Option.isSome_iff_exists.1 (h 1 (by omega))
  obtain ⟨u2, h2⟩ := Option.isSome_iff_exists.1 (h 2 (by omega))
  obtain ⟨u3, h3⟩ := Option.isSome_iff_exists.1 (h 3 (by omega))
  have o {W : World} {p q : Addr} {u v : Value} (hne : p ≠ q) (hc : W.cell? p = some u) : (W.setCell q v).cell? p = some u := (World.cell?_setCell_other _ _ _ _ (Ne.symm hne)).trans hc
  have e1 := o (p := ⟨b, 1, none⟩) (q := ⟨b, 0, none⟩) (v := v0) (by simp) h1
  have e2 := o (p := ⟨b, 2, none⟩) (q := ⟨b, 1, none⟩) (v := v1) (by simp) (o (q := ⟨b, 0, none⟩) (v := v0) (by simp) h2)
  have e3 := o (p := ⟨b, 3, none⟩) (q := ⟨b, 2, none⟩) (v := v2) (by simp) (o (q := ⟨b, 1, none⟩) (v := v1) (by simp) (o (q := ⟨b, 0, none⟩) (v := v0) (by simp) h3))
  refine ⟨⟨?_, ?_, ?_, ?_⟩, ?_⟩
  · exact o (by simp) (o (by simp) (o (by simp) (World.cell?_setCell_same _ _ _ h0)))
  · exact o (by simp) (o (by simp) (World.cell?_setCell_same _ _ _ e1))
  · exact o (by simp) (World.cell?_setCell_same _ _ _ e2)
  · exact World.cell?_setCell_same _ _ _ e3
  · exact ((((Fr.refl (fun k => k = b) W).setCell (p := ⟨b, 0, none⟩) (Or.inl rfl) _).setCell (p := ⟨b, 1, none⟩) (Or.inl rfl) _).setCell (p := ⟨b, 2, none⟩) (Or.inl rfl) _).setCell (p := ⟨b, 3, none⟩) (Or.inl rfl) _
set_option maxRecDepth 100000 in
set_option maxHeartbeats 4000000 in
theorem readent_gen {w : World} {rb : Nat} {ao : Option Addr} {cap : Nat} {s : Rs} (m : Nat) (h : Rd w rb ao s.l cap s.bad) (hm : m ≤ 140737488355328) :
    Calls Tryd.prog 52 #[.pointer (some ⟨rb, 0, none⟩), .int .i64 (m : Int)] w fun e w' => ∃ (i t n : Nat) (a5 : Option Addr) (d : List Nat) (s5 : Rs) (a6 : Option Addr) (c6 : Nat), e = .returned (.agg #[.int .u64 (i : Int), .int .u64 (t : Int), .int .u8 (n : Int), .slice a5 d.length d.length]) ∧ Hid (s5 = bytS (numS (numS (numS s 8) 8) 1) m) ∧ Hid (s5.bad = false → i = numV s 8 ∧ t = numV (numS s 8) 8 ∧ n = numV (numS (numS s 8) 8) 1 ∧ d = bytV (numS (numS (numS s 8) 8) 1) m) ∧ i < 18446744073709551616 ∧ t < 18446744073709551616 ∧ n < 256 ∧ Fresh w w' a5 d ∧ (w'.cell? ⟨rb, 0, none⟩ = some (.slice a6 s5.l.length c6) ∧ w'.cell? ⟨rb, 1, none⟩ = some (.bool s5.bad)) ∧ Fr (fun k => k = rb) w w' := by
  have HL : Hid (rb < w.heap.size) := h.lt
  have FA : Hid (Fr (fun _ => False) w (w.alloc (.cells #[.int .u64 0, .int .u64 0, .int .u8 0, .slice none 0 0] 50))) := (Fr.refl _ w).alloc _
  have HB0 : Hid (∀ i, i < 4 → ∃ u, (w.alloc (.cells #[.int .u64 0, .int .u64 0, .int .u8 0, .slice none 0 0] 50)).cell? ⟨w.heap.size, i, none⟩ = some u ∧ (w.alloc (.cells #[.int .u64 0, .int .u64 0, .int .u8 0, .slice none 0 0] 50)).frozen? ⟨w.heap.size, i, none⟩ = false) := by
    intro i hi
    match i, hi with
    | 0, _ | 1, _ | 2, _ | 3, _ => exact ⟨_, by simp; rfl, by simp⟩
  have K0 : Hid (Calls _ _ _ _ _) := rnum_gen 8 (h.fr FA.out (by simp) (by simp)) (by omega)
  obtain ⟨WA, HWA⟩ : ∃ W, Hid ((w.alloc (.cells #[.int .u64 0, .int .u64 0, .int .u8 0, .slice none 0 0] 50)) = W) := ⟨_, rfl⟩
  have HZA : Hid (w.heap.size < WA.heap.size) := (show _ < _ by rw [← HWA.out]; simp)
  rw [HWA.out] at FA HB0 K0
  clear h
  go_enter Tryd.func52, Tryd.ntmps52
  go_wp2_with fail
  rw [HWA.out]
  refine K0.out.mono ?_
  rintro e w2 ⟨i, s2, a2, c2, rfl, E2, S2, b2, h2, f2⟩
  have F2 : Hid (Fr (fun k => k = rb) WA w2) := f2
  have K3 : Hid (Calls _ _ _ _ _) := rnum_gen 8 h2 (by omega)
  rw [p8] at b2
  clear h2 f2 K0
  go_wp2_with fail
  refine K3.out.mono ?_
  rintro e w3 ⟨t, s3, a3, c3, rfl, E3, S3, b3, h3, f3⟩
  have F3 : Hid (Fr (fun k => k = rb) WA w3) := F2.out.trans f3
  have K4 : Hid (Calls _ _ _ _ _) := rnum_gen 1 h3 (by omega)
  rw [p8] at b3
  clear h3 f3 K3
  go_wp2_with fail
  refine K4.out.mono ?_
  rintro e w4 ⟨n, s4, a4, c4, rfl, E4, S4, b4, h4, f4⟩
  have F4 : Hid (Fr (fun k => k = rb) WA w4) := F3.out.trans f4
  have K5 : Hid (Calls _ _ _ _ _) := bytes_gen m h4 hm
  rw [p1] at b4
  have en : (n : Int) % 256 = (n : Int) := by omega
  clear h4 f4 K4
  go_wp2_with fail
  refine K5.out.mono ?_
  rintro e w5 ⟨a5, d, s5, a6, c6, rfl, hfr, E5, S5, b5, h5, f5⟩
  have F5 : Hid (Fr (fun k => k = rb) WA w5) := F4.out.trans f5
  have H5 : Hid (Rd w5 rb a6 s5.l c6 s5.bad) := h5
  have HFR : Hid (Fresh w4 w5 a5 d) := hfr
  clear h5 f5 K5 hfr
  have hnt : ¬ w.heap.size = rb := by have := HL.out; omega
  obtain ⟨u0, d0, y0⟩ := HB0.out 0 (by omega)
  obtain ⟨u1, d1, y1⟩ := HB0.out 1 (by omega)
  obtain ⟨u2, d2, y2⟩ := HB0.out 2 (by omega)
  obtain ⟨u3, d3, y3⟩ := HB0.out 3 (by omega)
  replace y0 := (F5.out.frozenEq (a := ⟨w.heap.size, 0, none⟩) HZA.out hnt).trans y0
  replace y1 := (F5.out.frozenEq (a := ⟨w.heap.size, 1, none⟩) HZA.out hnt).trans y1
  replace y2 := (F5.out.frozenEq (a := ⟨w.heap.size, 2, none⟩) HZA.out hnt).trans y2
  replace y3 := (F5.out.frozenEq (a := ⟨w.heap.size, 3, none⟩) HZA.out hnt).trans y3
  replace d0 := F5.out.cell d0 hnt
  replace d1 := F5.out.cell d1 hnt
  replace d2 := F5.out.cell d2 hnt
  replace d3 := F5.out.cell d3 hnt
  go_wp2_with fail
  obtain ⟨W, HW⟩ : ∃ W, Hid (W = w5.alloc (.cells #[.int .u64 (i : Int), .int .u64 (t : Int), .int .u8 (n : Int), .slice a5 d.length d.length] 50)) := ⟨_, rfl⟩
  have fW : Fr (fun _ => False) w5 W := by rw [HW.out]; exact (Fr.refl _ _).alloc _
  have g0 : W.cell? ⟨w5.heap.size, 0, none⟩ = some (.int .u64 (i : Int)) := by rw [HW.out]; simp
  have g1 : W.cell? ⟨w5.heap.size, 1, none⟩ = some (.int .u64 (t : Int)) := by rw [HW.out]; simp
  have g2 : W.cell? ⟨w5.heap.size, 2, none⟩ = some (.int .u8 (n : Int)) := by rw [HW.out]; simp
  have g3 : W.cell? ⟨w5.heap.size, 3, none⟩ = some (.slice a5 d.length d.length) := by rw [HW.out]; simp
  replace y0 := (fW.frozenEq (a := ⟨w.heap.size, 0, none⟩) (World.block_lt_of_cell? _ _ d0) (by simp)).trans y0
  replace y1 := (fW.frozenEq (a := ⟨w.heap.size, 1, none⟩) (World.block_lt_of_cell? _ _ d1) (by simp)).trans y1
  replace y2 := (fW.frozenEq (a := ⟨w.heap.size, 2, none⟩) (World.block_lt_of_cell? _ _ d2) (by simp)).trans y2
  replace y3 := (fW.frozenEq (a := ⟨w.heap.size, 3, none⟩) (World.block_lt_of_cell? _ _ d3) (by simp)).trans y3
  replace d0 := fW.cell d0 (by simp)
  replace d1 := fW.cell d1 (by simp)
  replace d2 := fW.cell d2 (by simp)
  replace d3 := fW.cell d3 (by simp)
  have HRW : Hid (Rd W rb a6 s5.l c6 s5.bad) := H5.out.fr fW (by simp) (by simp)
  have HFW : Hid (Fresh w4 W a5 d) := ⟨fW.row HFR.out.1 (by simp), fun a ha => by have h7 := HFR.out.2 a ha; have := fW.size; obtain ⟨cur, hcur⟩ := h7.2.2.2.2; exact ⟨h7.1, by omega, h7.2.2.1, h7.2.2.2.1, cur, (fW.block _ h7.2.1 (by simp)).trans hcur⟩⟩
  have FW : Hid (Fr (fun k => k = rb) WA W) := F5.out.trans (fW.mono (fun _ _ h => h.elim))
  have HS5 : Hid (s5 = bytS (numS (numS (numS s 8) 8) 1) m) := by show _ = _; rw [S5.out, S4.out, S3.out, S2.out]
  have HV5 : Hid (i = numV s 8 ∧ t = numV (numS s 8) 8 ∧ n = numV (numS (numS s 8) 8) 1 ∧ d = bytV (numS (numS (numS s 8) 8) 1) m) := ⟨E2.out, by rw [E3.out, S2.out], by rw [E4.out, S3.out, S2.out], by rw [E5.out, S4.out, S3.out, S2.out]⟩
  have HZ : Hid (WA.heap.size ≤ w4.heap.size ∧ w.heap.size < w4.heap.size) := ⟨F4.out.size, by have := F4.out.size; have := HZA.out; omega⟩
  have HFB : Hid (Fr (fun k => k = rb) w W) := (FA.out.mono (fun _ _ h => h.elim)).trans FW.out
  obtain ⟨bd, Hbd⟩ : ∃ bd, Hid (s5.bad = bd) := ⟨_, rfl⟩
  have cb : W.cell? ⟨rb, 1, none⟩ = some (.bool bd) := by rw [← Hbd.out]; exact HRW.out.c1
  rw [← HW.out]
  clear fW E2 E3 E4 E5 S2 S3 S4 S5 b5
  refine (bad_any W rb bd cb).mono ?_
  rintro e w7 ⟨rfl, hw7⟩
  subst w7
  have HC : Hid (w.heap.size ≠ rb) := hnt
  cases bd with
  | true =>
    have HS : Hid _ := cells_four W (w.heap.size) (.int .u64 0) (.int .u64 0) (.int .u8 0) (.slice none 0 0) (fun i hi => by
      match i, hi with
      | 0, _ => rw [d0]; rfl
      | 1, _ => rw [d1]; rfl
      | 2, _ => rw [d2]; rfl
      | 3, _ => rw [d3]; rfl)
    go_wp2
    obtain ⟨⟨e0, e1, e2, e3⟩, fs⟩ := HS.out
    refine bodyPost_ret (v := .agg #[.int .u64 0, .int .u64 0, .int .u8 0, .slice none 0 0]) ?_ rfl ⟨0, 0, 0, none, [], s5, a6, c6, rfl, HS5, fun h => (by rw [Hbd.out] at h; cases h), by omega, by omega, by omega, ⟨row_nil _, fun a ha => by cases ha⟩, ⟨fs.cell HRW.out.c0 (fun e => HC.out e.symm), fs.cell HRW.out.c1 (fun e => HC.out e.symm)⟩, HFB.out.trans' fs (fun i hi e => by omega)⟩
    · generalize ((((W.setCell ⟨w.heap.size, 0, none⟩ (.int .u64 0)).setCell ⟨w.heap.size, 1, none⟩ (.int .u64 0)).setCell ⟨w.heap.size, 2, none⟩ (.int .u8 0)).setCell ⟨w.heap.size, 3, none⟩ (.slice none 0 0)) = W2 at *
      simp [results, Tryd.results52, go_sem, *]
  | false =>
    have HS : Hid _ := cells_four W (w.heap.size) (.int .u64 (i : Int)) (.int .u64 (t : Int)) (.int .u8 (n : Int)) (.slice a5 d.length d.length) (fun i hi => by
      match i, hi with
      | 0, _ => rw [d0]; rfl
      | 1, _ => rw [d1]; rfl
      | 2, _ => rw [d2]; rfl
      | 3, _ => rw [d3]; rfl)
    go_wp2
    obtain ⟨⟨e0, e1, e2, e3⟩, fs⟩ := HS.out
    have HAP : Hid (∀ a, a5 = some a → a.block ≠ w.heap.size) := fun a ha e => by have := (HFW.out.2 a ha).1; have := HZ.out; omega
    refine bodyPost_ret (v := .agg #[.int .u64 (i : Int), .int .u64 (t : Int), .int .u8 (n : Int), .slice a5 d.length d.length]) ?_ rfl ⟨i, t, n, a5, d, s5, a6, c6, rfl, HS5, fun _ => HV5.out, b2, b3, b4, ⟨fs.row HFW.out.1 (fun _ a ha => HAP.out a ha), fun a ha => by have h7 := HFW.out.2 a ha; have := fs.size; obtain ⟨cur, hcur⟩ := h7.2.2.2.2; have := HZ.out; exact ⟨by omega, by omega, h7.2.2.1, h7.2.2.2.1, cur, (fs.block _ h7.2.1 (HAP.out a ha)).trans hcur⟩⟩, ⟨fs.cell HRW.out.c0 (fun e => HC.out e.symm), fs.cell HRW.out.c1 (fun e => HC.out e.symm)⟩, HFB.out.trans' fs (fun i hi e => by omega)⟩
    · generalize ((((W.setCell ⟨w.heap.size, 0, none⟩ (.int .u64 (i : Int))).setCell ⟨w.heap.size, 1, none⟩ (.int .u64 (t : Int))).setCell ⟨w.heap.size, 2, none⟩ (.int .u8 (n : Int))).setCell ⟨w.heap.size, 3, none⟩ (.slice a5 d.length d.length)) = W2 at *
      simp [results, Tryd.results52, go_sem, *]
set_option maxRecDepth 100000 in
set_option maxHeartbeats 4000000 in
theorem readsnap_gen {w : World} {rb : Nat} {ao : Option Addr} {cap : Nat} {s : Rs} (m : Nat) (h : Rd w rb ao s.l cap s.bad) (hm : m ≤ 140737488355328) :
    Calls Tryd.prog 54 #[.pointer (some ⟨rb, 0, none⟩), .int .i64 (m : Int)] w fun e w' => ∃ (i t n : Nat) (a5 : Option Addr) (d : List Nat) (s5 : Rs) (a6 : Option Addr) (c6 : Nat), e = .returned (.agg #[.int .u64 (i : Int), .int .u64 (t : Int), .int .u64 (n : Int), .slice a5 d.length d.length]) ∧ Hid (s5 = bytS (numS (numS (numS s 8) 8) 8) m) ∧ Hid (s5.bad = false → i = numV s 8 ∧ t = numV (numS s 8) 8 ∧ n = numV (numS (numS s 8) 8) 8 ∧ d = bytV (numS (numS (numS s 8) 8) 8) m) ∧ i < 18446744073709551616 ∧ t < 18446744073709551616 ∧ n < 18446744073709551616 ∧ Fresh w w' a5 d ∧ (w'.cell? ⟨rb, 0, none⟩ = some (.slice a6 s5.l.length c6) ∧ w'.cell? ⟨rb, 1, none⟩ = some (.bool s5.bad)) ∧ Fr (fun k => k = rb) w w' := by
  have HL : Hid (rb < w.heap.size) := h.lt
  have FA : Hid (Fr (fun _ => False) w (w.alloc (.cells #[.int .u64 0, .int .u64 0, .int .u64 0, .slice none 0 0] 31))) := (Fr.refl _ w).alloc _
  have HB0 : Hid (∀ i, i < 4 → ∃ u, (w.alloc (.cells #[.int .u64 0, .int .u64 0, .int .u64 0, .slice none 0 0] 31)).cell? ⟨w.heap.size, i, none⟩ = some u ∧ (w.alloc (.cells #[.int .u64 0, .int .u64 0, .int .u64 0, .slice none 0 0] 31)).frozen? ⟨w.heap.size, i, none⟩ = false) := by
    intro i hi
    match i, hi with
    | 0, _ | 1, _ | 2, _ | 3, _ => exact ⟨_, by simp; rfl, by simp⟩
  have K0 : Hid (Calls _ _ _ _ _) := rnum_gen 8 (h.fr FA.out (by simp) (by simp)) (by omega)
  obtain ⟨WA, HWA⟩ : ∃ W, Hid ((w.alloc (.cells #[.int .u64 0, .int .u64 0, .int .u64 0, .slice none 0 0] 31)) = W) := ⟨_, rfl⟩
  have HZA : Hid (w.heap.size < WA.heap.size) := (show _ < _ by rw [← HWA.out]; simp)
  rw [HWA.out] at FA HB0 K0
  clear h
  go_enter Tryd.func54, Tryd.ntmps54
  go_wp2_with fail
  rw [HWA.out]
  refine K0.out.mono ?_
  rintro e w2 ⟨i, s2, a2, c2, rfl, E2, S2, b2, h2, f2⟩
  have F2 : Hid (Fr (fun k => k = rb) WA w2) := f2
  have K3 : Hid (Calls _ _ _ _ _) := rnum_gen 8 h2 (by omega)
  rw [p8] at b2
  clear h2 f2 K0
  go_wp2_with fail
  refine K3.out.mono ?_
  rintro e w3 ⟨t, s3, a3, c3, rfl, E3, S3, b3, h3, f3⟩
  have F3 : Hid (Fr (fun k => k = rb) WA w3) := F2.out.trans f3
  have K4 : Hid (Calls _ _ _ _ _) := rnum_gen 8 h3 (by omega)
  rw [p8] at b3
  clear h3 f3 K3
  go_wp2_with fail
  refine K4.out.mono ?_
  rintro e w4 ⟨n, s4, a4, c4, rfl, E4, S4, b4, h4, f4⟩
  have F4 : Hid (Fr (fun k => k = rb) WA w4) := F3.out.trans f4
  have K5 : Hid (Calls _ _ _ _ _) := bytes_gen m h4 hm
  rw [p8] at b4
  clear h4 f4 K4
  go_wp2_with fail
  refine K5.out.mono ?_
  rintro e w5 ⟨a5, d, s5, a6, c6, rfl, hfr, E5, S5, b5, h5, f5⟩
  have F5 : Hid (Fr (fun k => k = rb) WA w5) := F4.out.trans f5
  have H5 : Hid (Rd w5 rb a6 s5.l c6 s5.bad) := h5
  have HFR : Hid (Fresh w4 w5 a5 d) := hfr
  clear h5 f5 K5 hfr
  have hnt : ¬ w.heap.size = rb := by have := HL.out; omega
  obtain ⟨u0, d0, y0⟩ := HB0.out 0 (by omega)
  obtain ⟨u1, d1, y1⟩ := HB0.out 1 (by omega)
  obtain ⟨u2, d2, y2⟩ := HB0.out 2 (by omega)
  obtain ⟨u3, d3, y3⟩ := HB0.out 3 (by omega)
  replace y0 := (F5.out.frozenEq (a := ⟨w.heap.size, 0, none⟩) HZA.out hnt).trans y0
  replace y1 := (F5.out.frozenEq (a := ⟨w.heap.size, 1, none⟩) HZA.out hnt).trans y1
  replace y2 := (F5.out.frozenEq (a := ⟨w.heap.size, 2, none⟩) HZA.out hnt).trans y2
  replace y3 := (F5.out.frozenEq (a := ⟨w.heap.size, 3, none⟩) HZA.out hnt).trans y3
  replace d0 := F5.out.cell d0 hnt
  replace d1 := F5.out.cell d1 hnt
  replace d2 := F5.out.cell d2 hnt
  replace d3 := F5.out.cell d3 hnt
  go_wp2_with fail
  obtain ⟨W, HW⟩ : ∃ W, Hid (W = w5.alloc (.cells #[.int .u64 (i : Int), .int .u64 (t : Int), .int .u64 (n : Int), .slice a5 d.length d.length] 31)) := ⟨_, rfl⟩
  have fW : Fr (fun _ => False) w5 W := by rw [HW.out]; exact (Fr.refl _ _).alloc _
  have g0 : W.cell? ⟨w5.heap.size, 0, none⟩ = some (.int .u64 (i : Int)) := by rw [HW.out]; simp
  have g1 : W.cell? ⟨w5.heap.size, 1, none⟩ = some (.int .u64 (t : Int)) := by rw [HW.out]; simp
  have g2 : W.cell? ⟨w5.heap.size, 2, none⟩ = some (.int .u64 (n : Int)) := by rw [HW.out]; simp
  have g3 : W.cell? ⟨w5.heap.size, 3, none⟩ = some (.slice a5 d.length d.length) := by rw [HW.out]; simp
  replace y0 := (fW.frozenEq (a := ⟨w.heap.size, 0, none⟩) (World.block_lt_of_cell? _ _ d0) (by simp)).trans y0
  replace y1 := (fW.frozenEq (a := ⟨w.heap.size, 1, none⟩) (World.block_lt_of_cell? _ _ d1) (by simp)).trans y1
  replace y2 := (fW.frozenEq (a := ⟨w.heap.size, 2, none⟩) (World.block_lt_of_cell? _ _ d2) (by simp)).trans y2
  replace y3 := (fW.frozenEq (a := ⟨w.heap.size, 3, none⟩) (World.block_lt_of_cell? _ _ d3) (by simp)).trans y3
  replace d0 := fW.cell d0 (by simp)
  replace d1 := fW.cell d1 (by simp)
  replace d2 := fW.cell d2 (by simp)
  replace d3 := fW.cell d3 (by simp)
  have HRW : Hid (Rd W rb a6 s5.l c6 s5.bad) := H5.out.fr fW (by simp) (by simp)
  have HFW : Hid (Fresh w4 W a5 d) := ⟨fW.row HFR.out.1 (by simp), fun a ha => by have h7 := HFR.out.2 a ha; have := fW.size; obtain ⟨cur, hcur⟩ := h7.2.2.2.2; exact ⟨h7.1, by omega, h7.2.2.1, h7.2.2.2.1, cur, (fW.block _ h7.2.1 (by simp)).trans hcur⟩⟩
  have FW : Hid (Fr (fun k => k = rb) WA W) := F5.out.trans (fW.mono (fun _ _ h => h.elim))
  have HS5 : Hid (s5 = bytS (numS (numS (numS s 8) 8) 8) m) := by show _ = _; rw [S5.out, S4.out, S3.out, S2.out]
  have HV5 : Hid (i = numV s 8 ∧ t = numV (numS s 8) 8 ∧ n = numV (numS (numS s 8) 8) 8 ∧ d = bytV (numS (numS (numS s 8) 8) 8) m) := ⟨E2.out, by rw [E3.out, S2.out], by rw [E4.out, S3.out, S2.out], by rw [E5.out, S4.out, S3.out, S2.out]⟩
  have HZ : Hid (WA.heap.size ≤ w4.heap.size ∧ w.heap.size < w4.heap.size) := ⟨F4.out.size, by have := F4.out.size; have := HZA.out; omega⟩
  have HFB : Hid (Fr (fun k => k = rb) w W) := (FA.out.mono (fun _ _ h => h.elim)).trans FW.out
  obtain ⟨bd, Hbd⟩ : ∃ bd, Hid (s5.bad = bd) := ⟨_, rfl⟩
  have cb : W.cell? ⟨rb, 1, none⟩ = some (.bool bd) := by rw [← Hbd.out]; exact HRW.out.c1
  rw [← HW.out]
  clear fW E2 E3 E4 E5 S2 S3 S4 S5 b5
  refine (bad_any W rb bd cb).mono ?_
  rintro e w7 ⟨rfl, hw7⟩
  subst w7
  have HC : Hid (w.heap.size ≠ rb) := hnt
  cases bd with
  | true =>
    have HS : Hid _ := cells_four W (w.heap.size) (.int .u64 0) (.int .u64 0) (.int .u64 0) (.slice none 0 0) (fun i hi => by
      match i, hi with
      | 0, _ => rw [d0]; rfl
      | 1, _ => rw [d1]; rfl
      | 2, _ => rw [d2]; rfl
      | 3, _ => rw [d3]; rfl)
    go_wp2
    obtain ⟨⟨e0, e1, e2, e3⟩, fs⟩ := HS.out
    refine bodyPost_ret (v := .agg #[.int .u64 0, .int .u64 0, .int .u64 0, .slice none 0 0]) ?_ rfl ⟨0, 0, 0, none, [], s5, a6, c6, rfl, HS5, fun h => (by rw [Hbd.out] at h; cases h), by omega, by omega, by omega, ⟨row_nil _, fun a ha => by cases ha⟩, ⟨fs.cell HRW.out.c0 (fun e => HC.out e.symm), fs.cell HRW.out.c1 (fun e => HC.out e.symm)⟩, HFB.out.trans' fs (fun i hi e => by omega)⟩
    · generalize ((((W.setCell ⟨w.heap.size, 0, none⟩ (.int .u64 0)).setCell ⟨w.heap.size, 1, none⟩ (.int .u64 0)).setCell ⟨w.heap.size, 2, none⟩ (.int .u64 0)).setCell ⟨w.heap.size, 3, none⟩ (.slice none 0 0)) = W2 at *
      simp [results, Tryd.results54, go_sem, *]
  | false =>
    have HS : Hid _ := cells_four W (w.heap.size) (.int .u64 (i : Int)) (.int .u64 (t : Int)) (.int .u64 (n : Int)) (.slice a5 d.length d.length) (fun i hi => by
      match i, hi with
      | 0, _ => rw [d0]; rfl
      | 1, _ => rw [d1]; rfl
      | 2, _ => rw [d2]; rfl
      | 3, _ => rw [d3]; rfl)
    go_wp2
    obtain ⟨⟨e0, e1, e2, e3⟩, fs⟩ := HS.out
    have HAP : Hid (∀ a, a5 = some a → a.block ≠ w.heap.size) := fun a ha e => by have := (HFW.out.2 a ha).1; have := HZ.out; omega
    refine bodyPost_ret (v := .agg #[.int .u64 (i : Int), .int .u64 (t : Int), .int .u64 (n : Int), .slice a5 d.length d.length]) ?_ rfl ⟨i, t, n, a5, d, s5, a6, c6, rfl, HS5, fun _ => HV5.out, b2, b3, b4, ⟨fs.row HFW.out.1 (fun _ a ha => HAP.out a ha), fun a ha => by have h7 := HFW.out.2 a ha; have := fs.size; obtain ⟨cur, hcur⟩ := h7.2.2.2.2; have := HZ.out; exact ⟨by omega, by omega, h7.2.2.1, h7.2.2.2.1, cur, (fs.block _ h7.2.1 (HAP.out a ha)).trans hcur⟩⟩, ⟨fs.cell HRW.out.c0 (fun e => HC.out e.symm), fs.cell HRW.out.c1 (fun e => HC.out e.symm)⟩, HFB.out.trans' fs (fun i hi e => by omega)⟩
    · generalize ((((W.setCell ⟨w.heap.size, 0, none⟩ (.int .u64 (i : Int))).setCell ⟨w.heap.size, 1, none⟩ (.int .u64 (t : Int))).setCell ⟨w.heap.size, 2, none⟩ (.int .u64 (n : Int))).setCell ⟨w.heap.size, 3, none⟩ (.slice a5 d.length d.length)) = W2 at *
      simp [results, Tryd.results54, go_sem, *]
set_option maxRecDepth 100000 in
set_option maxHeartbeats 1600000 in
theorem take_entry (h : Im w mb D m sa sc v es) (ab : Option Addr) (q : List Nat) (cb : Nat) (hr : Row w ab q cb) (hnew : ∀ k, w.heap.size ≤ k → D k) (hlen : es.length < 1000000) :
    Calls Tryd.prog 33 #[.pointer (some ⟨mb, 0, none⟩), .int .u8 2, .slice ab q.length cb] w fun e w' => TakePost w mb D m 2 q e w' := by
  have K0 : Hid (Calls _ _ _ _ _) := read_gen w ab q cb hr
  have HI : Hid (Im w mb D m sa sc v es) := h
  have HN : Hid (∀ k, w.heap.size ≤ k → D k) := hnew
  have HLN : Hid (es.length < 1000000) := hlen
  clear h hr hnew hlen
  go_enter Tryd.func33, Tryd.ntmps33
  go_wp2_with fail
  refine K0.out.mono ?_
  rintro e w1 ⟨rfl, h1, f1⟩
  have F1 : Hid (Fr (fun _ => False) w w1) := f1
  have K1 : Hid (Calls _ _ _ _ _) := readent_gen (s := ⟨q, false⟩) maxRec h1 (by decide)
  clear h1 f1 K0
  go_wp2_with fail
  refine K1.out.mono ?_
  rintro e w5 ⟨i, t, n, a5, d, s5, a6, c6, rfl, S5, V5, b2, b3, b4, hfr, h5, f5⟩
  have F5 : Hid (Fr (fun _ => False) w w5) := F1.out.trans' f5 (fun i hi e => by omega)
  have H5 : Hid (w5.cell? ⟨w.heap.size, 0, none⟩ = some (.slice a6 s5.l.length c6) ∧ w5.cell? ⟨w.heap.size, 1, none⟩ = some (.bool s5.bad)) := h5
  have HFR : Hid (Fresh w1 w5 a5 d) := hfr
  have HA : Hid (Fr (fun _ => False) w5 (w5.alloc (.cells #[.int .u64 (i : Int), .int .u64 (t : Int), .int .u8 (n : Int), .slice a5 d.length d.length] 50))) := (Fr.refl _ _).alloc _
  have K6 : Hid (Calls _ _ _ _ _) := end_c _ _ s5 _ _ (HA.out.cell H5.out.1 (by simp)) (HA.out.cell H5.out.2 (by simp))
  have HAB : Hid (∀ a, a5 = some a → w.heap.size ≤ a.block) := fun a ha => Nat.le_trans F1.out.size (HFR.out.2 a ha).1
  clear h5 f5 K1 hfr
  obtain ⟨b, Hb⟩ : ∃ b, Hid (endV s5 = b) := ⟨_, rfl⟩
  have HRB : Hid ((readE q).2 = b) := by show _ = _; rw [← Hb.out, S5.out]; rfl
  have HRV : Hid (b = true → (readE q).1 = (i, t, n, d)) := fun hb => by
    have h9 : s5.bad = false := by
      have := Hb.out
      rw [hb] at this
      unfold endV at this
      revert this
      cases s5.bad <;> simp
    obtain ⟨v1, v2, v3, v4⟩ := V5.out h9
    rw [v1, v2, v3, v4]; rfl
  rw [Hb.out] at K6
  clear Hb V5 S5
  have FA : Hid (Fr (fun _ => False) w _) := F5.out.trans HA.out
  cases b with
  | false =>
    have HOK : Hid (takeOk m 2 q = false) := by show _ = _; unfold takeOk; simp [HRB.out]
    go_wp2_with fail
    refine K6.out.mono ?_
    rintro e w6 ⟨rfl, hw6⟩
    subst w6
    go_wp2
    go_ret
    exact TakePost.no HOK.out ⟨_, _, _, _, HI.out.fr FA.out (by simp) (by simp)⟩ (FA.out.mono (fun _ _ h => h.elim))
  | true =>
    have HRD : Hid (readE q = ((i, t, n, d), true)) := by show _ = _; rw [← HRV.out rfl, ← HRB.out]
    have HOK : Hid (takeOk m 2 q = canE m i) := by show _ = _; unfold takeOk; simp [HRD.out]
    have HV : Hid (takeV m 2 q = putE m (i, t, n, d)) := by show _ = _; unfold takeV; simp [HRD.out]
    have K7 : Hid (Calls _ _ _ _ _) := takeE_any (x := ⟨i, t, n, d, a5, d.length⟩) (HI.out.fr FA.out (by simp) (by simp)) b2 HLN.out (fun k hk => HN.out k (Nat.le_trans FA.out.size hk)) ⟨b2, b3, b4, HA.out.row HFR.out.1 (by simp), fun _ a ha => HN.out _ (HAB.out a ha)⟩ (fun _ a ha e => by have := HI.out.own.lt _ e; have := HAB.out a ha; omega)
    go_wp2_with fail
    refine K6.out.mono ?_
    rintro e w6 ⟨rfl, hw6⟩
    subst w6
    go_wp2_with fail
    refine K7.out.mono ?_
    rintro e w7 ⟨rfl, h7, f7⟩
    have H7 : Hid _ := h7
    have F7 : Hid (Fr (fun k => k = mb ∨ D k) w w7) := (FA.out.mono (fun _ _ h => h.elim)).trans f7
    clear h7 f7
    go_wp2
    go_ret
    exact TakePost.mk' HOK.out HV.out H7.out F7.out
set_option maxRecDepth 100000 in
set_option maxHeartbeats 1600000 in
theorem take_snap (h : Im w mb D m sa sc v es) (ab : Option Addr) (q : List Nat) (cb : Nat) (hr : Row w ab q cb) (hnew : ∀ k, w.heap.size ≤ k → D k) (_hlen : es.length < 1000000) :
    Calls Tryd.prog 33 #[.pointer (some ⟨mb, 0, none⟩), .int .u8 3, .slice ab q.length cb] w fun e w' => TakePost w mb D m 3 q e w' := by
  have K0 : Hid (Calls _ _ _ _ _) := read_gen w ab q cb hr
  have HI : Hid (Im w mb D m sa sc v es) := h
  have HN : Hid (∀ k, w.heap.size ≤ k → D k) := hnew
  clear h hr hnew
  go_enter Tryd.func33, Tryd.ntmps33
  go_wp2_with fail
  refine K0.out.mono ?_
  rintro e w1 ⟨rfl, h1, f1⟩
  have F1 : Hid (Fr (fun _ => False) w w1) := f1
  have K1 : Hid (Calls _ _ _ _ _) := readsnap_gen (s := ⟨q, false⟩) maxRec h1 (by decide)
  clear h1 f1 K0
  go_wp2_with fail
  refine K1.out.mono ?_
  rintro e w5 ⟨i, t, n, a5, d, s5, a6, c6, rfl, S5, V5, b2, b3, b4, hfr, h5, f5⟩
  have F5 : Hid (Fr (fun _ => False) w w5) := F1.out.trans' f5 (fun i hi e => by omega)
  have H5 : Hid (w5.cell? ⟨w.heap.size, 0, none⟩ = some (.slice a6 s5.l.length c6) ∧ w5.cell? ⟨w.heap.size, 1, none⟩ = some (.bool s5.bad)) := h5
  have HFR : Hid (Fresh w1 w5 a5 d) := hfr
  have HA : Hid (Fr (fun _ => False) w5 (w5.alloc (.cells #[.int .u64 (i : Int), .int .u64 (t : Int), .int .u64 (n : Int), .slice a5 d.length d.length] 31))) := (Fr.refl _ _).alloc _
  have K6 : Hid (Calls _ _ _ _ _) := end_c _ _ s5 _ _ (HA.out.cell H5.out.1 (by simp)) (HA.out.cell H5.out.2 (by simp))
  have HAB : Hid (∀ a, a5 = some a → w.heap.size ≤ a.block) := fun a ha => Nat.le_trans F1.out.size (HFR.out.2 a ha).1
  clear h5 f5 K1 hfr
  obtain ⟨b, Hb⟩ : ∃ b, Hid (endV s5 = b) := ⟨_, rfl⟩
  have HRB : Hid ((readS q).2 = b) := by show _ = _; rw [← Hb.out, S5.out]; rfl
  have HRV : Hid (b = true → (readS q).1 = (i, t, n, d)) := fun hb => by
    have h9 : s5.bad = false := by
      have := Hb.out
      rw [hb] at this
      unfold endV at this
      revert this
      cases s5.bad <;> simp
    obtain ⟨v1, v2, v3, v4⟩ := V5.out h9
    rw [v1, v2, v3, v4]; rfl
  rw [Hb.out] at K6
  clear Hb V5 S5
  have FA : Hid (Fr (fun _ => False) w _) := F5.out.trans HA.out
  cases b with
  | false =>
    have HOK : Hid (takeOk m 3 q = false) := by show _ = _; unfold takeOk; simp [HRB.out]
    go_wp2_with fail
    refine K6.out.mono ?_
    rintro e w6 ⟨rfl, hw6⟩
    subst w6
    go_wp2
    go_ret
    exact TakePost.no HOK.out ⟨_, _, _, _, HI.out.fr FA.out (by simp) (by simp)⟩ (FA.out.mono (fun _ _ h => h.elim))
  | true =>
    have HRD : Hid (readS q = ((i, t, n, d), true)) := by show _ = _; rw [← HRV.out rfl, ← HRB.out]
    have HOK : Hid (takeOk m 3 q = true) := by show _ = _; unfold takeOk; simp [HRD.out]
    have HV : Hid (takeV m 3 q = { m with si := i, st := t, sv := n, sd := d, es := [] }) := by show _ = _; unfold takeV; simp [HRD.out]
    have K7 : Hid (Calls _ _ _ _ _) := takeSnap_any (HI.out.fr FA.out (by simp) (by simp)) i t n a5 d d.length (HA.out.row HFR.out.1 (by simp)) (fun _ a ha => HN.out _ (HAB.out a ha)) b2 b3 b4
    go_wp2_with fail
    refine K6.out.mono ?_
    rintro e w6 ⟨rfl, hw6⟩
    subst w6
    go_wp2_with fail
    refine K7.out.mono ?_
    rintro e w7 ⟨rfl, h7, f7⟩
    have H7 : Hid _ := h7
    have F7 : Hid (Fr (fun k => k = mb ∨ D k) w w7) := (FA.out.mono (fun _ _ h => h.elim)).trans (f7.mono (fun _ _ h => .inl h))
    clear h7 f7
    go_wp2
    go_ret
    exact TakePost.yes HOK.out (by rw [HV.out]; exact ⟨_, _, _, _, H7.out⟩) F7.out
set_option maxHeartbeats 800000 in
theorem take_other (h : Im w mb D m sa sc v es) (k : Nat) (ab : Option Addr) (q : List Nat) (cb : Nat) (hr : Row w ab q cb) (k1 : ¬ k = 1) (k2 : ¬ k = 2) (k3 : ¬ k = 3) :
    Calls Tryd.prog 33 #[.pointer (some ⟨mb, 0, none⟩), .int .u8 (k : Int), .slice ab q.length cb] w fun e w' => TakePost w mb D m k q e w' := by
  have K0 : Hid (Calls _ _ _ _ _) := read_gen w ab q cb hr
  have HI : Hid (Im w mb D m sa sc v es) := h
  have HOK : Hid (takeOk m k q = false) := by show _ = _; unfold takeOk; simp [k1, k2, k3]
  have j1 : ¬ (k : Int) = 1 := by omega
  have j2 : ¬ (k : Int) = 2 := by omega
  have j3 : ¬ (k : Int) = 3 := by omega
  clear h hr
  go_enter Tryd.func33, Tryd.ntmps33
  go_wp2_with fail
  refine K0.out.mono ?_
  rintro e w1 ⟨rfl, h1, f1⟩
  go_wp2
  go_ret
  exact TakePost.no HOK.out ⟨_, _, _, _, HI.out.fr f1 (by simp) (by simp)⟩ (f1.mono (fun _ _ h => h.elim))
theorem take_any (h : ImA w mb D m) (k : Nat) (ab : Option Addr) (q : List Nat) (cb : Nat) (hr : Row w ab q cb) (hnew : ∀ k, w.heap.size ≤ k → D k) (hlen : m.es.length < 1000000) :
    Calls Tryd.prog 33 #[.pointer (some ⟨mb, 0, none⟩), .int .u8 (k : Int), .slice ab q.length cb] w fun e w' => TakePost w mb D m k q e w' := by
  obtain ⟨sa, sc, v, es, h⟩ := h
  have hl := h.len
  by_cases k1 : k = 1
  · subst k1; exact take_hard h ab q cb hr hnew
  · by_cases k2 : k = 2
    · subst k2; exact take_entry h ab q cb hr hnew (by omega)
    · by_cases k3 : k = 3
      · subst k3; exact take_snap h ab q cb hr hnew (by omega)
      · exact take_other h k ab q cb hr k1 k2 k3
end
end Go.Proofs.YtlcakglmheleeaaDoor
