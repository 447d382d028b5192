/- The statement WalJunk, walked. -/
import Derived.Test.YtlcakglmheleeaaDoorLawC
namespace Go.Proofs.YtlcakglmheleeaaDoor
open Go.RowKit

/-- what Scan answers, opened. -/
theorem scan_open (ao : Option Addr) (l : List Nat) (cap : Nat) (w : World) (ht : Tab w) (hr : Row w ao l cap) (hlen : l.length < 1000000) :
    Calls Tryd.prog 12 #[.slice ao l.length cap] w fun e w' => ∃ m u sa sc ea es c, Hid ((m, u) = scan img0 l) ∧ e = .returned (.tuple #[.agg #[.int .u64 ((m : Img).tm : Int), .int .i64 m.vo, .int .u64 (m.si : Int), .int .u64 (m.st : Int), .int .u64 (m.sv : Int), .slice sa m.sd.length sc, .slice ea (es : List En).length c], .int .i64 ((u : Nat) : Int)]) ∧ Row w' sa m.sd sc ∧ ERow w' (fun _ => True) (fun _ => True) ea es c ∧ Hid (es.map En.p = m.es) ∧ u ≤ l.length ∧ Fr (fun _ => False) w w' := by
  refine (scan_any ao l cap w ht hr hlen).mono ?_
  rintro e w' ⟨m, u, sa, sc, v, es, h1, rfl, h2, h3, h4, h5, f⟩
  obtain ⟨ea, c, hv, hr⟩ := h3.eroww
  subst hv
  refine ⟨m, u, sa, sc, ea, es, c, h1, rfl, h2, ⟨hr.1, hr.2.1, hr.2.2.1, fun x hx => (hr.2.2.2.1 x hx).mono (fun _ _ _ => trivial), fun hne => ?_⟩, h4, h5, f⟩
  obtain ⟨b, off, he, _, hc⟩ := hr.2.2.2.2 hne
  exact ⟨b, off, he, trivial, hc⟩
/-- of what a record of the law is, where records of kind 1 are not wanted. -/
def two (x : Rc) : Rc := if x.k % 4 = 1 then { x with k := 2 } else x
theorem two_g {w : World} {x : Rc} (h : RcG w x) : RcG w (two x) := by
  unfold two
  split
  · exact ⟨by show 2 < 256; omega, h.a, h.b, h.v, h.row⟩
  · exact h
theorem two_d (x : Rc) : (two x).d = x.d ∧ (two x).p = x.p ∧ (two x).c = x.c ∧ (two x).a = x.a ∧ (two x).b = x.b ∧ (two x).v = x.v := by
  unfold two
  split <;> exact ⟨rfl, rfl, rfl, rfl, rfl, rfl⟩
set_option maxRecDepth 100000 in
set_option maxHeartbeats 3200000 in
theorem junk_short (ao : Option Addr) (l : List Nat) (cap : Nat) (a t : Nat) (ra : Option Addr) (rs : List Rc) (rc : Nat) (w : World) (ht : Tab w) (hr : Row w ao l cap) (hrr : RRow w ra rs rc) (hs : 2000 < l.length ∨ (¬ 2000 < l.length ∧ shortB rs = false)) :
    Calls Tryd.prog 7 #[.slice ao l.length cap, .int .u16 (a : Int), .int .u8 (t : Int), .slice ra rs.length rc] w fun e w' => e = .returned (.bool true) ∧ Fr (fun _ => False) w w' := by
  have HT : Hid (Tab w) := ht
  have HRR : Hid (RRow w ra rs rc) := hrr
  have KA : Hid (∀ w1, Fr (fun _ => False) w w1 → Calls Tryd.prog 9 #[] w1 fun e w' => e = .returned (.bool true) ∧ Fr (fun _ => False) w1 w') := fun w1 f => awake_any w1 (f.tab ht (by simp))
  have hl1 := hr.1
  have hl2 := hr.2.1
  have hl3 := hrr.len
  unfold maxLen at hl2
  clear ht hr hrr
  rcases hs with h1 | ⟨h1, h2⟩
  · go_enter Tryd.func7, Tryd.ntmps7
    go_wp2_with fail
    refine (KA.out _ (Fr.refl _ _)).mono ?_
    rintro e w1 ⟨rfl, f1⟩
    have F1 : Hid (Fr (fun _ => False) w w1) := f1
    clear f1
    go_wp2_with fail
    refine (KA.out _ F1.out).mono ?_
    rintro e w2 ⟨rfl, f2⟩
    have F2 : Hid (Fr (fun _ => False) w w2) := F1.out.trans f2
    clear f2
    go_wp2
    go_ret
    exact ⟨rfl, F2.out⟩
  · have H2 : Hid (shortB rs = false) := h2
    clear h2
    go_enter Tryd.func7, Tryd.ntmps7
    go_wp2_with fail
    refine (KA.out _ (Fr.refl _ _)).mono ?_
    rintro e w1 ⟨rfl, f1⟩
    have F1 : Hid (Fr (fun _ => False) w w1) := f1
    clear f1
    go_wp2_with fail
    refine (short_any ra rs rc w1 (HRR.out.fr F1.out)).mono ?_
    rintro e w2 ⟨rfl, hw2⟩
    subst w2
    rw [H2.out]
    go_wp2_with fail
    refine (KA.out _ F1.out).mono ?_
    rintro e w2 ⟨rfl, f2⟩
    have F2 : Hid (Fr (fun _ => False) w w2) := F1.out.trans f2
    clear f2
    go_wp2
    go_ret
    exact ⟨rfl, F2.out⟩
theorem lawb_ex (m : Img) (sa : Option Addr) (sc : Nat) (ea : Option Addr) (es : List En) (c : Nat) (k a b : Nat) (v : Int) (d : List Nat) (p : Option Addr) (cd n : Nat) (w : World) (D : Nat → Prop) (h : ImV w D m sa sc ea es c) (hg : Good m n) (hn : n ≤ 1000) (hx : RcG w ⟨k, a, b, v, d, p, cd⟩) (hxd : d.length ≤ 200) (hnew : ∀ k, w.heap.size ≤ k → D k) (hxD : d ≠ [] → ∀ a, p = some a → D a.block) :
    Calls Tryd.prog 11 #[aggI m sa sc ea es.length c, .agg #[.int .u8 (k : Int), .int .u64 (a : Int), .int .u64 (b : Int), .int .i16 v, .slice p d.length cd]] w fun e w' => BytesPost w D m ⟨k, a, b, v, d, p, cd⟩ e w' :=
  lawb_any m sa sc ea es c ⟨k, a, b, v, d, p, cd⟩ n w D h hg hn hx hxd hnew hxD
set_option maxRecDepth 100000 in
set_option maxHeartbeats 3200000 in
theorem junk_long (ao : Option Addr) (l : List Nat) (cap : Nat) (a t : Nat) (ra : Option Addr) (rs : List Rc) (rc : Nat) (w : World) (ht : Tab w) (hr : Row w ao l cap) (hrr : RRow w ra rs rc) (h2000 : ¬ 2000 < l.length) (hsh : shortB rs = true) (ha : a < 65536) (ht8 : t < 256) :
    Calls Tryd.prog 7 #[.slice ao l.length cap, .int .u16 (a : Int), .int .u8 (t : Int), .slice ra rs.length rc] w fun e w' => e = .returned (.bool true) ∧ Fr (fun _ => False) w w' := by
  have HT : Hid (Tab w) := ht
  have HR : Hid (Row w ao l cap) := hr
  have HRR : Hid (RRow w ra rs rc) := hrr
  have HSH : Hid (shortB rs = true) := hsh
  have HRD : Hid ((∀ r ∈ rs, r.d.length ≤ 200) ∧ rs.length ≤ 60) := by unfold shortB at hsh; simp at hsh; exact hsh
  have hrl : rs.length ≤ 60 := HRD.out.2
  have hl1 := hr.1
  have hl2 := hr.2.1
  have hl3 := hrr.len
  unfold maxLen at hl2
  have HB : Hid (∀ x ∈ l, x < 256) := hr.2.2.1
  clear ht hr hrr hsh
  go_enter Tryd.func7, Tryd.ntmps7
  go_wp2_with fail
  refine (awake_any w HT.out).mono ?_
  rintro e w1 ⟨rfl, f1⟩
  have F1 : Hid (Fr (fun _ => False) w w1) := f1
  clear f1
  go_wp2_with fail
  refine (short_any ra rs rc w1 (HRR.out.fr F1.out)).mono ?_
  rintro e w2 ⟨rfl, hw2⟩
  subst w2
  rw [HSH.out]
  have K1 : Hid (Calls _ _ _ _ _) := scan_open ao l cap w1 (F1.out.tab HT.out (by simp)) (F1.out.row HR.out (by simp)) (by omega)
  go_wp2_with fail
  refine K1.out.mono ?_
  rintro e w3 ⟨m1, u, sa1, sc1, ea1, es1, cx1, HMU, rfl, hs1, he1, HP1, hu, f3⟩
  have FA : Hid (Fr (fun _ => False) w3 (w3.alloc (.cells #[.int .u64 (m1.tm : Int), .int .i64 m1.vo, .int .u64 (m1.si : Int), .int .u64 (m1.st : Int), .int .u64 (m1.sv : Int), .slice sa1 m1.sd.length sc1, .slice ea1 es1.length cx1] 42))) := (Fr.refl _ _).alloc _
  have F3 : Hid (Fr (fun _ => False) w (w3.alloc (.cells #[.int .u64 (m1.tm : Int), .int .i64 m1.vo, .int .u64 (m1.si : Int), .int .u64 (m1.st : Int), .int .u64 (m1.sv : Int), .slice sa1 m1.sd.length sc1, .slice ea1 es1.length cx1] 42))) := (F1.out.trans f3).trans FA.out
  have HS1 : Hid (Row w3 sa1 m1.sd sc1) := hs1
  have HE1 : Hid (ERow w3 (fun _ => True) (fun _ => True) ea1 es1 cx1) := he1
  have h1l := he1.len
  have h1s := hs1.1
  have h1c := hs1.2.1
  unfold maxLen at h1c
  have HX1 : Hid ((w3.alloc (.cells #[.int .u64 (m1.tm : Int), .int .i64 m1.vo, .int .u64 (m1.si : Int), .int .u64 (m1.st : Int), .int .u64 (m1.sv : Int), .slice sa1 m1.sd.length sc1, .slice ea1 es1.length cx1] 42)).cell? ⟨w3.heap.size, 0, none⟩ = some (.int .u64 (m1.tm : Int)) ∧ (w3.alloc (.cells #[.int .u64 (m1.tm : Int), .int .i64 m1.vo, .int .u64 (m1.si : Int), .int .u64 (m1.st : Int), .int .u64 (m1.sv : Int), .slice sa1 m1.sd.length sc1, .slice ea1 es1.length cx1] 42)).cell? ⟨w3.heap.size, 1, none⟩ = some (.int .i64 m1.vo) ∧ (w3.alloc (.cells #[.int .u64 (m1.tm : Int), .int .i64 m1.vo, .int .u64 (m1.si : Int), .int .u64 (m1.st : Int), .int .u64 (m1.sv : Int), .slice sa1 m1.sd.length sc1, .slice ea1 es1.length cx1] 42)).cell? ⟨w3.heap.size, 2, none⟩ = some (.int .u64 (m1.si : Int)) ∧ (w3.alloc (.cells #[.int .u64 (m1.tm : Int), .int .i64 m1.vo, .int .u64 (m1.si : Int), .int .u64 (m1.st : Int), .int .u64 (m1.sv : Int), .slice sa1 m1.sd.length sc1, .slice ea1 es1.length cx1] 42)).cell? ⟨w3.heap.size, 3, none⟩ = some (.int .u64 (m1.st : Int)) ∧ (w3.alloc (.cells #[.int .u64 (m1.tm : Int), .int .i64 m1.vo, .int .u64 (m1.si : Int), .int .u64 (m1.st : Int), .int .u64 (m1.sv : Int), .slice sa1 m1.sd.length sc1, .slice ea1 es1.length cx1] 42)).cell? ⟨w3.heap.size, 4, none⟩ = some (.int .u64 (m1.sv : Int)) ∧ (w3.alloc (.cells #[.int .u64 (m1.tm : Int), .int .i64 m1.vo, .int .u64 (m1.si : Int), .int .u64 (m1.st : Int), .int .u64 (m1.sv : Int), .slice sa1 m1.sd.length sc1, .slice ea1 es1.length cx1] 42)).cell? ⟨w3.heap.size, 5, none⟩ = some (.slice sa1 m1.sd.length sc1) ∧ (w3.alloc (.cells #[.int .u64 (m1.tm : Int), .int .i64 m1.vo, .int .u64 (m1.si : Int), .int .u64 (m1.st : Int), .int .u64 (m1.sv : Int), .slice sa1 m1.sd.length sc1, .slice ea1 es1.length cx1] 42)).cell? ⟨w3.heap.size, 6, none⟩ = some (.slice ea1 es1.length cx1)) := by refine ⟨?_, ?_, ?_, ?_, ?_, ?_, ?_⟩ <;> simp
  have HTL : Hid ((l.take u).length = u) := by show _ = _; rw [List.length_take]; exact Nat.min_eq_left hu
  have K2 : Hid (Calls _ _ _ _ _) := scan_open ao (l.take u) cap (w3.alloc (.cells #[.int .u64 (m1.tm : Int), .int .i64 m1.vo, .int .u64 (m1.si : Int), .int .u64 (m1.st : Int), .int .u64 (m1.sv : Int), .slice sa1 m1.sd.length sc1, .slice ea1 es1.length cx1] 42)) (F3.out.tab HT.out (by simp)) ((F3.out.row HR.out (by simp)).takeC u) (by rw [HTL.out]; omega)
  have HSS : Hid (scan img0 (l.take u) = (m1, u)) := by
    have h := scan_self (l.length + 1) img0 l HB.out
    have e : scanP (l.length + 1) img0 l = (m1, u) := HMU.out.symm
    rw [e] at h
    exact h
  rw [HTL.out] at K2
  have u0 : (0 : Int) ≤ (u : Int) := by omega
  have uc : (u : Int) ≤ (cap : Int) := by omega
  have ul : ¬ (l.length : Int) < (u : Int) := by omega
  obtain ⟨b1, Hb1⟩ : ∃ b1, Hid (w3.heap.size = b1) := ⟨_, rfl⟩
  clear hs1 he1 f3 K1
  go_wp2_with fail
  refine K2.out.mono ?_
  rintro e w4 ⟨mm, uu, sa2, sc2, ea2, es2, cx2, HMU2, rfl, hs2, he2, HP2, hu2, f4⟩
  have hmm : (mm, uu) = (m1, u) := by rw [HMU2.out, HSS.out]
  cases hmm
  have F4 : Hid (Fr (fun _ => False) (w3.alloc (.cells #[.int .u64 (m1.tm : Int), .int .i64 m1.vo, .int .u64 (m1.si : Int), .int .u64 (m1.st : Int), .int .u64 (m1.sv : Int), .slice sa1 m1.sd.length sc1, .slice ea1 es1.length cx1] 42)) w4) := f4
  have HS2 : Hid (Row w4 sa2 m1.sd sc2) := hs2
  have HE2 : Hid (ERow w4 (fun _ => True) (fun _ => True) ea2 es2 cx2) := he2
  have h2l := he2.len
  have h2s := hs2.1
  have h2c := hs2.2.1
  unfold maxLen at h2c
  obtain ⟨b2, Hb2⟩ : ∃ b2, Hid (w4.heap.size = b2) := ⟨_, rfl⟩
  obtain ⟨W, HW⟩ : ∃ W, Hid (W = w4.alloc (.cells #[.int .u64 (m1.tm : Int), .int .i64 m1.vo, .int .u64 (m1.si : Int), .int .u64 (m1.st : Int), .int .u64 (m1.sv : Int), .slice sa2 m1.sd.length sc2, .slice ea2 es2.length cx2] 42)) := ⟨_, rfl⟩
  have F4W : Hid (Fr (fun _ => False) w4 W) := by show Fr _ _ _; rw [HW.out]; exact (Fr.refl _ _).alloc _
  have FW : Hid (Fr (fun _ => False) w W) := (F3.out.trans F4.out).trans F4W.out
  have HX2 : Hid (W.cell? ⟨b2, 0, none⟩ = some (.int .u64 (m1.tm : Int)) ∧ W.cell? ⟨b2, 1, none⟩ = some (.int .i64 m1.vo) ∧ W.cell? ⟨b2, 2, none⟩ = some (.int .u64 (m1.si : Int)) ∧ W.cell? ⟨b2, 3, none⟩ = some (.int .u64 (m1.st : Int)) ∧ W.cell? ⟨b2, 4, none⟩ = some (.int .u64 (m1.sv : Int)) ∧ W.cell? ⟨b2, 5, none⟩ = some (.slice sa2 m1.sd.length sc2) ∧ W.cell? ⟨b2, 6, none⟩ = some (.slice ea2 es2.length cx2)) := by rw [HW.out, ← Hb2.out]; refine ⟨?_, ?_, ?_, ?_, ?_, ?_, ?_⟩ <;> simp
  have HXW : Hid (W.cell? ⟨b1, 0, none⟩ = some (.int .u64 (m1.tm : Int)) ∧ W.cell? ⟨b1, 1, none⟩ = some (.int .i64 m1.vo) ∧ W.cell? ⟨b1, 2, none⟩ = some (.int .u64 (m1.si : Int)) ∧ W.cell? ⟨b1, 3, none⟩ = some (.int .u64 (m1.st : Int)) ∧ W.cell? ⟨b1, 4, none⟩ = some (.int .u64 (m1.sv : Int)) ∧ W.cell? ⟨b1, 5, none⟩ = some (.slice sa1 m1.sd.length sc1) ∧ W.cell? ⟨b1, 6, none⟩ = some (.slice ea1 es1.length cx1)) := by
    obtain ⟨q0, q1, q2, q3, q4, q5, q6⟩ := HX1.out
    have f := F4.out.trans F4W.out
    rw [← Hb1.out]
    exact ⟨f.cell q0 (by simp), f.cell q1 (by simp), f.cell q2 (by simp), f.cell q3 (by simp), f.cell q4 (by simp), f.cell q5 (by simp), f.cell q6 (by simp)⟩
  have KS : Hid (∀ w9, Fr (fun _ => False) W w9 → Calls Tryd.prog 13 #[.agg #[.int .u64 (m1.tm : Int), .int .i64 m1.vo, .int .u64 (m1.si : Int), .int .u64 (m1.st : Int), .int .u64 (m1.sv : Int), .slice sa1 m1.sd.length sc1, .slice ea1 es1.length cx1], .agg #[.int .u64 (m1.tm : Int), .int .i64 m1.vo, .int .u64 (m1.si : Int), .int .u64 (m1.st : Int), .int .u64 (m1.sv : Int), .slice sa2 m1.sd.length sc2, .slice ea2 es2.length cx2]] w9 fun e w' => e = .returned (.bool true) ∧ Fr (fun _ => False) w9 w') := fun w9 f => same_yes m1.tm m1.si m1.st m1.sv m1.vo sa1 sa2 ea1 ea2 m1.sd sc1 sc2 es1 es2 cx1 cx2 w9 _ _ _ _ (HE1.out.fr (FA.out.trans (F4.out.trans (F4W.out.trans f))) (by simp) (by simp)) (HE2.out.fr (F4W.out.trans f) (by simp) (by simp)) (by rw [HP1.out, HP2.out]) ((FA.out.trans (F4.out.trans (F4W.out.trans f))).row HS1.out (by simp)) ((F4W.out.trans f).row HS2.out (by simp))
  clear hs2 he2 f4 K2 HX1
  go_wp2_with fail
  rw [← HW.out, Hb1.out, Hb2.out]
  obtain ⟨p0, p1, p2, p3, p4, p5, p6⟩ := HXW.out
  obtain ⟨q0, q1, q2, q3, q4, q5, q6⟩ := HX2.out
  have HCD : Hid (W.drew.cell? ⟨b1, 0, none⟩ = some (.int .u64 (m1.tm : Int)) ∧ W.drew.cell? ⟨b1, 1, none⟩ = some (.int .i64 m1.vo) ∧ W.drew.cell? ⟨b1, 2, none⟩ = some (.int .u64 (m1.si : Int)) ∧ W.drew.cell? ⟨b1, 3, none⟩ = some (.int .u64 (m1.st : Int)) ∧ W.drew.cell? ⟨b1, 4, none⟩ = some (.int .u64 (m1.sv : Int)) ∧ W.drew.cell? ⟨b1, 5, none⟩ = some (.slice sa1 m1.sd.length sc1) ∧ W.drew.cell? ⟨b1, 6, none⟩ = some (.slice ea1 es1.length cx1) ∧ W.drew.cell? ⟨b2, 0, none⟩ = some (.int .u64 (m1.tm : Int)) ∧ W.drew.cell? ⟨b2, 1, none⟩ = some (.int .i64 m1.vo) ∧ W.drew.cell? ⟨b2, 2, none⟩ = some (.int .u64 (m1.si : Int)) ∧ W.drew.cell? ⟨b2, 3, none⟩ = some (.int .u64 (m1.st : Int)) ∧ W.drew.cell? ⟨b2, 4, none⟩ = some (.int .u64 (m1.sv : Int)) ∧ W.drew.cell? ⟨b2, 5, none⟩ = some (.slice sa2 m1.sd.length sc2) ∧ W.drew.cell? ⟨b2, 6, none⟩ = some (.slice ea2 es2.length cx2)) := ⟨p0, p1, p2, p3, p4, p5, p6, q0, q1, q2, q3, q4, q5, q6⟩
  have g1 : decide ((u : Int) < 0) = false := by simp
  have g2 : decide ((l.length : Int) < (u : Int)) = false := by simpa using hu
  have g2n : decide (l.length < u) = false := by simpa using hu
  have g3 : ((u : Int) != (u : Int)) = false := by simp
  go_region_held3 (fun w' => w'.cell? ⟨b1, 0, none⟩ = some (.int .u64 (m1.tm : Int)) ∧ w'.cell? ⟨b1, 1, none⟩ = some (.int .i64 m1.vo) ∧ w'.cell? ⟨b1, 2, none⟩ = some (.int .u64 (m1.si : Int)) ∧ w'.cell? ⟨b1, 3, none⟩ = some (.int .u64 (m1.st : Int)) ∧ w'.cell? ⟨b1, 4, none⟩ = some (.int .u64 (m1.sv : Int)) ∧ w'.cell? ⟨b1, 5, none⟩ = some (.slice sa1 m1.sd.length sc1) ∧ w'.cell? ⟨b1, 6, none⟩ = some (.slice ea1 es1.length cx1) ∧ w'.cell? ⟨b2, 0, none⟩ = some (.int .u64 (m1.tm : Int)) ∧ w'.cell? ⟨b2, 1, none⟩ = some (.int .i64 m1.vo) ∧ w'.cell? ⟨b2, 2, none⟩ = some (.int .u64 (m1.si : Int)) ∧ w'.cell? ⟨b2, 3, none⟩ = some (.int .u64 (m1.st : Int)) ∧ w'.cell? ⟨b2, 4, none⟩ = some (.int .u64 (m1.sv : Int)) ∧ w'.cell? ⟨b2, 5, none⟩ = some (.slice sa2 m1.sd.length sc2) ∧ w'.cell? ⟨b2, 6, none⟩ = some (.slice ea2 es2.length cx2)) (first | (with_reducible exact ⟨p0, p1, p2, p3, p4, p5, p6, q0, q1, q2, q3, q4, q5, q6⟩) | (with_reducible exact HCD.out) | (with_reducible exact H7.out) | (with_reducible exact H6.out) | (with_reducible exact H5.out) | go_keep) (first
    | (go_at_call 13; refine (KS.out _ F6.out).mono ?_; rintro e w7 ⟨rfl, f7⟩; have F7 : Hid (Fr (fun _ => False) W w7) := F6.out.trans f7; have H7 : Hid (w7.cell? ⟨b1, 0, none⟩ = some (.int .u64 (m1.tm : Int)) ∧ w7.cell? ⟨b1, 1, none⟩ = some (.int .i64 m1.vo) ∧ w7.cell? ⟨b1, 2, none⟩ = some (.int .u64 (m1.si : Int)) ∧ w7.cell? ⟨b1, 3, none⟩ = some (.int .u64 (m1.st : Int)) ∧ w7.cell? ⟨b1, 4, none⟩ = some (.int .u64 (m1.sv : Int)) ∧ w7.cell? ⟨b1, 5, none⟩ = some (.slice sa1 m1.sd.length sc1) ∧ w7.cell? ⟨b1, 6, none⟩ = some (.slice ea1 es1.length cx1) ∧ w7.cell? ⟨b2, 0, none⟩ = some (.int .u64 (m1.tm : Int)) ∧ w7.cell? ⟨b2, 1, none⟩ = some (.int .i64 m1.vo) ∧ w7.cell? ⟨b2, 2, none⟩ = some (.int .u64 (m1.si : Int)) ∧ w7.cell? ⟨b2, 3, none⟩ = some (.int .u64 (m1.st : Int)) ∧ w7.cell? ⟨b2, 4, none⟩ = some (.int .u64 (m1.sv : Int)) ∧ w7.cell? ⟨b2, 5, none⟩ = some (.slice sa2 m1.sd.length sc2) ∧ w7.cell? ⟨b2, 6, none⟩ = some (.slice ea2 es2.length cx2)) := ⟨F7.out.cell p0 (by simp), F7.out.cell p1 (by simp), F7.out.cell p2 (by simp), F7.out.cell p3 (by simp), F7.out.cell p4 (by simp), F7.out.cell p5 (by simp), F7.out.cell p6 (by simp), F7.out.cell q0 (by simp), F7.out.cell q1 (by simp), F7.out.cell q2 (by simp), F7.out.cell q3 (by simp), F7.out.cell q4 (by simp), F7.out.cell q5 (by simp), F7.out.cell q6 (by simp)⟩; clear f7)
    | (go_at_call 14; refine (image_any _ _ _ _ _ _ _ _ _ _ _ w5).mono ?_; rintro e w6 ⟨rfl, f6⟩; have F6 : Hid (Fr (fun _ => False) W w6) := F5.out.trans f6; have H6 : Hid (w6.cell? ⟨b1, 0, none⟩ = some (.int .u64 (m1.tm : Int)) ∧ w6.cell? ⟨b1, 1, none⟩ = some (.int .i64 m1.vo) ∧ w6.cell? ⟨b1, 2, none⟩ = some (.int .u64 (m1.si : Int)) ∧ w6.cell? ⟨b1, 3, none⟩ = some (.int .u64 (m1.st : Int)) ∧ w6.cell? ⟨b1, 4, none⟩ = some (.int .u64 (m1.sv : Int)) ∧ w6.cell? ⟨b1, 5, none⟩ = some (.slice sa1 m1.sd.length sc1) ∧ w6.cell? ⟨b1, 6, none⟩ = some (.slice ea1 es1.length cx1) ∧ w6.cell? ⟨b2, 0, none⟩ = some (.int .u64 (m1.tm : Int)) ∧ w6.cell? ⟨b2, 1, none⟩ = some (.int .i64 m1.vo) ∧ w6.cell? ⟨b2, 2, none⟩ = some (.int .u64 (m1.si : Int)) ∧ w6.cell? ⟨b2, 3, none⟩ = some (.int .u64 (m1.st : Int)) ∧ w6.cell? ⟨b2, 4, none⟩ = some (.int .u64 (m1.sv : Int)) ∧ w6.cell? ⟨b2, 5, none⟩ = some (.slice sa2 m1.sd.length sc2) ∧ w6.cell? ⟨b2, 6, none⟩ = some (.slice ea2 es2.length cx2)) := ⟨F6.out.cell p0 (by simp), F6.out.cell p1 (by simp), F6.out.cell p2 (by simp), F6.out.cell p3 (by simp), F6.out.cell p4 (by simp), F6.out.cell p5 (by simp), F6.out.cell p6 (by simp), F6.out.cell q0 (by simp), F6.out.cell q1 (by simp), F6.out.cell q2 (by simp), F6.out.cell q3 (by simp), F6.out.cell q4 (by simp), F6.out.cell q5 (by simp), F6.out.cell q6 (by simp)⟩; clear f6)
    | (go_at_call 14; refine (image_any _ _ _ _ _ _ _ _ _ _ _ _).mono ?_; rintro e w5 ⟨rfl, f5⟩; have F5 : Hid (Fr (fun _ => False) W w5) := (Fr.refl (fun _ => False) W).drew.trans f5; have H5 : Hid (w5.cell? ⟨b1, 0, none⟩ = some (.int .u64 (m1.tm : Int)) ∧ w5.cell? ⟨b1, 1, none⟩ = some (.int .i64 m1.vo) ∧ w5.cell? ⟨b1, 2, none⟩ = some (.int .u64 (m1.si : Int)) ∧ w5.cell? ⟨b1, 3, none⟩ = some (.int .u64 (m1.st : Int)) ∧ w5.cell? ⟨b1, 4, none⟩ = some (.int .u64 (m1.sv : Int)) ∧ w5.cell? ⟨b1, 5, none⟩ = some (.slice sa1 m1.sd.length sc1) ∧ w5.cell? ⟨b1, 6, none⟩ = some (.slice ea1 es1.length cx1) ∧ w5.cell? ⟨b2, 0, none⟩ = some (.int .u64 (m1.tm : Int)) ∧ w5.cell? ⟨b2, 1, none⟩ = some (.int .i64 m1.vo) ∧ w5.cell? ⟨b2, 2, none⟩ = some (.int .u64 (m1.si : Int)) ∧ w5.cell? ⟨b2, 3, none⟩ = some (.int .u64 (m1.st : Int)) ∧ w5.cell? ⟨b2, 4, none⟩ = some (.int .u64 (m1.sv : Int)) ∧ w5.cell? ⟨b2, 5, none⟩ = some (.slice sa2 m1.sd.length sc2) ∧ w5.cell? ⟨b2, 6, none⟩ = some (.slice ea2 es2.length cx2)) := ⟨F5.out.cell p0 (by simp), F5.out.cell p1 (by simp), F5.out.cell p2 (by simp), F5.out.cell p3 (by simp), F5.out.cell p4 (by simp), F5.out.cell p5 (by simp), F5.out.cell p6 (by simp), F5.out.cell q0 (by simp), F5.out.cell q1 (by simp), F5.out.cell q2 (by simp), F5.out.cell q3 (by simp), F5.out.cell q4 (by simp), F5.out.cell q5 (by simp), F5.out.cell q6 (by simp)⟩; clear f5))
  have FW7 : Hid (Fr (fun _ => False) w w7) := FW.out.trans F7.out
  clear p0 p1 p2 p3 p4 p5 p6 q0 q1 q2 q3 q4 q5 q6 H5 H6 H7 KS HXW HX2 HCD HW F5 F6 F7 g1 g2 g2n g3 u0 uc ul HS1 HS2 HE1 HE2 HMU HMU2 HSS FA F3 F4 F4W FW HP1 HP2 h1l h1s h1c h2l h2s h2c Hb1 Hb2
  obtain ⟨W8, HW8⟩ : ∃ W8, Hid (W8 = w7.alloc (.cells #[.int .u64 0, .int .i64 (-1), .int .u64 0, .int .u64 0, .int .u64 0, .slice none 0 0, .slice none 0 0] 34)) := ⟨_, rfl⟩
  obtain ⟨bw, Hbw⟩ : ∃ bw, Hid (w7.heap.size = bw) := ⟨_, rfl⟩
  have F8 : Hid (Fr (fun _ => False) w W8) := by show Fr _ _ _; rw [HW8.out]; exact FW7.out.alloc _
  have HS8 : Hid (W8.heap.size = bw + 1) := by show _ = _; rw [HW8.out, ← Hbw.out]; simp
  have HBW : Hid (w.heap.size ≤ bw) := by show _ ≤ _; rw [← Hbw.out]; exact FW7.out.size
  have HI8 : Hid (IBox W8 bw img0 none 0 none 0 0) := by
    rw [HW8.out, ← Hbw.out]
    refine ⟨?_, ?_, ?_, ?_, ?_, ?_, ?_, fun i hi => ?_⟩
    all_goals simp [img0]
  go_wp2
  rw [← HW8.out, Hbw.out]
  go_loopw [13, 15] (fun pv iv wr => ∃ (k : Nat) (qv : Value) (q : List Nat) (m : Img) (sa : Option Addr) (sc : Nat) (ea : Option Addr) (es : List En) (c : Nat), k ≤ rs.length ∧ iv = .int .i64 (k : Int) ∧ pv = qv ∧ Hid (Own wr (bw + 1) qv q) ∧ Hid (q.length ≤ k * 237) ∧ Hid (IBox wr bw m sa sc ea es.length c) ∧ Hid (ImV wr (fun j => qv.ownBlock ≠ some j ∧ j ≠ bw) m sa sc ea es c) ∧ Hid (Good m k) ∧ Hid (Fr (fun j => j = bw) W8 wr)) (fun _ iv _ => rs.length - (intOf iv).toNat)
  case atStart => exact ⟨0, .slice none 0 0, [], img0, none, 0, none, [], 0, Nat.zero_le _, rfl, rfl, Own.nil _ _, by show _ ≤ _; simp, HI8.out, ⟨row_nil _, fun e => absurd rfl e, ERow.nil _ _ _, rfl⟩, good0, Fr.refl _ _⟩
  case round =>
    obtain ⟨k, qv, q, m, sa, sc, ea, es, c, hk, rfl, rfl, HO, HQL, HIB, HIV, HGO, HFR⟩ := hrel
    obtain ⟨qa, qc, hqv, hqr, _⟩ := HO.out.row
    subst hqv
    have hq1 := hqr.1
    have hq2 := hqr.2.1
    unfold maxLen at hq2
    have FWR : Hid (Fr (fun _ => False) w wr) := F8.out.trans' HFR.out (fun i hi e => by have := HBW.out; omega)
    have HRR2 : Hid (W8.heap.size ≤ wr.heap.size) := HFR.out.size
    by_cases hlt : k < rs.length
    · obtain ⟨b, off, x, hra, x0, x1, x2, x3, x4, gx, Hx⟩ := (HRR.out.fr FWR.out).at hlt
      subst hra
      have hmem : x ∈ rs := by rw [Hx.out, List.getD_eq_getElem?_getD, List.getElem?_eq_getElem hlt]; exact List.getElem_mem _
      have HXD : Hid (x.d.length ≤ 200) := HRD.out.1 x hmem
      have HXB : Hid (x.d ≠ [] → ∀ a, x.p = some a → a.block < w.heap.size) := fun hne a ha => row_blk (HRR.out.2.2.1 x hmem).row hne a ha
      have i1 : (0 : Int) ≤ (k : Int) := by omega
      have i2 : (k : Int) < (rs.length : Int) := by omega
      have gk := gx.k
      obtain ⟨y0, y1, y2, y3, y4, y5, y6, yz⟩ := HIB.out
      have hgl := HIV.out.erow.len
      have hsl := HIV.out.srow.1
      have hsc := HIV.out.srow.2.1
      unfold maxLen at hsc
      have hxl := gx.row.1
      have hxc := gx.row.2.1
      unfold maxLen at hxc
      have HGX : Hid (RcG wr x) := gx
      have HDQ : Hid (∀ j, (Value.slice qa q.length qc).ownBlock = some j → bw + 1 ≤ j ∧ j < wr.heap.size) := HO.out.lt
      clear gx hqr
      by_cases h1 : x.k % 4 = 1
      · have h1a : (x.k : Int) % 4 = 1 := by omega
        have HA : Hid (Fr (fun _ => False) wr (wr.alloc (.cells #[.int .u8 2, .int .u64 (x.a : Int), .int .u64 (x.b : Int), .int .i16 x.v, .slice x.p x.d.length x.c] 41))) := (Fr.refl _ _).alloc _
        have K := lawb_ex m sa sc ea es c 2 x.a x.b x.v x.d x.p x.c k (wr.alloc (.cells #[.int .u8 2, .int .u64 (x.a : Int), .int .u64 (x.b : Int), .int .i16 x.v, .slice x.p x.d.length x.c] 41)) (fun j => (Value.slice qa q.length qc).ownBlock ≠ some j ∧ j ≠ bw) (HIV.out.fr HA.out (by simp)) HGO.out (by omega) ⟨by show 2 < 256; omega, HGX.out.a, HGX.out.b, HGX.out.v, HA.out.row HGX.out.row (by simp)⟩ HXD.out (fun j hj => ⟨fun e => by have := (HDQ.out j e).2; have := HA.out.size; omega, by have := HA.out.size; have := HS8.out; have := HRR2.out; omega⟩) (fun hne a ha => ⟨fun e => by have := (HDQ.out _ e).1; have := HXB.out hne a ha; have := HBW.out; omega, by have := HXB.out hne a ha; have := HBW.out; omega⟩)
        unfold aggI at K
        rw [show ((2 : Nat) : Int) = 2 from rfl] at K
        have HK : Hid (Calls _ _ _ _ _) := K
        clear K
        obtain ⟨v0, v1, v2, v3, v4, v5, v6, _⟩ := HIB.out.fr HA.out (by simp)
        go_wp2_with fail
        refine HK.out.mono ?_
        rintro e w2 ⟨aq, qb, cq, m2, sa2, sc2, ea2, es2, cc2, rfl, hrow, hqb, HQ, HM, hi2, f2⟩
        unfold aggI
        have F2 : Hid (Fr (fun _ => False) wr w2) := HA.out.trans f2
        have HA2 : Hid (Fr (fun _ => False) w2 (w2.alloc (.cells #[.int .u64 (m2.tm : Int), .int .i64 m2.vo, .int .u64 (m2.si : Int), .int .u64 (m2.st : Int), .int .u64 (m2.sv : Int), .slice sa2 m2.sd.length sc2, .slice ea2 es2.length cc2] 34))) := (Fr.refl _ _).alloc _
        have HI2 : Hid (ImV w2 (fun j => (Value.slice qa q.length qc).ownBlock ≠ some j ∧ j ≠ bw) m2 sa2 sc2 ea2 es2 cc2) := hi2
        have HRB : Hid (Row (w2.alloc (.cells #[.int .u64 (m2.tm : Int), .int .i64 m2.vo, .int .u64 (m2.si : Int), .int .u64 (m2.st : Int), .int .u64 (m2.sv : Int), .slice sa2 m2.sd.length sc2, .slice ea2 es2.length cc2] 34)) aq qb cq) := HA2.out.row hrow (by simp)
        have HO2 : Hid (Own (w2.alloc (.cells #[.int .u64 (m2.tm : Int), .int .i64 m2.vo, .int .u64 (m2.si : Int), .int .u64 (m2.st : Int), .int .u64 (m2.sv : Int), .slice sa2 m2.sd.length sc2, .slice ea2 es2.length cc2] 34)) (bw + 1) (.slice qa q.length qc) q) := HO.out.fr (F2.out.trans HA2.out) (by simp)
        have HBL : Hid (qb.length ≤ 237) := by show _ ≤ _; rw [HQ.out]; exact (bytesOf_len m (x := ⟨2, x.a, x.b, x.v, x.d, x.p, x.c⟩) ⟨by show 2 < 256; omega, HGX.out.a, HGX.out.b, HGX.out.v, HGX.out.row⟩ HXD.out).1
        have HLN : Hid (q.length + qb.length ≤ 140737488355328) := by show _ ≤ _; have := HQL.out; have := HBL.out; omega
        have hsz : bw + 1 ≤ (w2.alloc (.cells #[.int .u64 (m2.tm : Int), .int .i64 m2.vo, .int .u64 (m2.si : Int), .int .u64 (m2.st : Int), .int .u64 (m2.sv : Int), .slice sa2 m2.sd.length sc2, .slice ea2 es2.length cc2] 34)).heap.size := by have := (F2.out.trans HA2.out).size; have := HS8.out; have := HRR2.out; omega
        have HSZ : Hid _ := hsz
        have HG2 : Hid (Good m2 (k + 1)) := by
          show Good _ _
          rw [HM.out]
          exact good_next HGO.out (w := wr) ⟨by show 2 < 256; omega, HGX.out.a, HGX.out.b, HGX.out.v, HGX.out.row⟩ HXD.out
        have HV2 : Hid ((w2.alloc (.cells #[.int .u64 (m2.tm : Int), .int .i64 m2.vo, .int .u64 (m2.si : Int), .int .u64 (m2.st : Int), .int .u64 (m2.sv : Int), .slice sa2 m2.sd.length sc2, .slice ea2 es2.length cc2] 34)).cell? ⟨w2.heap.size, 0, none⟩ = some (.int .u64 (m2.tm : Int)) ∧ (w2.alloc (.cells #[.int .u64 (m2.tm : Int), .int .i64 m2.vo, .int .u64 (m2.si : Int), .int .u64 (m2.st : Int), .int .u64 (m2.sv : Int), .slice sa2 m2.sd.length sc2, .slice ea2 es2.length cc2] 34)).cell? ⟨w2.heap.size, 1, none⟩ = some (.int .i64 m2.vo) ∧ (w2.alloc (.cells #[.int .u64 (m2.tm : Int), .int .i64 m2.vo, .int .u64 (m2.si : Int), .int .u64 (m2.st : Int), .int .u64 (m2.sv : Int), .slice sa2 m2.sd.length sc2, .slice ea2 es2.length cc2] 34)).cell? ⟨w2.heap.size, 2, none⟩ = some (.int .u64 (m2.si : Int)) ∧ (w2.alloc (.cells #[.int .u64 (m2.tm : Int), .int .i64 m2.vo, .int .u64 (m2.si : Int), .int .u64 (m2.st : Int), .int .u64 (m2.sv : Int), .slice sa2 m2.sd.length sc2, .slice ea2 es2.length cc2] 34)).cell? ⟨w2.heap.size, 3, none⟩ = some (.int .u64 (m2.st : Int)) ∧ (w2.alloc (.cells #[.int .u64 (m2.tm : Int), .int .i64 m2.vo, .int .u64 (m2.si : Int), .int .u64 (m2.st : Int), .int .u64 (m2.sv : Int), .slice sa2 m2.sd.length sc2, .slice ea2 es2.length cc2] 34)).cell? ⟨w2.heap.size, 4, none⟩ = some (.int .u64 (m2.sv : Int)) ∧ (w2.alloc (.cells #[.int .u64 (m2.tm : Int), .int .i64 m2.vo, .int .u64 (m2.si : Int), .int .u64 (m2.st : Int), .int .u64 (m2.sv : Int), .slice sa2 m2.sd.length sc2, .slice ea2 es2.length cc2] 34)).cell? ⟨w2.heap.size, 5, none⟩ = some (.slice sa2 m2.sd.length sc2) ∧ (w2.alloc (.cells #[.int .u64 (m2.tm : Int), .int .i64 m2.vo, .int .u64 (m2.si : Int), .int .u64 (m2.st : Int), .int .u64 (m2.sv : Int), .slice sa2 m2.sd.length sc2, .slice ea2 es2.length cc2] 34)).cell? ⟨w2.heap.size, 6, none⟩ = some (.slice ea2 es2.length cc2)) := ⟨by simp, by simp, by simp, by simp, by simp, by simp, by simp⟩
        have h2l := hi2.erow.len
        have h2s := hi2.srow.1
        have h2c := hi2.srow.2.1
        unfold maxLen at h2c
        clear hrow hqb hi2 f2 HK x0 x1 x2 x3 x4 y0 y1 y2 y3 y4 y5 y6 yz
        go_wp2_with (at_builtin; refine wpList_append_bytes rfl (.tmp 93) (.tmp 94) rfl (bw + 1) _ q rfl HO2.out aq qb cq rfl HRB.out HLN.out hsz ?_)
        intro v4 w4 o4 g4 hn4
        have F4 : Hid (Fr (fun j => (Value.slice qa q.length qc).ownBlock = some j) (w2.alloc (.cells #[.int .u64 (m2.tm : Int), .int .i64 m2.vo, .int .u64 (m2.si : Int), .int .u64 (m2.st : Int), .int .u64 (m2.sv : Int), .slice sa2 m2.sd.length sc2, .slice ea2 es2.length cc2] 34)) w4) := (Fr.refl _ _).grown g4 (fun j hj => .inl hj)
        have HBN : Hid (¬ (Value.slice qa q.length qc).ownBlock = some bw) := fun e => by have := (HDQ.out bw e).1; omega
        have HBV : Hid (IBox w4 bw m sa sc ea es.length c) := (HIB.out.fr (F2.out.trans HA2.out) (by simp)).fr F4.out HBN.out
        have HVN : Hid (¬ (Value.slice qa q.length qc).ownBlock = some w2.heap.size) := fun e => by have := (HDQ.out _ e).2; have := F2.out.size; omega
        obtain ⟨b18, Hb18⟩ : ∃ b18, Hid (w2.heap.size = b18) := ⟨_, rfl⟩
        have HV4 : Hid (w4.cell? ⟨b18, 0, none⟩ = some (.int .u64 (m2.tm : Int)) ∧ w4.cell? ⟨b18, 1, none⟩ = some (.int .i64 m2.vo) ∧ w4.cell? ⟨b18, 2, none⟩ = some (.int .u64 (m2.si : Int)) ∧ w4.cell? ⟨b18, 3, none⟩ = some (.int .u64 (m2.st : Int)) ∧ w4.cell? ⟨b18, 4, none⟩ = some (.int .u64 (m2.sv : Int)) ∧ w4.cell? ⟨b18, 5, none⟩ = some (.slice sa2 m2.sd.length sc2) ∧ w4.cell? ⟨b18, 6, none⟩ = some (.slice ea2 es2.length cc2)) := by
          obtain ⟨q0, q1, q2, q3, q4, q5, q6⟩ := HV2.out
          rw [← Hb18.out]
          exact ⟨F4.out.cell q0 HVN.out, F4.out.cell q1 HVN.out, F4.out.cell q2 HVN.out, F4.out.cell q3 HVN.out, F4.out.cell q4 HVN.out, F4.out.cell q5 HVN.out, F4.out.cell q6 HVN.out⟩
        have HI4 : Hid (ImV w4 (fun j => v4.ownBlock ≠ some j ∧ j ≠ bw) m2 sa2 sc2 ea2 es2 cc2) := by
          have h1 := (HI2.out.fr HA2.out (by simp)).mono (E := fun j => (Value.slice qa q.length qc).ownBlock ≠ some j ∧ v4.ownBlock ≠ some j ∧ j ≠ bw) (fun j hj hd => ⟨hd.1, fun e => by rcases hn4 j e with e' | e'; exact hd.1 e'; exact absurd hj (Nat.not_lt.2 (by simp; omega)), hd.2⟩)
          exact (h1.fr F4.out (fun j hj => hj.1)).mono (fun j _ hj => ⟨hj.2.1, hj.2.2⟩)
        have FR4 : Hid (Fr (fun j => j = bw) W8 w4) := (HFR.out.trans ((F2.out.trans HA2.out).mono (fun _ _ h => h.elim))).trans' F4.out (fun j hj e => by have := (HDQ.out j e).1; have := HS8.out; omega)
        obtain ⟨l4, Hl4⟩ : ∃ l4, Hid (q ++ qb = l4) := ⟨_, rfl⟩
        rw [Hl4.out] at o4
        obtain ⟨av4, cv4, hv4, _⟩ := o4.row
        subst hv4
        have O4 : Hid (Own w4 (bw + 1) (.slice av4 l4.length cv4) l4) := o4
        have HL4 : Hid (l4.length ≤ (k + 1) * 237) := by show _ ≤ _; rw [← Hl4.out, List.length_append]; have := HQL.out; have := HBL.out; omega
        obtain ⟨s0, s1, s2, s3, s4, s5, s6⟩ := HV4.out
        obtain ⟨y0, y1, y2, y3, y4, y5, y6, yz⟩ := HBV.out
        have z0 := yz 0 (by omega)
        have z1 := yz 1 (by omega)
        have z2 := yz 2 (by omega)
        have z3 := yz 3 (by omega)
        have z4 := yz 4 (by omega)
        have z5 := yz 5 (by omega)
        have z6 := yz 6 (by omega)
        have hb18 : ¬ b18 = bw := by have := Hb18.out; have := F2.out.size; have := HS8.out; have := HRR2.out; omega
        have hb18' : ¬ bw = b18 := fun e => hb18 e.symm
        rw [Hb18.out]
        clear o4 g4 hn4 yz
        go_wp2
        obtain ⟨hst, fst⟩ := IBox.store (m2 := m2) (sa2 := sa2) (sc2 := sc2) (ea2 := ea2) (n2 := es2.length) (cc2 := cc2) HBV.out
        have HOF : Own _ (bw + 1) (.slice av4 l4.length cv4) l4 := O4.out.fr fst (fun j hj e => by have := (O4.out.lt j hj).1; omega)
        go_roundw
        case rel => exact ⟨k + 1, _, l4, m2, sa2, sc2, ea2, es2, cc2, by omega, by go_num, rfl, HOF, HL4.out, hst, HI4.out.fr fst (fun j hj => hj.2), HG2.out, FR4.out.trans fst⟩
        case measure => simp [intOf]; omega
      · have h1a : ¬ (x.k : Int) % 4 = 1 := by omega
        have HA : Hid (Fr (fun _ => False) wr (wr.alloc (.cells #[.int .u8 (x.k : Int), .int .u64 (x.a : Int), .int .u64 (x.b : Int), .int .i16 x.v, .slice x.p x.d.length x.c] 41))) := (Fr.refl _ _).alloc _
        have K := lawb_ex m sa sc ea es c x.k x.a x.b x.v x.d x.p x.c k (wr.alloc (.cells #[.int .u8 (x.k : Int), .int .u64 (x.a : Int), .int .u64 (x.b : Int), .int .i16 x.v, .slice x.p x.d.length x.c] 41)) (fun j => (Value.slice qa q.length qc).ownBlock ≠ some j ∧ j ≠ bw) (HIV.out.fr HA.out (by simp)) HGO.out (by omega) ⟨by show x.k < 256; omega, HGX.out.a, HGX.out.b, HGX.out.v, HA.out.row HGX.out.row (by simp)⟩ HXD.out (fun j hj => ⟨fun e => by have := (HDQ.out j e).2; have := HA.out.size; omega, by have := HA.out.size; have := HS8.out; have := HRR2.out; omega⟩) (fun hne a ha => ⟨fun e => by have := (HDQ.out _ e).1; have := HXB.out hne a ha; have := HBW.out; omega, by have := HXB.out hne a ha; have := HBW.out; omega⟩)
        unfold aggI at K
        have HK : Hid (Calls _ _ _ _ _) := K
        clear K
        obtain ⟨v0, v1, v2, v3, v4, v5, v6, _⟩ := HIB.out.fr HA.out (by simp)
        go_wp2_with fail
        refine HK.out.mono ?_
        rintro e w2 ⟨aq, qb, cq, m2, sa2, sc2, ea2, es2, cc2, rfl, hrow, hqb, HQ, HM, hi2, f2⟩
        unfold aggI
        have F2 : Hid (Fr (fun _ => False) wr w2) := HA.out.trans f2
        have HA2 : Hid (Fr (fun _ => False) w2 (w2.alloc (.cells #[.int .u64 (m2.tm : Int), .int .i64 m2.vo, .int .u64 (m2.si : Int), .int .u64 (m2.st : Int), .int .u64 (m2.sv : Int), .slice sa2 m2.sd.length sc2, .slice ea2 es2.length cc2] 34))) := (Fr.refl _ _).alloc _
        have HI2 : Hid (ImV w2 (fun j => (Value.slice qa q.length qc).ownBlock ≠ some j ∧ j ≠ bw) m2 sa2 sc2 ea2 es2 cc2) := hi2
        have HRB : Hid (Row (w2.alloc (.cells #[.int .u64 (m2.tm : Int), .int .i64 m2.vo, .int .u64 (m2.si : Int), .int .u64 (m2.st : Int), .int .u64 (m2.sv : Int), .slice sa2 m2.sd.length sc2, .slice ea2 es2.length cc2] 34)) aq qb cq) := HA2.out.row hrow (by simp)
        have HO2 : Hid (Own (w2.alloc (.cells #[.int .u64 (m2.tm : Int), .int .i64 m2.vo, .int .u64 (m2.si : Int), .int .u64 (m2.st : Int), .int .u64 (m2.sv : Int), .slice sa2 m2.sd.length sc2, .slice ea2 es2.length cc2] 34)) (bw + 1) (.slice qa q.length qc) q) := HO.out.fr (F2.out.trans HA2.out) (by simp)
        have HBL : Hid (qb.length ≤ 237) := by show _ ≤ _; rw [HQ.out]; exact (bytesOf_len m (x := ⟨x.k, x.a, x.b, x.v, x.d, x.p, x.c⟩) ⟨by show x.k < 256; omega, HGX.out.a, HGX.out.b, HGX.out.v, HGX.out.row⟩ HXD.out).1
        have HLN : Hid (q.length + qb.length ≤ 140737488355328) := by show _ ≤ _; have := HQL.out; have := HBL.out; omega
        have hsz : bw + 1 ≤ (w2.alloc (.cells #[.int .u64 (m2.tm : Int), .int .i64 m2.vo, .int .u64 (m2.si : Int), .int .u64 (m2.st : Int), .int .u64 (m2.sv : Int), .slice sa2 m2.sd.length sc2, .slice ea2 es2.length cc2] 34)).heap.size := by have := (F2.out.trans HA2.out).size; have := HS8.out; have := HRR2.out; omega
        have HSZ : Hid _ := hsz
        have HG2 : Hid (Good m2 (k + 1)) := by
          show Good _ _
          rw [HM.out]
          exact good_next HGO.out (w := wr) ⟨by show x.k < 256; omega, HGX.out.a, HGX.out.b, HGX.out.v, HGX.out.row⟩ HXD.out
        have HV2 : Hid ((w2.alloc (.cells #[.int .u64 (m2.tm : Int), .int .i64 m2.vo, .int .u64 (m2.si : Int), .int .u64 (m2.st : Int), .int .u64 (m2.sv : Int), .slice sa2 m2.sd.length sc2, .slice ea2 es2.length cc2] 34)).cell? ⟨w2.heap.size, 0, none⟩ = some (.int .u64 (m2.tm : Int)) ∧ (w2.alloc (.cells #[.int .u64 (m2.tm : Int), .int .i64 m2.vo, .int .u64 (m2.si : Int), .int .u64 (m2.st : Int), .int .u64 (m2.sv : Int), .slice sa2 m2.sd.length sc2, .slice ea2 es2.length cc2] 34)).cell? ⟨w2.heap.size, 1, none⟩ = some (.int .i64 m2.vo) ∧ (w2.alloc (.cells #[.int .u64 (m2.tm : Int), .int .i64 m2.vo, .int .u64 (m2.si : Int), .int .u64 (m2.st : Int), .int .u64 (m2.sv : Int), .slice sa2 m2.sd.length sc2, .slice ea2 es2.length cc2] 34)).cell? ⟨w2.heap.size, 2, none⟩ = some (.int .u64 (m2.si : Int)) ∧ (w2.alloc (.cells #[.int .u64 (m2.tm : Int), .int .i64 m2.vo, .int .u64 (m2.si : Int), .int .u64 (m2.st : Int), .int .u64 (m2.sv : Int), .slice sa2 m2.sd.length sc2, .slice ea2 es2.length cc2] 34)).cell? ⟨w2.heap.size, 3, none⟩ = some (.int .u64 (m2.st : Int)) ∧ (w2.alloc (.cells #[.int .u64 (m2.tm : Int), .int .i64 m2.vo, .int .u64 (m2.si : Int), .int .u64 (m2.st : Int), .int .u64 (m2.sv : Int), .slice sa2 m2.sd.length sc2, .slice ea2 es2.length cc2] 34)).cell? ⟨w2.heap.size, 4, none⟩ = some (.int .u64 (m2.sv : Int)) ∧ (w2.alloc (.cells #[.int .u64 (m2.tm : Int), .int .i64 m2.vo, .int .u64 (m2.si : Int), .int .u64 (m2.st : Int), .int .u64 (m2.sv : Int), .slice sa2 m2.sd.length sc2, .slice ea2 es2.length cc2] 34)).cell? ⟨w2.heap.size, 5, none⟩ = some (.slice sa2 m2.sd.length sc2) ∧ (w2.alloc (.cells #[.int .u64 (m2.tm : Int), .int .i64 m2.vo, .int .u64 (m2.si : Int), .int .u64 (m2.st : Int), .int .u64 (m2.sv : Int), .slice sa2 m2.sd.length sc2, .slice ea2 es2.length cc2] 34)).cell? ⟨w2.heap.size, 6, none⟩ = some (.slice ea2 es2.length cc2)) := ⟨by simp, by simp, by simp, by simp, by simp, by simp, by simp⟩
        have h2l := hi2.erow.len
        have h2s := hi2.srow.1
        have h2c := hi2.srow.2.1
        unfold maxLen at h2c
        clear hrow hqb hi2 f2 HK x0 x1 x2 x3 x4 y0 y1 y2 y3 y4 y5 y6 yz
        go_wp2_with (at_builtin; refine wpList_append_bytes rfl (.tmp 93) (.tmp 94) rfl (bw + 1) _ q rfl HO2.out aq qb cq rfl HRB.out HLN.out hsz ?_)
        intro v4 w4 o4 g4 hn4
        have F4 : Hid (Fr (fun j => (Value.slice qa q.length qc).ownBlock = some j) (w2.alloc (.cells #[.int .u64 (m2.tm : Int), .int .i64 m2.vo, .int .u64 (m2.si : Int), .int .u64 (m2.st : Int), .int .u64 (m2.sv : Int), .slice sa2 m2.sd.length sc2, .slice ea2 es2.length cc2] 34)) w4) := (Fr.refl _ _).grown g4 (fun j hj => .inl hj)
        have HBN : Hid (¬ (Value.slice qa q.length qc).ownBlock = some bw) := fun e => by have := (HDQ.out bw e).1; omega
        have HBV : Hid (IBox w4 bw m sa sc ea es.length c) := (HIB.out.fr (F2.out.trans HA2.out) (by simp)).fr F4.out HBN.out
        have HVN : Hid (¬ (Value.slice qa q.length qc).ownBlock = some w2.heap.size) := fun e => by have := (HDQ.out _ e).2; have := F2.out.size; omega
        obtain ⟨b18, Hb18⟩ : ∃ b18, Hid (w2.heap.size = b18) := ⟨_, rfl⟩
        have HV4 : Hid (w4.cell? ⟨b18, 0, none⟩ = some (.int .u64 (m2.tm : Int)) ∧ w4.cell? ⟨b18, 1, none⟩ = some (.int .i64 m2.vo) ∧ w4.cell? ⟨b18, 2, none⟩ = some (.int .u64 (m2.si : Int)) ∧ w4.cell? ⟨b18, 3, none⟩ = some (.int .u64 (m2.st : Int)) ∧ w4.cell? ⟨b18, 4, none⟩ = some (.int .u64 (m2.sv : Int)) ∧ w4.cell? ⟨b18, 5, none⟩ = some (.slice sa2 m2.sd.length sc2) ∧ w4.cell? ⟨b18, 6, none⟩ = some (.slice ea2 es2.length cc2)) := by
          obtain ⟨q0, q1, q2, q3, q4, q5, q6⟩ := HV2.out
          rw [← Hb18.out]
          exact ⟨F4.out.cell q0 HVN.out, F4.out.cell q1 HVN.out, F4.out.cell q2 HVN.out, F4.out.cell q3 HVN.out, F4.out.cell q4 HVN.out, F4.out.cell q5 HVN.out, F4.out.cell q6 HVN.out⟩
        have HI4 : Hid (ImV w4 (fun j => v4.ownBlock ≠ some j ∧ j ≠ bw) m2 sa2 sc2 ea2 es2 cc2) := by
          have h1 := (HI2.out.fr HA2.out (by simp)).mono (E := fun j => (Value.slice qa q.length qc).ownBlock ≠ some j ∧ v4.ownBlock ≠ some j ∧ j ≠ bw) (fun j hj hd => ⟨hd.1, fun e => by rcases hn4 j e with e' | e'; exact hd.1 e'; exact absurd hj (Nat.not_lt.2 (by simp; omega)), hd.2⟩)
          exact (h1.fr F4.out (fun j hj => hj.1)).mono (fun j _ hj => ⟨hj.2.1, hj.2.2⟩)
        have FR4 : Hid (Fr (fun j => j = bw) W8 w4) := (HFR.out.trans ((F2.out.trans HA2.out).mono (fun _ _ h => h.elim))).trans' F4.out (fun j hj e => by have := (HDQ.out j e).1; have := HS8.out; omega)
        obtain ⟨l4, Hl4⟩ : ∃ l4, Hid (q ++ qb = l4) := ⟨_, rfl⟩
        rw [Hl4.out] at o4
        obtain ⟨av4, cv4, hv4, _⟩ := o4.row
        subst hv4
        have O4 : Hid (Own w4 (bw + 1) (.slice av4 l4.length cv4) l4) := o4
        have HL4 : Hid (l4.length ≤ (k + 1) * 237) := by show _ ≤ _; rw [← Hl4.out, List.length_append]; have := HQL.out; have := HBL.out; omega
        obtain ⟨s0, s1, s2, s3, s4, s5, s6⟩ := HV4.out
        obtain ⟨y0, y1, y2, y3, y4, y5, y6, yz⟩ := HBV.out
        have z0 := yz 0 (by omega)
        have z1 := yz 1 (by omega)
        have z2 := yz 2 (by omega)
        have z3 := yz 3 (by omega)
        have z4 := yz 4 (by omega)
        have z5 := yz 5 (by omega)
        have z6 := yz 6 (by omega)
        have hb18 : ¬ b18 = bw := by have := Hb18.out; have := F2.out.size; have := HS8.out; have := HRR2.out; omega
        have hb18' : ¬ bw = b18 := fun e => hb18 e.symm
        rw [Hb18.out]
        clear o4 g4 hn4 yz
        go_wp2
        obtain ⟨hst, fst⟩ := IBox.store (m2 := m2) (sa2 := sa2) (sc2 := sc2) (ea2 := ea2) (n2 := es2.length) (cc2 := cc2) HBV.out
        have HOF : Own _ (bw + 1) (.slice av4 l4.length cv4) l4 := O4.out.fr fst (fun j hj e => by have := (O4.out.lt j hj).1; omega)
        go_roundw
        case rel => exact ⟨k + 1, _, l4, m2, sa2, sc2, ea2, es2, cc2, by omega, by go_num, rfl, HOF, HL4.out, hst, HI4.out.fr fst (fun j hj => hj.2), HG2.out, FR4.out.trans fst⟩
        case measure => simp [intOf]; omega
    · have i2 : ¬ (k : Int) < (rs.length : Int) := by omega
      have HQB : Hid (q.length ≤ 14220) := by show _ ≤ _; have := HQL.out; omega
      have HRQ : Hid (Row wr qa q qc) := hqr
      clear hqr
      by_cases hq0 : q.length = 0
      · rw [hq0]
        go_wp2
        go_ret
        exact ⟨rfl, FWR.out⟩
      · by_cases ht0 : t = 0
        · subst ht0
          have hq0' : ¬ (q.length : Int) = 0 := by omega
          go_wp2
          go_ret
          exact ⟨rfl, FWR.out⟩
        · have hqb : ((q.length : Int) == 0) = false := by simp; intro e; apply hq0; rw [e]; rfl
          have htb : ((t : Int) == 0) = false := by simp; omega
          have hqn : ¬ (q.length : Int) = 0 := by omega
          have htn : ¬ (t : Int) = 0 := by omega
          obtain ⟨g, o, hqa, hcell⟩ := HRQ.out.2.2.2.2 (fun e => by rw [e] at hq0; simp at hq0)
          subst hqa
          obtain ⟨i, Hi⟩ : ∃ i, Hid (a % q.length = i) := ⟨_, rfl⟩
          have hi : i < q.length := by rw [← Hi.out]; exact Nat.mod_lt _ (by omega)
          have em2 : (a : Int) % (q.length : Int) = (i : Int) := by rw [← Hi.out]; rfl
          obtain ⟨z, Hz⟩ : ∃ z, Hid (q.getD i 0 = z) := ⟨_, rfl⟩
          have cz := hcell i hi
          rw [Hz.out] at cz
          have hz8 : z < 256 := by rw [← Hz.out, List.getD_eq_getElem?_getD, List.getElem?_eq_getElem hi]; exact HRQ.out.2.2.1 _ (List.getElem_mem _)
          obtain ⟨y, ey, hy8⟩ : ∃ y : Nat, bits .xor .u8 (z : Int) (t : Int) = (y : Int) ∧ y < 256 := ⟨_, xor_u8 z t hz8 ht8⟩
          have fz : wr.frozen? ⟨g, o + i, none⟩ = false := by
            rcases HO.out.1.2 with ⟨he, _⟩ | ⟨g', cp, cur, he, _, hg, _⟩
            · cases he
            · cases he; simp [World.frozen?, hg]
          have i0 : (0 : Int) ≤ (i : Int) := by omega
          have il : (i : Int) < (q.length : Int) := by omega
          have hgw : w.heap.size ≤ g := by have := (HO.out.lt g rfl).1; have := HBW.out; omega
          have HFS : Hid (Fr (fun _ => False) w (wr.setCell ⟨g, o + i, none⟩ (.int .u8 (y : Int)))) := FWR.out.setCell (.inr hgw) _
          have HQS : Hid (Row (wr.setCell ⟨g, o + i, none⟩ (.int .u8 (y : Int))) (some ⟨g, o, none⟩) (q.set i y) qc) := row_set HRQ.out hi hy8
          have HQL2 : Hid ((q.set i y).length = q.length) := List.length_set ..
          have K3 := scan_open (some ⟨g, o, none⟩) (q.set i y) qc (wr.setCell ⟨g, o + i, none⟩ (.int .u8 (y : Int))) (HFS.out.tab HT.out (by simp)) HQS.out (by rw [HQL2.out]; have := HQB.out; omega)
          rw [HQL2.out] at K3
          have HK3 : Hid (Calls _ _ _ _ _) := K3
          clear hcell hq0 ht0 K3
          have em : (a : Int).tmod (q.length : Int) = (i : Int) := by rw [← Hi.out]; rfl
          go_wp2_with fail
          refine HK3.out.mono ?_
          rintro e w9 ⟨m9, u9, sa9, sc9, ea9, es9, cx9, _, rfl, _, he9, _, hu9, f9⟩
          have F9 : Hid (Fr (fun _ => False) w w9) := HFS.out.trans f9
          have hu9' : (u9 : Int) ≤ (q.length : Int) := by omega
          clear f9
          go_wp2
          go_ret
          exact ⟨by simp, F9.out.alloc _⟩
theorem junk_walk (ao : Option Addr) (l : List Nat) (cap : Nat) (a t : Nat) (ra : Option Addr) (rs : List Rc) (rc : Nat) (w : World) (ht : Tab w) (hr : Row w ao l cap) (hrr : RRow w ra rs rc) (ha : a < 65536) (ht8 : t < 256) :
    Calls Tryd.prog 7 #[.slice ao l.length cap, .int .u16 (a : Int), .int .u8 (t : Int), .slice ra rs.length rc] w fun e w' => e = .returned (.bool true) ∧ Fr (fun _ => False) w w' := by
  by_cases h1 : 2000 < l.length
  · exact junk_short ao l cap a t ra rs rc w ht hr hrr (.inl h1)
  · by_cases h2 : shortB rs = true
    · exact junk_long ao l cap a t ra rs rc w ht hr hrr h1 h2 ha ht8
    · exact junk_short ao l cap a t ra rs rc w ht hr hrr (.inr ⟨h1, by simpa using h2⟩)
end Go.Proofs.YtlcakglmheleeaaDoor
