/- lay.ReadNumber, lay.ReadRule: what they read. -/
import Derived.Test.YtlneneacbjkheaaCodec
import Derived.Test.YtlneneacbjkheaaGen
import Derived.Test.YtlneneacbjkheaaAt
namespace Go.Proofs.Ytlneneacbjkheaa
open Go.RowKit
attribute [local go_sem] run_store_float
/-- a reader whose bytes lie below B. -/
def Rx (w : World) (rb B : Nat) (s : Rs) : Prop := ∃ ao cap, Rd w rb ao s.l cap s.bad ∧ (s.l ≠ [] → ∀ a, ao = some a → a.block < B)
theorem Rx.lt {w : World} {rb B : Nat} {s : Rs} (h : Rx w rb B s) : rb < w.heap.size := by
  obtain ⟨_, _, h, _⟩ := h
  exact h.lt
theorem Rx.fr {S : Nat → Prop} {w w1 : World} {rb B : Nat} {s : Rs} (h : Rx w rb B s) (f : Fr S w w1) (hs : ¬ S rb) (hr : ∀ k, k < B → ¬ S k) : Rx w1 rb B s := by
  obtain ⟨ao, cap, h, hB⟩ := h
  exact ⟨ao, cap, h.fr f hs (fun hl a ha => hr _ (hB hl a ha)), hB⟩
theorem Rx.byte {w : World} {rb B : Nat} {s : Rs} (h : Rx w rb B s) : ∀ x ∈ s.l, x < 256 := by
  obtain ⟨_, _, h, _⟩ := h
  exact h.row.2.2.1
theorem rx_bad {w : World} {rb B : Nat} (h : Rd w rb none [] 0 true) : Rx w rb B ⟨[], true⟩ := ⟨none, 0, h, fun _ a ha => by cases ha⟩
theorem rnum_x {w : World} {rb B : Nat} {s : Rs} (n : Nat) (h : Rx w rb B s) (h8 : n ≤ 8) :
    Calls Try.prog 36 #[.pointer (some ⟨rb, 0, none⟩), .int .i64 (n : Int)] w fun e w' => ∃ v s1, e = .returned (.int .u64 ((v : Nat) : Int)) ∧ Hid (v = numV s n) ∧ Hid (s1 = numS s n) ∧ v < 256 ^ n ∧ Rx w' rb B s1 ∧ Fr (fun k => k = rb) w w' := by
  have hlt := numV_lt s n h.byte
  obtain ⟨ao, cap, h, hB⟩ := h
  by_cases hh : s.has n
  · obtain ⟨l, bad⟩ := s
    obtain ⟨hb, hn⟩ := hh
    simp only at hb hn h hB
    subst hb
    refine (rnum_ok w rb ao l cap n h hn h8).mono ?_
    rintro e w' ⟨rfl, a1, h1, f, hbl⟩
    have e1 : numV ⟨l, false⟩ n = Crc.num (l.take n) := by unfold numV; rw [if_pos ⟨rfl, hn⟩]
    have e2 : numS ⟨l, false⟩ n = ⟨l.drop n, false⟩ := by unfold numS; rw [if_pos ⟨rfl, hn⟩]
    refine ⟨_, _, by rw [e1], rfl, rfl, hlt, ?_, f⟩
    rw [e2]
    refine ⟨a1, _, h1, fun hl a ha => ?_⟩
    obtain ⟨a0, ha0, he⟩ := hbl a ha
    rw [he]
    exact hB (fun e => hl (by simp [e])) a0 ha0
  · have e1 : numV s n = 0 := by unfold numV; rw [if_neg hh]
    have e2 : numS s n = ⟨[], true⟩ := by unfold numS; rw [if_neg hh]
    obtain ⟨l, bad⟩ := s
    simp only at h
    cases bad with
    | true =>
      have hl := h.none rfl
      subst hl
      refine (rnum_after w rb ao [] cap n h).mono ?_
      rintro e w' ⟨rfl, a1, c1, h1, f⟩
      exact ⟨_, _, by rw [e1]; rfl, rfl, rfl, hlt, by rw [e2]; exact ⟨a1, c1, h1, fun hl => absurd rfl hl⟩, f⟩
    | false =>
      have hn : l.length < n := by
        rcases Nat.lt_or_ge l.length n with h' | h'
        · exact h'
        · exact absurd ⟨rfl, h'⟩ hh
      refine (rnum_bad w rb ao l cap false n h (.inr (by omega))).mono ?_
      rintro e w' ⟨rfl, h1, f⟩
      exact ⟨_, _, by rw [e1]; rfl, rfl, rfl, hlt, by rw [e2]; exact rx_bad h1, f⟩
set_option maxHeartbeats 400000 in
theorem fault_any {w : World} {rb : Nat} {ao : Option Addr} {l : List Nat} {cap : Nat} {bad : Bool} (h : Rd w rb ao l cap bad) :
    Calls Try.prog 55 #[.pointer (some ⟨rb, 0, none⟩)] w fun e w' => e = .returned (.tuple #[]) ∧ Rd w' rb none [] 0 true ∧ Fr (fun k => k = rb) w w' := by
  have K : Hid (Calls _ _ _ _ _) := rnum_bad w rb ao l cap bad (-1) h (.inl (by omega))
  clear h
  go_enter Try.func55, Try.ntmps55
  go_wp2_with fail
  refine K.out.mono ?_
  rintro e w1 ⟨rfl, h1, f1⟩
  go_wp2
  go_end0
  exact ⟨rfl, h1, f1⟩
set_option maxHeartbeats 400000 in
theorem readnum_x {w : World} {rb B : Nat} {s : Rs} (h : Rx w rb B s) :
    Calls Try.prog 47 #[.pointer (some ⟨rb, 0, none⟩)] w fun e w' => ∃ v t, e = .returned (.float .f64 v) ∧ Hid (v = fltV s) ∧ Hid (t = fltS s) ∧ v < 18446744073709551616 ∧ Rx w' rb B t ∧ Fr (fun k => k = rb) w w' := by
  have K : Hid (Calls _ _ _ _ _) := rnum_x 8 h (by omega)
  clear h
  go_enter Try.func47, Try.ntmps47
  go_wp2_with fail
  refine K.out.mono ?_
  rintro e w1 ⟨n, t, rfl, Hn, Ht, hn, h1, f1⟩
  have hn64 : n < 18446744073709551616 := hn
  have KB : Hid (Calls _ _ _ _ _) := back_any n w1 hn64
  have HBK : Hid (bkV n = if Fl.nanB (bk n) then 9221120237041090561 else bk n) := rfl
  rw [← HBK.out] at KB
  have hb64 : bkV n < 18446744073709551616 := bkV_lt n hn64
  obtain ⟨x, Hx⟩ : ∃ x, Hid (bkV n = x) := ⟨_, rfl⟩
  rw [Hx.out] at KB hb64
  have HR : Hid (Rx w1 rb B t) := h1
  clear h1 K
  go_wp2_with fail
  refine KB.out.mono ?_
  rintro e w2 ⟨rfl, hw2⟩
  subst w2
  go_wp2_with fail
  refine (rank_any x w1 hb64).mono ?_
  rintro e w2 ⟨rfl, hw2⟩
  subst w2
  by_cases hq : Fl.rk x = n
  · have hq' : ((Fl.rk x : Nat) : Int) = (n : Int) := by rw [hq]
    have HV : Hid (x = fltV s) := by
      show _ = _
      unfold fltV
      rw [← Hn.out, Hx.out, if_pos hq]
    have HS : Hid (t = fltS s) := by
      show _ = _
      unfold fltS
      rw [← Hn.out, Hx.out, if_pos hq, Ht.out]
    clear hq
    go_wp2
    go_ret
    exact ⟨x, t, rfl, HV, HS, hb64, HR.out, f1⟩
  · have hq' : ¬ ((Fl.rk x : Nat) : Int) = (n : Int) := by omega
    have HV : Hid (0 = fltV s) := by
      show _ = _
      unfold fltV
      rw [← Hn.out, Hx.out, if_neg hq]
    have HS : Hid ((⟨[], true⟩ : Rs) = fltS s) := by
      show _ = _
      unfold fltS
      rw [← Hn.out, Hx.out, if_neg hq]
    obtain ⟨ao, cap, hrd, _⟩ := HR.out
    have KF : Hid (Calls _ _ _ _ _) := fault_any hrd
    clear hq hrd
    go_wp2_with fail
    refine KF.out.mono ?_
    rintro e w2 ⟨rfl, h2, f2⟩
    go_wp2
    go_ret
    exact ⟨0, ⟨[], true⟩, rfl, HV, HS, by omega, rx_bad h2, f1.trans f2⟩
set_option maxRecDepth 100000 in
set_option maxHeartbeats 4000000 in
theorem readrule_x {w : World} {rb B : Nat} {s : Rs} (h : Rx w rb B s) (hBw : B ≤ w.heap.size) :
    Calls Try.prog 35 #[.pointer (some ⟨rb, 0, none⟩)] w fun e w' => ∃ (x : Rl) (t : Rs), e = .returned (.agg #[.int .u64 (x.id : Int), .int .i64 x.fr, .int .i64 x.tt, .float .f64 x.lo, .float .f64 x.hi, .int .u64 (x.au : Int), .int .i64 x.qu]) ∧ Hid (x = ruleV s) ∧ Hid (t = ruleS s) ∧ x.Ok ∧ Rx w' rb B t ∧ Fr (fun k => k = rb) w w' := by
  have HL : Hid (rb < w.heap.size) := h.lt
  have FA : Hid (Fr (fun _ => False) w (w.alloc (.cells #[.int .u64 0, .int .i64 0, .int .i64 0, .float .f64 0, .float .f64 0, .int .u64 0, .int .i64 0] 34))) := (Fr.refl _ w).alloc _
  have HB0 : Hid (∀ i, i < 7 → ∃ u, (w.alloc (.cells #[.int .u64 0, .int .i64 0, .int .i64 0, .float .f64 0, .float .f64 0, .int .u64 0, .int .i64 0] 34)).cell? ⟨w.heap.size, i, none⟩ = some u ∧ (w.alloc (.cells #[.int .u64 0, .int .i64 0, .int .i64 0, .float .f64 0, .float .f64 0, .int .u64 0, .int .i64 0] 34)).frozen? ⟨w.heap.size, i, none⟩ = false) := by
    intro i hi
    match i, hi with
    | 0, _ | 1, _ | 2, _ | 3, _ | 4, _ | 5, _ | 6, _ => exact ⟨_, by simp; rfl, by simp⟩
  have K0 : Hid (Calls _ _ _ _ _) := rnum_x 8 (h.fr FA.out (by simp) (by simp)) (by omega)
  clear h
  go_enter Try.func35, Try.ntmps35
  go_wp2_with fail
  refine K0.out.mono ?_
  rintro e w0 ⟨r0, t0, rfl, V0, S0, b0, x0, f0⟩
  have p0 : (0 : Int) ≤ (r0 : Int) := by omega
  have q0 : (r0 : Int) < 18446744073709551616 := by omega
  have X0 : Hid (Rx w0 rb B t0) := x0
  have F0 : Hid (Fr (fun k => k = rb) (w.alloc (.cells #[.int .u64 0, .int .i64 0, .int .i64 0, .float .f64 0, .float .f64 0, .int .u64 0, .int .i64 0] 34)) w0) := f0
  clear x0 f0 K0
  have K1 : Hid (Calls _ _ _ _ _) := rnum_x 1 X0.out (by omega)
  go_wp2_with fail
  refine K1.out.mono ?_
  rintro e w1 ⟨r1, t1, rfl, V1, S1, b1, x1, f1⟩
  have p1 : (0 : Int) ≤ (r1 : Int) := by omega
  have q1 : (r1 : Int) < 256 := by omega
  have c1 : IntKind.i64.wrap (r1 : Int) = (r1 : Int) := by simp only [IntKind.wrap, IntKind.bits, IntKind.signed]; simp; omega
  have X1 : Hid (Rx w1 rb B t1) := x1
  have F1 : Hid (Fr (fun k => k = rb) (w.alloc (.cells #[.int .u64 0, .int .i64 0, .int .i64 0, .float .f64 0, .float .f64 0, .int .u64 0, .int .i64 0] 34)) w1) := F0.out.trans f1
  clear x1 f1 K1
  have K2 : Hid (Calls _ _ _ _ _) := rnum_x 1 X1.out (by omega)
  go_wp2_with fail
  refine K2.out.mono ?_
  rintro e w2 ⟨r2, t2, rfl, V2, S2, b2, x2, f2⟩
  have p2 : (0 : Int) ≤ (r2 : Int) := by omega
  have q2 : (r2 : Int) < 256 := by omega
  have c2 : IntKind.i64.wrap (r2 : Int) = (r2 : Int) := by simp only [IntKind.wrap, IntKind.bits, IntKind.signed]; simp; omega
  have X2 : Hid (Rx w2 rb B t2) := x2
  have F2 : Hid (Fr (fun k => k = rb) (w.alloc (.cells #[.int .u64 0, .int .i64 0, .int .i64 0, .float .f64 0, .float .f64 0, .int .u64 0, .int .i64 0] 34)) w2) := F1.out.trans f2
  clear x2 f2 K2
  have K3 : Hid (Calls _ _ _ _ _) := readnum_x X2.out
  go_wp2_with fail
  refine K3.out.mono ?_
  rintro e w3 ⟨r3, t3, rfl, V3, S3, b3, x3, f3⟩
  have X3 : Hid (Rx w3 rb B t3) := x3
  have F3 : Hid (Fr (fun k => k = rb) (w.alloc (.cells #[.int .u64 0, .int .i64 0, .int .i64 0, .float .f64 0, .float .f64 0, .int .u64 0, .int .i64 0] 34)) w3) := F2.out.trans f3
  clear x3 f3 K3
  have K4 : Hid (Calls _ _ _ _ _) := readnum_x X3.out
  go_wp2_with fail
  refine K4.out.mono ?_
  rintro e w4 ⟨r4, t4, rfl, V4, S4, b4, x4, f4⟩
  have X4 : Hid (Rx w4 rb B t4) := x4
  have F4 : Hid (Fr (fun k => k = rb) (w.alloc (.cells #[.int .u64 0, .int .i64 0, .int .i64 0, .float .f64 0, .float .f64 0, .int .u64 0, .int .i64 0] 34)) w4) := F3.out.trans f4
  clear x4 f4 K4
  have K5 : Hid (Calls _ _ _ _ _) := rnum_x 8 X4.out (by omega)
  go_wp2_with fail
  refine K5.out.mono ?_
  rintro e w5 ⟨r5, t5, rfl, V5, S5, b5, x5, f5⟩
  have p5 : (0 : Int) ≤ (r5 : Int) := by omega
  have q5 : (r5 : Int) < 18446744073709551616 := by omega
  have X5 : Hid (Rx w5 rb B t5) := x5
  have F5 : Hid (Fr (fun k => k = rb) (w.alloc (.cells #[.int .u64 0, .int .i64 0, .int .i64 0, .float .f64 0, .float .f64 0, .int .u64 0, .int .i64 0] 34)) w5) := F4.out.trans f5
  clear x5 f5 K5
  have K6 : Hid (Calls _ _ _ _ _) := rnum_x 4 X5.out (by omega)
  go_wp2_with fail
  refine K6.out.mono ?_
  rintro e w6 ⟨r6, t6, rfl, V6, S6, b6, x6, f6⟩
  have p6 : (0 : Int) ≤ (r6 : Int) := by omega
  have q6 : (r6 : Int) < 4294967296 := by omega
  have c6 : IntKind.i64.wrap (r6 : Int) = (r6 : Int) := by simp only [IntKind.wrap, IntKind.bits, IntKind.signed]; simp; omega
  have X6 : Hid (Rx w6 rb B t6) := x6
  have F6 : Hid (Fr (fun k => k = rb) (w.alloc (.cells #[.int .u64 0, .int .i64 0, .int .i64 0, .float .f64 0, .float .f64 0, .int .u64 0, .int .i64 0] 34)) w6) := F5.out.trans f6
  clear x6 f6 K6
  have T : Hid (t6 = ruleS s) := by
    show _ = _
    unfold ruleS s6 s5 s4 s3 s2 s1
    rw [← S0.out, ← S1.out, ← S2.out, ← S3.out, ← S4.out, ← S5.out, ← S6.out]
  have V : Hid (ruleV s = if t6.bad then Rl.zero else ⟨r0, (r1 : Nat), (r2 : Nat), r3, r4, r5, (r6 : Nat)⟩) := by
    show _ = _
    unfold ruleV
    rw [← T.out]
    unfold s6 s5 s4 s3 s2 s1
    rw [← S0.out, ← S1.out, ← S2.out, ← S3.out, ← S4.out, ← S5.out, ← V0.out, ← V1.out, ← V2.out, ← V3.out, ← V4.out, ← V5.out, ← V6.out]
  clear V0 V1 V2 V3 V4 V5 V6 S0 S1 S2 S3 S4 S5 S6
  have hb := fun i hi => HB0.out i hi
  obtain ⟨u0, d0, y0⟩ := hb 0 (by omega)
  obtain ⟨u1, d1, y1⟩ := hb 1 (by omega)
  obtain ⟨u2, d2, y2⟩ := hb 2 (by omega)
  obtain ⟨u3, d3, y3⟩ := hb 3 (by omega)
  obtain ⟨u4, d4, y4⟩ := hb 4 (by omega)
  obtain ⟨u5, d5, y5⟩ := hb 5 (by omega)
  obtain ⟨u6, d6, y6⟩ := hb 6 (by omega)
  have hnt : ¬ w.heap.size = rb := by have := HL.out; omega
  replace y0 := (F6.out.frozenEq (a := ⟨w.heap.size, 0, none⟩) (by simp) hnt).trans y0
  replace y1 := (F6.out.frozenEq (a := ⟨w.heap.size, 1, none⟩) (by simp) hnt).trans y1
  replace y2 := (F6.out.frozenEq (a := ⟨w.heap.size, 2, none⟩) (by simp) hnt).trans y2
  replace y3 := (F6.out.frozenEq (a := ⟨w.heap.size, 3, none⟩) (by simp) hnt).trans y3
  replace y4 := (F6.out.frozenEq (a := ⟨w.heap.size, 4, none⟩) (by simp) hnt).trans y4
  replace y5 := (F6.out.frozenEq (a := ⟨w.heap.size, 5, none⟩) (by simp) hnt).trans y5
  replace y6 := (F6.out.frozenEq (a := ⟨w.heap.size, 6, none⟩) (by simp) hnt).trans y6
  replace d0 := F6.out.cell d0 hnt
  replace d1 := F6.out.cell d1 hnt
  replace d2 := F6.out.cell d2 hnt
  replace d3 := F6.out.cell d3 hnt
  replace d4 := F6.out.cell d4 hnt
  replace d5 := F6.out.cell d5 hnt
  replace d6 := F6.out.cell d6 hnt
  clear hb
  go_wp2_with fail
  obtain ⟨W, HW⟩ : ∃ W, Hid (W = w6.alloc (.cells #[.int .u64 (r0 : Int), .int .i64 (r1 : Int), .int .i64 (r2 : Int), .float .f64 r3, .float .f64 r4, .int .u64 (r5 : Int), .int .i64 (r6 : Int)] 34)) := ⟨_, rfl⟩
  have fW : Fr (fun _ => False) w6 W := by rw [HW.out]; exact (Fr.refl _ _).alloc _
  have g0 : W.cell? ⟨w6.heap.size, 0, none⟩ = some (.int .u64 (r0 : Int)) := by rw [HW.out]; simp
  have g1 : W.cell? ⟨w6.heap.size, 1, none⟩ = some (.int .i64 (r1 : Int)) := by rw [HW.out]; simp
  have g2 : W.cell? ⟨w6.heap.size, 2, none⟩ = some (.int .i64 (r2 : Int)) := by rw [HW.out]; simp
  have g3 : W.cell? ⟨w6.heap.size, 3, none⟩ = some (.float .f64 r3) := by rw [HW.out]; simp
  have g4 : W.cell? ⟨w6.heap.size, 4, none⟩ = some (.float .f64 r4) := by rw [HW.out]; simp
  have g5 : W.cell? ⟨w6.heap.size, 5, none⟩ = some (.int .u64 (r5 : Int)) := by rw [HW.out]; simp
  have g6 : W.cell? ⟨w6.heap.size, 6, none⟩ = some (.int .i64 (r6 : Int)) := by rw [HW.out]; simp
  replace y0 := (fW.frozenEq (a := ⟨w.heap.size, 0, none⟩) (World.block_lt_of_cell? _ _ d0) (by simp)).trans y0
  replace y1 := (fW.frozenEq (a := ⟨w.heap.size, 1, none⟩) (World.block_lt_of_cell? _ _ d1) (by simp)).trans y1
  replace y2 := (fW.frozenEq (a := ⟨w.heap.size, 2, none⟩) (World.block_lt_of_cell? _ _ d2) (by simp)).trans y2
  replace y3 := (fW.frozenEq (a := ⟨w.heap.size, 3, none⟩) (World.block_lt_of_cell? _ _ d3) (by simp)).trans y3
  replace y4 := (fW.frozenEq (a := ⟨w.heap.size, 4, none⟩) (World.block_lt_of_cell? _ _ d4) (by simp)).trans y4
  replace y5 := (fW.frozenEq (a := ⟨w.heap.size, 5, none⟩) (World.block_lt_of_cell? _ _ d5) (by simp)).trans y5
  replace y6 := (fW.frozenEq (a := ⟨w.heap.size, 6, none⟩) (World.block_lt_of_cell? _ _ d6) (by simp)).trans y6
  replace d0 := fW.cell d0 (by simp)
  replace d1 := fW.cell d1 (by simp)
  replace d2 := fW.cell d2 (by simp)
  replace d3 := fW.cell d3 (by simp)
  replace d4 := fW.cell d4 (by simp)
  replace d5 := fW.cell d5 (by simp)
  replace d6 := fW.cell d6 (by simp)
  have XW : Hid (Rx W rb B t6) := X6.out.fr fW (by simp) (by simp)
  have FW : Hid (Fr (fun k => k = rb) (w.alloc (.cells #[.int .u64 0, .int .i64 0, .int .i64 0, .float .f64 0, .float .f64 0, .int .u64 0, .int .i64 0] 34)) W) := F6.out.trans (fW.mono (fun _ _ h => h.elim))
  obtain ⟨bd, Hbd⟩ : ∃ bd, Hid (t6.bad = bd) := ⟨_, rfl⟩
  have cb : W.cell? ⟨rb, 1, none⟩ = some (.bool bd) := by
    obtain ⟨_, _, hrd, _⟩ := XW.out
    rw [← Hbd.out]; exact hrd.c1
  rw [← HW.out]
  clear fW X6 F6
  refine (bad_any W rb bd cb).mono ?_
  rintro e w7 ⟨rfl, hw7⟩
  subst w7
  have HC : Hid (w.heap.size ≠ rb) := hnt
  cases bd with
  | true =>
    have hsev := seven W (w.heap.size) (.int .u64 0) (.int .i64 0) (.int .i64 0) (.float .f64 0) (.float .f64 0) (.int .u64 0) (.int .i64 0) (fun i hi => by
      match i, hi with
      | 0, _ => rw [d0]; rfl
      | 1, _ => rw [d1]; rfl
      | 2, _ => rw [d2]; rfl
      | 3, _ => rw [d3]; rfl
      | 4, _ => rw [d4]; rfl
      | 5, _ => rw [d5]; rfl
      | 6, _ => rw [d6]; rfl)
    have HS : Hid _ := hsev
    have HV : Hid (Rl.zero = ruleV s) := by show _ = _; rw [V.out, Hbd.out]; rfl
    clear hsev V
    go_wp2
    obtain ⟨⟨e0, e1, e2, e3, e4, e5, e6⟩, fs⟩ := HS.out
    refine bodyPost_ret (v := .agg #[.int .u64 0, .int .i64 0, .int .i64 0, .float .f64 0, .float .f64 0, .int .u64 0, .int .i64 0]) ?_ rfl ⟨Rl.zero, t6, rfl, HV, T, ⟨by decide, by decide, by decide⟩, XW.out.fr fs (fun e => HC.out e.symm) (fun k hk e => by omega), ?_⟩
    · generalize (((((((W.setCell ⟨w.heap.size, 0, none⟩ (.int .u64 0)).setCell ⟨w.heap.size, 1, none⟩ (.int .i64 0)).setCell ⟨w.heap.size, 2, none⟩ (.int .i64 0)).setCell ⟨w.heap.size, 3, none⟩ (.float .f64 0)).setCell ⟨w.heap.size, 4, none⟩ (.float .f64 0)).setCell ⟨w.heap.size, 5, none⟩ (.int .u64 0)).setCell ⟨w.heap.size, 6, none⟩ (.int .i64 0)) = W2 at *
      simp [results, Try.results35, go_sem, *]
    · exact (((Fr.refl (fun k => k = rb) w).alloc _).trans FW.out).trans' fs (fun i hi e => by omega)
  | false =>
    have hsev := seven W (w.heap.size) (.int .u64 (r0 : Int)) (.int .i64 (r1 : Int)) (.int .i64 (r2 : Int)) (.float .f64 r3) (.float .f64 r4) (.int .u64 (r5 : Int)) (.int .i64 (r6 : Int)) (fun i hi => by
      match i, hi with
      | 0, _ => rw [d0]; rfl
      | 1, _ => rw [d1]; rfl
      | 2, _ => rw [d2]; rfl
      | 3, _ => rw [d3]; rfl
      | 4, _ => rw [d4]; rfl
      | 5, _ => rw [d5]; rfl
      | 6, _ => rw [d6]; rfl)
    have HS : Hid _ := hsev
    have HV : Hid ((⟨r0, (r1 : Nat), (r2 : Nat), r3, r4, r5, (r6 : Nat)⟩ : Rl) = ruleV s) := by show _ = _; rw [V.out, Hbd.out]; rfl
    clear hsev V
    go_wp2
    obtain ⟨⟨e0, e1, e2, e3, e4, e5, e6⟩, fs⟩ := HS.out
    refine bodyPost_ret (v := .agg #[.int .u64 (r0 : Int), .int .i64 (r1 : Int), .int .i64 (r2 : Int), .float .f64 r3, .float .f64 r4, .int .u64 (r5 : Int), .int .i64 (r6 : Int)]) ?_ rfl ⟨(⟨r0, (r1 : Nat), (r2 : Nat), r3, r4, r5, (r6 : Nat)⟩ : Rl), t6, rfl, HV, T, ⟨by show r0 < _; omega, b3, b4⟩, XW.out.fr fs (fun e => HC.out e.symm) (fun k hk e => by omega), ?_⟩
    · generalize (((((((W.setCell ⟨w.heap.size, 0, none⟩ (.int .u64 (r0 : Int))).setCell ⟨w.heap.size, 1, none⟩ (.int .i64 (r1 : Int))).setCell ⟨w.heap.size, 2, none⟩ (.int .i64 (r2 : Int))).setCell ⟨w.heap.size, 3, none⟩ (.float .f64 r3)).setCell ⟨w.heap.size, 4, none⟩ (.float .f64 r4)).setCell ⟨w.heap.size, 5, none⟩ (.int .u64 (r5 : Int))).setCell ⟨w.heap.size, 6, none⟩ (.int .i64 (r6 : Int))) = W2 at *
      simp [results, Try.results35, go_sem, *]
    · exact (((Fr.refl (fun k => k = rb) w).alloc _).trans FW.out).trans' fs (fun i hi e => by omega)
end Go.Proofs.Ytlneneacbjkheaa
