/- What is read: bytes, a transaction, numbers. -/
import Derived.Test.YtaalkhipncbjpaaTabV
import Derived.Test.YtaalkhipncbjpaaTapeC
namespace Go.Proofs.Ytaalkhipncbjpaa
open Go Go.RowKit
attribute [local go_sem] run_store_float
theorem bytes_x {w : World} {rb B : Nat} {s : Rs} (m : Nat) (h : Rx w rb B s) (hm : m ≤ 140737488355328) :
    Calls Try.prog 67 #[.pointer (some ⟨rb, 0, none⟩), .int .i64 (m : Int)] w fun e w' => ∃ a1 q s1, e = .returned (.slice a1 (q : List Nat).length q.length) ∧ Fresh w w' a1 q ∧ Hid (q = bytV s m) ∧ Hid (s1 = bytS s m) ∧ q.length ≤ m ∧ Rx w' rb B s1 ∧ Fr (fun k => k = rb) w w' := by
  obtain ⟨ao, cap, h, hB⟩ := h
  by_cases hh : s.byt m
  · obtain ⟨l, bad⟩ := s
    have e1 : bytV ⟨l, bad⟩ m = (l.drop 4).take (Crc.num (l.take 4)) := by unfold bytV; rw [if_pos hh]
    have e2 : bytS ⟨l, bad⟩ m = ⟨(l.drop 4).drop (Crc.num (l.take 4)), false⟩ := by unfold bytS; rw [if_pos hh]
    obtain ⟨⟨⟨hb, h4⟩, hc⟩, hx⟩ := hh
    simp only at hb h4 hc hx h hB
    subst hb
    have hl : ((l.drop 4).take (Crc.num (l.take 4))).length = Crc.num (l.take 4) := by rw [List.length_take, List.length_drop]; exact Nat.min_eq_left hx
    refine (bytes_ok w rb ao l cap m h hm h4 hc hx).mono ?_
    rintro e w' ⟨a1, a2, c2, rfl, hf, h1, f, hbl⟩
    refine ⟨a1, _, _, by rw [hl], hf, e1.symm, rfl, by rw [hl]; exact hc, ?_, f⟩
    rw [e2]
    refine ⟨a2, c2, h1, fun hne a ha => ?_⟩
    obtain ⟨a0, ha0, he⟩ := hbl a ha
    rw [he]
    exact hB (fun e => hne (by simp [e])) a0 ha0
  · have e2 : bytS s m = ⟨[], true⟩ := by unfold bytS; rw [if_neg hh]
    refine (bytes_gen m h hm).mono ?_
    rintro e w' ⟨a1, q, s1, a2, c2, rfl, hf, Hq, Hs, hq, h1, f⟩
    refine ⟨a1, q, s1, rfl, hf, Hq, Hs, hq, ⟨a2, c2, h1, fun hl => ?_⟩, f⟩
    rw [Hs.out, e2] at hl
    exact absurd rfl hl
theorem cells_two (W : World) (b : Nat) (v0 v1 : Value) (h : ∀ i, i < 2 → (W.cell? ⟨b, i, none⟩).isSome = true) :
    ((((W.setCell ⟨b, 0, none⟩ v0).setCell ⟨b, 1, none⟩ v1)).cell? ⟨b, 0, none⟩ = some v0 ∧ (((W.setCell ⟨b, 0, none⟩ v0).setCell ⟨b, 1, none⟩ v1)).cell? ⟨b, 1, none⟩ = some v1) ∧
    Fr (fun k => k = b) W ((W.setCell ⟨b, 0, none⟩ v0).setCell ⟨b, 1, none⟩ v1) := by
  obtain ⟨u0, h0⟩ := Option.isSome_iff_exists.1 (h 0 (by omega))
  obtain ⟨u1, h1⟩ := Option.isSome_iff_exists.1 (h 1 (by omega))
  have e1 : (W.setCell ⟨b, 0, none⟩ v0).cell? ⟨b, 1, none⟩ = some u1 := (World.cell?_setCell_other _ _ _ _ (by simp)).trans h1
  refine ⟨⟨(World.cell?_setCell_other _ _ _ _ (by simp)).trans (World.cell?_setCell_same _ _ _ h0), World.cell?_setCell_same _ _ _ e1⟩, ?_⟩
  exact ((Fr.refl (fun k => k = b) W).setCell (p := ⟨b, 0, none⟩) (Or.inl rfl) _).setCell (p := ⟨b, 1, none⟩) (Or.inl rfl) _
theorem t8 : (256 : Nat) ^ 8 = 18446744073709551616 := by decide
set_option maxRecDepth 100000 in
set_option maxHeartbeats 4000000 in
theorem readid_x {w : World} {rb B : Nat} {s : Rs} (h : Rx w rb B s) (hBw : B ≤ w.heap.size) :
    Calls Try.prog 62 #[.pointer (some ⟨rb, 0, none⟩)] w fun e w' => ∃ (a q : Nat) (t : Rs), e = .returned (.agg #[.int .u64 (a : Int), .int .u64 (q : Int)]) ∧ Hid (t = numS (numS s 8) 8) ∧ Hid (t.bad = false → a = numV s 8 ∧ q = numV (numS s 8) 8) ∧ a < 18446744073709551616 ∧ q < 18446744073709551616 ∧ Rx w' rb B t ∧ Fr (fun k => k = rb) w w' := by
  have HL : Hid (rb < w.heap.size) := h.lt
  have HBW : Hid (B ≤ w.heap.size) := hBw
  have FA : Hid (Fr (fun _ => False) w (w.alloc (.cells #[.int .u64 0, .int .u64 0] 24))) := (Fr.refl _ w).alloc _
  have HB0 : Hid (∀ i, i < 2 → ∃ u, (w.alloc (.cells #[.int .u64 0, .int .u64 0] 24)).cell? ⟨w.heap.size, i, none⟩ = some u ∧ (w.alloc (.cells #[.int .u64 0, .int .u64 0] 24)).frozen? ⟨w.heap.size, i, none⟩ = false) := by
    intro i hi
    match i, hi with
    | 0, _ | 1, _ => exact ⟨_, by simp; rfl, by simp⟩
  have K0 : Hid (Calls _ _ _ _ _) := rnum_x 8 (h.fr FA.out (by simp) (by simp)) (by omega)
  obtain ⟨WA, HWA⟩ : ∃ W, Hid ((w.alloc (.cells #[.int .u64 0, .int .u64 0] 24)) = W) := ⟨_, rfl⟩
  have HZA : Hid (w.heap.size < WA.heap.size) := (show _ < _ by rw [← HWA.out]; simp)
  rw [HWA.out] at FA HB0 K0
  clear h hBw
  go_enter Try.func62, Try.ntmps62
  go_wp2_with fail
  rw [HWA.out]
  refine K0.out.mono ?_
  rintro e w2 ⟨a, s2, rfl, E2, S2, b2, h2, f2⟩
  have F2 : Hid (Fr (fun k => k = rb) WA w2) := f2
  have K3 : Hid (Calls _ _ _ _ _) := rnum_x 8 h2 (by omega)
  rw [t8] at b2
  clear h2 f2 K0
  go_wp2_with fail
  refine K3.out.mono ?_
  rintro e w3 ⟨q, s3, rfl, E3, S3, b3, h3, f3⟩
  have F3 : Hid (Fr (fun k => k = rb) WA w3) := F2.out.trans f3
  have H3 : Hid (Rx w3 rb B s3) := h3
  rw [t8] at b3
  clear h3 f3 K3
  have hnt : ¬ w.heap.size = rb := by have := HL.out; omega
  obtain ⟨u0, d0, y0⟩ := HB0.out 0 (by omega)
  obtain ⟨u1, d1, y1⟩ := HB0.out 1 (by omega)
  replace y0 := (F3.out.frozenEq (a := ⟨w.heap.size, 0, none⟩) HZA.out hnt).trans y0
  replace y1 := (F3.out.frozenEq (a := ⟨w.heap.size, 1, none⟩) HZA.out hnt).trans y1
  replace d0 := F3.out.cell d0 hnt
  replace d1 := F3.out.cell d1 hnt
  go_wp2_with fail
  obtain ⟨W, HW⟩ : ∃ W, Hid (W = w3.alloc (.cells #[.int .u64 (a : Int), .int .u64 (q : Int)] 24)) := ⟨_, rfl⟩
  have fW : Fr (fun _ => False) w3 W := by rw [HW.out]; exact (Fr.refl _ _).alloc _
  have g0 : W.cell? ⟨w3.heap.size, 0, none⟩ = some (.int .u64 (a : Int)) := by rw [HW.out]; simp
  have g1 : W.cell? ⟨w3.heap.size, 1, none⟩ = some (.int .u64 (q : Int)) := by rw [HW.out]; simp
  replace y0 := (fW.frozenEq (a := ⟨w.heap.size, 0, none⟩) (World.block_lt_of_cell? _ _ d0) (by simp)).trans y0
  replace y1 := (fW.frozenEq (a := ⟨w.heap.size, 1, none⟩) (World.block_lt_of_cell? _ _ d1) (by simp)).trans y1
  replace d0 := fW.cell d0 (by simp)
  replace d1 := fW.cell d1 (by simp)
  have HRW : Hid (Rx W rb B s3) := H3.out.fr fW (by simp) (by simp)
  have FW : Hid (Fr (fun k => k = rb) WA W) := F3.out.trans (fW.mono (fun _ _ h => h.elim))
  have HS3 : Hid (s3 = numS (numS s 8) 8) := by show _ = _; rw [S3.out, S2.out]
  have HV3 : Hid (a = numV s 8 ∧ q = numV (numS s 8) 8) := ⟨E2.out, by rw [E3.out, S2.out]⟩
  have HFB : Hid (Fr (fun k => k = rb) w W) := (FA.out.mono (fun _ _ h => h.elim)).trans FW.out
  obtain ⟨bd, Hbd⟩ : ∃ bd, Hid (s3.bad = bd) := ⟨_, rfl⟩
  have KB : Hid (Calls _ _ _ _ _) := bad_x HRW.out
  rw [Hbd.out] at KB
  rw [← HW.out]
  clear fW E2 E3 S2 S3 H3
  refine KB.out.mono ?_
  rintro e w7 ⟨rfl, hw7⟩
  subst w7
  have HC : Hid (w.heap.size ≠ rb) := hnt
  cases bd with
  | true =>
    have HS : Hid _ := cells_two W (w.heap.size) (.int .u64 0) (.int .u64 0) (fun i hi => by
      match i, hi with
      | 0, _ => rw [d0]; rfl
      | 1, _ => rw [d1]; rfl)
    clear KB
    go_wp2
    obtain ⟨⟨e0, e1⟩, fs⟩ := HS.out
    refine bodyPost_ret (v := .agg #[.int .u64 0, .int .u64 0]) ?_ rfl ⟨0, 0, s3, rfl, HS3, fun h => (by rw [Hbd.out] at h; cases h), by omega, by omega, HRW.out.fr fs (fun e => HC.out e.symm) (fun k hk e => by have := HBW.out; omega), HFB.out.trans' fs (fun i hi e => by omega)⟩
    generalize ((W.setCell ⟨w.heap.size, 0, none⟩ (.int .u64 0)).setCell ⟨w.heap.size, 1, none⟩ (.int .u64 0)) = W2 at *
    simp [results, Try.results62, go_sem, *]
  | false =>
    have HS : Hid _ := cells_two W (w.heap.size) (.int .u64 (a : Int)) (.int .u64 (q : Int)) (fun i hi => by
      match i, hi with
      | 0, _ => rw [d0]; rfl
      | 1, _ => rw [d1]; rfl)
    clear KB
    go_wp2
    obtain ⟨⟨e0, e1⟩, fs⟩ := HS.out
    refine bodyPost_ret (v := .agg #[.int .u64 (a : Int), .int .u64 (q : Int)]) ?_ rfl ⟨a, q, s3, rfl, HS3, fun _ => HV3.out, b2, b3, HRW.out.fr fs (fun e => HC.out e.symm) (fun k hk e => by have := HBW.out; omega), HFB.out.trans' fs (fun i hi e => by omega)⟩
    generalize ((W.setCell ⟨w.heap.size, 0, none⟩ (.int .u64 (a : Int))).setCell ⟨w.heap.size, 1, none⟩ (.int .u64 (q : Int))) = W2 at *
    simp [results, Try.results62, go_sem, *]
set_option maxRecDepth 100000 in
set_option maxHeartbeats 4000000 in
theorem readnums_x {w : World} {rb B : Nat} {s : Rs} (h : Rx w rb B s) (hBw : B ≤ w.heap.size) :
    Calls Try.prog 64 #[.pointer (some ⟨rb, 0, none⟩)] w fun e w' => ∃ (a1 : Option Addr) (c1 : Nat) (l : List Nat) (t : Rs), e = .returned (.slice a1 l.length c1) ∧ Hid (t = numsS s) ∧ Hid (l = numsV s) ∧ Hid (OwnF w' w.heap.size 71 (.slice a1 l.length c1) l) ∧ l.length ≤ 32 ∧ (∀ x ∈ l, x < 18446744073709551616) ∧ Rx w' rb B t ∧ Fr (fun k => k = rb) w w' := by
  have HL : Hid (rb < w.heap.size) := h.lt
  have HBW : Hid (B ≤ w.heap.size) := hBw
  have K0 : Hid (Calls _ _ _ _ _) := count_x 32 h (by omega)
  clear h hBw
  go_enter Try.func64, Try.ntmps64
  go_wp2_with fail
  refine K0.out.mono ?_
  rintro e w1 ⟨n, s1, rfl, EN, S1, hn, h1, f1⟩
  have H1 : Hid (Rx w1 rb B s1) := h1
  have F1 : Hid (Fr (fun k => k = rb) w w1) := f1
  clear h1 f1 K0
  go_wp2
  go_loopw [3, 6] (fun lv iv wr => ∃ (k : Nat) (l : List Nat) (a1 : Option Addr) (c1 : Nat), k ≤ n ∧ iv = .int .i64 (k : Int) ∧ lv = .slice a1 l.length c1 ∧ Hid (l = fltsV k s1) ∧ Hid (OwnF wr w.heap.size 71 (.slice a1 l.length c1) l) ∧ Hid (∀ x ∈ l, x < 18446744073709551616) ∧ Hid (Rx wr rb B (fltsS k s1)) ∧ Hid (Fr (fun k => k = rb) w wr)) (fun _ iv _ => n - (intOf iv).toNat)
  case atStart => exact ⟨0, [], none, 0, Nat.zero_le _, rfl, rfl, rfl, OwnF.nil _ _ _, fun x hx => (by cases hx), H1.out, F1.out⟩
  case round =>
    obtain ⟨k, l, a1, c1, hk, rfl, rfl, HLV, HO, HX, HR, HF⟩ := hrel
    by_cases hlt : k < n
    · have z1 : (0 : Int) ≤ (k : Int) := by omega
      have z2 : (k : Int) < (n : Int) := by omega
      have KN : Hid (Calls _ _ _ _ _) := readnum_x HR.out
      have HLL : Hid (l.length = k) := (show _ = _ by rw [HLV.out, fltsV_len])
      go_wp2_with fail
      refine KN.out.mono ?_
      rintro e w3 ⟨v, t, rfl, EV, ET, hv, h3, f3⟩
      have HV : Hid (v < 18446744073709551616) := hv
      have FA : Hid (Fr (fun k => k = rb) wr (w3.alloc (.cells #[.float .f64 v] 71))) := f3.alloc _
      have HRA : Hid (Rx (w3.alloc (.cells #[.float .f64 v] 71)) rb B t) := h3.fr ((Fr.refl (fun _ => False) _).alloc _) (by simp) (by simp)
      have HOA : Hid (OwnF (w3.alloc (.cells #[.float .f64 v] 71)) w.heap.size 71 (.slice a1 l.length c1) l) := HO.out.fr FA.out (fun k hk e => by have := HO.out.lt k hk; have := HL.out; omega)
      have HC : Hid (∀ j u, (flat [v])[j]? = some u → (w3.alloc (.cells #[.float .f64 v] 71)).cell? ((⟨w3.heap.size, 0, none⟩ : Addr).add j) = some u) := one_f w3 v 71 _ rfl
      have hbase : w.heap.size ≤ (w3.alloc (.cells #[.float .f64 v] 71)).heap.size := by have := HF.out.size; have := FA.out.size; omega
      have hbnd : l.length + [v].length ≤ 1000000 := by have := HLL.out; simp; omega
      clear hv h3 f3 KN
      go_wp2_with (at_builtin; refine wpList_append_f rfl _ _ 25 71 rfl Try.underlying25 (.float .f64 0) 8 Try.info71 rfl (by decide) w.heap.size _ l rfl HOA.out ⟨w3.heap.size, 0, none⟩ [v] 1 rfl HC.out hbase hbnd ?_)
      all_goals
        intro v7 w7 ho7 hg7 hat7
        obtain ⟨m7, Hm7⟩ : ∃ m7, Hid (l ++ [v] = m7) := ⟨_, rfl⟩
        rw [Hm7.out] at ho7
        obtain ⟨a7, c7, hv7, _⟩ := ho7.form
        subst hv7
        have HO7 : Hid (OwnF w7 w.heap.size 71 (.slice a7 m7.length c7) m7) := ho7
        have G7 : Hid (Fr (fun k => w.heap.size ≤ k) (w3.alloc (.cells #[.float .f64 v] 71)) w7) := (Fr.refl _ _).grown hg7 (fun j hj => .inl (HOA.out.lt j hj).1)
        have HF7 : Hid (Fr (fun k => k = rb) w w7) := (HF.out.trans FA.out).trans' G7.out (fun i hi e => by omega)
        have HR7 : Hid (Rx w7 rb B (fltsS (k + 1) s1)) := (show Rx _ _ _ _ by rw [(flts_succ k s1).2, ← ET.out]; exact HRA.out.fr G7.out (by have := HL.out; omega) (fun k hk e => by have := HBW.out; omega))
        have HLV7 : Hid (m7 = fltsV (k + 1) s1) := (show _ = _ by rw [(flts_succ k s1).1, ← EV.out, ← HLV.out, Hm7.out])
        have HX7 : Hid (∀ x ∈ m7, x < 18446744073709551616) := (show ∀ _ ∈ _, _ by rw [← Hm7.out]; exact fun x hx => (List.mem_append.1 hx).elim (HX.out x) (fun h => by rw [List.mem_singleton] at h; subst h; exact HV.out))
        clear ho7 hg7 hat7
        go_wp2
        go_roundw
        case rel => exact ⟨k + 1, m7, a7, c7, by omega, by go_num, rfl, HLV7.out, HO7.out, HX7.out, HR7.out, HF7.out⟩
        case measure => simp [intOf]; omega
    · have z2 : ¬ (k : Int) < (n : Int) := by omega
      have hkn : k = n := by omega
      subst hkn
      have HLT : Hid (l = numsV s) := (show _ = _ by rw [HLV.out, S1.out, EN.out]; rfl)
      have HTT : Hid (fltsS k s1 = numsS s) := (show _ = _ by rw [S1.out, EN.out]; rfl)
      have hll : l.length ≤ 32 := by rw [HLV.out, fltsV_len]; exact hn
      go_wp2
      go_ret
      exact ⟨a1, c1, l, rfl, fltsS k s1, HTT, HLT, HO, hll, HX.out, HR.out, HF.out⟩
end Go.Proofs.Ytaalkhipncbjpaa
