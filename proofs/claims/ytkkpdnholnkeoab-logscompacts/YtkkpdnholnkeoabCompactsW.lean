/- The statement LogsCompacts, walked. -/
import Derived.Test.YtkkpdnholnkeoabLawB
namespace Go.Proofs.Ytkkpdnholnkeoab
open Go.RowKit

set_option maxRecDepth 100000 in
set_option maxHeartbeats 8000000 in
theorem compacts_walk (n : Nat) (a1 : Option Addr) (terms : List Nat) (c1 : Nat) (a2 : Option Addr) (kinds : List Nat) (c2 : Nat) (to ag : Nat) (w : World) (hn : n < 256) (hag : ag < 256) (h1 : Row w a1 terms c1) (h2 : Row w a2 kinds c2) :
    Calls Try.prog 7 #[.int .u8 (n : Int), .slice a1 terms.length c1, .slice a2 kinds.length c2, .int .u64 (to : Int), .int .u8 (ag : Int)] w fun e w' => e = .returned (.bool true) ∧ Fr (fun _ => False) w w' := by
  have HR1 : Hid (Row w a1 terms c1) := h1
  have HR2 : Hid (Row w a2 kinds c2) := h2
  clear h1 h2
  obtain ⟨T, eT, HT⟩ : ∃ T : Nat, (to : Int) % 45 = (T : Int) ∧ Hid (T = to % 45) := ⟨to % 45, by omega, rfl⟩
  have hT : T < 45 := by rw [HT.out]; omega
  obtain ⟨nb, Hnb⟩ : ∃ nb, Hid (n % 7 = nb) := ⟨_, rfl⟩
  obtain ⟨nt, Hnt⟩ : ∃ nt, Hid (n % 2 = nt) := ⟨_, rfl⟩
  have hnb : nb ≤ 6 := by rw [← Hnb.out]; omega
  have hnt : nt ≤ 1 := by rw [← Hnt.out]; omega
  go_enter Try.func7, Try.ntmps7
  go_wp2_with fail
  refine (awake_any w).mono ?_
  rintro e w1 ⟨rfl, f1⟩
  have F1 : Hid (Fr (fun _ => False) w w1) := f1
  clear f1
  go_wp2_with fail
  refine (snap_any n w1 hn).mono ?_
  rintro e w2 ⟨rfl, f2⟩
  rw [Hnb.out, Hnt.out]
  have FX2 : Hid (Fr (fun _ => False) w1 w2) := f2
  obtain ⟨W, HW⟩ : ∃ W, Hid (W = w2.alloc (.cells #[.int .u64 (nb : Int), .int .u64 (nt : Int), .int .u64 (n : Int), .slice none 0 0] 26)) := ⟨_, rfl⟩
  have FW : Hid (Fr (fun _ => False) w W) := by show Fr _ _ _; rw [HW.out]; exact (F1.out.trans f2).alloc _
  obtain ⟨sb, Hsb⟩ : ∃ sb, Hid (w2.heap.size = sb) := ⟨_, rfl⟩
  have s0 : W.cell? ⟨sb, 0, none⟩ = some (.int .u64 (nb : Int)) := by rw [HW.out, ← Hsb.out]; simp
  have s1 : W.cell? ⟨sb, 1, none⟩ = some (.int .u64 (nt : Int)) := by rw [HW.out, ← Hsb.out]; simp
  have s2 : W.cell? ⟨sb, 2, none⟩ = some (.int .u64 (n : Int)) := by rw [HW.out, ← Hsb.out]; simp
  have s3 : W.cell? ⟨sb, 3, none⟩ = some (.slice none 0 0) := by rw [HW.out, ← Hsb.out]; simp
  have K := begun n hn a1 terms c1 a2 kinds c2 w W FW.out HR1.out HR2.out
  rw [Hnb.out, Hnt.out] at K
  have K : Hid (Calls _ _ _ _ _) := K
  clear f2
  go_wp2_with fail
  rw [← HW.out]
  refine K.out.mono ?_
  rintro e w3 ⟨ao, cap, es, rfl, hlen, hp, ho, f3, hord, hnew⟩
  rw [Hsb.out]
  have q0 := f3.cell s0 (by simp)
  have q1 := f3.cell s1 (by simp)
  have q2 := f3.cell s2 (by simp)
  have q3 := f3.cell s3 (by simp)
  have K3 : Hid (Calls _ _ _ _ _) := hnew w3 (.slice none 0 0) (Fr.refl _ _)
  have HO : Hid (OwnE w3 (fun k => W.heap.size ≤ k) (.slice ao es.length cap) es) := ho
  have F3 : Hid (Fr (fun _ => False) w w3) := FW.out.trans f3
  have HPE : Hid (es.map En.p = entsP nb terms kinds (min terms.length 30)) := hp
  have BW : Hid (Box26 W sb nb nt n) := by show Box26 _ _ _ _ _; rw [HW.out, ← Hsb.out]; exact Box26.new _ _ _ _
  have hsbW : Hid (sb < W.heap.size) := BW.out.lt
  have BX3 : Hid (Box26 w3 sb nb nt n) := BW.out.fr f3 (by simp)
  have HWs : Hid (w.heap.size ≤ sb) := by show _ ≤ sb; rw [← Hsb.out]; exact (F1.out.trans FX2.out).size
  have HW3s : Hid (W.heap.size ≤ w3.heap.size) := f3.size
  clear ho f3 hord hnew hp K s0 s1 s2 s3
  go_wp2_with fail
  refine K3.out.mono ?_
  rintro e w4 ⟨gb, v, ys, rfl, hgb, hg, hyp, f4⟩
  have F4 : Hid (Fr (fun _ => False) w w4) := F3.out.trans f4
  have BX : Hid (Box26 w4 sb nb nt n) := BX3.out.fr f4 (by simp)
  have HO4 : Hid (OwnE w4 (fun k => W.heap.size ≤ k ∧ k < w3.heap.size) (.slice ao es.length cap) es) := (HO.out.mono (fun k hk h => ⟨h, hk⟩)).fr f4 (by simp)
  have hyl : ys.length = es.length := by simpa using congrArg List.length hyp
  have HG : Hid (Lg w4 gb (fun k => w3.heap.size ≤ k ∧ k ≠ gb) nb nt n ys v) := hg
  have HYP : Hid (ys.map En.p = es.map En.p) := hyp
  have HYE : Hid (ys.map En.p = entsP nb terms kinds (min terms.length 30)) := hyp.trans HPE.out
  have HGB : Hid (w3.heap.size ≤ gb) := hgb
  have hL30 : es.length ≤ 30 := hlen
  have HYL : Hid (ys.length = es.length) := hyl
  obtain ⟨b0, b1, b2, b3, y0, y1, y2⟩ := BX.out
  clear hg hyp f4 hyl hlen q0 q1 q2 q3 hgb K3
  obtain ⟨z, ez, Hz⟩ : ∃ z : Nat, (nb : Int) + (es.length : Int) = (z : Int) ∧ Hid (z = nb + es.length) := ⟨nb + es.length, by omega, rfl⟩
  have hz : z ≤ 36 := by rw [Hz.out]; omega
  by_cases hin : nb ≤ T ∧ T ≤ z
  · obtain ⟨m, Hm⟩ : ∃ m, Hid (T = nb + m) := ⟨T - nb, by show _ = _; omega⟩
    have hm := Hm.out
    have hmL : m ≤ es.length := by have := Hz.out; omega
    have hlo' : ¬ (T : Int) < (nb : Int) := by omega
    have hhi' : ¬ (z : Int) < (T : Int) := by omega
    have hD1 : decide (T < nb) = false := by simp; omega
    have hD2 : decide (z < T) = false := by simp; omega
    obtain ⟨tT, HtT⟩ : ∃ tT, Hid (lastT nt (ys.take m) = tT) := ⟨_, rfl⟩
    obtain ⟨vT, HvT⟩ : ∃ vT, Hid ((vtold nb n ys T).1 = vT) := ⟨_, rfl⟩
    have HKC := compact_ok HG.out (by rw [HYL.out]; omega) (by rw [HYL.out]; omega) (fun k hk => ⟨by have := HGB.out; have := HG.out.lt; omega, by have := HG.out.lt; omega⟩) m (by rw [HYL.out]; exact hmL) T hm
    rw [HtT.out, HvT.out] at HKC
    have HKC : Hid (Calls _ _ _ _ _) := HKC
    clear hin hm
    go_wp2_with fail
    refine HKC.out.mono ?_
    rintro e w5 ⟨rfl, ⟨v5, g5⟩, f5⟩
    have hne : ¬ sb = gb := by have := hsbW.out; have := HW3s.out; have := HGB.out; omega
    have BX5 : Hid (Box26 w5 sb nb nt n) := BX.out.fr f5 (fun e => hne e)
    obtain ⟨d0, d1, d2, d3, _, _, _⟩ := BX5.out
    have HG5 : Hid (Lg w5 gb (fun k => w3.heap.size ≤ k ∧ k ≠ gb) T tT vT (ys.drop m) v5) := g5
    have HE5 : Hid (ERow w5 (fun k => W.heap.size ≤ k ∧ k < w3.heap.size) (fun k => W.heap.size ≤ k ∧ k < w3.heap.size) ao es cap) := HO4.out.erow.fr f5 (fun k hk e => by have := HGB.out; omega) (fun k hk e => by have := HGB.out; omega)
    have F5 : Hid (Fr (fun _ => False) w w5) := F4.out.trans' f5 (fun i hi e => by have := HGB.out; have := F3.out.size; omega)
    clear g5 f5 HKC b0 b1 b2 b3 y0 y1 y2
    go_wp2_with fail
    go_loopw [16] (fun t16 wr => ∃ k tk vk : Nat, k ≤ es.length ∧ t16 = .int .i64 (k : Int) ∧ Box26 wr sb nb tk vk ∧ Fr (fun b => b = sb) w5 wr ∧ Hid (lastT nt (es.take (min k m)) = tk) ∧ Hid ((vfold nb n T ((es.take k).map En.p)).1 = vk)) (fun t16 _ => es.length - (intOf t16).toNat)
    case atStart => exact ⟨0, nt, n, Nat.zero_le _, rfl, BX5.out, Fr.refl _ _, by show _ = _; simp [lastT], by show _ = _; simp [vfold]⟩
    case round =>
      obtain ⟨k, tk, vk, hk, rfl, hbx, hfr, Htk, Hvk⟩ := hrel
      have HBX : Hid (Box26 wr sb nb tk vk) := hbx
      have HFR : Hid (Fr (fun b => b = sb) w5 wr) := hfr
      have HER : Hid (ERow wr (fun k => W.heap.size ≤ k ∧ k < w3.heap.size) (fun k => W.heap.size ≤ k ∧ k < w3.heap.size) ao es cap) := HE5.out.fr hfr (fun k hk e => by have := hsbW.out; omega) (fun k hk e => by have := hsbW.out; omega)
      obtain ⟨p0, p1, p2, p3, u0, u1, u2⟩ := hbx
      clear hfr
      by_cases hlt : k < es.length
      · obtain ⟨b, off, x, rfl, hbR, x0, x1, x2, x3, gx, Hx⟩ := HER.out.at hlt
        have hxi : x.i = nb + 1 + k := by rw [Hx.out]; exact ents_ix HPE.out k hlt
        have k1 : (0 : Int) ≤ (k : Int) := by omega
        have k2 : (k : Int) < (es.length : Int) := by omega
        have HGX : Hid (EG wr (fun k => W.heap.size ≤ k ∧ k < w3.heap.size) x) := gx
        have hbsb : ¬ sb = b := by have := hsbW.out; have := hbR.1; omega
        have hbsb2 : ¬ b = sb := by omega
        have HV2 : Hid (vfold nb n T ((es.take (k + 1)).map En.p) = vstep T (vfold nb n T ((es.take k).map En.p)) x.p) := by show _ = _; rw [vfold_succ _ _ _ _ _ hlt, ← Hx.out]
        have HXI : Hid (x.i = nb + 1 + k) := hxi
        clear gx
        by_cases hkm : k < m
        · have hxT : (x.i : Int) ≤ (T : Int) := by have := Hm.out; omega
          have HT2 : Hid (lastT nt (es.take (min (k + 1) m)) = x.t) := by show _ = _; rw [show min (k + 1) m = k + 1 by omega, lastT_take _ _ _ hlt, ← Hx.out]
          have HX2 : Hid (x.i ≤ T) := by show x.i ≤ T; omega
          clear hxi
          by_cases hk1 : x.k = 1
          · have hk1' : ((x.k : Int) == 1) = true := by simp; omega
            have HV3 : Hid ((vfold nb n T ((es.take (k + 1)).map En.p)).1 = mask x.d) := by
              show _ = _
              rw [HV2.out]
              have := HX2.out
              simp [vstep, hitP, En.p, hk1, this]
            have KM : Hid (Calls _ _ _ _ _) := refmask_any x.a x.d x.c (wr.setCell ⟨sb, 1, none⟩ (.int .u64 (x.t : Int))) (((Fr.refl (fun b => b = sb) wr).setCell (p := ⟨sb, 1, none⟩) (Or.inl rfl) _).row HGX.out.row (fun hne a ha e => by have := (HGX.out.blk hne a ha).1; have := hsbW.out; omega))
            clear hk1
            go_wp2_with fail
            refine KM.out.mono ?_
            rintro e w' ⟨rfl, rfl⟩
            go_wp2
            go_roundw
            case rel => exact ⟨k + 1, x.t, mask x.d, by omega, by go_num, (HBX.out.setT x.t).setV (mask x.d), (HFR.out.setCell (p := ⟨sb, 1, none⟩) (Or.inl rfl) _).setCell (p := ⟨sb, 2, none⟩) (Or.inl rfl) _, HT2.out, HV3.out⟩
            case measure => simp [intOf]; omega
          · have hk1' : ¬ (x.k : Int) = 1 := by omega
            have HV3 : Hid ((vfold nb n T ((es.take (k + 1)).map En.p)).1 = vk) := by
              show _ = _
              rw [HV2.out, ← Hvk.out]
              simp [vstep, hitP, En.p, hk1]
            clear hk1
            go_wp2
            go_roundw
            case rel => exact ⟨k + 1, x.t, vk, by omega, by go_num, HBX.out.setT x.t, HFR.out.setCell (p := ⟨sb, 1, none⟩) (Or.inl rfl) _, HT2.out, HV3.out⟩
            case measure => simp [intOf]; omega
        · have hxT : ¬ (x.i : Int) ≤ (T : Int) := by have := Hm.out; omega
          have HT2 : Hid (lastT nt (es.take (min (k + 1) m)) = tk) := by show _ = _; rw [← Htk.out, show min (k + 1) m = m by omega, show min k m = m by omega]
          have HV3 : Hid ((vfold nb n T ((es.take (k + 1)).map En.p)).1 = vk) := by
            show _ = _
            rw [HV2.out, ← Hvk.out]
            have : ¬ x.i ≤ T := by omega
            simp [vstep, hitP, En.p, this]
          clear hxi
          go_wp2
          go_roundw
          case rel => exact ⟨k + 1, tk, vk, by omega, by go_num, HBX.out, HFR.out, HT2.out, HV3.out⟩
          case measure => simp [intOf]; omega
      · have hkn : k = es.length := by omega
        have HTT : Hid (tk = tT) := by show _ = _; rw [← Htk.out, ← HtT.out, hkn, show min es.length m = m by omega]; exact (lastT_p (by rw [List.map_take, List.map_take, HYP.out]) nt).symm
        have HVV : Hid (vk = vT) := by show _ = _; rw [← Hvk.out, ← HvT.out, hkn, List.take_of_length_le (Nat.le_refl _), vtold_fold, HYP.out]
        have htt := HTT.out
        have hvv := HVV.out
        subst htt
        subst hvv
        have k2 : ¬ (k : Int) < (es.length : Int) := by omega
        have e1 : (T : Int) - (nb : Int) = (m : Int) := by have := Hm.out; omega
        have e2 : (0 : Int) ≤ (m : Int) := by omega
        have e3 : (m : Int) ≤ (es.length : Int) := by omega
        have hcapl := HE5.out.len
        have e4 : (es.length : Int) ≤ (cap : Int) := by omega
        have e5 : (m : Int) ≤ (cap : Int) := by omega
        have HGR : Hid (Lg wr gb (fun k => w3.heap.size ≤ k ∧ k ≠ gb) T tk vk (ys.drop m) v5) := HG5.out.fr HFR.out (fun e => hne e.symm) (fun k hk e => by have := hsbW.out; have := HW3s.out; omega)
        have HRS : Hid (ERow wr (fun k => W.heap.size ≤ k ∧ k < w3.heap.size) (fun k => W.heap.size ≤ k ∧ k < w3.heap.size) (restA ao cap m) (es.drop m) (cap - m)) := HER.out.rest hmL
        have hdl : (es.drop m).length = es.length - m := by simp
        have HDL : Hid ((es.drop m).length = es.length - m) := hdl
        have FR : Hid (Fr (fun _ => False) w wr) := F5.out.trans' HFR.out (fun i hi e => by have := HWs.out; omega)
        have hcapl2 : cap ≤ 9223372036854775807 := hcapl.2.1
        clear hkn hdl hcapl
        cases ao with
        | none =>
          go_wp2_with fail
          have hrs := HRS.out
          rw [show restA none cap m = none from rfl] at hrs
          obtain ⟨W7, HW7⟩ : ∃ W7, Hid (W7 = wr.setCell ⟨sb, 0, none⟩ (.int .u64 (T : Int))) := ⟨_, rfl⟩
          have f7 : Fr (fun b => b = sb) wr W7 := by rw [HW7.out]; exact (Fr.refl (fun b => b = sb) wr).setCell (p := ⟨sb, 0, none⟩) (Or.inl rfl) _
          have hg7 := HGR.out.fr f7 (fun e => hne e.symm) (fun k hk e => by have := hsbW.out; have := HW3s.out; omega)
          have hr7 := hrs.fr f7 (fun k hk e => by have := hsbW.out; omega) (fun k hk e => by have := hsbW.out; omega)
          have hB7 : Box26 W7 sb T tk vk := by rw [HW7.out]; exact HBX.out.setI T
          have HF7 : Hid (Fr (fun _ => False) w W7) := FR.out.trans' f7 (fun i hi e => by have := HWs.out; omega)
          have KLk := look_any hg7 none (es.drop m) (cap - m) _ _ hr7 (by rw [List.map_drop, List.map_drop, HYP.out]) (fun k hk => by have h := drop_ix (fun k hk => ents_ix HYE.out k hk) m k hk; rw [h, Hm.out]) (by have := HYL.out; simp; omega) (fun x hx => ents_d HYE.out x (List.mem_of_mem_drop hx)) none 0 0
          rw [HDL.out] at KLk
          have KLk : Hid (Calls _ _ _ _ _) := KLk
          have HG7 : Hid (Lg W7 gb (fun k => w3.heap.size ≤ k ∧ k ≠ gb) T tk vk (ys.drop m) v5) := hg7
          obtain ⟨o0, o1, o2, o3, _, _, _⟩ := hB7
          rw [HW7.out] at o0 o1 o2 o3
          clear hrs f7 hg7 hr7
          go_wp2_with fail
          rw [← HW7.out]
          refine KLk.out.mono ?_
          rintro e w8 ⟨rfl, f8⟩
          have hg8 := HG7.out.fr f8 (by simp) (by simp)
          have HF8 : Hid (Fr (fun _ => False) w w8) := HF7.out.trans f8
          have HG8 : Hid (Lg w8 gb (fun k => w3.heap.size ≤ k ∧ k ≠ gb) T tk vk (ys.drop m) v5) := hg8
          clear f8 hg8 o0 o1 o2 o3
          go_wp2_with fail
          refine (snap_any ag w8 hag).mono ?_
          rintro e w9 ⟨rfl, f9⟩
          obtain ⟨ab, Hab⟩ : ∃ ab, Hid (ag % 7 = ab) := ⟨_, rfl⟩
          obtain ⟨at2, Hat⟩ : ∃ at2, Hid (ag % 2 = at2) := ⟨_, rfl⟩
          have hab : ab ≤ 6 := by rw [← Hab.out]; omega
          have hat : at2 ≤ 1 := by rw [← Hat.out]; omega
          rw [Hab.out, Hat.out]
          obtain ⟨W9, HW9⟩ : ∃ W9, Hid (W9 = w9.alloc (.cells #[.int .u64 (ab : Int), .int .u64 (at2 : Int), .int .u64 (ag : Int), .slice none 0 0] 26)) := ⟨_, rfl⟩
          have f10 : Fr (fun _ => False) w8 W9 := by rw [HW9.out]; exact f9.alloc _
          have hg9 := HG8.out.fr f10 (by simp) (by simp)
          obtain ⟨tb, Htb⟩ : ∃ tb, Hid (w9.heap.size = tb) := ⟨_, rfl⟩
          have BX9 : Box26 W9 tb ab at2 ag := by rw [HW9.out, ← Htb.out]; exact Box26.new _ _ _ _
          have htbg : ¬ tb = gb := by have := HG8.out.lt; have := f9.size; have := Htb.out; omega
          have KR : Hid (Calls _ _ _ _ _) := reset_any hg9 ab at2 ag (.slice none 0 0) (by omega) (by omega) (by omega)
          have HF9 : Hid (Fr (fun _ => False) w W9) := HF8.out.trans f10
          have HBX9 : Hid (Box26 W9 tb ab at2 ag) := BX9
          obtain ⟨o0, o1, o2, o3, _, _, _⟩ := BX9
          rw [HW9.out] at o0 o1 o2 o3
          rw [← Htb.out] at o0 o1 o2 o3
          clear f9 f10 hg9
          go_wp2_with fail
          rw [← HW9.out]
          refine KR.out.mono ?_
          rintro e w10 ⟨rfl, g10, f10⟩
          have hB10 := HBX9.out.fr f10 (fun e => htbg e)
          rw [Htb.out]
          obtain ⟨i0, i1, i2, i3, _, _, _⟩ := hB10
          have KL2 : Hid (Calls _ _ _ _ _) := look_any g10 none [] 0 (fun _ => True) (fun _ => True) (ERow.nil _ _ _) rfl (fun k hk => by simp at hk) (by simp; omega) (by simp) none 0 0
          have HF10 : Hid (Fr (fun _ => False) w w10) := HF9.out.trans' f10 (fun i hi e => by have := HGB.out; have := F3.out.size; omega)
          clear f10 g10 o0 o1 o2 o3
          go_wp2_with fail
          refine KL2.out.mono ?_
          rintro e w11 ⟨rfl, f11⟩
          go_wp2
          go_ret
          exact ⟨rfl, HF10.out.trans f11⟩
        | some a =>
          by_cases hcm : cap = m
          · skip
            go_wp2_with fail
            have hrs := HRS.out
            rw [show restA (some a) cap m = some a by simp [restA, hcm], show cap - m = 0 by omega] at hrs
            obtain ⟨W7, HW7⟩ : ∃ W7, Hid (W7 = wr.setCell ⟨sb, 0, none⟩ (.int .u64 (T : Int))) := ⟨_, rfl⟩
            have f7 : Fr (fun b => b = sb) wr W7 := by rw [HW7.out]; exact (Fr.refl (fun b => b = sb) wr).setCell (p := ⟨sb, 0, none⟩) (Or.inl rfl) _
            have hg7 := HGR.out.fr f7 (fun e => hne e.symm) (fun k hk e => by have := hsbW.out; have := HW3s.out; omega)
            have hr7 := hrs.fr f7 (fun k hk e => by have := hsbW.out; omega) (fun k hk e => by have := hsbW.out; omega)
            have hB7 : Box26 W7 sb T tk vk := by rw [HW7.out]; exact HBX.out.setI T
            have HF7 : Hid (Fr (fun _ => False) w W7) := FR.out.trans' f7 (fun i hi e => by have := HWs.out; omega)
            have KLk := look_any hg7 (some a) (es.drop m) 0 _ _ hr7 (by rw [List.map_drop, List.map_drop, HYP.out]) (fun k hk => by have h := drop_ix (fun k hk => ents_ix HYE.out k hk) m k hk; rw [h, Hm.out]) (by have := HYL.out; simp; omega) (fun x hx => ents_d HYE.out x (List.mem_of_mem_drop hx)) none 0 0
            rw [HDL.out] at KLk
            have KLk : Hid (Calls _ _ _ _ _) := KLk
            have HG7 : Hid (Lg W7 gb (fun k => w3.heap.size ≤ k ∧ k ≠ gb) T tk vk (ys.drop m) v5) := hg7
            obtain ⟨o0, o1, o2, o3, _, _, _⟩ := hB7
            rw [HW7.out] at o0 o1 o2 o3
            clear hrs f7 hg7 hr7
            go_wp2_with fail
            rw [← HW7.out]
            refine KLk.out.mono ?_
            rintro e w8 ⟨rfl, f8⟩
            have hg8 := HG7.out.fr f8 (by simp) (by simp)
            have HF8 : Hid (Fr (fun _ => False) w w8) := HF7.out.trans f8
            have HG8 : Hid (Lg w8 gb (fun k => w3.heap.size ≤ k ∧ k ≠ gb) T tk vk (ys.drop m) v5) := hg8
            clear f8 hg8 o0 o1 o2 o3
            go_wp2_with fail
            refine (snap_any ag w8 hag).mono ?_
            rintro e w9 ⟨rfl, f9⟩
            obtain ⟨ab, Hab⟩ : ∃ ab, Hid (ag % 7 = ab) := ⟨_, rfl⟩
            obtain ⟨at2, Hat⟩ : ∃ at2, Hid (ag % 2 = at2) := ⟨_, rfl⟩
            have hab : ab ≤ 6 := by rw [← Hab.out]; omega
            have hat : at2 ≤ 1 := by rw [← Hat.out]; omega
            rw [Hab.out, Hat.out]
            obtain ⟨W9, HW9⟩ : ∃ W9, Hid (W9 = w9.alloc (.cells #[.int .u64 (ab : Int), .int .u64 (at2 : Int), .int .u64 (ag : Int), .slice none 0 0] 26)) := ⟨_, rfl⟩
            have f10 : Fr (fun _ => False) w8 W9 := by rw [HW9.out]; exact f9.alloc _
            have hg9 := HG8.out.fr f10 (by simp) (by simp)
            obtain ⟨tb, Htb⟩ : ∃ tb, Hid (w9.heap.size = tb) := ⟨_, rfl⟩
            have BX9 : Box26 W9 tb ab at2 ag := by rw [HW9.out, ← Htb.out]; exact Box26.new _ _ _ _
            have htbg : ¬ tb = gb := by have := HG8.out.lt; have := f9.size; have := Htb.out; omega
            have KR : Hid (Calls _ _ _ _ _) := reset_any hg9 ab at2 ag (.slice none 0 0) (by omega) (by omega) (by omega)
            have HF9 : Hid (Fr (fun _ => False) w W9) := HF8.out.trans f10
            have HBX9 : Hid (Box26 W9 tb ab at2 ag) := BX9
            obtain ⟨o0, o1, o2, o3, _, _, _⟩ := BX9
            rw [HW9.out] at o0 o1 o2 o3
            rw [← Htb.out] at o0 o1 o2 o3
            clear f9 f10 hg9
            go_wp2_with fail
            rw [← HW9.out]
            refine KR.out.mono ?_
            rintro e w10 ⟨rfl, g10, f10⟩
            have hB10 := HBX9.out.fr f10 (fun e => htbg e)
            rw [Htb.out]
            obtain ⟨i0, i1, i2, i3, _, _, _⟩ := hB10
            have KL2 : Hid (Calls _ _ _ _ _) := look_any g10 none [] 0 (fun _ => True) (fun _ => True) (ERow.nil _ _ _) rfl (fun k hk => by simp at hk) (by simp; omega) (by simp) none 0 0
            have HF10 : Hid (Fr (fun _ => False) w w10) := HF9.out.trans' f10 (fun i hi e => by have := HGB.out; have := F3.out.size; omega)
            clear f10 g10 o0 o1 o2 o3
            go_wp2_with fail
            refine KL2.out.mono ?_
            rintro e w11 ⟨rfl, f11⟩
            go_wp2
            go_ret
            exact ⟨rfl, HF10.out.trans f11⟩
          · skip
            go_wp2_with fail
            have hrs := HRS.out
            rw [show restA (some a) cap m = some (a.add (m * 4)) by simp [restA, hcm]] at hrs
            obtain ⟨W7, HW7⟩ : ∃ W7, Hid (W7 = wr.setCell ⟨sb, 0, none⟩ (.int .u64 (T : Int))) := ⟨_, rfl⟩
            have f7 : Fr (fun b => b = sb) wr W7 := by rw [HW7.out]; exact (Fr.refl (fun b => b = sb) wr).setCell (p := ⟨sb, 0, none⟩) (Or.inl rfl) _
            have hg7 := HGR.out.fr f7 (fun e => hne e.symm) (fun k hk e => by have := hsbW.out; have := HW3s.out; omega)
            have hr7 := hrs.fr f7 (fun k hk e => by have := hsbW.out; omega) (fun k hk e => by have := hsbW.out; omega)
            have hB7 : Box26 W7 sb T tk vk := by rw [HW7.out]; exact HBX.out.setI T
            have HF7 : Hid (Fr (fun _ => False) w W7) := FR.out.trans' f7 (fun i hi e => by have := HWs.out; omega)
            have KLk := look_any hg7 (some (a.add (m * 4))) (es.drop m) (cap - m) _ _ hr7 (by rw [List.map_drop, List.map_drop, HYP.out]) (fun k hk => by have h := drop_ix (fun k hk => ents_ix HYE.out k hk) m k hk; rw [h, Hm.out]) (by have := HYL.out; simp; omega) (fun x hx => ents_d HYE.out x (List.mem_of_mem_drop hx)) none 0 0
            rw [HDL.out] at KLk
            have KLk : Hid (Calls _ _ _ _ _) := KLk
            have HG7 : Hid (Lg W7 gb (fun k => w3.heap.size ≤ k ∧ k ≠ gb) T tk vk (ys.drop m) v5) := hg7
            obtain ⟨o0, o1, o2, o3, _, _, _⟩ := hB7
            rw [HW7.out] at o0 o1 o2 o3
            clear hrs f7 hg7 hr7
            go_wp2_with fail
            rw [← HW7.out]
            refine KLk.out.mono ?_
            rintro e w8 ⟨rfl, f8⟩
            have hg8 := HG7.out.fr f8 (by simp) (by simp)
            have HF8 : Hid (Fr (fun _ => False) w w8) := HF7.out.trans f8
            have HG8 : Hid (Lg w8 gb (fun k => w3.heap.size ≤ k ∧ k ≠ gb) T tk vk (ys.drop m) v5) := hg8
            clear f8 hg8 o0 o1 o2 o3
            go_wp2_with fail
            refine (snap_any ag w8 hag).mono ?_
            rintro e w9 ⟨rfl, f9⟩
            obtain ⟨ab, Hab⟩ : ∃ ab, Hid (ag % 7 = ab) := ⟨_, rfl⟩
            obtain ⟨at2, Hat⟩ : ∃ at2, Hid (ag % 2 = at2) := ⟨_, rfl⟩
            have hab : ab ≤ 6 := by rw [← Hab.out]; omega
            have hat : at2 ≤ 1 := by rw [← Hat.out]; omega
            rw [Hab.out, Hat.out]
            obtain ⟨W9, HW9⟩ : ∃ W9, Hid (W9 = w9.alloc (.cells #[.int .u64 (ab : Int), .int .u64 (at2 : Int), .int .u64 (ag : Int), .slice none 0 0] 26)) := ⟨_, rfl⟩
            have f10 : Fr (fun _ => False) w8 W9 := by rw [HW9.out]; exact f9.alloc _
            have hg9 := HG8.out.fr f10 (by simp) (by simp)
            obtain ⟨tb, Htb⟩ : ∃ tb, Hid (w9.heap.size = tb) := ⟨_, rfl⟩
            have BX9 : Box26 W9 tb ab at2 ag := by rw [HW9.out, ← Htb.out]; exact Box26.new _ _ _ _
            have htbg : ¬ tb = gb := by have := HG8.out.lt; have := f9.size; have := Htb.out; omega
            have KR : Hid (Calls _ _ _ _ _) := reset_any hg9 ab at2 ag (.slice none 0 0) (by omega) (by omega) (by omega)
            have HF9 : Hid (Fr (fun _ => False) w W9) := HF8.out.trans f10
            have HBX9 : Hid (Box26 W9 tb ab at2 ag) := BX9
            obtain ⟨o0, o1, o2, o3, _, _, _⟩ := BX9
            rw [HW9.out] at o0 o1 o2 o3
            rw [← Htb.out] at o0 o1 o2 o3
            clear f9 f10 hg9
            go_wp2_with fail
            rw [← HW9.out]
            refine KR.out.mono ?_
            rintro e w10 ⟨rfl, g10, f10⟩
            have hB10 := HBX9.out.fr f10 (fun e => htbg e)
            rw [Htb.out]
            obtain ⟨i0, i1, i2, i3, _, _, _⟩ := hB10
            have KL2 : Hid (Calls _ _ _ _ _) := look_any g10 none [] 0 (fun _ => True) (fun _ => True) (ERow.nil _ _ _) rfl (fun k hk => by simp at hk) (by simp; omega) (by simp) none 0 0
            have HF10 : Hid (Fr (fun _ => False) w w10) := HF9.out.trans' f10 (fun i hi e => by have := HGB.out; have := F3.out.size; omega)
            clear f10 g10 o0 o1 o2 o3
            go_wp2_with fail
            refine KL2.out.mono ?_
            rintro e w11 ⟨rfl, f11⟩
            go_wp2
            go_ret
            exact ⟨rfl, HF10.out.trans f11⟩
  · have HKC : Hid (Calls Try.prog 20 #[.pointer (some ⟨gb, 0, none⟩), .int .u64 (T : Int)] w4 fun e w' => e = .returned (.int .i64 1) ∧ ∃ n, w' = w4.drewN n) := compact_no HG.out (by rw [HYL.out]; omega) T (by rw [HYL.out, ← Hz.out]; omega)
    have KLk : Hid (∀ m, Calls Try.prog 13 #[.pointer (some ⟨gb, 0, none⟩), .agg #[.int .u64 (nb : Int), .int .u64 (nt : Int), .int .u64 (n : Int), .slice none 0 0], .slice ao es.length cap] (w4.drewN m) fun e w' => e = .returned (.bool true) ∧ Fr (fun _ => False) (w4.drewN m) w') := fun m =>
      look_any (HG.out.drewN m) ao es cap _ _ (HO4.out.erow.fr ((Fr.refl (fun _ => False) w4).drewN m) (by simp) (by simp)) HYP.out.symm (fun k hk => ents_ix HYE.out k hk) (by rw [HYL.out]; omega) (ents_d HYE.out) none 0 0
    by_cases hlo : T < nb
    · have hlo' : (T : Int) < (nb : Int) := by omega
      clear hin
      go_wp2_with fail
      refine HKC.out.mono ?_
      rintro e w5 ⟨rfl, m5, rfl⟩
      go_wp2_with fail
      refine (KLk.out _).mono ?_
      rintro e w6 ⟨rfl, f6⟩
      go_wp2
      go_ret
      exact ⟨rfl, (F4.out.drewN _).trans f6⟩
    · have hlo' : ¬ (T : Int) < (nb : Int) := by omega
      have hhi' : (z : Int) < (T : Int) := by omega
      clear hin
      go_wp2_with fail
      refine HKC.out.mono ?_
      rintro e w5 ⟨rfl, m5, rfl⟩
      go_wp2_with fail
      refine (KLk.out _).mono ?_
      rintro e w6 ⟨rfl, f6⟩
      go_wp2
      go_ret
      exact ⟨rfl, (F4.out.drewN _).trans f6⟩
end Go.Proofs.Ytkkpdnholnkeoab
