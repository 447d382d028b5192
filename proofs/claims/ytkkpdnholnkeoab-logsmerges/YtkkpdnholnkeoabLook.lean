/- The law's look at a log: it tells what the document tells. -/
import Derived.Test.YtkkpdnholnkeoabVf
import Derived.Deep.Upon
namespace Go.Proofs.Ytkkpdnholnkeoab
open Go.RowKit

set_option maxRecDepth 100000 in
set_option maxHeartbeats 8000000 in
theorem look_any {w : World} {gb : Nat} {D : Nat → Prop} {base term voters : Nat} {es : List En} {v : Value} (h : Lg w gb D base term voters es v) (ao : Option Addr) (ms : List En) (cap : Nat) (R2 D2 : Nat → Prop) (hr : ERow w R2 D2 ao ms cap) (hp : ms.map En.p = es.map En.p)
    (hix : ∀ k, k < es.length → (es.getD k default).i = base + 1 + k) (hb : base + es.length ≤ 1000000) (hd : ∀ x ∈ es, x.d.length ≤ 1000000) (da : Option Addr) (dn dc : Nat) :
    Calls Try.prog 13 #[.pointer (some ⟨gb, 0, none⟩), .agg #[.int .u64 (base : Int), .int .u64 (term : Int), .int .u64 (voters : Int), .slice da dn dc], .slice ao ms.length cap] w fun e w' => e = .returned (.bool true) ∧ Fr (fun _ => False) w w' := by
  have hl : ms.length = es.length := by simpa using congrArg List.length hp
  have hml := hr.len
  have hix2 : ∀ k, k < ms.length → (ms.getD k default).i = base + 1 + k := fun k hk => by
    have := congrArg (fun p => p.1) (p_get hp k (by omega))
    exact this.trans (hix k (by omega))
  obtain ⟨z, ez, Hz⟩ : ∃ z : Nat, (base : Int) + (ms.length : Int) = (z : Int) ∧ Hid (z = base + es.length) := ⟨base + es.length, by omega, rfl⟩
  have hz : z ≤ 1000000 := by rw [Hz.out]; exact hb
  have hbz : base ≤ z := by omega
  obtain ⟨sb, Hsb⟩ : ∃ sb, Hid (w.heap.size = sb) := ⟨_, rfl⟩
  obtain ⟨W, HW⟩ : ∃ W, Hid (W = w.alloc (.cells #[.int .u64 (base : Int), .int .u64 (term : Int), .int .u64 (voters : Int), .slice da dn dc] 26)) := ⟨_, rfl⟩
  have FW : Hid (Fr (fun _ => False) w W) := by show Fr _ _ _; rw [HW.out]; exact (Fr.refl (fun _ => False) w).alloc _
  have s0 : W.cell? ⟨sb, 0, none⟩ = some (.int .u64 (base : Int)) := by rw [HW.out, ← Hsb.out]; simp
  have s1 : W.cell? ⟨sb, 1, none⟩ = some (.int .u64 (term : Int)) := by rw [HW.out, ← Hsb.out]; simp
  have s2 : W.cell? ⟨sb, 2, none⟩ = some (.int .u64 (voters : Int)) := by rw [HW.out, ← Hsb.out]; simp
  have HG : Hid (Lg W gb D base term voters es v) := h.fr FW.out (by simp) (by simp)
  have HR : Hid (ERow W R2 D2 ao ms cap) := hr.fr FW.out (by simp) (by simp)
  have HP : Hid (ms.map En.p = es.map En.p) := hp
  have HIX : Hid (∀ k, k < ms.length → (ms.getD k default).i = base + 1 + k) := hix2
  have HD : Hid (∀ x ∈ es, x.d.length ≤ 1000000) := hd
  have HLn : Hid (ms.length = es.length) := hl
  have hb0 : base < 18446744073709551616 := by omega
  have ht0 := h.b1
  have hv0 := h.b2
  have hgl : gb < W.heap.size := HG.out.lt
  clear h hr hp hix hix2 hd hl hb
  go_enter Try.func13, Try.ntmps13
  go_wp2_with fail
  rw [← HW.out, Hsb.out]
  go_loop [8, 9, 10, 11] (fun t8 t9 t10 t11 => ∃ k tk vk ak : Nat, k ≤ ms.length ∧ t11 = .int .i64 (k : Int) ∧ t8 = .int .u64 (tk : Int) ∧ t9 = .int .u64 (vk : Int) ∧ t10 = .int .u64 (ak : Int) ∧ Hid (tk = lastT term (ms.take k)) ∧ Hid (vfold base voters z ((ms.take k).map En.p) = (vk, ak))) (fun _ _ _ t11 => ms.length - (intOf t11).toNat)
  case atStart => exact ⟨0, term, voters, base, Nat.zero_le _, rfl, rfl, rfl, rfl, by show _ = _; simp [lastT], by show _ = _; simp [vfold]⟩
  case round =>
    obtain ⟨k, tk, vk, ak, hk, rfl, rfl, rfl, rfl, Htk, Hvk⟩ := hrel
    by_cases hlt : k < ms.length
    · obtain ⟨b, off, x, rfl, _, x0, x1, x2, x3, gx, Hx⟩ := HR.out.at hlt
      have hxi := HIX.out k hlt
      have hlt' : k < ms.length := hlt
      have HXI : Hid (x.i ≤ z) := by show x.i ≤ z; rw [Hx.out, hxi]; have := HLn.out; have := Hz.out; omega
      have gxr := gx.row
      have HT2 : Hid (lastT term (ms.take (k + 1)) = x.t) := by show _ = _; rw [lastT_take term ms k hlt, ← Hx.out]
      have HV2 : Hid (vfold base voters z ((ms.take (k + 1)).map En.p) = vstep z (vk, ak) x.p) := by show _ = _; rw [vfold_succ _ _ _ _ _ hlt, Hvk.out, ← Hx.out]
      have k1 : (0 : Int) ≤ (k : Int) := by omega
      have k2 : (k : Int) < (ms.length : Int) := by omega
      have KM : Hid (Calls _ _ _ _ _) := refmask_any x.a x.d x.c W gxr
      clear hxi gx gxr
      by_cases hk1 : x.k = 1
      · have hk1' : (x.k : Int) = 1 := by omega
        have HV3 : Hid (vfold base voters z ((ms.take (k + 1)).map En.p) = (mask x.d, x.i)) := by
          show _ = _
          rw [HV2.out]
          have := HXI.out
          simp [vstep, hitP, En.p, hk1, this]
        clear hk1
        go_wp2_with fail
        refine KM.out.mono ?_
        rintro e w' ⟨rfl, rfl⟩
        go_wp2
        go_round
        case rel => exact ⟨k + 1, x.t, mask x.d, x.i, by omega, by go_num, rfl, rfl, rfl, HT2.out.symm, HV3.out⟩
        case measure => simp [intOf]; omega
      · have hk1' : ¬ (x.k : Int) = 1 := by omega
        have HV3 : Hid (vfold base voters z ((ms.take (k + 1)).map En.p) = (vk, ak)) := by
          show _ = _
          rw [HV2.out]
          simp [vstep, hitP, En.p, hk1]
        clear hk1
        go_wp2
        go_round
        case rel => exact ⟨k + 1, x.t, vk, ak, by omega, by go_num, rfl, rfl, rfl, HT2.out.symm, HV3.out⟩
        case measure => simp [intOf]; omega
    · have hkn : k = ms.length := by omega
      have HTk : Hid (lastT term es = tk) := by show _ = _; rw [Htk.out, hkn, List.take_of_length_le (Nat.le_refl _), lastT_p HP.out]
      have HVk : Hid (vtold base voters es z = (vk, ak)) := by show _ = _; rw [vtold_fold, ← HP.out, ← Hvk.out, hkn, List.take_of_length_le (Nat.le_refl _)]
      have k2 : ¬ (k : Int) < (ms.length : Int) := by omega
      have KV : Hid (Calls Try.prog 27 #[.pointer (some ⟨gb, 0, none⟩)] W fun e w' => e = .returned (.tuple #[.int .u64 (vk : Int), .int .u64 (ak : Int)]) ∧ Fr (fun _ => False) W w') := by
        have := voters_any HG.out (by rw [← Hz.out]; omega)
        rw [← Hz.out, HVk.out] at this
        exact this
      clear hkn Htk Hvk
      go_wp2_with fail
      refine KV.out.mono ?_
      rintro e w2 ⟨rfl, f2⟩
      have g2 := HG.out.fr f2 (by simp) (by simp)
      have HF2 : Hid (Fr (fun _ => False) W w2) := f2
      have KB : Hid (∀ n, Calls Try.prog 28 #[.pointer (some ⟨gb, 0, none⟩)] (w2.drewN n) fun e w' => e = .returned (.int .u64 (base : Int)) ∧ w' = w2.drewN n) := fun n => base_any (g2.drewN n)
      have KL : Hid (∀ n, Calls Try.prog 19 #[.pointer (some ⟨gb, 0, none⟩)] (w2.drewN n) fun e w' => e = .returned (.int .u64 (z : Int)) ∧ ∃ m, w' = (w2.drewN n).drewN m) := fun n => by
        have := last_any (g2.drewN n) (by rw [← Hz.out]; omega)
        rwa [← Hz.out] at this
      have KT : Hid (∀ n, Calls Try.prog 14 #[.pointer (some ⟨gb, 0, none⟩)] (w2.drewN n) fun e w' => e = .returned (.int .u64 (tk : Int)) ∧ ∃ m, w' = (w2.drewN n).drewN m) := fun n => by
        have := lastTerm_any (g2.drewN n) (by rw [← Hz.out]; omega)
        rwa [HTk.out] at this
      have q0 := f2.cell s0 (by simp)
      clear g2 f2 KV
      go_wp2_with fail
      go_quiet (first
        | (go_at_call 28; exact Calls.quiet_of_same (KB.out _))
        | (go_at_call 19; exact Calls.quiet_of (KL.out _))
        | (go_at_call 14; exact Calls.quiet_of (KT.out _)))
      obtain ⟨W3, HW3⟩ : ∃ W3, Hid (W3 = w2.drewN nq) := ⟨_, rfl⟩
      rw [← HW3.out]
      have HF3 : Hid (Fr (fun _ => False) W W3) := by show Fr _ _ _; rw [HW3.out]; exact HF2.out.drewN _
      clear KB KL KT q0 HF2
      go_wp2_with fail
      go_loopw [14] (fun t14 wr => ∃ j : Nat, j ≤ z + 3 ∧ t14 = .int .u64 (j : Int) ∧ Fr (fun _ => False) W wr) (fun t14 _ => z + 3 - (intOf t14).toNat)
      case atStart => exact ⟨0, Nat.zero_le _, rfl, HF3.out⟩
      case round =>
        obtain ⟨j, hj, rfl, hfr⟩ := hrel
        have HF4 : Hid (Fr (fun _ => False) W wr) := hfr
        have HG4 : Hid (Lg wr gb D base term voters es v) := HG.out.fr hfr (by simp) (by simp)
        have hzl : base + es.length < 18446744073709551616 := by rw [← Hz.out]; omega
        have HZL : Hid (base + es.length < 18446744073709551616) := hzl
        clear hfr hzl
        by_cases hlt : j ≤ z + 2
        · have hlt' : (j : Int) ≤ (z : Int) + 2 := by omega
          have HVJ : Hid (∀ X, Fr (fun _ => False) wr X → Calls Try.prog 32 #[.pointer (some ⟨gb, 0, none⟩), .int .u64 (j : Int)] X fun e w' => e = .returned (.int .u64 ((vtold base voters es j).1 : Int)) ∧ Fr (fun _ => False) X w') := fun X fX => votersAt_any (HG4.out.fr fX (by simp) (by simp)) j
          by_cases hc : base < j ∧ j ≤ z
          · obtain ⟨hc1, hc2⟩ := hc
            obtain ⟨m, Hm⟩ : ∃ m, Hid (j = base + 1 + m) := ⟨j - base - 1, by show _ = _; omega⟩
            have hm := Hm.out
            have hmL : m < ms.length := by have := HLn.out; have := Hz.out; omega
            have hmE : m < es.length := by have := HLn.out; omega
            have HKT := term_in HG4.out HZL.out m hmE j hm
            have HKE := fun n => entry_in (HG4.out.drewN n) HZL.out m hmE j hm HD.out
            have hpm := p_get HP.out m hmE
            obtain ⟨xe, Hxe⟩ : ∃ xe, Hid (es.getD m default = xe) := ⟨_, rfl⟩
            rw [Hxe.out] at HKT HKE hpm
            obtain ⟨b, off, x, rfl, hbR, _, _, _, _, _, Hx⟩ := (HR.out.fr HF4.out (by simp) (by simp)).at hmL
            rw [← Hx.out] at hpm
            have HPX : Hid (x.p = xe.p) := hpm
            have hxt : x.t = xe.t := congrArg (fun p => p.2.1) hpm
            have HXT : Hid (x.t = xe.t) := hxt
            have HKT : Hid (Calls _ _ _ _ _) := HKT
            have HKE : Hid (∀ n, Calls Try.prog 30 #[.pointer (some ⟨gb, 0, none⟩), .int .u64 (j : Int)] (wr.drewN n) fun e w' => ∃ y : En, e = .returned (.tuple #[.agg #[.int .u64 (y.i : Int), .int .u64 (y.t : Int), .int .u8 (y.k : Int), .slice y.a y.d.length y.c], .bool true]) ∧ EG w' (fun k => (wr.drewN n).heap.size ≤ k) y ∧ y.p = xe.p ∧ Fr (fun _ => False) (wr.drewN n) w') := HKE
            have e1 : (base : Int) ≤ (j : Int) := by omega
            have e2 : (j : Int) ≤ (z : Int) := by omega
            have e3 : (base : Int) < (j : Int) := by omega
            have e4 : ¬ (j : Int) = (base : Int) := by omega
            obtain ⟨m1, Hm1⟩ : ∃ m1, Hid (m1 = m + 1) := ⟨_, rfl⟩
            have hm1 := Hm1.out
            have e5 : (j : Int) - (base : Int) = (m1 : Int) := by omega
            have e5c : (m1 : Int) - 1 = (m : Int) := by omega
            have wA : IntKind.u64.wrap (m1 : Int) = (m1 : Int) := wrap_u64_small _ (by omega) (by omega)
            have wB : IntKind.u64.wrap (m : Int) = (m : Int) := wrap_u64_small _ (by omega) (by omega)
            have e14 : (m : Int) ≤ (cap : Int) := by omega
            have e6 : (0 : Int) ≤ (m : Int) := by omega
            have e7 : (m : Int) < (ms.length : Int) := by omega
            have e8 : (m1 : Int) ≤ (ms.length : Int) := by omega
            have e8b : (m : Int) ≤ (m1 : Int) := by omega
            have e8c : (0 : Int) ≤ (m1 : Int) := by omega
            have e8d : m ≤ m1 := by omega
            have e8e : ¬ cap = m := by omega
            have e9 : (ms.length : Int) ≤ (cap : Int) := by omega
            have e10 : (m1 : Int) ≤ (cap : Int) := by omega
            clear hm hpm hxt hmE hc1 hc2 hm1
            go_wp2_with fail
            refine HKT.out.mono ?_
            rintro e w4 ⟨rfl, n4, rfl⟩
            go_wp2_with fail
            refine (HKE.out n4).mono ?_
            rintro e w5 ⟨y, rfl, gy, hyp, f5⟩
            have f6 := (((Fr.refl (fun _ => False) wr).drewN n4).trans f5).alloc (.cells #[.int .u64 (y.i : Int), .int .u64 (y.t : Int), .int .u8 (y.k : Int), .slice y.a y.d.length y.c] 36)
            obtain ⟨W6, HW6⟩ : ∃ W6, Hid (W6 = w5.alloc (.cells #[.int .u64 (y.i : Int), .int .u64 (y.t : Int), .int .u8 (y.k : Int), .slice y.a y.d.length y.c] 36)) := ⟨_, rfl⟩
            have HF6 : Hid (Fr (fun _ => False) wr W6) := by show Fr _ _ _; rw [HW6.out]; exact f6
            have u0' := (HF4.out.trans f6).cell s0 (by simp)
            have u1' := (HF4.out.trans f6).cell s1 (by simp)
            have u2' := (HF4.out.trans f6).cell s2 (by simp)
            have u0 : W6.cell? ⟨sb, 0, none⟩ = _ := (HF4.out.trans HF6.out).cell s0 (by simp)
            have HEY : Hid (y.p = xe.p) := hyp
            have HGY : Hid (EG W6 (fun k => (wr.drewN n4).heap.size ≤ k) y) := by show EG _ _ _; rw [HW6.out]; exact gy.fr ((Fr.refl (fun _ => False) w5).alloc _) (by simp)
            obtain ⟨yb, Hyb⟩ : ∃ yb, Hid (w5.heap.size = yb) := ⟨_, rfl⟩
            have v0 : W6.cell? ⟨yb, 0, none⟩ = some (.int .u64 (y.i : Int)) := by rw [HW6.out, ← Hyb.out]; simp
            have v1 : W6.cell? ⟨yb, 1, none⟩ = some (.int .u64 (y.t : Int)) := by rw [HW6.out, ← Hyb.out]; simp
            have v2 : W6.cell? ⟨yb, 2, none⟩ = some (.int .u8 (y.k : Int)) := by rw [HW6.out, ← Hyb.out]; simp
            have v3 : W6.cell? ⟨yb, 3, none⟩ = some (.slice y.a y.d.length y.c) := by rw [HW6.out, ← Hyb.out]; simp
            obtain ⟨b', off', x', he', _, _, x1, _, _, _, Hx'⟩ := ((HR.out.fr HF4.out (by simp) (by simp)).fr HF6.out (by simp) (by simp)).at hmL
            cases he'
            have hxx : x' = x := by rw [Hx'.out, Hx.out]
            rw [hxx, HXT.out] at x1
            have HER : Hid (ERow W6 R2 D2 (some ⟨b, off, none⟩) ms cap) := (HR.out.fr HF4.out (by simp) (by simp)).fr HF6.out (by simp) (by simp)
            have KS : Hid (∀ X (g : Nat), Fr (fun _ => False) W6 X → (∀ f, f < 4 → X.cell? ⟨g, 0 + (0 * 4 + f), none⟩ = y.cells[f]?) → Calls Try.prog 31 #[.slice (some ⟨g, 0, none⟩) 1 1, .slice (some ⟨b, off + m * 4, none⟩) (m1 - m) (cap - m)] X fun e w' => e = .returned (.bool true) ∧ ∃ n, w' = X.drewN n) := by
              intro X g fX hcells
              have r1 : ERow X (fun _ => True) (fun _ => True) (some ⟨g, 0, none⟩) [y] 1 := by
                refine ⟨by simp, by unfold maxLen; simp, fun h => (by cases h), fun t ht => ?_, fun _ => ⟨g, 0, rfl, trivial, fun i hi f hf => ?_⟩⟩
                · simp at ht; subst ht; exact (HGY.out.fr fX (by simp)).mono (fun _ _ _ => trivial)
                · simp at hi; subst hi; exact hcells f hf
              have hx1 : (ms.drop m).take 1 = [x] := by
                rw [Hx.out, show ms.getD m default = ms[m] by simp [List.getD_eq_getElem?_getD, hmL], List.drop_eq_getElem_cons hmL]; rfl
              have r2 := ((HER.out.fr fX (by simp) (by simp)).drop m (by omega)).take 1 (by simp; omega)
              rw [hx1] at r2
              rw [show m1 - m = 1 by rw [Hm1.out]; omega]
              exact same_yes (some ⟨g, 0, none⟩) (some ⟨b, off + m * 4, none⟩) [y] [x] 1 (cap - m) X _ _ _ _ r1 r2 (by simp [HPX.out, HEY.out])
            clear f5 f6 gy hyp Hx' hxx
            go_wp2_with fail
            rw [← HW6.out, Hyb.out]
            clear u0' u1' u2'
            go_region_held3 (fun w' => w'.cell? ⟨sb, 0, none⟩ = some (.int .u64 (base : Int)) ∧ w'.cell? ⟨b, off + m * 4 + 1, none⟩ = some (.int .u64 (xe.t : Int)) ∧ w'.cell? ⟨yb, 0, none⟩ = some (.int .u64 (y.i : Int)) ∧ w'.cell? ⟨yb, 1, none⟩ = some (.int .u64 (y.t : Int)) ∧ w'.cell? ⟨yb, 2, none⟩ = some (.int .u8 (y.k : Int)) ∧ w'.cell? ⟨yb, 3, none⟩ = some (.slice y.a y.d.length y.c)) (first | exact ⟨u0, x1, v0, v1, v2, v3⟩ | go_keep) ((go_at_call 31; refine (KS.out _ _ (by exact ((Fr.refl (fun _ => False) W6).drew).alloc _) (by intro f hf; have hf' : f = 0 ∨ f = 1 ∨ f = 2 ∨ f = 3 := (by omega); rcases hf' with rfl | rfl | rfl | rfl <;> simp [En.cells])).mono ?_; rintro e w7 ⟨rfl, n7, rfl⟩))
            obtain ⟨W5, HW5⟩ : ∃ W5, Hid (W5 = (W6.alloc (.cells #[.int .u64 (y.i : Int), .int .u64 (y.t : Int), .int .u8 (y.k : Int), .slice y.a y.d.length y.c] 36)).drewN (1 + n7)) := ⟨_, rfl⟩
            rw [← HW5.out]
            have HF7 : Hid (Fr (fun _ => False) wr W5) := by show Fr _ _ _; rw [HW5.out]; exact (HF6.out.alloc _).drewN _
            have t2 : W5.cell? ⟨sb, 2, none⟩ = some (.int .u64 (voters : Int)) := (HF4.out.trans HF7.out).cell s2 (by simp)
            clear u0 v0 v1 v2 v3 x1 KS HKE HKT HW6 HW5
            go_wp2_with fail
            go_loop [19, 20] (fun t19 t20 => ∃ q vq aq : Nat, q ≤ ms.length ∧ t20 = .int .i64 (q : Int) ∧ t19 = .int .u64 (vq : Int) ∧ Hid (vfold base voters j ((ms.take q).map En.p) = (vq, aq))) (fun _ t20 => ms.length - (intOf t20).toNat)
            case atStart => exact ⟨0, voters, base, Nat.zero_le _, rfl, rfl, by show _ = _; simp [vfold]⟩
            case round =>
              obtain ⟨q, vq, aq, hq, rfl, rfl, Hvq⟩ := hrel
              by_cases hql : q < ms.length
              · obtain ⟨b, off, x, hao, _, x0, x1, x2, x3, gx, Hx⟩ := ((HR.out.fr HF4.out (by simp) (by simp)).fr HF7.out (by simp) (by simp)).at hql
                cases hao
                have gxr := gx.row
                have HV2 : Hid (vfold base voters j ((ms.take (q + 1)).map En.p) = vstep j (vq, aq) x.p) := by show _ = _; rw [vfold_succ _ _ _ _ _ hql, Hvq.out, ← Hx.out]
                have k1 : (0 : Int) ≤ (q : Int) := by omega
                have k2' : (q : Int) < (ms.length : Int) := by omega
                have KM : Hid (Calls _ _ _ _ _) := refmask_any x.a x.d x.c W5 gxr
                clear gx gxr
                by_cases hxj : x.i ≤ j
                · have hxj' : (x.i : Int) ≤ (j : Int) := by omega
                  by_cases hk1 : x.k = 1
                  · have hk1' : (x.k : Int) = 1 := by omega
                    have HV3 : Hid (vfold base voters j ((ms.take (q + 1)).map En.p) = (mask x.d, x.i)) := by
                      show _ = _
                      rw [HV2.out]
                      simp [vstep, hitP, En.p, hk1, hxj]
                    clear hk1
                    go_wp2_with fail
                    refine KM.out.mono ?_
                    rintro e w' ⟨rfl, rfl⟩
                    go_wp2
                    go_round
                    case rel => exact ⟨q + 1, mask x.d, x.i, by omega, by go_num, rfl, HV3.out⟩
                    case measure => simp [intOf]; omega
                  · have hk1' : ¬ (x.k : Int) = 1 := by omega
                    have HV3 : Hid (vfold base voters j ((ms.take (q + 1)).map En.p) = (vq, aq)) := by
                      show _ = _
                      rw [HV2.out]
                      simp [vstep, hitP, En.p, hk1]
                    clear hk1
                    go_wp2
                    go_round
                    case rel => exact ⟨q + 1, vq, aq, by omega, by go_num, rfl, HV3.out⟩
                    case measure => simp [intOf]; omega
                · have hxj' : ¬ (x.i : Int) ≤ (j : Int) := by omega
                  have HV3 : Hid (vfold base voters j ((ms.take (q + 1)).map En.p) = (vq, aq)) := by
                    show _ = _
                    rw [HV2.out]
                    simp [vstep, hitP, En.p, hxj]
                  go_wp2
                  go_round
                  case rel => exact ⟨q + 1, vq, aq, by omega, by go_num, rfl, HV3.out⟩
                  case measure => simp [intOf]; omega
              · have hqn : q = ms.length := by omega
                have HVq : Hid (vtold base voters es j = (vq, aq)) := by show _ = _; rw [vtold_fold, ← HP.out, ← Hvq.out, hqn, List.take_of_length_le (Nat.le_refl _)]
                have k2' : ¬ (q : Int) < (ms.length : Int) := by omega
                have KV := HVJ.out W5 HF7.out
                rw [HVq.out] at KV
                have KV : Hid (Calls _ _ _ _ _) := KV
                clear hqn
                go_wp2_with fail
                refine KV.out.mono ?_
                rintro e w9 ⟨rfl, f9⟩
                have HF9 : Hid (Fr (fun _ => False) W w9) := (HF4.out.trans HF7.out).trans f9
                clear f9
                go_wp2
                go_roundw
                case rel => exact ⟨j + 1, by omega, by go_num, HF9.out⟩
                case measure => simp [intOf]; omega
          · have hen : j ≤ base ∨ base + es.length < j := by rw [← Hz.out]; omega
            have HKE : Hid (∀ n, Calls Try.prog 30 #[.pointer (some ⟨gb, 0, none⟩), .int .u64 (j : Int)] (wr.drewN n) fun e w' => e = .returned (.tuple #[.agg #[.int .u64 0, .int .u64 0, .int .u8 0, .slice none 0 0], .bool false]) ∧ Fr (fun _ => False) (wr.drewN n) w') := fun n => entry_no (HG4.out.drewN n) HZL.out j hen
            clear hen
            by_cases hjb : j = base
            · have HJB : Hid (j = base) := hjb
              have e1 : (base : Int) ≤ (j : Int) := by omega
              have e2 : (j : Int) ≤ (z : Int) := by omega
              have e3 : ¬ (base : Int) < (j : Int) := by omega
              have e4 : (j : Int) = (base : Int) := by omega
              have HKT : Hid (Calls Try.prog 29 #[.pointer (some ⟨gb, 0, none⟩), .int .u64 (j : Int)] wr fun e w' => e = .returned (.tuple #[.int .u64 (term : Int), .bool true]) ∧ ∃ n, w' = wr.drewN n) := by
                have := term_base HG4.out
                rw [← HJB.out] at this
                exact this
              have e4b : ((j : Int) == (base : Int)) = true := by rw [e4]; simp
              clear hjb hc e4
              go_wp2_with fail
              refine HKT.out.mono ?_
              rintro e w4 ⟨rfl, n4, rfl⟩
              go_wp2_with fail
              refine (HKE.out n4).mono ?_
              rintro e w5 ⟨rfl, f5⟩
              have f6 := (((Fr.refl (fun _ => False) wr).drewN n4).trans f5).alloc (.cells #[.int .u64 0, .int .u64 0, .int .u8 0, .slice none 0 0] 36)
              have HF6 : Hid (Fr (fun _ => False) wr (w5.alloc (.cells #[.int .u64 0, .int .u64 0, .int .u8 0, .slice none 0 0] 36))) := f6
              have u0 := (HF4.out.trans f6).cell s0 (by simp)
              have u1 := (HF4.out.trans f6).cell s1 (by simp)
              have u2 := (HF4.out.trans f6).cell s2 (by simp)
              clear f5 f6
              go_wp2_with fail
              go_quiet (fail)
              obtain ⟨W5, HW5⟩ : ∃ W5, Hid (W5 = (w5.alloc (.cells #[.int .u64 0, .int .u64 0, .int .u8 0, .slice none 0 0] 36)).drewN nq) := ⟨_, rfl⟩
              rw [← HW5.out]
              have HF7 : Hid (Fr (fun _ => False) wr W5) := by show Fr _ _ _; rw [HW5.out]; exact HF6.out.drewN _
              have t2 : W5.cell? ⟨sb, 2, none⟩ = some (.int .u64 (voters : Int)) := (HF4.out.trans HF7.out).cell s2 (by simp)
              clear u0 u1 u2 HF6 HKE HKT
              go_wp2_with fail
              go_loop [19, 20] (fun t19 t20 => ∃ q vq aq : Nat, q ≤ ms.length ∧ t20 = .int .i64 (q : Int) ∧ t19 = .int .u64 (vq : Int) ∧ Hid (vfold base voters j ((ms.take q).map En.p) = (vq, aq))) (fun _ t20 => ms.length - (intOf t20).toNat)
              case atStart => exact ⟨0, voters, base, Nat.zero_le _, rfl, rfl, by show _ = _; simp [vfold]⟩
              case round =>
                obtain ⟨q, vq, aq, hq, rfl, rfl, Hvq⟩ := hrel
                by_cases hql : q < ms.length
                · obtain ⟨b, off, x, hao, _, x0, x1, x2, x3, gx, Hx⟩ := ((HR.out.fr HF4.out (by simp) (by simp)).fr HF7.out (by simp) (by simp)).at hql
                  subst hao
                  have gxr := gx.row
                  have HV2 : Hid (vfold base voters j ((ms.take (q + 1)).map En.p) = vstep j (vq, aq) x.p) := by show _ = _; rw [vfold_succ _ _ _ _ _ hql, Hvq.out, ← Hx.out]
                  have k1 : (0 : Int) ≤ (q : Int) := by omega
                  have k2' : (q : Int) < (ms.length : Int) := by omega
                  have KM : Hid (Calls _ _ _ _ _) := refmask_any x.a x.d x.c W5 gxr
                  clear gx gxr
                  by_cases hxj : x.i ≤ j
                  · have hxj' : (x.i : Int) ≤ (j : Int) := by omega
                    by_cases hk1 : x.k = 1
                    · have hk1' : (x.k : Int) = 1 := by omega
                      have HV3 : Hid (vfold base voters j ((ms.take (q + 1)).map En.p) = (mask x.d, x.i)) := by
                        show _ = _
                        rw [HV2.out]
                        simp [vstep, hitP, En.p, hk1, hxj]
                      clear hk1
                      go_wp2_with fail
                      refine KM.out.mono ?_
                      rintro e w' ⟨rfl, rfl⟩
                      go_wp2
                      go_round
                      case rel => exact ⟨q + 1, mask x.d, x.i, by omega, by go_num, rfl, HV3.out⟩
                      case measure => simp [intOf]; omega
                    · have hk1' : ¬ (x.k : Int) = 1 := by omega
                      have HV3 : Hid (vfold base voters j ((ms.take (q + 1)).map En.p) = (vq, aq)) := by
                        show _ = _
                        rw [HV2.out]
                        simp [vstep, hitP, En.p, hk1]
                      clear hk1
                      go_wp2
                      go_round
                      case rel => exact ⟨q + 1, vq, aq, by omega, by go_num, rfl, HV3.out⟩
                      case measure => simp [intOf]; omega
                  · have hxj' : ¬ (x.i : Int) ≤ (j : Int) := by omega
                    have HV3 : Hid (vfold base voters j ((ms.take (q + 1)).map En.p) = (vq, aq)) := by
                      show _ = _
                      rw [HV2.out]
                      simp [vstep, hitP, En.p, hxj]
                    go_wp2
                    go_round
                    case rel => exact ⟨q + 1, vq, aq, by omega, by go_num, rfl, HV3.out⟩
                    case measure => simp [intOf]; omega
                · have hqn : q = ms.length := by omega
                  have HVq : Hid (vtold base voters es j = (vq, aq)) := by show _ = _; rw [vtold_fold, ← HP.out, ← Hvq.out, hqn, List.take_of_length_le (Nat.le_refl _)]
                  have k2' : ¬ (q : Int) < (ms.length : Int) := by omega
                  have KV := HVJ.out W5 HF7.out
                  rw [HVq.out] at KV
                  have KV : Hid (Calls _ _ _ _ _) := KV
                  clear hqn
                  go_wp2_with fail
                  refine KV.out.mono ?_
                  rintro e w9 ⟨rfl, f9⟩
                  have HF9 : Hid (Fr (fun _ => False) W w9) := (HF4.out.trans HF7.out).trans f9
                  clear f9
                  go_wp2
                  go_roundw
                  case rel => exact ⟨j + 1, by omega, by go_num, HF9.out⟩
                  case measure => simp [intOf]; omega
            · have hjb' : ¬ (j : Int) = (base : Int) := by omega
              by_cases hjl : j < base
              · have e1 : ¬ (base : Int) ≤ (j : Int) := by omega
                have e3 : ¬ (base : Int) < (j : Int) := by omega
                have HKT : Hid (Calls Try.prog 29 #[.pointer (some ⟨gb, 0, none⟩), .int .u64 (j : Int)] wr fun e w' => e = .returned (.tuple #[.int .u64 0, .bool false]) ∧ ∃ n, w' = wr.drewN n) := term_no HG4.out HZL.out j (.inl hjl)
                clear hjb hc
                go_wp2_with fail
                refine HKT.out.mono ?_
                rintro e w4 ⟨rfl, n4, rfl⟩
                go_wp2_with fail
                refine (HKE.out n4).mono ?_
                rintro e w5 ⟨rfl, f5⟩
                have f6 := (((Fr.refl (fun _ => False) wr).drewN n4).trans f5).alloc (.cells #[.int .u64 0, .int .u64 0, .int .u8 0, .slice none 0 0] 36)
                have HF6 : Hid (Fr (fun _ => False) wr (w5.alloc (.cells #[.int .u64 0, .int .u64 0, .int .u8 0, .slice none 0 0] 36))) := f6
                have u0 := (HF4.out.trans f6).cell s0 (by simp)
                have u1 := (HF4.out.trans f6).cell s1 (by simp)
                have u2 := (HF4.out.trans f6).cell s2 (by simp)
                clear f5 f6
                go_wp2_with fail
                go_quiet (fail)
                obtain ⟨W5, HW5⟩ : ∃ W5, Hid (W5 = (w5.alloc (.cells #[.int .u64 0, .int .u64 0, .int .u8 0, .slice none 0 0] 36)).drewN nq) := ⟨_, rfl⟩
                rw [← HW5.out]
                have HF7 : Hid (Fr (fun _ => False) wr W5) := by show Fr _ _ _; rw [HW5.out]; exact HF6.out.drewN _
                have t2 : W5.cell? ⟨sb, 2, none⟩ = some (.int .u64 (voters : Int)) := (HF4.out.trans HF7.out).cell s2 (by simp)
                clear u0 u1 u2 HF6 HKE HKT
                go_wp2_with fail
                go_loop [19, 20] (fun t19 t20 => ∃ q vq aq : Nat, q ≤ ms.length ∧ t20 = .int .i64 (q : Int) ∧ t19 = .int .u64 (vq : Int) ∧ Hid (vfold base voters j ((ms.take q).map En.p) = (vq, aq))) (fun _ t20 => ms.length - (intOf t20).toNat)
                case atStart => exact ⟨0, voters, base, Nat.zero_le _, rfl, rfl, by show _ = _; simp [vfold]⟩
                case round =>
                  obtain ⟨q, vq, aq, hq, rfl, rfl, Hvq⟩ := hrel
                  by_cases hql : q < ms.length
                  · obtain ⟨b, off, x, hao, _, x0, x1, x2, x3, gx, Hx⟩ := ((HR.out.fr HF4.out (by simp) (by simp)).fr HF7.out (by simp) (by simp)).at hql
                    subst hao
                    have gxr := gx.row
                    have HV2 : Hid (vfold base voters j ((ms.take (q + 1)).map En.p) = vstep j (vq, aq) x.p) := by show _ = _; rw [vfold_succ _ _ _ _ _ hql, Hvq.out, ← Hx.out]
                    have k1 : (0 : Int) ≤ (q : Int) := by omega
                    have k2' : (q : Int) < (ms.length : Int) := by omega
                    have KM : Hid (Calls _ _ _ _ _) := refmask_any x.a x.d x.c W5 gxr
                    clear gx gxr
                    by_cases hxj : x.i ≤ j
                    · have hxj' : (x.i : Int) ≤ (j : Int) := by omega
                      by_cases hk1 : x.k = 1
                      · have hk1' : (x.k : Int) = 1 := by omega
                        have HV3 : Hid (vfold base voters j ((ms.take (q + 1)).map En.p) = (mask x.d, x.i)) := by
                          show _ = _
                          rw [HV2.out]
                          simp [vstep, hitP, En.p, hk1, hxj]
                        clear hk1
                        go_wp2_with fail
                        refine KM.out.mono ?_
                        rintro e w' ⟨rfl, rfl⟩
                        go_wp2
                        go_round
                        case rel => exact ⟨q + 1, mask x.d, x.i, by omega, by go_num, rfl, HV3.out⟩
                        case measure => simp [intOf]; omega
                      · have hk1' : ¬ (x.k : Int) = 1 := by omega
                        have HV3 : Hid (vfold base voters j ((ms.take (q + 1)).map En.p) = (vq, aq)) := by
                          show _ = _
                          rw [HV2.out]
                          simp [vstep, hitP, En.p, hk1]
                        clear hk1
                        go_wp2
                        go_round
                        case rel => exact ⟨q + 1, vq, aq, by omega, by go_num, rfl, HV3.out⟩
                        case measure => simp [intOf]; omega
                    · have hxj' : ¬ (x.i : Int) ≤ (j : Int) := by omega
                      have HV3 : Hid (vfold base voters j ((ms.take (q + 1)).map En.p) = (vq, aq)) := by
                        show _ = _
                        rw [HV2.out]
                        simp [vstep, hitP, En.p, hxj]
                      go_wp2
                      go_round
                      case rel => exact ⟨q + 1, vq, aq, by omega, by go_num, rfl, HV3.out⟩
                      case measure => simp [intOf]; omega
                  · have hqn : q = ms.length := by omega
                    have HVq : Hid (vtold base voters es j = (vq, aq)) := by show _ = _; rw [vtold_fold, ← HP.out, ← Hvq.out, hqn, List.take_of_length_le (Nat.le_refl _)]
                    have k2' : ¬ (q : Int) < (ms.length : Int) := by omega
                    have KV := HVJ.out W5 HF7.out
                    rw [HVq.out] at KV
                    have KV : Hid (Calls _ _ _ _ _) := KV
                    clear hqn
                    go_wp2_with fail
                    refine KV.out.mono ?_
                    rintro e w9 ⟨rfl, f9⟩
                    have HF9 : Hid (Fr (fun _ => False) W w9) := (HF4.out.trans HF7.out).trans f9
                    clear f9
                    go_wp2
                    go_roundw
                    case rel => exact ⟨j + 1, by omega, by go_num, HF9.out⟩
                    case measure => simp [intOf]; omega
              · have e1 : (base : Int) ≤ (j : Int) := by omega
                have e3 : (base : Int) < (j : Int) := by omega
                have e2 : ¬ (j : Int) ≤ (z : Int) := by omega
                have HKT : Hid (Calls Try.prog 29 #[.pointer (some ⟨gb, 0, none⟩), .int .u64 (j : Int)] wr fun e w' => e = .returned (.tuple #[.int .u64 0, .bool false]) ∧ ∃ n, w' = wr.drewN n) := term_no HG4.out HZL.out j (.inr (by rw [← Hz.out]; omega))
                clear hjb hc
                go_wp2_with fail
                refine HKT.out.mono ?_
                rintro e w4 ⟨rfl, n4, rfl⟩
                go_wp2_with fail
                refine (HKE.out n4).mono ?_
                rintro e w5 ⟨rfl, f5⟩
                have f6 := (((Fr.refl (fun _ => False) wr).drewN n4).trans f5).alloc (.cells #[.int .u64 0, .int .u64 0, .int .u8 0, .slice none 0 0] 36)
                have HF6 : Hid (Fr (fun _ => False) wr (w5.alloc (.cells #[.int .u64 0, .int .u64 0, .int .u8 0, .slice none 0 0] 36))) := f6
                have u0 := (HF4.out.trans f6).cell s0 (by simp)
                have u1 := (HF4.out.trans f6).cell s1 (by simp)
                have u2 := (HF4.out.trans f6).cell s2 (by simp)
                clear f5 f6
                go_wp2_with fail
                go_quiet (fail)
                obtain ⟨W5, HW5⟩ : ∃ W5, Hid (W5 = (w5.alloc (.cells #[.int .u64 0, .int .u64 0, .int .u8 0, .slice none 0 0] 36)).drewN nq) := ⟨_, rfl⟩
                rw [← HW5.out]
                have HF7 : Hid (Fr (fun _ => False) wr W5) := by show Fr _ _ _; rw [HW5.out]; exact HF6.out.drewN _
                have t2 : W5.cell? ⟨sb, 2, none⟩ = some (.int .u64 (voters : Int)) := (HF4.out.trans HF7.out).cell s2 (by simp)
                clear u0 u1 u2 HF6 HKE HKT
                go_wp2_with fail
                go_loop [19, 20] (fun t19 t20 => ∃ q vq aq : Nat, q ≤ ms.length ∧ t20 = .int .i64 (q : Int) ∧ t19 = .int .u64 (vq : Int) ∧ Hid (vfold base voters j ((ms.take q).map En.p) = (vq, aq))) (fun _ t20 => ms.length - (intOf t20).toNat)
                case atStart => exact ⟨0, voters, base, Nat.zero_le _, rfl, rfl, by show _ = _; simp [vfold]⟩
                case round =>
                  obtain ⟨q, vq, aq, hq, rfl, rfl, Hvq⟩ := hrel
                  by_cases hql : q < ms.length
                  · obtain ⟨b, off, x, hao, _, x0, x1, x2, x3, gx, Hx⟩ := ((HR.out.fr HF4.out (by simp) (by simp)).fr HF7.out (by simp) (by simp)).at hql
                    subst hao
                    have gxr := gx.row
                    have HV2 : Hid (vfold base voters j ((ms.take (q + 1)).map En.p) = vstep j (vq, aq) x.p) := by show _ = _; rw [vfold_succ _ _ _ _ _ hql, Hvq.out, ← Hx.out]
                    have k1 : (0 : Int) ≤ (q : Int) := by omega
                    have k2' : (q : Int) < (ms.length : Int) := by omega
                    have KM : Hid (Calls _ _ _ _ _) := refmask_any x.a x.d x.c W5 gxr
                    clear gx gxr
                    by_cases hxj : x.i ≤ j
                    · have hxj' : (x.i : Int) ≤ (j : Int) := by omega
                      by_cases hk1 : x.k = 1
                      · have hk1' : (x.k : Int) = 1 := by omega
                        have HV3 : Hid (vfold base voters j ((ms.take (q + 1)).map En.p) = (mask x.d, x.i)) := by
                          show _ = _
                          rw [HV2.out]
                          simp [vstep, hitP, En.p, hk1, hxj]
                        clear hk1
                        go_wp2_with fail
                        refine KM.out.mono ?_
                        rintro e w' ⟨rfl, rfl⟩
                        go_wp2
                        go_round
                        case rel => exact ⟨q + 1, mask x.d, x.i, by omega, by go_num, rfl, HV3.out⟩
                        case measure => simp [intOf]; omega
                      · have hk1' : ¬ (x.k : Int) = 1 := by omega
                        have HV3 : Hid (vfold base voters j ((ms.take (q + 1)).map En.p) = (vq, aq)) := by
                          show _ = _
                          rw [HV2.out]
                          simp [vstep, hitP, En.p, hk1]
                        clear hk1
                        go_wp2
                        go_round
                        case rel => exact ⟨q + 1, vq, aq, by omega, by go_num, rfl, HV3.out⟩
                        case measure => simp [intOf]; omega
                    · have hxj' : ¬ (x.i : Int) ≤ (j : Int) := by omega
                      have HV3 : Hid (vfold base voters j ((ms.take (q + 1)).map En.p) = (vq, aq)) := by
                        show _ = _
                        rw [HV2.out]
                        simp [vstep, hitP, En.p, hxj]
                      go_wp2
                      go_round
                      case rel => exact ⟨q + 1, vq, aq, by omega, by go_num, rfl, HV3.out⟩
                      case measure => simp [intOf]; omega
                  · have hqn : q = ms.length := by omega
                    have HVq : Hid (vtold base voters es j = (vq, aq)) := by show _ = _; rw [vtold_fold, ← HP.out, ← Hvq.out, hqn, List.take_of_length_le (Nat.le_refl _)]
                    have k2' : ¬ (q : Int) < (ms.length : Int) := by omega
                    have KV := HVJ.out W5 HF7.out
                    rw [HVq.out] at KV
                    have KV : Hid (Calls _ _ _ _ _) := KV
                    clear hqn
                    go_wp2_with fail
                    refine KV.out.mono ?_
                    rintro e w9 ⟨rfl, f9⟩
                    have HF9 : Hid (Fr (fun _ => False) W w9) := (HF4.out.trans HF7.out).trans f9
                    clear f9
                    go_wp2
                    go_roundw
                    case rel => exact ⟨j + 1, by omega, by go_num, HF9.out⟩
                    case measure => simp [intOf]; omega
        · have hlt' : ¬ (j : Int) ≤ (z : Int) + 2 := by omega
          go_wp2
          go_ret
          exact ⟨rfl, FW.out.trans HF4.out⟩
end Go.Proofs.Ytkkpdnholnkeoab
