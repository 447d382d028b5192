/- The statement LogsMakes, walked. -/
import Derived.Test.YtkkpdnholnkeoabSet
import Derived.Deep.Cut
namespace Go.Proofs.Ytkkpdnholnkeoab
open Go.RowKit

set_option maxRecDepth 100000 in
set_option maxHeartbeats 8000000 in
theorem makes_walk (n : Nat) (a1 : Option Addr) (terms : List Nat) (c1 : Nat) (a2 : Option Addr) (kinds : List Nat) (c2 : Nat) (off tm : Nat) (w : World) (hn : n < 256) (hoff : off < 256) (htm : tm < 256) (h1 : Row w a1 terms c1) (h2 : Row w a2 kinds c2) :
    Calls Try.prog 3 #[.int .u8 (n : Int), .slice a1 terms.length c1, .slice a2 kinds.length c2, .int .u8 (off : Int), .int .u8 (tm : Int)] w fun e w' => e = .returned (.bool true) ∧ Fr (fun _ => False) w w' := by
  have HR1 : Hid (Row w a1 terms c1) := h1
  have HR2 : Hid (Row w a2 kinds c2) := h2
  clear h1 h2
  obtain ⟨nb, Hnb⟩ : ∃ nb, Hid (n % 7 = nb) := ⟨_, rfl⟩
  obtain ⟨nt, Hnt⟩ : ∃ nt, Hid (n % 2 = nt) := ⟨_, rfl⟩
  have hnb : nb ≤ 6 := by rw [← Hnb.out]; omega
  have hnt : nt ≤ 1 := by rw [← Hnt.out]; omega
  go_enter Try.func3, Try.ntmps3
  go_wp2_with fail
  refine (awake_any w).mono ?_
  rintro e w1 ⟨rfl, f1⟩
  have F1 : Hid (Fr (fun _ => False) w w1) := f1
  clear f1
  go_wp2_with fail
  refine (snap_any n w1 hn).mono ?_
  rintro e w2 ⟨rfl, f2⟩
  rw [Hnb.out, Hnt.out]
  have FX2 : Hid (Fr (fun _ => False) w1 w2) := f2
  obtain ⟨W, HW⟩ : ∃ W, Hid (W = w2.alloc (.cells #[.int .u64 (nb : Int), .int .u64 (nt : Int), .int .u64 (n : Int), .slice none 0 0] 26)) := ⟨_, rfl⟩
  have FW : Hid (Fr (fun _ => False) w W) := by show Fr _ _ _; rw [HW.out]; exact (F1.out.trans f2).alloc _
  obtain ⟨sb, Hsb⟩ : ∃ sb, Hid (w2.heap.size = sb) := ⟨_, rfl⟩
  have s0 : W.cell? ⟨sb, 0, none⟩ = some (.int .u64 (nb : Int)) := by rw [HW.out, ← Hsb.out]; simp
  have s1 : W.cell? ⟨sb, 1, none⟩ = some (.int .u64 (nt : Int)) := by rw [HW.out, ← Hsb.out]; simp
  have s2 : W.cell? ⟨sb, 2, none⟩ = some (.int .u64 (n : Int)) := by rw [HW.out, ← Hsb.out]; simp
  have s3 : W.cell? ⟨sb, 3, none⟩ = some (.slice none 0 0) := by rw [HW.out, ← Hsb.out]; simp
  have K := begun n hn a1 terms c1 a2 kinds c2 w W FW.out HR1.out HR2.out
  rw [Hnb.out, Hnt.out] at K
  have K : Hid (Calls _ _ _ _ _) := K
  clear f2
  go_wp2_with fail
  rw [← HW.out]
  refine K.out.mono ?_
  rintro e w3 ⟨ao, cap, es, rfl, hlen, hp, ho, f3, hord, hnew⟩
  rw [Hsb.out]
  have q0 := f3.cell s0 (by simp)
  have q1 := f3.cell s1 (by simp)
  have q2 := f3.cell s2 (by simp)
  have q3 := f3.cell s3 (by simp)
  have K3 : Hid (Calls _ _ _ _ _) := hnew w3 (.slice none 0 0) (Fr.refl _ _)
  have HO : Hid (OwnE w3 (fun k => W.heap.size ≤ k) (.slice ao es.length cap) es) := ho
  have F3 : Hid (Fr (fun _ => False) w w3) := FW.out.trans f3
  have HPE : Hid (es.map En.p = entsP nb terms kinds (min terms.length 30)) := hp
  have BW : Hid (Box26 W sb nb nt n) := by show Box26 _ _ _ _ _; rw [HW.out, ← Hsb.out]; exact Box26.new _ _ _ _
  have hsbW : Hid (sb < W.heap.size) := BW.out.lt
  have BX3 : Hid (Box26 w3 sb nb nt n) := BW.out.fr f3 (by simp)
  have HWs : Hid (w.heap.size ≤ sb) := by show _ ≤ sb; rw [← Hsb.out]; exact (F1.out.trans FX2.out).size
  have HW3s : Hid (W.heap.size ≤ w3.heap.size) := f3.size
  have HORD : Hid (inOrder nb nt es = true) := hord
  clear ho f3 hord hnew hp K s0 s1 s2 s3
  go_wp2_with fail
  refine K3.out.mono ?_
  rintro e w4 ⟨gb, v, ys, rfl, hgb, hg, hyp, f4⟩
  have F4 : Hid (Fr (fun _ => False) w w4) := F3.out.trans f4
  have BX : Hid (Box26 w4 sb nb nt n) := BX3.out.fr f4 (by simp)
  have HO4 : Hid (OwnE w4 (fun k => W.heap.size ≤ k ∧ k < w3.heap.size) (.slice ao es.length cap) es) := (HO.out.mono (fun k hk h => ⟨h, hk⟩)).fr f4 (by simp)
  have hyl : ys.length = es.length := by simpa using congrArg List.length hyp
  have HG : Hid (Lg w4 gb (fun k => w3.heap.size ≤ k ∧ k ≠ gb) nb nt n ys v) := hg
  have HYP : Hid (ys.map En.p = es.map En.p) := hyp
  have HYE : Hid (ys.map En.p = entsP nb terms kinds (min terms.length 30)) := hyp.trans HPE.out
  have HGB : Hid (w3.heap.size ≤ gb) := hgb
  have hL30 : es.length ≤ 30 := hlen
  have HYL : Hid (ys.length = es.length) := hyl
  obtain ⟨b0, b1, b2, b3, y0, y1, y2⟩ := BX.out
  clear hg hyp f4 hyl hlen q0 q1 q2 q3 hgb K3
  have KLk : Hid (Calls Try.prog 13 #[.pointer (some ⟨gb, 0, none⟩), .agg #[.int .u64 (nb : Int), .int .u64 (nt : Int), .int .u64 (n : Int), .slice none 0 0], .slice ao es.length cap] w4 fun e w' => e = .returned (.bool true) ∧ Fr (fun _ => False) w4 w') :=
    look_any HG.out ao es cap _ _ HO4.out.erow HYP.out.symm (fun k hk => ents_ix HYE.out k hk) (by rw [HYL.out]; omega) (ents_d HYE.out) none 0 0
  go_wp2_with fail
  refine KLk.out.mono ?_
  rintro e w5 ⟨rfl, f5⟩
  have F5 : Hid (Fr (fun _ => False) w w5) := F4.out.trans f5
  have BX5 : Hid (Box26 w5 sb nb nt n) := BX.out.fr f5 (by simp)
  have HO5 : Hid (OwnE w5 (fun k => W.heap.size ≤ k ∧ k < w3.heap.size) (.slice ao es.length cap) es) := HO4.out.fr f5 (by simp)
  have H35 : Hid (w3.heap.size ≤ w5.heap.size) := by have := HG.out.lt; have := HGB.out; have := f5.size; show _ ≤ _; omega
  clear f5 b0 b1 b2 b3 y0 y1 y2
  by_cases hL0 : es.length = 0
  · have hL0' : ((es.length : Int) == 0) = true := by rw [hL0]; rfl
    clear hL0
    go_wp2
    go_ret
    exact ⟨rfl, F5.out⟩
  · have hL0' : ((es.length : Int) == 0) = false := beq_eq_false_iff_ne.2 (by omega)
    obtain ⟨K, eK, HK⟩ : ∃ K : Nat, (off : Int) % (es.length : Int) = (K : Int) ∧ Hid (K = off % es.length) := ⟨off % es.length, by omega, rfl⟩
    have hK : K < es.length := by rw [HK.out]; exact Nat.mod_lt _ (by omega)
    have eK2 : (off : Int).tmod (es.length : Int) = (K : Int) := by rw [Int.tmod_eq_emod_of_nonneg (by omega)]; exact eK
    obtain ⟨d0, ed0, Hd0⟩ : ∃ d0 : Nat, (off : Int) % 3 = (d0 : Int) ∧ Hid (d0 = off % 3) := ⟨off % 3, by omega, rfl⟩
    have hd0 : d0 ≤ 2 := by rw [Hd0.out]; omega
    obtain ⟨q, eq, Hq⟩ : ∃ q : Nat, (tm : Int) % 4 = (q : Int) ∧ Hid (q = tm % 4) := ⟨tm % 4, by omega, rfl⟩
    have hq : q ≤ 3 := by rw [Hq.out]; omega
    have hnl : ¬ es.length = 0 := hL0
    obtain ⟨b, bo, x, rfl, hbR, l0, l1, l2, l3, gx, Hx⟩ := HO5.out.erow.at hK
    have hxi : x.i = nb + 1 + K := by rw [Hx.out]; exact ents_ix HPE.out K hK
    have hxI : x.i ≤ 1000 := by omega
    obtain ⟨j1, ej1, Hj1⟩ : ∃ j1 : Nat, (x.i : Int) + ((d0 : Int) + 1) = (j1 : Int) ∧ Hid (j1 = x.i + d0 + 1) := ⟨x.i + d0 + 1, by omega, rfl⟩
    have hj1 : j1 ≤ 1100 := by rw [Hj1.out]; omega
    have HC : Hid (∀ j u, (flat es)[j]? = some u → w5.cell? ((⟨b, bo, none⟩ : Addr).add j) = some u) := HO5.out.erow.cells
    have HE : Hid (∀ y ∈ es, EG w5 (fun k => W.heap.size ≤ k ∧ (Value.slice none 0 0).ownBlock ≠ some k) y) := fun y hy => (HO5.out.erow.2.2.2.1 y hy).mono (fun k _ hk => ⟨hk.1, by simp [Value.ownBlock]⟩)
    have HN : Hid (∀ k, w5.heap.size ≤ k → W.heap.size ≤ k) := fun k hk => by have := HW3s.out; have := H35.out; omega
    have HXI : Hid (x.i = nb + 1 + K) := hxi
    have k1 : (0 : Int) ≤ (K : Int) := by omega
    have k2 : (K : Int) < (es.length : Int) := by omega
    have hap := run_append_ents w5 28 (fun k => W.heap.size ≤ k) (.slice none 0 0) [] (OwnE.nil _ _) ⟨b, bo, none⟩ es cap HC.out HE.out HN.out (by simp; omega)
    obtain ⟨v6, w6, hrun, ho6, hg6, hat6⟩ := hap
    rw [List.nil_append] at ho6
    have f6 : Fr (fun _ => False) w5 w6 := (Fr.refl _ w5).grown hg6 (fun k hk => by simp [Value.ownBlock] at hk)
    obtain ⟨a6, c6, hv6, hr6, ha6⟩ := ho6.row
    subst hv6
    obtain ⟨g6, o6, he6, hb6, _⟩ := hr6.2.2.2.2 (fun e => by rw [e] at hK; simp at hK)
    subst he6
    obtain ⟨ho60, _, _⟩ := ha6 _ rfl
    simp only at ho60
    subst ho60
    have hg6s : g6 = w5.heap.size := by
      rcases hat6 with e | e
      · simp [Value.ownBlock] at e
      · simp [Value.ownBlock] at e; exact e
    have HRun : Hid (_ = Result.ok (Value.slice (some ⟨g6, 0, none⟩) es.length c6) w6) := hrun
    have HO6 : Hid (OwnE w6 (fun k => W.heap.size ≤ k) (.slice (some ⟨g6, 0, none⟩) es.length c6) es) := ho6
    have HG6 : Hid (g6 = w5.heap.size) := hg6s
    have hcl6 := hr6.len
    have F6 : Hid (Fr (fun _ => False) w w6) := F5.out.trans f6
    have BX6 := BX5.out.fr f6 (by simp)
    have HBX6 : Hid (Box26 w6 sb nb nt n) := BX6
    have HL6 : Hid (ERow w6 (fun k => W.heap.size ≤ k ∧ k < w3.heap.size) (fun k => W.heap.size ≤ k ∧ k < w3.heap.size) (some ⟨b, bo, none⟩) es cap) := HO5.out.erow.fr f6 (by simp) (by simp)
    obtain ⟨_, _, x6, he, _, m0, m1, m2, m3, gx6, Hx6⟩ := hr6.at hK
    cases he
    have hx6 : x6 = x := by rw [Hx6.out, Hx.out]
    subst hx6
    simp only [Nat.zero_add] at m0 m1 m2 m3
    have hz6 : ∀ o, w6.frozen? ⟨g6, o, none⟩ = false := fun o => by
      rcases ho6.own.2 with ⟨he, _⟩ | ⟨g', cp, cur, he, _, hgg, _⟩
      · cases he
      · cases he; simp [World.frozen?, hgg]
    have z0 := hz6 (K * 4)
    have HZ6 : Hid (∀ o, w6.frozen? ⟨g6, o, none⟩ = false) := hz6
    clear hrun ho6 hg6 hat6 f6 hr6 ha6 hb6 hg6s gx gx6 Hx6 l0 l1 l2 l3 hz6 hxi hL0
    obtain ⟨W7, HW7⟩ : ∃ W7, Hid (W7 = w6.setCell ⟨g6, K * 4, none⟩ (.int .u64 (j1 : Int))) := ⟨_, rfl⟩
    have f7 : Fr (fun c => c = g6) w6 W7 := by rw [HW7.out]; exact (Fr.refl (fun c => c = g6) w6).setCell (p := ⟨g6, K * 4, none⟩) (Or.inl rfl) _
    have hsg : ¬ sb = g6 := by have := hsbW.out; have := HW3s.out; have := H35.out; have := HG6.out; omega
    have hbg : ∀ c, W.heap.size ≤ c ∧ c < w3.heap.size → ¬ c = g6 := fun c hc e => by have := H35.out; have := HG6.out; omega
    have HBG : Hid (∀ c, W.heap.size ≤ c ∧ c < w3.heap.size → ¬ c = g6) := hbg
    have HB7 : Hid (Box26 W7 sb nb nt n) := HBX6.out.fr f7 (fun e => hsg e)
    have HO7 : Hid (OwnE W7 (fun k => W.heap.size ≤ k) (.slice (some ⟨g6, 0, none⟩) es.length c6) (es.set K { es.getD K default with i := j1 })) := by
      show OwnE _ _ _ _
      rw [HW7.out]; exact HO6.out.seti K hK j1 (by omega)
    have HF7 : Hid (Fr (fun _ => False) w W7) := F6.out.trans' f7 (fun i hi e => by have := HG6.out; have := F5.out.size; omega)
    have HL7 : Hid (ERow W7 (fun k => W.heap.size ≤ k ∧ k < w3.heap.size) (fun k => W.heap.size ≤ k ∧ k < w3.heap.size) (some ⟨b, bo, none⟩) es cap) := HL6.out.fr f7 hbg hbg
    have HLT7 : Hid (g6 < W7.heap.size) := by have := HO7.out.lt g6 rfl; exact this
    obtain ⟨p0, p1, p2, p3, _, _, _⟩ := HB7.out
    rw [HW7.out] at p0 p1 p2 p3
    have KN1 : Hid (Calls Try.prog 12 #[.agg #[.int .u64 (nb : Int), .int .u64 (nt : Int), .int .u64 (n : Int), .slice none 0 0], .slice (some ⟨g6, 0, none⟩) es.length c6] W7 fun e w' => e = .returned (.tuple #[.pointer none, .int .i64 1]) ∧ Fr (fun _ => False) W7 w') := by
      have hlen : (es.set K { es.getD K default with i := j1 }).length = es.length := by simp
      have ho := HO7.out
      rw [← hlen] at ho
      have her : ERow W7 (fun k => k < W7.heap.size) (fun k => k < W7.heap.size) (some ⟨g6, 0, none⟩) (es.set K { es.getD K default with i := j1 }) c6 := by
        have h := ho.erow
        refine ⟨h.1, h.2.1, h.2.2.1, fun y hy => (h.2.2.2.1 y hy).mono (fun k hk _ => hk), fun hne => ?_⟩
        obtain ⟨b', o', he, hb', hc⟩ := h.2.2.2.2 hne
        cases he
        exact ⟨_, _, rfl, HLT7.out, hc⟩
      have hdl : ∀ y ∈ es.set K { es.getD K default with i := j1 }, y.d.length ≤ 1000000 := fun y hy => by
        rcases List.mem_or_eq_of_mem_set hy with h | h
        · exact ents_d HPE.out y h
        · rw [h]; exact ents_d HPE.out (es.getD K default) (getD_mem hK)
      have := new_any nb nt n (.slice none 0 0) (some ⟨g6, 0, none⟩) (es.set K { es.getD K default with i := j1 }) c6 W7 _ _ her (fun _ h => h) (fun _ h => h) (by rw [hlen]; omega) hdl (by omega) (by omega) (by omega)
      rw [hlen] at this
      refine this.mono ?_
      rintro e w' ⟨f, h | h⟩
      · exact ⟨h.2, f⟩
      · rw [order_badi (fun k hk => ents_ix HPE.out k hk) K hK j1 (by have := Hj1.out; have := HXI.out; omega)] at h
        exact absurd h.1 (by simp)
    clear f7 hbg BX6
    go_wp2_with (at_builtin; refine wpList_append_eq rfl (.const (.slice none 0 0)) (.tmp 55) 28 rfl HRun.out rfl rfl ?_)
    rw [← HW7.out]
    refine KN1.out.mono ?_
    rintro e w8 ⟨rfl, f8⟩
    have HO8 : Hid (OwnE w8 (fun k => W.heap.size ≤ k) (.slice (some ⟨g6, 0, none⟩) (es.set K { es.getD K default with i := j1 }).length c6) (es.set K { es.getD K default with i := j1 })) := by
      have h := HO7.out.fr f8 (by simp)
      show OwnE _ _ _ _
      rw [show (es.set K { es.getD K default with i := j1 }).length = es.length by simp]; exact h
    have HB8 : Hid (Box26 w8 sb nb nt n) := HB7.out.fr f8 (by simp)
    have HL8 : Hid (ERow w8 (fun k => W.heap.size ≤ k ∧ k < w3.heap.size) (fun k => W.heap.size ≤ k ∧ k < w3.heap.size) (some ⟨b, bo, none⟩) es cap) := HL7.out.fr f8 (by simp) (by simp)
    have F8 : Hid (Fr (fun _ => False) w w8) := HF7.out.trans f8
    obtain ⟨_, _, x8, he8, hb8, l0, l1, l2, l3, gx8, Hx8⟩ := HL8.out.at hK
    cases he8
    have hx8 : x8 = x6 := by rw [Hx8.out, Hx.out]
    subst hx8
    obtain ⟨_, _, y8, hey, _, n0, n1, n2, n3, gy8, Hy8⟩ := HO8.out.erow.at (k := K) (by simpa using hK)
    cases hey
    simp only [Nat.zero_add] at n0 n1 n2 n3
    have hz8 : ∀ o, w8.frozen? ⟨g6, o, none⟩ = false := fun o => by
      rcases HO8.out.own.2 with ⟨he, _⟩ | ⟨g', cp, cur, he, _, hgg, _⟩
      · cases he
      · cases he; simp [World.frozen?, hgg]
    have q0 := hz8 (K * 4)
    have q1 := hz8 (K * 4 + 1)
    have q2 := hz8 (K * 4 + 2)
    have q3 := hz8 (K * 4 + 3)
    have hbg6 : ¬ b = g6 := HBG.out b hbR
    have hbg6' : ¬ g6 = b := fun e => hbg6 e.symm
    have HGX : Hid (EG w8 (fun k => W.heap.size ≤ k ∧ k < w3.heap.size) x8) := gx8
    obtain ⟨W9, HW9⟩ : ∃ W9, Hid (W9 = ((((w8.setCell ⟨g6, K * 4, none⟩ (.int .u64 (x8.i : Int))).setCell ⟨g6, K * 4 + 1, none⟩ (.int .u64 (x8.t : Int))).setCell ⟨g6, K * 4 + 2, none⟩ (.int .u8 (x8.k : Int))).setCell ⟨g6, K * 4 + 3, none⟩ (.slice x8.a x8.d.length x8.c)).setCell ⟨g6, K * 4 + 1, none⟩ (.int .u64 (q : Int))) := ⟨_, rfl⟩
    have f9 : Fr (fun c => c = g6) w8 W9 := by
      rw [HW9.out]
      exact (((((Fr.refl (fun c => c = g6) w8).setCell (p := ⟨g6, K * 4, none⟩) (Or.inl rfl) _).setCell (p := ⟨g6, _, none⟩) (Or.inl rfl) _).setCell (p := ⟨g6, _, none⟩) (Or.inl rfl) _).setCell (p := ⟨g6, _, none⟩) (Or.inl rfl) _).setCell (p := ⟨g6, _, none⟩) (Or.inl rfl) _
    obtain ⟨es2, Hes2⟩ : ∃ es2, Hid (es2 = es.set K { es.getD K default with t := q }) := ⟨_, rfl⟩
    have hes2l : es2.length = es.length := by rw [Hes2.out]; simp
    have HES2L : Hid (es2.length = es.length) := hes2l
    have HO9 : Hid (OwnE W9 (fun k => W.heap.size ≤ k) (.slice (some ⟨g6, 0, none⟩) es2.length c6) es2) := by
      have h1 := HO8.out.setx K (by simpa using hK) x8 (HGX.out.mono (fun k _ hk => ⟨hk.1, fun e => HBG.out k hk (by cases e; rfl)⟩))
      have he : (es.set K { es.getD K default with i := j1 }).set K x8 = es := by
        rw [List.set_set, Hx8.out]
        apply List.ext_getElem?
        intro p
        by_cases hp : K = p
        · subst hp; simp [hK]
        · simp [List.getElem?_set_ne hp]
      rw [he, show (es.set K { es.getD K default with i := j1 }).length = es.length by simp] at h1
      have h2 := h1.sett K hK q (by omega)
      show OwnE _ _ _ _
      rw [HW9.out, HES2L.out, Hes2.out]
      exact h2
    have HB9 : Hid (Box26 W9 sb nb nt n) := HB8.out.fr f9 (fun e => hsg e)
    have F9 : Hid (Fr (fun _ => False) w W9) := F8.out.trans' f9 (fun i hi e => by have := HG6.out; have := F5.out.size; omega)
    have HLT9 : Hid (g6 < W9.heap.size) := HO9.out.lt g6 rfl
    have HT9 : Hid (∀ p, p < es.length → W9.cell? ⟨g6, p * 4 + 1, none⟩ = some (.int .u64 ((if p = K then q else (es.getD p default).t : Nat) : Int))) := by
      intro p hp
      obtain ⟨_, _, y, he, _, _, t1, _, _, _, Hy⟩ := HO9.out.erow.at (k := p) (by rw [HES2L.out]; exact hp)
      cases he
      rw [Nat.zero_add] at t1
      rw [t1, Hy.out, Hes2.out, getD_seti es K hK]
      by_cases e : p = K
      · rw [if_pos e, if_pos e]
      · rw [if_neg e, if_neg e]
    have KN2 : Hid (∀ X, Fr (fun _ => False) W9 X → Calls Try.prog 12 #[.agg #[.int .u64 (nb : Int), .int .u64 (nt : Int), .int .u64 (n : Int), .slice none 0 0], .slice (some ⟨g6, 0, none⟩) es.length c6] X fun e w' => Fr (fun _ => False) X w' ∧ ((inOrder nb nt es2 = false ∧ e = .returned (.tuple #[.pointer none, .int .i64 1])) ∨ (inOrder nb nt es2 = true ∧ ∃ p, e = .returned (.tuple #[.pointer p, .int .i64 0])))) := by
      intro X fX
      have her : ERow X (fun k => k < X.heap.size) (fun k => k < X.heap.size) (some ⟨g6, 0, none⟩) es2 c6 := by
        have h := HO9.out.erow.fr fX (by simp) (by simp)
        refine ⟨h.1, h.2.1, h.2.2.1, fun y hy => (h.2.2.2.1 y hy).mono (fun k hk _ => hk), fun hne => ?_⟩
        obtain ⟨b', o', he, hb', hc⟩ := h.2.2.2.2 hne
        cases he
        exact ⟨_, _, rfl, Nat.lt_of_lt_of_le HLT9.out fX.size, hc⟩
      have hdl : ∀ y ∈ es2, y.d.length ≤ 1000000 := fun y hy => by
        rw [Hes2.out] at hy
        rcases List.mem_or_eq_of_mem_set hy with h | h
        · exact ents_d HPE.out y h
        · rw [h]; exact ents_d HPE.out (es.getD K default) (getD_mem hK)
      have := new_any nb nt n (.slice none 0 0) (some ⟨g6, 0, none⟩) es2 c6 X _ _ her (fun _ h => h) (fun _ h => h) (by rw [HES2L.out]; omega) hdl (by omega) (by omega) (by omega)
      rw [HES2L.out] at this
      refine this.mono ?_
      rintro e w' ⟨f, h | ⟨h, gb2, v2, ys2, he, _⟩⟩
      · exact ⟨f, .inl h⟩
      · exact ⟨f, .inr ⟨h, _, he⟩⟩
    have hoT := order_term HORD.out K hK q
    rw [← Hes2.out] at hoT
    have HOT : Hid _ := hoT
    have hTK := HT9.out K hK
    rw [if_pos rfl] at hTK
    clear f8 f9 gx8 gy8 hoT hz8
    clear p0 p1 p2 p3 m0 m1 m2 m3 z0 hes2l eK eK2 ed0 ej1 hxI hj1 hTK
    go_upto_region 16 with fail
    rw [← HW9.out]
    obtain ⟨r0, r1, r2, r3, _, _, _⟩ := HB9.out
    have hTK := HT9.out K hK
    rw [if_pos rfl] at hTK
    clear n0 n1 n2 n3 q0 q1 q2 q3 l0 l1 l2 l3
    by_cases hK0 : K = 0
    · have hK0' : ¬ (0 : Int) < (K : Int) := by omega
      have HK0 : Hid (K = 0) := hK0
      clear hK0
      go_wp2_with fail
      by_cases ha : nt ≤ q
      · have ha' : (nt : Int) ≤ (q : Int) := by omega
        by_cases hl : K + 1 = es.length
        · have hl' : ((K : Int) == (es.length : Int) - 1) = true := by simp; omega
          have HV : Hid (inOrder nb nt es2 = true) := by
            show _ = _
            rw [HOT.out]
            rw [if_pos HK0.out]; simp [ha, hl]
          go_quiet (fail)
          go_wp2_with fail
          refine (KN2.out _ ((Fr.refl (fun _ => False) W9).drewN _)).mono ?_
          rintro e w10 ⟨f10, h | h⟩
          · rw [HV.out] at h; exact absurd h.1 (by simp)
          · obtain ⟨_, pp, rfl⟩ := h
            go_wp2
            go_ret
            exact ⟨by simp, (F9.out.drewN _).trans f10⟩
        · have hl' : ((K : Int) == (es.length : Int) - 1) = false := by simp; omega
          have hT1 := HT9.out (K + 1) (by omega)
          rw [if_neg (by omega)] at hT1
          obtain ⟨t1, Ht1⟩ : ∃ t1, Hid ((es.getD (K + 1) default).t = t1) := ⟨_, rfl⟩
          rw [Ht1.out] at hT1
          have i1 : (0 : Int) ≤ (K : Int) + 1 := by omega
          have i2 : (K : Int) + 1 < (es.length : Int) := by omega
          by_cases hq1 : q ≤ t1
          · have hq1' : (q : Int) ≤ (t1 : Int) := by omega
            have HV : Hid (inOrder nb nt es2 = true) := by
              show _ = _
              rw [HOT.out]
              rw [if_pos HK0.out, Ht1.out]; simp [ha, hq1]
            go_quiet (fail)
            go_wp2_with fail
            refine (KN2.out _ ((Fr.refl (fun _ => False) W9).drewN _)).mono ?_
            rintro e w10 ⟨f10, h | h⟩
            · rw [HV.out] at h; exact absurd h.1 (by simp)
            · obtain ⟨_, pp, rfl⟩ := h
              go_wp2
              go_ret
              exact ⟨by simp, (F9.out.drewN _).trans f10⟩
          · have hq1' : ¬ (q : Int) ≤ (t1 : Int) := by omega
            have HV : Hid (inOrder nb nt es2 = false) := by
              show _ = _
              rw [HOT.out]
              rw [if_pos HK0.out, Ht1.out]; simp [hl, hq1]
            go_quiet (fail)
            go_wp2_with fail
            refine (KN2.out _ ((Fr.refl (fun _ => False) W9).drewN _)).mono ?_
            rintro e w10 ⟨f10, h | h⟩
            · obtain ⟨_, rfl⟩ := h
              go_wp2
              go_ret
              exact ⟨by simp, (F9.out.drewN _).trans f10⟩
            · rw [HV.out] at h; exact absurd h.1 (by simp)
      · have ha' : ¬ (nt : Int) ≤ (q : Int) := by omega
        have HV : Hid (inOrder nb nt es2 = false) := by
          show _ = _
          rw [HOT.out]
          rw [if_pos HK0.out]; simp [ha]
        go_quiet (fail)
        go_wp2_with fail
        refine (KN2.out _ ((Fr.refl (fun _ => False) W9).drewN _)).mono ?_
        rintro e w10 ⟨f10, h | h⟩
        · obtain ⟨_, rfl⟩ := h
          go_wp2
          go_ret
          exact ⟨by simp, (F9.out.drewN _).trans f10⟩
        · rw [HV.out] at h; exact absurd h.1 (by simp)
    · have hK0' : (0 : Int) < (K : Int) := by omega
      obtain ⟨p, Hp⟩ : ∃ p, Hid (K = p + 1) := ⟨K - 1, by show _ = _; omega⟩
      have hp := Hp.out
      have ep : (K : Int) - 1 = (p : Int) := by omega
      have ep1 : (0 : Int) ≤ (p : Int) := by omega
      have ep2 : (p : Int) < (es.length : Int) := by omega
      have hTp := HT9.out p (by omega)
      rw [if_neg (by omega)] at hTp
      obtain ⟨ah, Hah⟩ : ∃ ah, Hid ((es.getD p default).t = ah) := ⟨_, rfl⟩
      have HAH : Hid ((es.getD (K - 1) default).t = ah) := by show _ = _; rw [hp, Nat.add_sub_cancel]; exact Hah.out
      rw [Hah.out] at hTp
      clear hp
      go_wp2_with fail
      by_cases ha : ah ≤ q
      · have ha' : (ah : Int) ≤ (q : Int) := by omega
        by_cases hl : K + 1 = es.length
        · have hl' : ((K : Int) == (es.length : Int) - 1) = true := by simp; omega
          have HV : Hid (inOrder nb nt es2 = true) := by
            show _ = _
            rw [HOT.out]
            rw [if_neg hK0, HAH.out]; simp [ha, hl]
          go_quiet (fail)
          go_wp2_with fail
          refine (KN2.out _ ((Fr.refl (fun _ => False) W9).drewN _)).mono ?_
          rintro e w10 ⟨f10, h | h⟩
          · rw [HV.out] at h; exact absurd h.1 (by simp)
          · obtain ⟨_, pp, rfl⟩ := h
            go_wp2
            go_ret
            exact ⟨by simp, (F9.out.drewN _).trans f10⟩
        · have hl' : ((K : Int) == (es.length : Int) - 1) = false := by simp; omega
          have hT1 := HT9.out (K + 1) (by omega)
          rw [if_neg (by omega)] at hT1
          obtain ⟨t1, Ht1⟩ : ∃ t1, Hid ((es.getD (K + 1) default).t = t1) := ⟨_, rfl⟩
          rw [Ht1.out] at hT1
          have i1 : (0 : Int) ≤ (K : Int) + 1 := by omega
          have i2 : (K : Int) + 1 < (es.length : Int) := by omega
          by_cases hq1 : q ≤ t1
          · have hq1' : (q : Int) ≤ (t1 : Int) := by omega
            have HV : Hid (inOrder nb nt es2 = true) := by
              show _ = _
              rw [HOT.out]
              rw [if_neg hK0, HAH.out, Ht1.out]; simp [ha, hq1]
            go_quiet (fail)
            go_wp2_with fail
            refine (KN2.out _ ((Fr.refl (fun _ => False) W9).drewN _)).mono ?_
            rintro e w10 ⟨f10, h | h⟩
            · rw [HV.out] at h; exact absurd h.1 (by simp)
            · obtain ⟨_, pp, rfl⟩ := h
              go_wp2
              go_ret
              exact ⟨by simp, (F9.out.drewN _).trans f10⟩
          · have hq1' : ¬ (q : Int) ≤ (t1 : Int) := by omega
            have HV : Hid (inOrder nb nt es2 = false) := by
              show _ = _
              rw [HOT.out]
              rw [if_neg hK0, HAH.out, Ht1.out]; simp [hl, hq1]
            go_quiet (fail)
            go_wp2_with fail
            refine (KN2.out _ ((Fr.refl (fun _ => False) W9).drewN _)).mono ?_
            rintro e w10 ⟨f10, h | h⟩
            · obtain ⟨_, rfl⟩ := h
              go_wp2
              go_ret
              exact ⟨by simp, (F9.out.drewN _).trans f10⟩
            · rw [HV.out] at h; exact absurd h.1 (by simp)
      · have ha' : ¬ (ah : Int) ≤ (q : Int) := by omega
        have HV : Hid (inOrder nb nt es2 = false) := by
          show _ = _
          rw [HOT.out]
          rw [if_neg hK0, HAH.out]; simp [ha]
        go_quiet (fail)
        go_wp2_with fail
        refine (KN2.out _ ((Fr.refl (fun _ => False) W9).drewN _)).mono ?_
        rintro e w10 ⟨f10, h | h⟩
        · obtain ⟨_, rfl⟩ := h
          go_wp2
          go_ret
          exact ⟨by simp, (F9.out.drewN _).trans f10⟩
        · rw [HV.out] at h; exact absurd h.1 (by simp)
end Go.Proofs.Ytkkpdnholnkeoab
