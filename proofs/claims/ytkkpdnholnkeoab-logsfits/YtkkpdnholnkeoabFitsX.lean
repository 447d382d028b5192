/- The statement LogsFits, walked (far). -/
import Derived.Test.YtkkpdnholnkeoabFitsW
namespace Go.Proofs.Ytkkpdnholnkeoab
open Go.RowKit

set_option maxRecDepth 100000 in
set_option maxHeartbeats 8000000 in
theorem fits_far (n : Nat) (a1 : Option Addr) (terms : List Nat) (c1 : Nat) (a2 : Option Addr) (kinds : List Nat) (c2 : Nat) (i t : Nat) (w : World) (hn : n < 256) (h1 : Row w a1 terms c1) (h2 : Row w a2 kinds c2) (hi : i < 18446744073709551616) (_ht : t < 18446744073709551616) :
    Calls Try.prog 6 #[.int .u8 (n : Int), .slice a1 terms.length c1, .slice a2 kinds.length c2, .int .u64 (i : Int), .int .u64 (t : Int), .bool false] w fun e w' => e = .returned (.bool true) ∧ Fr (fun _ => False) w w' := by
  have HR1 : Hid (Row w a1 terms c1) := h1
  have HR2 : Hid (Row w a2 kinds c2) := h2
  clear h1 h2
  obtain ⟨i2, ei, Hi⟩ : ∃ i2 : Nat, (i : Int) % 40 = (i2 : Int) ∧ Hid (i2 = i % 40) := ⟨i % 40, by omega, rfl⟩
  obtain ⟨t2, et, Ht⟩ : ∃ t2 : Nat, (t : Int) % 8 = (t2 : Int) ∧ Hid (t2 = t % 8) := ⟨t % 8, by omega, rfl⟩
  have hi2 : i2 < 18446744073709551616 := by rw [Hi.out]; omega
  have ht2 : t2 < 18446744073709551616 := by rw [Ht.out]; omega
  obtain ⟨nb, Hnb⟩ : ∃ nb, Hid (n % 7 = nb) := ⟨_, rfl⟩
  obtain ⟨nt, Hnt⟩ : ∃ nt, Hid (n % 2 = nt) := ⟨_, rfl⟩
  have hnb : nb ≤ 6 := by rw [← Hnb.out]; omega
  have hnt : nt ≤ 1 := by rw [← Hnt.out]; omega
  go_enter Try.func6, Try.ntmps6
  go_wp2_with fail
  refine (awake_any w).mono ?_
  rintro e w1 ⟨rfl, f1⟩
  have F1 : Hid (Fr (fun _ => False) w w1) := f1
  clear f1
  go_wp2_with fail
  refine (snap_any n w1 hn).mono ?_
  rintro e w2 ⟨rfl, f2⟩
  rw [Hnb.out, Hnt.out]
  obtain ⟨W, HW⟩ : ∃ W, Hid (W = w2.alloc (.cells #[.int .u64 (nb : Int), .int .u64 (nt : Int), .int .u64 (n : Int), .slice none 0 0] 26)) := ⟨_, rfl⟩
  have FW : Hid (Fr (fun _ => False) w W) := by show Fr _ _ _; rw [HW.out]; exact (F1.out.trans f2).alloc _
  obtain ⟨sb, Hsb⟩ : ∃ sb, Hid (w2.heap.size = sb) := ⟨_, rfl⟩
  have s0 : W.cell? ⟨sb, 0, none⟩ = some (.int .u64 (nb : Int)) := by rw [HW.out, ← Hsb.out]; simp
  have s1 : W.cell? ⟨sb, 1, none⟩ = some (.int .u64 (nt : Int)) := by rw [HW.out, ← Hsb.out]; simp
  have s2 : W.cell? ⟨sb, 2, none⟩ = some (.int .u64 (n : Int)) := by rw [HW.out, ← Hsb.out]; simp
  have s3 : W.cell? ⟨sb, 3, none⟩ = some (.slice none 0 0) := by rw [HW.out, ← Hsb.out]; simp
  have K := begun n hn a1 terms c1 a2 kinds c2 w W FW.out HR1.out HR2.out
  rw [Hnb.out, Hnt.out] at K
  have K : Hid (Calls _ _ _ _ _) := K
  clear f2
  go_wp2_with fail
  rw [← HW.out]
  refine K.out.mono ?_
  rintro e w3 ⟨ao, cap, es, rfl, hlen, hp, ho, f3, hord, hnew⟩
  rw [Hsb.out]
  have q0 := f3.cell s0 (by simp)
  have q1 := f3.cell s1 (by simp)
  have q2 := f3.cell s2 (by simp)
  have q3 := f3.cell s3 (by simp)
  have K3 : Hid (Calls _ _ _ _ _) := hnew w3 (.slice none 0 0) (Fr.refl _ _)
  have HO : Hid (OwnE w3 (fun k => W.heap.size ≤ k) (.slice ao es.length cap) es) := ho
  have F3 : Hid (Fr (fun _ => False) w w3) := FW.out.trans f3
  clear ho f3 hord hnew hp K s0 s1 s2 s3
  go_wp2_with fail
  refine K3.out.mono ?_
  rintro e w4 ⟨gb, v, ys, rfl, hgb, hg, hyp, f4⟩
  have r0 := f4.cell q0 (by simp)
  have r1 := f4.cell q1 (by simp)
  have F4 : Hid (Fr (fun _ => False) w w4) := F3.out.trans f4
  have ho4 := HO.out.fr f4 (by simp)
  have hyl : ys.length = es.length := by simpa using congrArg List.length hyp
  have HG : Hid (Lg w4 gb (fun k => w3.heap.size ≤ k ∧ k ≠ gb) nb nt n ys v) := hg
  have HYP : Hid (ys.map En.p = es.map En.p) := hyp
  have KF : Hid (∀ m i t, Calls Try.prog 17 #[.pointer (some ⟨gb, 0, none⟩), .int .u64 ((i : Nat) : Int), .int .u64 ((t : Nat) : Int)] (w4.drewN m) fun e w' => e = .returned (.bool (decide (termAt nb nt es i = some t))) ∧ ∃ n, w' = (w4.drewN m).drewN n) := fun m i t => by
    have := fit_any (HG.out.drewN m) (by omega) i t
    rwa [termAt_p HYP.out] at this
  obtain ⟨lt, Hlt⟩ : ∃ lt, Hid (lastT nt ys = lt) := ⟨_, rfl⟩
  have KN : Hid (∀ m i t, Calls Try.prog 18 #[.pointer (some ⟨gb, 0, none⟩), .int .u64 ((i : Nat) : Int), .int .u64 ((t : Nat) : Int)] (w4.drewN m) fun e w' => e = .returned (.bool (decide (lt < t ∨ (t = lt ∧ nb + es.length ≤ i)))) ∧ ∃ n, w' = (w4.drewN m).drewN n) := fun m i t => by
    have := newer_any (HG.out.drewN m) (by omega) i t
    rwa [Hlt.out, hyl] at this
  have KT : Hid (∀ m, Calls Try.prog 14 #[.pointer (some ⟨gb, 0, none⟩)] (w4.drewN m) fun e w' => e = .returned (.int .u64 (lt : Int)) ∧ ∃ n, w' = (w4.drewN m).drewN n) := fun m => by
    have := lastTerm_any (HG.out.drewN m) (by omega)
    rwa [Hlt.out] at this
  have KL : Hid (∀ m, Calls Try.prog 19 #[.pointer (some ⟨gb, 0, none⟩)] (w4.drewN m) fun e w' => e = .returned (.int .u64 ((nb + es.length : Nat) : Int)) ∧ ∃ n, w' = (w4.drewN m).drewN n) := fun m => by
    have := last_any (HG.out.drewN m) (by omega)
    rwa [hyl] at this
  have HER : Hid (∃ R D, ERow w4 R D ao es cap) := by
    obtain ⟨ao', cap', he, hr, _⟩ := ho4.row
    cases he
    exact ⟨_, _, hr⟩
  obtain ⟨L, HL⟩ : ∃ L, Hid (es.length = L) := ⟨_, rfl⟩
  have hL : L ≤ 30 := by rw [← HL.out]; exact hlen
  rw [HL.out] at KN KL ⊢
  clear hg hyp f4 ho4 hyl hlen q0 q1 q2 q3 hgb K3
  clear ei et hi2 ht2
  by_cases ha : nb < i ∧ i ≤ nb + L
  · obtain ⟨m, Hm⟩ : ∃ m, Hid (i = nb + 1 + m) := ⟨i - nb - 1, by show _ = _; omega⟩
    have hm := Hm.out
    have hmL : m < L := by omega
    obtain ⟨R, D, her⟩ := HER.out
    obtain ⟨b, off, x, rfl, _, _, x1, _, _, _, Hx⟩ := her.at (k := m) (by rw [HL.out]; exact hmL)
    have htt : termAt nb nt es i = some x.t := by unfold termAt; rw [if_neg (by omega), if_pos (by rw [HL.out]; omega), show i - nb - 1 = m by omega, Hx.out]
    obtain ⟨xt, Hxt⟩ : ∃ xt, Hid (x.t = xt) := ⟨_, rfl⟩
    rw [Hxt.out] at x1 htt
    have e1 : (i : Int) - (nb : Int) - 1 = (m : Int) := by omega
    have e2 : (i : Int) - (nb : Int) = (m : Int) + 1 := by omega
    have e3 : (nb : Int) < (i : Int) := by omega
    have e4 : ((i : Int) == (nb : Int)) = false := by simp; omega
    have e5 : (m : Int) + 1 ≤ (L : Int) := by omega
    have e6 : (m : Int) < (L : Int) := by omega
    have e7 : (0 : Int) ≤ (m : Int) := by omega
    have HTT : Hid (termAt nb nt es i = some xt) := htt
    clear her ha hm htt
    by_cases hxt : xt = t
    · have hxt' : ((xt : Int) == (t : Int)) = true := by rw [hxt]; simp
      have kf : Hid (∀ m, Calls Try.prog 17 #[.pointer (some ⟨gb, 0, none⟩), .int .u64 (i : Int), .int .u64 (t : Int)] (w4.drewN m) fun e w' => e = .returned (.bool true) ∧ ∃ n, w' = (w4.drewN m).drewN n) := fun m => by
        have := KF.out m i t
        rwa [show decide (termAt nb nt es i = some t) = true from by rw [HTT.out, hxt]; simp] at this
      clear hxt
      go_wp2_with fail
      refine (KT.out 0).mono ?_
      rintro e w5 ⟨rfl, m5, rfl⟩
      go_wp2_with fail
      refine (kf.out _).mono ?_
      rintro e w6 ⟨rfl, m6, rfl⟩
      by_cases g1 : lt < t
      · have kn := KN.out (m5 + m6) i t
        rw [show decide (lt < t ∨ (t = lt ∧ nb + L ≤ i)) = true from decide_eq_true (Or.inl g1)] at kn
        have kn : Hid (Calls _ _ _ _ _) := kn
        have g1' : (lt : Int) < (t : Int) := by omega
        clear g1
        go_wp2_with fail
        refine kn.out.mono ?_
        rintro e w7 ⟨rfl, m7, rfl⟩
        go_wp2
        go_ret
        exact ⟨rfl, F4.out.drewN _⟩
      · have g1' : ¬ (lt : Int) < (t : Int) := by omega
        by_cases g2 : t = lt
        · have g2' : ((t : Int) == (lt : Int)) = true := by rw [g2]; simp
          by_cases g3 : nb + L ≤ i
          · have kn := KN.out (m5 + m6) i t
            rw [show decide (lt < t ∨ (t = lt ∧ nb + L ≤ i)) = true from decide_eq_true (Or.inr ⟨g2, g3⟩)] at kn
            have kn : Hid (Calls _ _ _ _ _) := kn
            have g3' : ((nb + L : Nat) : Int) ≤ (i : Int) := by omega
            obtain ⟨z, Hz⟩ : ∃ z, Hid (nb + L = z) := ⟨_, rfl⟩
            rw [Hz.out] at KL g3'
            clear g3 g2 g1
            go_wp2_with fail
            refine kn.out.mono ?_
            rintro e w7 ⟨rfl, m7, rfl⟩
            go_wp2_with fail
            refine (KL.out _).mono ?_
            rintro e w8 ⟨rfl, m8, rfl⟩
            go_wp2
            go_ret
            exact ⟨rfl, F4.out.drewN _⟩
          · have kn := KN.out (m5 + m6) i t
            rw [show decide (lt < t ∨ (t = lt ∧ nb + L ≤ i)) = false from decide_eq_false (fun h => h.elim g1 (fun h => g3 h.2))] at kn
            have kn : Hid (Calls _ _ _ _ _) := kn
            have g3' : ¬ ((nb + L : Nat) : Int) ≤ (i : Int) := by omega
            obtain ⟨z, Hz⟩ : ∃ z, Hid (nb + L = z) := ⟨_, rfl⟩
            rw [Hz.out] at KL g3' g3
            have HG : Hid (¬ lt < t ∧ ¬ z ≤ i) := ⟨g1, g3⟩
            clear g3 g2 g1
            go_wp2_with fail
            refine kn.out.mono ?_
            rintro e w7 ⟨rfl, m7, rfl⟩
            go_wp2_with fail
            refine (KL.out _).mono ?_
            rintro e w8 ⟨rfl, m8, rfl⟩
            go_wp2
            go_ret
            have h1 := HG.out.1
            have h3 := HG.out.2
            exact ⟨by simp [h1, h3], F4.out.drewN _⟩
        · have kn := KN.out (m5 + m6) i t
          rw [show decide (lt < t ∨ (t = lt ∧ nb + L ≤ i)) = false from decide_eq_false (fun h => h.elim g1 (fun h => g2 h.1))] at kn
          have kn : Hid (Calls _ _ _ _ _) := kn
          have g2' : ((t : Int) == (lt : Int)) = false := by simpa using fun h => g2 (by omega)
          have HG : Hid (¬ lt < t) := g1
          clear g2 g1
          go_wp2_with fail
          refine kn.out.mono ?_
          rintro e w7 ⟨rfl, m7, rfl⟩
          go_wp2
          go_ret
          have h1 := HG.out
          exact ⟨by simp [h1], F4.out.drewN _⟩
    · have hxt' : ((xt : Int) == (t : Int)) = false := by simpa using fun h => hxt (by omega)
      have kf : Hid (∀ m, Calls Try.prog 17 #[.pointer (some ⟨gb, 0, none⟩), .int .u64 (i : Int), .int .u64 (t : Int)] (w4.drewN m) fun e w' => e = .returned (.bool false) ∧ ∃ n, w' = (w4.drewN m).drewN n) := fun m => by
        have := KF.out m i t
        rwa [show decide (termAt nb nt es i = some t) = false from by rw [HTT.out]; simp [hxt]] at this
      clear hxt
      go_wp2_with fail
      refine (KT.out 0).mono ?_
      rintro e w5 ⟨rfl, m5, rfl⟩
      go_wp2_with fail
      refine (kf.out _).mono ?_
      rintro e w6 ⟨rfl, m6, rfl⟩
      by_cases g1 : lt < t
      · have kn := KN.out (m5 + m6) i t
        rw [show decide (lt < t ∨ (t = lt ∧ nb + L ≤ i)) = true from decide_eq_true (Or.inl g1)] at kn
        have kn : Hid (Calls _ _ _ _ _) := kn
        have g1' : (lt : Int) < (t : Int) := by omega
        clear g1
        go_wp2_with fail
        refine kn.out.mono ?_
        rintro e w7 ⟨rfl, m7, rfl⟩
        go_wp2
        go_ret
        exact ⟨rfl, F4.out.drewN _⟩
      · have g1' : ¬ (lt : Int) < (t : Int) := by omega
        by_cases g2 : t = lt
        · have g2' : ((t : Int) == (lt : Int)) = true := by rw [g2]; simp
          by_cases g3 : nb + L ≤ i
          · have kn := KN.out (m5 + m6) i t
            rw [show decide (lt < t ∨ (t = lt ∧ nb + L ≤ i)) = true from decide_eq_true (Or.inr ⟨g2, g3⟩)] at kn
            have kn : Hid (Calls _ _ _ _ _) := kn
            have g3' : ((nb + L : Nat) : Int) ≤ (i : Int) := by omega
            obtain ⟨z, Hz⟩ : ∃ z, Hid (nb + L = z) := ⟨_, rfl⟩
            rw [Hz.out] at KL g3'
            clear g3 g2 g1
            go_wp2_with fail
            refine kn.out.mono ?_
            rintro e w7 ⟨rfl, m7, rfl⟩
            go_wp2_with fail
            refine (KL.out _).mono ?_
            rintro e w8 ⟨rfl, m8, rfl⟩
            go_wp2
            go_ret
            exact ⟨rfl, F4.out.drewN _⟩
          · have kn := KN.out (m5 + m6) i t
            rw [show decide (lt < t ∨ (t = lt ∧ nb + L ≤ i)) = false from decide_eq_false (fun h => h.elim g1 (fun h => g3 h.2))] at kn
            have kn : Hid (Calls _ _ _ _ _) := kn
            have g3' : ¬ ((nb + L : Nat) : Int) ≤ (i : Int) := by omega
            obtain ⟨z, Hz⟩ : ∃ z, Hid (nb + L = z) := ⟨_, rfl⟩
            rw [Hz.out] at KL g3' g3
            have HG : Hid (¬ lt < t ∧ ¬ z ≤ i) := ⟨g1, g3⟩
            clear g3 g2 g1
            go_wp2_with fail
            refine kn.out.mono ?_
            rintro e w7 ⟨rfl, m7, rfl⟩
            go_wp2_with fail
            refine (KL.out _).mono ?_
            rintro e w8 ⟨rfl, m8, rfl⟩
            go_wp2
            go_ret
            have h1 := HG.out.1
            have h3 := HG.out.2
            exact ⟨by simp [h1, h3], F4.out.drewN _⟩
        · have kn := KN.out (m5 + m6) i t
          rw [show decide (lt < t ∨ (t = lt ∧ nb + L ≤ i)) = false from decide_eq_false (fun h => h.elim g1 (fun h => g2 h.1))] at kn
          have kn : Hid (Calls _ _ _ _ _) := kn
          have g2' : ((t : Int) == (lt : Int)) = false := by simpa using fun h => g2 (by omega)
          have HG : Hid (¬ lt < t) := g1
          clear g2 g1
          go_wp2_with fail
          refine kn.out.mono ?_
          rintro e w7 ⟨rfl, m7, rfl⟩
          go_wp2
          go_ret
          have h1 := HG.out
          exact ⟨by simp [h1], F4.out.drewN _⟩
  · by_cases hb : i = nb
    · have e4 : ((i : Int) == (nb : Int)) = true := by rw [hb]; simp
      have e3 : ¬ (nb : Int) < (i : Int) := by omega
      have HTT : Hid (termAt nb nt es i = some nt) := by show _ = _; unfold termAt; rw [if_pos hb]
      clear ha
      by_cases hxt : nt = t
      · have hxt' : ((t : Int) == (nt : Int)) = true := by rw [hxt]; simp
        have kf : Hid (∀ m, Calls Try.prog 17 #[.pointer (some ⟨gb, 0, none⟩), .int .u64 (i : Int), .int .u64 (t : Int)] (w4.drewN m) fun e w' => e = .returned (.bool true) ∧ ∃ n, w' = (w4.drewN m).drewN n) := fun m => by
          have := KF.out m i t
          rwa [show decide (termAt nb nt es i = some t) = true from by rw [HTT.out, hxt]; simp] at this
        clear hxt hb
        go_wp2_with fail
        refine (KT.out 0).mono ?_
        rintro e w5 ⟨rfl, m5, rfl⟩
        go_wp2_with fail
        refine (kf.out _).mono ?_
        rintro e w6 ⟨rfl, m6, rfl⟩
        by_cases g1 : lt < t
        · have kn := KN.out (m5 + m6) i t
          rw [show decide (lt < t ∨ (t = lt ∧ nb + L ≤ i)) = true from decide_eq_true (Or.inl g1)] at kn
          have kn : Hid (Calls _ _ _ _ _) := kn
          have g1' : (lt : Int) < (t : Int) := by omega
          clear g1
          go_wp2_with fail
          refine kn.out.mono ?_
          rintro e w7 ⟨rfl, m7, rfl⟩
          go_wp2
          go_ret
          exact ⟨rfl, F4.out.drewN _⟩
        · have g1' : ¬ (lt : Int) < (t : Int) := by omega
          by_cases g2 : t = lt
          · have g2' : ((t : Int) == (lt : Int)) = true := by rw [g2]; simp
            by_cases g3 : nb + L ≤ i
            · have kn := KN.out (m5 + m6) i t
              rw [show decide (lt < t ∨ (t = lt ∧ nb + L ≤ i)) = true from decide_eq_true (Or.inr ⟨g2, g3⟩)] at kn
              have kn : Hid (Calls _ _ _ _ _) := kn
              have g3' : ((nb + L : Nat) : Int) ≤ (i : Int) := by omega
              obtain ⟨z, Hz⟩ : ∃ z, Hid (nb + L = z) := ⟨_, rfl⟩
              rw [Hz.out] at KL g3'
              clear g3 g2 g1
              go_wp2_with fail
              refine kn.out.mono ?_
              rintro e w7 ⟨rfl, m7, rfl⟩
              go_wp2_with fail
              refine (KL.out _).mono ?_
              rintro e w8 ⟨rfl, m8, rfl⟩
              go_wp2
              go_ret
              exact ⟨rfl, F4.out.drewN _⟩
            · have kn := KN.out (m5 + m6) i t
              rw [show decide (lt < t ∨ (t = lt ∧ nb + L ≤ i)) = false from decide_eq_false (fun h => h.elim g1 (fun h => g3 h.2))] at kn
              have kn : Hid (Calls _ _ _ _ _) := kn
              have g3' : ¬ ((nb + L : Nat) : Int) ≤ (i : Int) := by omega
              obtain ⟨z, Hz⟩ : ∃ z, Hid (nb + L = z) := ⟨_, rfl⟩
              rw [Hz.out] at KL g3' g3
              have HG : Hid (¬ lt < t ∧ ¬ z ≤ i) := ⟨g1, g3⟩
              clear g3 g2 g1
              go_wp2_with fail
              refine kn.out.mono ?_
              rintro e w7 ⟨rfl, m7, rfl⟩
              go_wp2_with fail
              refine (KL.out _).mono ?_
              rintro e w8 ⟨rfl, m8, rfl⟩
              go_wp2
              go_ret
              have h1 := HG.out.1
              have h3 := HG.out.2
              exact ⟨by simp [h1, h3], F4.out.drewN _⟩
          · have kn := KN.out (m5 + m6) i t
            rw [show decide (lt < t ∨ (t = lt ∧ nb + L ≤ i)) = false from decide_eq_false (fun h => h.elim g1 (fun h => g2 h.1))] at kn
            have kn : Hid (Calls _ _ _ _ _) := kn
            have g2' : ((t : Int) == (lt : Int)) = false := by simpa using fun h => g2 (by omega)
            have HG : Hid (¬ lt < t) := g1
            clear g2 g1
            go_wp2_with fail
            refine kn.out.mono ?_
            rintro e w7 ⟨rfl, m7, rfl⟩
            go_wp2
            go_ret
            have h1 := HG.out
            exact ⟨by simp [h1], F4.out.drewN _⟩
      · have hxt' : ((t : Int) == (nt : Int)) = false := by simpa using fun h => hxt (by omega)
        have kf : Hid (∀ m, Calls Try.prog 17 #[.pointer (some ⟨gb, 0, none⟩), .int .u64 (i : Int), .int .u64 (t : Int)] (w4.drewN m) fun e w' => e = .returned (.bool false) ∧ ∃ n, w' = (w4.drewN m).drewN n) := fun m => by
          have := KF.out m i t
          rwa [show decide (termAt nb nt es i = some t) = false from by rw [HTT.out]; simp [hxt]] at this
        clear hxt hb
        go_wp2_with fail
        refine (KT.out 0).mono ?_
        rintro e w5 ⟨rfl, m5, rfl⟩
        go_wp2_with fail
        refine (kf.out _).mono ?_
        rintro e w6 ⟨rfl, m6, rfl⟩
        by_cases g1 : lt < t
        · have kn := KN.out (m5 + m6) i t
          rw [show decide (lt < t ∨ (t = lt ∧ nb + L ≤ i)) = true from decide_eq_true (Or.inl g1)] at kn
          have kn : Hid (Calls _ _ _ _ _) := kn
          have g1' : (lt : Int) < (t : Int) := by omega
          clear g1
          go_wp2_with fail
          refine kn.out.mono ?_
          rintro e w7 ⟨rfl, m7, rfl⟩
          go_wp2
          go_ret
          exact ⟨rfl, F4.out.drewN _⟩
        · have g1' : ¬ (lt : Int) < (t : Int) := by omega
          by_cases g2 : t = lt
          · have g2' : ((t : Int) == (lt : Int)) = true := by rw [g2]; simp
            by_cases g3 : nb + L ≤ i
            · have kn := KN.out (m5 + m6) i t
              rw [show decide (lt < t ∨ (t = lt ∧ nb + L ≤ i)) = true from decide_eq_true (Or.inr ⟨g2, g3⟩)] at kn
              have kn : Hid (Calls _ _ _ _ _) := kn
              have g3' : ((nb + L : Nat) : Int) ≤ (i : Int) := by omega
              obtain ⟨z, Hz⟩ : ∃ z, Hid (nb + L = z) := ⟨_, rfl⟩
              rw [Hz.out] at KL g3'
              clear g3 g2 g1
              go_wp2_with fail
              refine kn.out.mono ?_
              rintro e w7 ⟨rfl, m7, rfl⟩
              go_wp2_with fail
              refine (KL.out _).mono ?_
              rintro e w8 ⟨rfl, m8, rfl⟩
              go_wp2
              go_ret
              exact ⟨rfl, F4.out.drewN _⟩
            · have kn := KN.out (m5 + m6) i t
              rw [show decide (lt < t ∨ (t = lt ∧ nb + L ≤ i)) = false from decide_eq_false (fun h => h.elim g1 (fun h => g3 h.2))] at kn
              have kn : Hid (Calls _ _ _ _ _) := kn
              have g3' : ¬ ((nb + L : Nat) : Int) ≤ (i : Int) := by omega
              obtain ⟨z, Hz⟩ : ∃ z, Hid (nb + L = z) := ⟨_, rfl⟩
              rw [Hz.out] at KL g3' g3
              have HG : Hid (¬ lt < t ∧ ¬ z ≤ i) := ⟨g1, g3⟩
              clear g3 g2 g1
              go_wp2_with fail
              refine kn.out.mono ?_
              rintro e w7 ⟨rfl, m7, rfl⟩
              go_wp2_with fail
              refine (KL.out _).mono ?_
              rintro e w8 ⟨rfl, m8, rfl⟩
              go_wp2
              go_ret
              have h1 := HG.out.1
              have h3 := HG.out.2
              exact ⟨by simp [h1, h3], F4.out.drewN _⟩
          · have kn := KN.out (m5 + m6) i t
            rw [show decide (lt < t ∨ (t = lt ∧ nb + L ≤ i)) = false from decide_eq_false (fun h => h.elim g1 (fun h => g2 h.1))] at kn
            have kn : Hid (Calls _ _ _ _ _) := kn
            have g2' : ((t : Int) == (lt : Int)) = false := by simpa using fun h => g2 (by omega)
            have HG : Hid (¬ lt < t) := g1
            clear g2 g1
            go_wp2_with fail
            refine kn.out.mono ?_
            rintro e w7 ⟨rfl, m7, rfl⟩
            go_wp2
            go_ret
            have h1 := HG.out
            exact ⟨by simp [h1], F4.out.drewN _⟩
    · have e4 : ((i : Int) == (nb : Int)) = false := by simpa using fun h => hb (by omega)
      have HTT : Hid (termAt nb nt es i = none) := by show _ = _; unfold termAt; rw [if_neg hb, if_neg (by rw [HL.out]; exact ha)]
      have kf : Hid (∀ m, Calls Try.prog 17 #[.pointer (some ⟨gb, 0, none⟩), .int .u64 (i : Int), .int .u64 (t : Int)] (w4.drewN m) fun e w' => e = .returned (.bool false) ∧ ∃ n, w' = (w4.drewN m).drewN n) := fun m => by
        have := KF.out m i t
        rwa [show decide (termAt nb nt es i = some t) = false from by rw [HTT.out]; simp] at this
      by_cases e3 : nb < i
      · have e3' : (nb : Int) < (i : Int) := by omega
        have e8 : ¬ (i : Int) - (nb : Int) ≤ (L : Int) := by omega
        clear ha hb
        go_wp2_with fail
        refine (KT.out 0).mono ?_
        rintro e w5 ⟨rfl, m5, rfl⟩
        go_wp2_with fail
        refine (kf.out _).mono ?_
        rintro e w6 ⟨rfl, m6, rfl⟩
        by_cases g1 : lt < t
        · have kn := KN.out (m5 + m6) i t
          rw [show decide (lt < t ∨ (t = lt ∧ nb + L ≤ i)) = true from decide_eq_true (Or.inl g1)] at kn
          have kn : Hid (Calls _ _ _ _ _) := kn
          have g1' : (lt : Int) < (t : Int) := by omega
          clear g1
          go_wp2_with fail
          refine kn.out.mono ?_
          rintro e w7 ⟨rfl, m7, rfl⟩
          go_wp2
          go_ret
          exact ⟨rfl, F4.out.drewN _⟩
        · have g1' : ¬ (lt : Int) < (t : Int) := by omega
          by_cases g2 : t = lt
          · have g2' : ((t : Int) == (lt : Int)) = true := by rw [g2]; simp
            by_cases g3 : nb + L ≤ i
            · have kn := KN.out (m5 + m6) i t
              rw [show decide (lt < t ∨ (t = lt ∧ nb + L ≤ i)) = true from decide_eq_true (Or.inr ⟨g2, g3⟩)] at kn
              have kn : Hid (Calls _ _ _ _ _) := kn
              have g3' : ((nb + L : Nat) : Int) ≤ (i : Int) := by omega
              obtain ⟨z, Hz⟩ : ∃ z, Hid (nb + L = z) := ⟨_, rfl⟩
              rw [Hz.out] at KL g3'
              clear g3 g2 g1
              go_wp2_with fail
              refine kn.out.mono ?_
              rintro e w7 ⟨rfl, m7, rfl⟩
              go_wp2_with fail
              refine (KL.out _).mono ?_
              rintro e w8 ⟨rfl, m8, rfl⟩
              go_wp2
              go_ret
              exact ⟨rfl, F4.out.drewN _⟩
            · have kn := KN.out (m5 + m6) i t
              rw [show decide (lt < t ∨ (t = lt ∧ nb + L ≤ i)) = false from decide_eq_false (fun h => h.elim g1 (fun h => g3 h.2))] at kn
              have kn : Hid (Calls _ _ _ _ _) := kn
              have g3' : ¬ ((nb + L : Nat) : Int) ≤ (i : Int) := by omega
              obtain ⟨z, Hz⟩ : ∃ z, Hid (nb + L = z) := ⟨_, rfl⟩
              rw [Hz.out] at KL g3' g3
              have HG : Hid (¬ lt < t ∧ ¬ z ≤ i) := ⟨g1, g3⟩
              clear g3 g2 g1
              go_wp2_with fail
              refine kn.out.mono ?_
              rintro e w7 ⟨rfl, m7, rfl⟩
              go_wp2_with fail
              refine (KL.out _).mono ?_
              rintro e w8 ⟨rfl, m8, rfl⟩
              go_wp2
              go_ret
              have h1 := HG.out.1
              have h3 := HG.out.2
              exact ⟨by simp [h1, h3], F4.out.drewN _⟩
          · have kn := KN.out (m5 + m6) i t
            rw [show decide (lt < t ∨ (t = lt ∧ nb + L ≤ i)) = false from decide_eq_false (fun h => h.elim g1 (fun h => g2 h.1))] at kn
            have kn : Hid (Calls _ _ _ _ _) := kn
            have g2' : ((t : Int) == (lt : Int)) = false := by simpa using fun h => g2 (by omega)
            have HG : Hid (¬ lt < t) := g1
            clear g2 g1
            go_wp2_with fail
            refine kn.out.mono ?_
            rintro e w7 ⟨rfl, m7, rfl⟩
            go_wp2
            go_ret
            have h1 := HG.out
            exact ⟨by simp [h1], F4.out.drewN _⟩
      · have e3' : ¬ (nb : Int) < (i : Int) := by omega
        clear ha hb
        go_wp2_with fail
        refine (KT.out 0).mono ?_
        rintro e w5 ⟨rfl, m5, rfl⟩
        go_wp2_with fail
        refine (kf.out _).mono ?_
        rintro e w6 ⟨rfl, m6, rfl⟩
        by_cases g1 : lt < t
        · have kn := KN.out (m5 + m6) i t
          rw [show decide (lt < t ∨ (t = lt ∧ nb + L ≤ i)) = true from decide_eq_true (Or.inl g1)] at kn
          have kn : Hid (Calls _ _ _ _ _) := kn
          have g1' : (lt : Int) < (t : Int) := by omega
          clear g1
          go_wp2_with fail
          refine kn.out.mono ?_
          rintro e w7 ⟨rfl, m7, rfl⟩
          go_wp2
          go_ret
          exact ⟨rfl, F4.out.drewN _⟩
        · have g1' : ¬ (lt : Int) < (t : Int) := by omega
          by_cases g2 : t = lt
          · have g2' : ((t : Int) == (lt : Int)) = true := by rw [g2]; simp
            by_cases g3 : nb + L ≤ i
            · have kn := KN.out (m5 + m6) i t
              rw [show decide (lt < t ∨ (t = lt ∧ nb + L ≤ i)) = true from decide_eq_true (Or.inr ⟨g2, g3⟩)] at kn
              have kn : Hid (Calls _ _ _ _ _) := kn
              have g3' : ((nb + L : Nat) : Int) ≤ (i : Int) := by omega
              obtain ⟨z, Hz⟩ : ∃ z, Hid (nb + L = z) := ⟨_, rfl⟩
              rw [Hz.out] at KL g3'
              clear g3 g2 g1
              go_wp2_with fail
              refine kn.out.mono ?_
              rintro e w7 ⟨rfl, m7, rfl⟩
              go_wp2_with fail
              refine (KL.out _).mono ?_
              rintro e w8 ⟨rfl, m8, rfl⟩
              go_wp2
              go_ret
              exact ⟨rfl, F4.out.drewN _⟩
            · have kn := KN.out (m5 + m6) i t
              rw [show decide (lt < t ∨ (t = lt ∧ nb + L ≤ i)) = false from decide_eq_false (fun h => h.elim g1 (fun h => g3 h.2))] at kn
              have kn : Hid (Calls _ _ _ _ _) := kn
              have g3' : ¬ ((nb + L : Nat) : Int) ≤ (i : Int) := by omega
              obtain ⟨z, Hz⟩ : ∃ z, Hid (nb + L = z) := ⟨_, rfl⟩
              rw [Hz.out] at KL g3' g3
              have HG : Hid (¬ lt < t ∧ ¬ z ≤ i) := ⟨g1, g3⟩
              clear g3 g2 g1
              go_wp2_with fail
              refine kn.out.mono ?_
              rintro e w7 ⟨rfl, m7, rfl⟩
              go_wp2_with fail
              refine (KL.out _).mono ?_
              rintro e w8 ⟨rfl, m8, rfl⟩
              go_wp2
              go_ret
              have h1 := HG.out.1
              have h3 := HG.out.2
              exact ⟨by simp [h1, h3], F4.out.drewN _⟩
          · have kn := KN.out (m5 + m6) i t
            rw [show decide (lt < t ∨ (t = lt ∧ nb + L ≤ i)) = false from decide_eq_false (fun h => h.elim g1 (fun h => g2 h.1))] at kn
            have kn : Hid (Calls _ _ _ _ _) := kn
            have g2' : ((t : Int) == (lt : Int)) = false := by simpa using fun h => g2 (by omega)
            have HG : Hid (¬ lt < t) := g1
            clear g2 g1
            go_wp2_with fail
            refine kn.out.mono ?_
            rintro e w7 ⟨rfl, m7, rfl⟩
            go_wp2
            go_ret
            have h1 := HG.out
            exact ⟨by simp [h1], F4.out.drewN _⟩
end Go.Proofs.Ytkkpdnholnkeoab
