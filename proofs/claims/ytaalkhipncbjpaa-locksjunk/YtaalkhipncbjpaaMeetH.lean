/- Are two rows of spans alike (for LocksMeet). -/
import Derived.Test.YtaalkhipncbjpaaMeetG
namespace Go.Proofs.Ytaalkhipncbjpaa
open Go.RowKit
attribute [local go_sem] run_store_float
def rkp (y : Nat × Nat) : Nat × Nat := (Fl.rk y.1, Fl.rk y.2)
set_option maxRecDepth 100000 in
set_option maxHeartbeats 4000000 in
theorem spans1 (x1 x2 y1 y2 : Nat) (h1 : x1 < 18446744073709551616) (h2 : x2 < 18446744073709551616) (h3 : y1 < 18446744073709551616) (h4 : y2 < 18446744073709551616) (w : World) : Calls Try.prog 39 #[.agg #[.float .f64 x1, .float .f64 x2], .agg #[.float .f64 y1, .float .f64 y2]] w fun e w' => e = .returned (.bool (decide (rkp (x1, x2) = rkp (y1, y2)))) ∧ Fr (fun _ => False) w w' := by
  have F0 : Hid (Fr (fun _ => False) w ((w.alloc (.cells #[.float .f64 x1, .float .f64 x2] 75)).alloc (.cells #[.float .f64 y1, .float .f64 y2] 75))) := ((Fr.refl (fun _ => False) w).alloc _).alloc _
  have hr : decide (rkp (x1, x2) = rkp (y1, y2)) = (decide (Fl.rk x1 = Fl.rk y1) && decide (Fl.rk x2 = Fl.rk y2)) := by
    rw [Bool.eq_iff_iff]
    simp [rkp]
  rw [hr]
  clear hr
  have K1 : ∀ W, Calls _ _ _ W _ := fun W => same_any x1 y1 h1 h3 W
  have K2 : ∀ W, Calls _ _ _ W _ := fun W => same_any x2 y2 h2 h4 W
  generalize decide (Fl.rk x1 = Fl.rk y1) = p at *
  generalize decide (Fl.rk x2 = Fl.rk y2) = q at *
  obtain ⟨W, HW⟩ : ∃ W, Hid (W = (w.alloc (.cells #[.float .f64 x1, .float .f64 x2] 75)).alloc (.cells #[.float .f64 y1, .float .f64 y2] 75)) := ⟨_, rfl⟩
  have k1 : W.cell? ⟨w.heap.size, 1, none⟩ = some (.float .f64 x2) := by rw [HW.out]; simp
  have k2 : W.cell? ⟨w.heap.size + 1, 1, none⟩ = some (.float .f64 y2) := by rw [HW.out]; simp
  have F1 : Hid (Fr (fun _ => False) w W) := (show Fr _ _ _ by rw [HW.out]; exact F0.out)
  cases p
  · go_enter Try.func39, Try.ntmps39
    go_wp2_with fail
    rw [← HW.out]
    refine (K1 _).mono ?_
    rintro e w1 ⟨rfl, hw1⟩
    subst hw1
    go_wp2
    go_ret
    exact ⟨rfl, F1.out⟩
  · go_enter Try.func39, Try.ntmps39
    go_wp2_with fail
    rw [← HW.out]
    refine (K1 _).mono ?_
    rintro e w1 ⟨rfl, hw1⟩
    subst hw1
    go_wp2_with fail
    refine (K2 _).mono ?_
    rintro e w2 ⟨rfl, hw2⟩
    subst hw2
    go_wp2
    go_ret
    exact ⟨rfl, F1.out⟩
set_option maxRecDepth 100000 in
set_option maxHeartbeats 4000000 in
theorem eqG_any (ao bo : Option Addr) (l m : List (Nat × Nat)) (ac bc : Nat) (w : World) (hl : GRow w ao l ac) (hm : GRow w bo m bc) :
    Calls Try.prog 42 #[.slice ao l.length ac, .slice bo m.length bc, .func (.func 39) #[] #[]] w fun e w' => e = .returned (.bool (decide (l.map rkp = m.map rkp))) ∧ Fr (fun _ => False) w w' := by
  have HL : Hid (GRow w ao l ac) := hl
  have HM : Hid (GRow w bo m bc) := hm
  have hl1 : l.length ≤ 9223372036854775807 := by have := hl.1; have := hl.2.1; unfold maxLen at this; omega
  clear hl hm
  by_cases hn : l.length = m.length
  · have HN : Hid (l.length = m.length) := hn
    rw [← hn]
    obtain ⟨t, Ht⟩ : ∃ t, Hid (decide (l.map rkp = m.map rkp) = t) := ⟨_, rfl⟩
    rw [Ht.out]
    clear hn
    go_enter Try.func42, Try.ntmps42
    go_wp2
    go_loopw [17] (fun iv wr => ∃ k : Nat, k ≤ l.length ∧ iv = .int .i64 (k : Int) ∧ Hid ((l.take k).map rkp = (m.take k).map rkp) ∧ Hid (Fr (fun _ => False) w wr)) (fun iv _ => l.length - (intOf iv).toNat)
    case atStart => exact ⟨0, Nat.zero_le _, rfl, (by show (List.take 0 l).map rkp = (List.take 0 m).map rkp; simp), Fr.refl _ _⟩
    case round =>
      obtain ⟨k, hk, rfl, HA, HF⟩ := hrel
      by_cases hlt : k < l.length
      · have hlt2 : k < m.length := by have := HN.out; omega
        obtain ⟨b, off, hao, hc⟩ := (HL.out.fr HF.out (by simp)).2.2.2 (fun e => by rw [e] at hlt; simp at hlt)
        obtain ⟨b2, off2, hbo, hc2⟩ := (HM.out.fr HF.out (by simp)).2.2.2 (fun e => by rw [e] at hlt2; simp at hlt2)
        obtain ⟨hy, hy2⟩ := hc k hlt
        obtain ⟨hz, hz2⟩ := hc2 k hlt2
        have HY : Hid ((l.getD k (0, 0)).1 < 18446744073709551616 ∧ (l.getD k (0, 0)).2 < 18446744073709551616) := HL.out.2.2.1 _ (by rw [List.getD_eq_getElem?_getD, List.getElem?_eq_getElem hlt]; exact List.getElem_mem _)
        have HZ : Hid ((m.getD k (0, 0)).1 < 18446744073709551616 ∧ (m.getD k (0, 0)).2 < 18446744073709551616) := HM.out.2.2.1 _ (by rw [List.getD_eq_getElem?_getD, List.getElem?_eq_getElem hlt2]; exact List.getElem_mem _)
        have HS : Hid (rkp (l.getD k (0, 0)) = rkp (m.getD k (0, 0)) → (l.take (k + 1)).map rkp = (m.take (k + 1)).map rkp) := map_take_succ rkp (0, 0) l m k hlt hlt2 HA.out
        have HT : Hid (l.map rkp = m.map rkp → rkp (l.getD k (0, 0)) = rkp (m.getD k (0, 0))) := map_at rkp (0, 0) l m k hlt hlt2
        obtain ⟨y, Hy⟩ : ∃ y, Hid (l.getD k (0, 0) = y) := ⟨_, rfl⟩
        obtain ⟨z, Hz⟩ : ∃ z, Hid (m.getD k (0, 0) = z) := ⟨_, rfl⟩
        rw [Hy.out] at hy hy2 HY HS HT
        rw [Hz.out] at hz hz2 HZ HS HT
        obtain ⟨y1, y2⟩ := y
        obtain ⟨x1, x2⟩ := z
        dsimp only at hy hy2 hz hz2
        have KS : ∀ W, Calls _ _ _ W _ := fun W => spans1 y1 y2 x1 x2 HY.out.1 HY.out.2 HZ.out.1 HZ.out.2 W
        have g1 : Fr (fun _ => False) wr (wr.alloc (.cells #[.float .f64 y1, .float .f64 y2] 75)) := (Fr.refl _ _).alloc _
        have G2 : Hid (Fr (fun _ => False) wr ((wr.alloc (.cells #[.float .f64 y1, .float .f64 y2] 75)).alloc (.cells #[.float .f64 x1, .float .f64 x2] 75))) := g1.alloc _
        have hz3 := g1.cell hz (by simp)
        have hz4 := g1.cell hz2 (by simp)
        obtain ⟨u, Hu⟩ : ∃ u, Hid (decide (rkp (y1, y2) = rkp (x1, x2)) = u) := ⟨_, rfl⟩
        rw [Hu.out] at KS
        have HK : Hid (∀ W, Calls _ _ _ W _) := KS
        subst hao
        subst hbo
        have z1 : (0 : Int) ≤ (k : Int) := by omega
        have z2 : (k : Int) < (l.length : Int) := by omega
        clear hc hc2 KS g1
        go_wp2_with fail
        refine (HK.out _).mono ?_
        rintro e w1 ⟨rfl, f1⟩
        have HF1 : Hid (Fr (fun _ => False) w w1) := (HF.out.trans G2.out).trans f1
        clear hy hz hy2 hz2 hz3 hz4
        cases u with
        | true =>
          go_wp2
          go_roundw
          case rel => exact ⟨k + 1, by omega, by go_num, HS.out (by simpa using Hu.out), HF1.out⟩
          case measure => simp [intOf]; omega
        | false =>
          have ht : t = false := by
            rw [← Ht.out]
            have h := Hu.out
            simp only [decide_eq_false_iff_not] at h ⊢
            exact fun e => h (HT.out e)
          subst ht
          go_wp2
          go_ret
          exact ⟨rfl, HF1.out⟩
      · have hlt' : ¬ (k : Int) < (l.length : Int) := by omega
        have ht : t = true := by
          rw [← Ht.out]
          have h := HA.out
          rw [List.take_of_length_le (by omega), List.take_of_length_le (by have := HN.out; omega)] at h
          simpa using h
        subst ht
        go_wp2
        go_ret
        exact ⟨rfl, HF.out⟩
  · have ht : decide (l.map rkp = m.map rkp) = false := by
      simp only [decide_eq_false_iff_not]
      intro e
      have := congrArg List.length e
      simp at this
      exact hn this
    rw [ht]
    have hn2 : ¬ (l.length : Int) = (m.length : Int) := by omega
    have hn3 : ((l.length : Int) == (m.length : Int)) = false := by simp; omega
    clear ht hn
    go_enter Try.func42, Try.ntmps42
    go_wp2
    go_ret
    exact ⟨rfl, Fr.refl _ _⟩
end Go.Proofs.Ytaalkhipncbjpaa
