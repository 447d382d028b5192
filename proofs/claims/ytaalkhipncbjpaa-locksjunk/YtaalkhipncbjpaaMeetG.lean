/- Are two rows of floats alike (for LocksMeet). -/
import Derived.Test.YtaalkhipncbjpaaMeetF
namespace Go.Proofs.Ytaalkhipncbjpaa
open Go.RowKit
theorem map_take_succ {α β : Type} (f : α → β) (d : α) (l m : List α) (k : Nat) (h1 : k < l.length) (h2 : k < m.length) (h : (l.take k).map f = (m.take k).map f) (he : f (l.getD k d) = f (m.getD k d)) : (l.take (k + 1)).map f = (m.take (k + 1)).map f := by
  rw [List.take_add_one, List.take_add_one, List.map_append, List.map_append, h, List.getElem?_eq_getElem h1, List.getElem?_eq_getElem h2]
  have : f l[k] = f m[k] := by simpa [List.getD_eq_getElem?_getD, List.getElem?_eq_getElem h1, List.getElem?_eq_getElem h2] using he
  simp [this]
theorem map_at {α β : Type} (f : α → β) (d : α) (l m : List α) (k : Nat) (h1 : k < l.length) (h2 : k < m.length) (h : l.map f = m.map f) : f (l.getD k d) = f (m.getD k d) := by
  have e1 : (l.map f)[k]? = some (f l[k]) := by simp [h1]
  have e2 : (m.map f)[k]? = some (f m[k]) := by simp [h2]
  rw [h, e2] at e1
  simpa [List.getD_eq_getElem?_getD, List.getElem?_eq_getElem h1, List.getElem?_eq_getElem h2] using (Option.some.inj e1).symm
set_option maxRecDepth 100000 in
set_option maxHeartbeats 4000000 in
theorem eqF_any (ao bo : Option Addr) (l m : List Nat) (ac bc : Nat) (w : World) (hl : FRow w ao l ac) (hm : FRow w bo m bc) :
    Calls Try.prog 41 #[.slice ao l.length ac, .slice bo m.length bc, .func (.func 40) #[] #[]] w fun e w' => e = .returned (.bool (decide (l.map Fl.rk = m.map Fl.rk))) ∧ w' = w := by
  have HL : Hid (FRow w ao l ac) := hl
  have HM : Hid (FRow w bo m bc) := hm
  have hl1 : l.length ≤ 9223372036854775807 := by have := hl.1; have := hl.2.1; unfold maxLen at this; omega
  clear hl hm
  by_cases hn : l.length = m.length
  · have HN : Hid (l.length = m.length) := hn
    rw [← hn]
    obtain ⟨t, Ht⟩ : ∃ t, Hid (decide (l.map Fl.rk = m.map Fl.rk) = t) := ⟨_, rfl⟩
    rw [Ht.out]
    clear hn
    go_enter Try.func41, Try.ntmps41
    go_wp2
    go_loopw [17] (fun iv wr => ∃ k : Nat, k ≤ l.length ∧ iv = .int .i64 (k : Int) ∧ Hid ((l.take k).map Fl.rk = (m.take k).map Fl.rk) ∧ wr = w) (fun iv _ => l.length - (intOf iv).toNat)
    case atStart => exact ⟨0, Nat.zero_le _, rfl, (by show (List.take 0 l).map Fl.rk = (List.take 0 m).map Fl.rk; simp), rfl⟩
    case round =>
      obtain ⟨k, hk, rfl, HA, hwr⟩ := hrel
      subst hwr
      by_cases hlt : k < l.length
      · have hlt2 : k < m.length := by have := HN.out; omega
        obtain ⟨b, off, hao, hc⟩ := HL.out.2.2.2 (fun e => by rw [e] at hlt; simp at hlt)
        obtain ⟨b2, off2, hbo, hc2⟩ := HM.out.2.2.2 (fun e => by rw [e] at hlt2; simp at hlt2)
        have hy := hc k hlt
        have hz := hc2 k hlt2
        have HY : Hid (l.getD k 0 < 18446744073709551616) := HL.out.2.2.1 _ (by rw [List.getD_eq_getElem?_getD, List.getElem?_eq_getElem hlt]; exact List.getElem_mem _)
        have HZ : Hid (m.getD k 0 < 18446744073709551616) := HM.out.2.2.1 _ (by rw [List.getD_eq_getElem?_getD, List.getElem?_eq_getElem hlt2]; exact List.getElem_mem _)
        have HS : Hid (Fl.rk (l.getD k 0) = Fl.rk (m.getD k 0) → (l.take (k + 1)).map Fl.rk = (m.take (k + 1)).map Fl.rk) := map_take_succ Fl.rk 0 l m k hlt hlt2 HA.out
        have HT : Hid (l.map Fl.rk = m.map Fl.rk → Fl.rk (l.getD k 0) = Fl.rk (m.getD k 0)) := map_at Fl.rk 0 l m k hlt hlt2
        obtain ⟨y, Hy⟩ : ∃ y, Hid (l.getD k 0 = y) := ⟨_, rfl⟩
        obtain ⟨z, Hz⟩ : ∃ z, Hid (m.getD k 0 = z) := ⟨_, rfl⟩
        rw [Hy.out] at hy HY HS HT
        rw [Hz.out] at hz HZ HS HT
        have KS := same_any y z HY.out HZ.out wr
        obtain ⟨u, Hu⟩ : ∃ u, Hid (decide (Fl.rk y = Fl.rk z) = u) := ⟨_, rfl⟩
        rw [Hu.out] at KS
        have HK : Hid (Calls _ _ _ _ _) := KS
        subst hao
        subst hbo
        have z1 : (0 : Int) ≤ (k : Int) := by omega
        have z2 : (k : Int) < (l.length : Int) := by omega
        clear hc hc2 KS
        go_wp2_with fail
        refine HK.out.mono ?_
        rintro e w1 ⟨rfl, hw1⟩
        subst hw1
        clear hy hz
        cases u with
        | true =>
          go_wp2
          go_roundw
          case rel => exact ⟨k + 1, by omega, by go_num, HS.out (by simpa using Hu.out), trivial⟩
          case measure => simp [intOf]; omega
        | false =>
          have ht : t = false := by
            rw [← Ht.out]
            have h := Hu.out
            simp only [decide_eq_false_iff_not] at h ⊢
            exact fun e => h (HT.out e)
          subst ht
          go_wp2
          go_ret
          exact ⟨rfl, rfl⟩
      · have hlt' : ¬ (k : Int) < (l.length : Int) := by omega
        have ht : t = true := by
          rw [← Ht.out]
          have h := HA.out
          rw [List.take_of_length_le (by omega), List.take_of_length_le (by have := HN.out; omega)] at h
          simpa using h
        subst ht
        go_wp2
        go_ret
        exact ⟨rfl, rfl⟩
  · have ht : decide (l.map Fl.rk = m.map Fl.rk) = false := by
      simp only [decide_eq_false_iff_not]
      intro e
      have := congrArg List.length e
      simp at this
      exact hn this
    rw [ht]
    have hn2 : ¬ (l.length : Int) = (m.length : Int) := by omega
    have hn3 : ((l.length : Int) == (m.length : Int)) = false := by simp; omega
    clear ht hn
    go_enter Try.func41, Try.ntmps41
    go_wp2
    go_ret
    exact ⟨rfl, rfl⟩
end Go.Proofs.Ytaalkhipncbjpaa
