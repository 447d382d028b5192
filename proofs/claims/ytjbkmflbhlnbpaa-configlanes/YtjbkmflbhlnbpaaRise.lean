/- Cuts that rise: the program's loop and the reference's answer alike. -/
import Derived.Test.YtjbkmflbhlnbpaaShard
namespace Go.Proofs.Ytjbkmflbhlnbpaa
open Go.RowKit

def Rises (l : List Nat) : Prop := ∀ i, i + 1 < l.length → Fl.rk (l.getD i 0) < Fl.rk (l.getD (i + 1) 0)
noncomputable def rises (l : List Nat) : Bool := @decide (Rises l) (Classical.propDecidable _)
theorem rises_yes {l : List Nat} (h : Rises l) : rises l = true := by unfold rises; simp [h]
theorem rises_no {l : List Nat} (h : ¬ Rises l) : rises l = false := by unfold rises; simp [h]
theorem wrap_i64_small (n : Int) (h0 : 0 ≤ n) (h1 : n < 2 ^ 63) : IntKind.i64.wrap n = n := by
  simp [IntKind.wrap, IntKind.bits, IntKind.signed]; omega
set_option maxHeartbeats 400000 in
theorem rising_some (b off : Nat) (l : List Nat) (cap : Nat) (w : World) (hl : l.length ≤ maxLen) (hb : ∀ y ∈ l, y < 18446744073709551616)
    (hc : ∀ i, i < l.length → w.cell? ⟨b, off + i, none⟩ = some (.float .f64 (l.getD i 0))) :
    Calls Try.prog 48 #[.slice (some ⟨b, off, none⟩) l.length cap] w fun e w' => e = .returned (.bool (rises l)) ∧ ∃ n, w' = w.drewN n := by
  unfold maxLen at hl
  go_enter Try.func48, Try.ntmps48
  go_wp2
  go_loopw [3] (fun i wr => ∃ (k n : Nat), (k + 1 ≤ l.length ∨ k = 0) ∧ i = .int .i64 ((k : Int) + 1) ∧ Hid (∀ j, j < k → Fl.rk (l.getD j 0) < Fl.rk (l.getD (j + 1) 0)) ∧ wr = w.drewN n) (fun i _ => l.length + 1 - (intOf i).toNat)
  case atStart => exact ⟨0, 0, Or.inr rfl, rfl, fun j hj => absurd hj (Nat.not_lt_zero _), rfl⟩
  case round =>
    obtain ⟨k, n, hk, rfl, Hk, hwr⟩ := hrel
    have hc' : ∀ i, i < l.length → wr.cell? ⟨b, off + i, none⟩ = some (.float .f64 (l.getD i 0)) := by rw [hwr]; exact hc
    have HW : Hid _ := hwr
    clear hwr hc
    rename ∀ i, i < l.length → wr.cell? ⟨b, off + i, none⟩ = some (.float .f64 (l.getD i 0)) => hc
    by_cases hlt : k + 1 < l.length
    · obtain ⟨c, hcl, hcell, Hc⟩ : ∃ c, c < 18446744073709551616 ∧ wr.cell? ⟨b, off + k, none⟩ = some (.float .f64 c) ∧ Hid (c = l.getD k 0) := ⟨l.getD k 0, by rw [List.getD_eq_getElem?_getD, List.getElem?_eq_getElem (by omega)]; exact hb _ (List.getElem_mem (by omega)), hc k (by omega), rfl⟩
      obtain ⟨d, hdl, hdell, Hd⟩ : ∃ c, c < 18446744073709551616 ∧ wr.cell? ⟨b, off + (k + 1), none⟩ = some (.float .f64 c) ∧ Hid (c = l.getD (k + 1) 0) := ⟨l.getD (k + 1) 0, by rw [List.getD_eq_getElem?_getD, List.getElem?_eq_getElem (by omega)]; exact hb _ (List.getElem_mem (by omega)), hc (k + 1) (by omega), rfl⟩
      have h1 : Says 44 c d (decide (Fl.rk c < Fl.rk d)) := fun W => less_any c d W hcl hdl
      clear hc hb
      have e1 : IntKind.i64.wrap (k : Int) = (k : Int) := wrap_i64_small _ (by omega) (by omega)
      have e2 : ((k : Int) + 1).toNat = k + 1 := by omega
      have e3 : (k : Int) < (l.length : Int) := by omega
      have e4 : (k : Int) + 1 < (l.length : Int) := by omega
      have e5 : (0 : Int) ≤ (k : Int) + 1 := by omega
      by_cases ht : Fl.rk c < Fl.rk d
      · rw [decide_eq_true ht] at h1
        have HT : Hid (∀ j, j < k + 1 → Fl.rk (l.getD j 0) < Fl.rk (l.getD (j + 1) 0)) := by
          show ∀ j, j < k + 1 → _
          intro j hj
          by_cases hjk : j < k
          · exact Hk.out j hjk
          · have : j = k := by omega
            subst this
            rw [← Hc.out, ← Hd.out]; exact ht
        clear ht
        go_wp2_with fail
        go_quiet ((go_at_call 44; exact Calls.quiet_of_same (h1 _)))
        go_wp2
        go_round
        case rel => exact ⟨k + 1, _, by omega, by go_num, HT, by rw [HW.out, World.drewN_drewN]⟩
        case measure => simp [intOf]; omega
      · rw [decide_eq_false ht] at h1
        have HT : Hid (rises l = false) := rises_no fun h => ht (by rw [Hc.out, Hd.out]; exact h k hlt)
        clear ht
        go_wp2_with fail
        go_quiet ((go_at_call 44; exact Calls.quiet_of_same (h1 _)))
        go_wp2
        go_ret
        exact ⟨ret_bool HT.out.symm, _, by rw [HW.out, World.drewN_drewN]⟩
    · have hfin : Hid (rises l = true) := rises_yes fun j hj => Hk.out j (by omega)
      clear hc hb
      go_wp2
      go_ret
      exact ⟨ret_bool hfin.out.symm, _, HW.out⟩
set_option maxHeartbeats 400000 in
theorem refrising_some (b off : Nat) (l : List Nat) (cap : Nat) (w : World) (hl : l.length ≤ maxLen) (hb : ∀ y ∈ l, y < 18446744073709551616)
    (hc : ∀ i, i < l.length → w.cell? ⟨b, off + i, none⟩ = some (.float .f64 (l.getD i 0))) :
    Calls Try.prog 13 #[.slice (some ⟨b, off, none⟩) l.length cap] w fun e w' => e = .returned (.bool (rises l)) ∧ ∃ n, w' = w.drewN n := by
  unfold maxLen at hl
  go_enter Try.func13, Try.ntmps13
  go_wp2
  go_loopw [3] (fun i wr => ∃ (k n : Nat), (k + 1 ≤ l.length ∨ k = 0) ∧ i = .int .i64 ((k : Int) + 1) ∧ Hid (∀ j, j < k → Fl.rk (l.getD j 0) < Fl.rk (l.getD (j + 1) 0)) ∧ wr = w.drewN n) (fun i _ => l.length + 1 - (intOf i).toNat)
  case atStart => exact ⟨0, 0, Or.inr rfl, rfl, fun j hj => absurd hj (Nat.not_lt_zero _), rfl⟩
  case round =>
    obtain ⟨k, n, hk, rfl, Hk, hwr⟩ := hrel
    have hc' : ∀ i, i < l.length → wr.cell? ⟨b, off + i, none⟩ = some (.float .f64 (l.getD i 0)) := by rw [hwr]; exact hc
    have HW : Hid _ := hwr
    clear hwr hc
    rename ∀ i, i < l.length → wr.cell? ⟨b, off + i, none⟩ = some (.float .f64 (l.getD i 0)) => hc
    by_cases hlt : k + 1 < l.length
    · obtain ⟨c, hcl, hcell, Hc⟩ : ∃ c, c < 18446744073709551616 ∧ wr.cell? ⟨b, off + k, none⟩ = some (.float .f64 c) ∧ Hid (c = l.getD k 0) := ⟨l.getD k 0, by rw [List.getD_eq_getElem?_getD, List.getElem?_eq_getElem (by omega)]; exact hb _ (List.getElem_mem (by omega)), hc k (by omega), rfl⟩
      obtain ⟨d, hdl, hdell, Hd⟩ : ∃ c, c < 18446744073709551616 ∧ wr.cell? ⟨b, off + (k + 1), none⟩ = some (.float .f64 c) ∧ Hid (c = l.getD (k + 1) 0) := ⟨l.getD (k + 1) 0, by rw [List.getD_eq_getElem?_getD, List.getElem?_eq_getElem (by omega)]; exact hb _ (List.getElem_mem (by omega)), hc (k + 1) (by omega), rfl⟩
      have h1 : Says 29 c d (decide (Fl.rk c < Fl.rk d)) := fun W => ahead_any c d W hcl hdl
      clear hc hb
      have e1 : IntKind.i64.wrap (k : Int) = (k : Int) := wrap_i64_small _ (by omega) (by omega)
      have e2 : ((k : Int) + 1).toNat = k + 1 := by omega
      have e3 : (k : Int) < (l.length : Int) := by omega
      have e4 : (k : Int) + 1 < (l.length : Int) := by omega
      have e5 : (0 : Int) ≤ (k : Int) + 1 := by omega
      by_cases ht : Fl.rk c < Fl.rk d
      · rw [decide_eq_true ht] at h1
        have HT : Hid (∀ j, j < k + 1 → Fl.rk (l.getD j 0) < Fl.rk (l.getD (j + 1) 0)) := by
          show ∀ j, j < k + 1 → _
          intro j hj
          by_cases hjk : j < k
          · exact Hk.out j hjk
          · have : j = k := by omega
            subst this
            rw [← Hc.out, ← Hd.out]; exact ht
        clear ht
        go_wp2_with fail
        go_quiet ((go_at_call 29; exact Calls.quiet_of_same (h1 _)))
        go_wp2
        go_round
        case rel => exact ⟨k + 1, _, by omega, by go_num, HT, by rw [HW.out, World.drewN_drewN]⟩
        case measure => simp [intOf]; omega
      · rw [decide_eq_false ht] at h1
        have HT : Hid (rises l = false) := rises_no fun h => ht (by rw [Hc.out, Hd.out]; exact h k hlt)
        clear ht
        go_wp2_with fail
        go_quiet ((go_at_call 29; exact Calls.quiet_of_same (h1 _)))
        go_wp2
        go_ret
        exact ⟨ret_bool HT.out.symm, _, by rw [HW.out, World.drewN_drewN]⟩
    · have hfin : Hid (rises l = true) := rises_yes fun j hj => Hk.out j (by omega)
      clear hc hb
      go_wp2
      go_ret
      exact ⟨ret_bool hfin.out.symm, _, HW.out⟩
theorem rising_nil (ao : Option Addr) (cap : Nat) (w : World) : Calls Try.prog 48 #[.slice ao 0 cap] w fun e w' => e = .returned (.bool (rises [])) ∧ ∃ n, w' = w.drewN n := by
  have hfin : Hid (rises [] = true) := rises_yes fun j hj => absurd hj (by simp)
  go_enter Try.func48, Try.ntmps48
  go_wp2
  refine wp_loop_rounds 1 ?_
  rw [rounds_succ]
  go_wp2
  go_ret
  exact ⟨ret_bool hfin.out.symm, 0, rfl⟩
theorem refrising_nil (ao : Option Addr) (cap : Nat) (w : World) : Calls Try.prog 13 #[.slice ao 0 cap] w fun e w' => e = .returned (.bool (rises [])) ∧ ∃ n, w' = w.drewN n := by
  have hfin : Hid (rises [] = true) := rises_yes fun j hj => absurd hj (by simp)
  go_enter Try.func13, Try.ntmps13
  go_wp2
  refine wp_loop_rounds 1 ?_
  rw [rounds_succ]
  go_wp2
  go_ret
  exact ⟨ret_bool hfin.out.symm, 0, rfl⟩
theorem shard_nil (ao : Option Addr) (cap x : Nat) (w : World) : Calls Try.prog 43 #[.slice ao 0 cap, .float .f64 x] w fun e w' => e = .returned (.int .i64 0) ∧ w' = w := by
  go_enter Try.func43, Try.ntmps43
  go_wp2
  refine wp_loop_rounds 1 ?_
  rw [rounds_succ]
  go_wp2
  go_ret
  exact ⟨rfl, rfl⟩
theorem refshard_nil (ao : Option Addr) (cap x : Nat) (w : World) : Calls Try.prog 26 #[.slice ao 0 cap, .float .f64 x] w fun e w' => e = .returned (.int .i64 0) ∧ w' = w := by
  go_enter Try.func26, Try.ntmps26
  go_wp2
  refine wp_loop_rounds 1 ?_
  rw [rounds_succ]
  go_wp2
  go_ret
  exact ⟨rfl, rfl⟩
theorem rising_any (ao : Option Addr) (l : List Nat) (cap : Nat) (w : World) (h : FRow w ao l cap) :
    Calls Try.prog 48 #[.slice ao l.length cap] w fun e w' => e = .returned (.bool (rises l)) ∧ ∃ n, w' = w.drewN n := by
  obtain ⟨h1, h2, h3, h4⟩ := h
  by_cases hl : l = []
  · subst hl; exact rising_nil ao cap w
  · obtain ⟨b, off, rfl, hc⟩ := h4 hl; exact rising_some b off l cap w (Nat.le_trans h1 h2) h3 hc
theorem refrising_any (ao : Option Addr) (l : List Nat) (cap : Nat) (w : World) (h : FRow w ao l cap) :
    Calls Try.prog 13 #[.slice ao l.length cap] w fun e w' => e = .returned (.bool (rises l)) ∧ ∃ n, w' = w.drewN n := by
  obtain ⟨h1, h2, h3, h4⟩ := h
  by_cases hl : l = []
  · subst hl; exact refrising_nil ao cap w
  · obtain ⟨b, off, rfl, hc⟩ := h4 hl; exact refrising_some b off l cap w (Nat.le_trans h1 h2) h3 hc
theorem shard_any (ao : Option Addr) (l : List Nat) (cap x : Nat) (w : World) (hx : x < 18446744073709551616) (h : FRow w ao l cap) :
    Calls Try.prog 43 #[.slice ao l.length cap, .float .f64 x] w fun e w' => e = .returned (.int .i64 ((shard x l : Nat) : Int)) ∧ w' = w := by
  obtain ⟨h1, h2, h3, h4⟩ := h
  by_cases hl : l = []
  · subst hl; exact shard_nil ao cap x w
  · obtain ⟨b, off, rfl, hc⟩ := h4 hl; exact shard_some b off l cap x w hx (Nat.le_trans h1 h2) h3 hc
theorem refshard_any (ao : Option Addr) (l : List Nat) (cap x : Nat) (w : World) (hx : x < 18446744073709551616) (h : FRow w ao l cap) :
    Calls Try.prog 26 #[.slice ao l.length cap, .float .f64 x] w fun e w' => e = .returned (.int .i64 ((shard x l : Nat) : Int)) ∧ w' = w := by
  obtain ⟨h1, h2, h3, h4⟩ := h
  by_cases hl : l = []
  · subst hl; exact refshard_nil ao cap x w
  · obtain ⟨b, off, rfl, hc⟩ := h4 hl; exact refshard_some b off l cap x w hx (Nat.le_trans h1 h2) h3 hc
end Go.Proofs.Ytjbkmflbhlnbpaa
