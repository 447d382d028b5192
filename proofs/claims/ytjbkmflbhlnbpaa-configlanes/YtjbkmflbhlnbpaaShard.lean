/- The statement NumberShards, walked: whatever the cuts and the number, it answers true and writes nothing that was there. -/
import Derived.Test.YtjbkmflbhlnbpaaNum
import Derived.Deep.QuietTactic
import Derived.BigQuiet
namespace Go.Proofs.Ytjbkmflbhlnbpaa
open Go.RowKit

/-- what a comparison of two numbers answers. -/
def Says (f a b : Nat) (t : Bool) : Prop := ∀ W, Calls Try.prog f #[.float .f64 a, .float .f64 b] W fun e w' => e = .returned (.bool t) ∧ w' = W
/-- NUMBERS IN MEMORY: a slice's first cells. -/
def FRow (w : World) (ao : Option Addr) (l : List Nat) (cap : Nat) : Prop :=
  l.length ≤ cap ∧ cap ≤ maxLen ∧ (∀ x ∈ l, x < 18446744073709551616) ∧
  (l ≠ [] → ∃ b off, ao = some ⟨b, off, none⟩ ∧ ∀ i, i < l.length → w.cell? ⟨b, off + i, none⟩ = some (.float .f64 (l.getD i 0)))
theorem FRow.fr {w w1 : World} {ao : Option Addr} {l : List Nat} {cap : Nat} (h : FRow w ao l cap) (f : Fr (fun _ => False) w w1) : FRow w1 ao l cap := by
  obtain ⟨h1, h2, h3, h4⟩ := h
  refine ⟨h1, h2, h3, fun hl => ?_⟩
  obtain ⟨b, off, rfl, hc⟩ := h4 hl
  exact ⟨b, off, rfl, fun i hi => f.cell (hc i hi) (by simp)⟩
/-- how many stand at x, or below. -/
def shard (x : Nat) : List Nat → Nat
  | [] => 0
  | c :: l => shard x l + (if Fl.rk x < Fl.rk c then 0 else 1)
theorem shard_le (x : Nat) (l : List Nat) : shard x l ≤ l.length := by
  induction l with
  | nil => simp [shard]
  | cons c l ih => simp only [shard, List.length_cons]; split <;> omega
theorem shard_snoc (x c : Nat) (l : List Nat) : shard x (l ++ [c]) = shard x l + (if Fl.rk x < Fl.rk c then 0 else 1) := by
  induction l with
  | nil => simp [shard]
  | cons d l ih => simp only [List.cons_append, shard, ih]; omega
theorem shard_take (x : Nat) (l : List Nat) (k : Nat) (h : k < l.length) : shard x (l.take (k + 1)) = shard x (l.take k) + (if Fl.rk x < Fl.rk (l.getD k 0) then 0 else 1) := by
  rw [List.take_succ_eq_append_getElem h, shard_snoc]
  simp [h]
set_option maxHeartbeats 400000 in
theorem shard_some (b off : Nat) (l : List Nat) (cap x : Nat) (w : World) (hx : x < 18446744073709551616) (hl : l.length ≤ maxLen) (hb : ∀ y ∈ l, y < 18446744073709551616)
    (hc : ∀ i, i < l.length → w.cell? ⟨b, off + i, none⟩ = some (.float .f64 (l.getD i 0))) :
    Calls Try.prog 43 #[.slice (some ⟨b, off, none⟩) l.length cap, .float .f64 x] w fun e w' => e = .returned (.int .i64 ((shard x l : Nat) : Int)) ∧ w' = w := by
  unfold maxLen at hl
  go_enter Try.func43, Try.ntmps43
  go_wp2
  go_loop [5, 10] (fun t i => ∃ k n : Nat, k ≤ l.length ∧ i = .int .i64 (k : Int) ∧ t = .int .i64 (n : Int) ∧ n ≤ k ∧ Hid (n = shard x (l.take k))) (fun _ i => l.length - (intOf i).toNat)
  case atStart => exact ⟨0, 0, Nat.zero_le _, rfl, rfl, Nat.le_refl _, rfl⟩
  case round =>
    obtain ⟨k, n, hk, rfl, rfl, hn, Hn⟩ := hrel
    by_cases hlt : k < l.length
    · obtain ⟨c, hcl, hcell, Hc⟩ : ∃ c, c < 18446744073709551616 ∧ w.cell? ⟨b, off + k, none⟩ = some (.float .f64 c) ∧ Hid (c = l.getD k 0) := ⟨l.getD k 0, by rw [List.getD_eq_getElem?_getD, List.getElem?_eq_getElem hlt]; exact hb _ (List.getElem_mem hlt), hc k hlt, rfl⟩
      have h1 : Says 44 x c (decide (Fl.rk x < Fl.rk c)) := fun W => less_any x c W hx hcl
      have hst := shard_take x l k hlt
      rw [← Hc.out, ← Hn.out] at hst
      have HS : Hid _ := hst
      clear hst hc hb
      by_cases ht : Fl.rk x < Fl.rk c
      · rw [decide_eq_true ht] at h1
        have HT : Hid (shard x (l.take (k + 1)) = n) := by have := HS.out; rw [if_pos ht] at this; exact this
        clear ht
        go_wp2_with fail
        refine (h1 _).mono ?_
        rintro e w2 ⟨rfl, hw⟩
        subst w2
        go_wp2
        go_round
        case rel => exact ⟨k + 1, n, by omega, by go_num, rfl, by omega, HT.out.symm⟩
        case measure => simp [intOf]; omega
      · rw [decide_eq_false ht] at h1
        have HT : Hid (shard x (l.take (k + 1)) = n + 1) := by have := HS.out; rw [if_neg ht] at this; exact this
        clear ht
        go_wp2_with fail
        refine (h1 _).mono ?_
        rintro e w2 ⟨rfl, hw⟩
        subst w2
        go_wp2
        go_round
        case rel => exact ⟨k + 1, n + 1, by omega, by go_num, by go_num, by omega, HT.out.symm⟩
        case measure => simp [intOf]; omega
    · have hkl : k = l.length := by omega
      have hfin : Hid (n = shard x l) := by show n = _; rw [Hn.out, hkl, List.take_length]
      clear hkl
      go_wp2
      go_ret
      exact ⟨ret_int (by rw [hfin.out]), rfl⟩
set_option maxHeartbeats 400000 in
theorem refshard_some (b off : Nat) (l : List Nat) (cap x : Nat) (w : World) (hx : x < 18446744073709551616) (hl : l.length ≤ maxLen) (hb : ∀ y ∈ l, y < 18446744073709551616)
    (hc : ∀ i, i < l.length → w.cell? ⟨b, off + i, none⟩ = some (.float .f64 (l.getD i 0))) :
    Calls Try.prog 26 #[.slice (some ⟨b, off, none⟩) l.length cap, .float .f64 x] w fun e w' => e = .returned (.int .i64 ((shard x l : Nat) : Int)) ∧ w' = w := by
  unfold maxLen at hl
  go_enter Try.func26, Try.ntmps26
  go_wp2
  go_loop [5, 6] (fun t i => ∃ k n : Nat, k ≤ l.length ∧ i = .int .i64 (k : Int) ∧ t = .int .i64 (n : Int) ∧ n ≤ k ∧ Hid (n = shard x (l.take k))) (fun _ i => l.length - (intOf i).toNat)
  case atStart => exact ⟨0, 0, Nat.zero_le _, rfl, rfl, Nat.le_refl _, rfl⟩
  case round =>
    obtain ⟨k, n, hk, rfl, rfl, hn, Hn⟩ := hrel
    by_cases hlt : k < l.length
    · obtain ⟨c, hcl, hcell, Hc⟩ : ∃ c, c < 18446744073709551616 ∧ w.cell? ⟨b, off + k, none⟩ = some (.float .f64 c) ∧ Hid (c = l.getD k 0) := ⟨l.getD k 0, by rw [List.getD_eq_getElem?_getD, List.getElem?_eq_getElem hlt]; exact hb _ (List.getElem_mem hlt), hc k hlt, rfl⟩
      have h1 : Says 29 x c (decide (Fl.rk x < Fl.rk c)) := fun W => ahead_any x c W hx hcl
      have hst := shard_take x l k hlt
      rw [← Hc.out, ← Hn.out] at hst
      have HS : Hid _ := hst
      clear hst hc hb
      by_cases ht : Fl.rk x < Fl.rk c
      · rw [decide_eq_true ht] at h1
        have HT : Hid (shard x (l.take (k + 1)) = n) := by have := HS.out; rw [if_pos ht] at this; exact this
        clear ht
        go_wp2_with fail
        refine (h1 _).mono ?_
        rintro e w2 ⟨rfl, hw⟩
        subst w2
        go_wp2
        go_round
        case rel => exact ⟨k + 1, n, by omega, by go_num, rfl, by omega, HT.out.symm⟩
        case measure => simp [intOf]; omega
      · rw [decide_eq_false ht] at h1
        have HT : Hid (shard x (l.take (k + 1)) = n + 1) := by have := HS.out; rw [if_neg ht] at this; exact this
        clear ht
        go_wp2_with fail
        refine (h1 _).mono ?_
        rintro e w2 ⟨rfl, hw⟩
        subst w2
        go_wp2
        go_round
        case rel => exact ⟨k + 1, n + 1, by omega, by go_num, by go_num, by omega, HT.out.symm⟩
        case measure => simp [intOf]; omega
    · have hkl : k = l.length := by omega
      have hfin : Hid (n = shard x l) := by show n = _; rw [Hn.out, hkl, List.take_length]
      clear hkl
      go_wp2
      go_ret
      exact ⟨ret_int (by rw [hfin.out]), rfl⟩
end Go.Proofs.Ytjbkmflbhlnbpaa
