/- What a plan tells of numbers and spans. -/
import Derived.Test.YtjbkmflbhlnbpaaCfgE
import Derived.Test.YtjbkmflbhlnbpaaRise
import Derived.Deep.RegionHeld3
namespace Go.Proofs.Ytjbkmflbhlnbpaa
open Go.RowKit

set_option maxHeartbeats 1000000 in
theorem ahead_small (i : Nat) (h : i ≤ 8) (w : World) : Calls Try.prog 42 #[.int .i64 (i : Int)] w fun e w' => e = .returned (.int .u64 ((2 ^ i - 1 : Nat) : Int)) ∧ w' = w := by
  have hi : i = 0 ∨ i = 1 ∨ i = 2 ∨ i = 3 ∨ i = 4 ∨ i = 5 ∨ i = 6 ∨ i = 7 ∨ i = 8 := by omega
  rcases hi with rfl | rfl | rfl | rfl | rfl | rfl | rfl | rfl | rfl <;>
  · go_enter Try.func42, Try.ntmps42
    go_wp2
    go_ret
    exact ⟨ret_int (by decide), rfl⟩
/-- the bits from one place to another, of those ahead of k. -/
def spn (a b : Nat) : Nat → Nat
  | 0 => 0
  | k + 1 => spn a b k + (if a ≤ k ∧ k ≤ b then 2 ^ k else 0)
theorem spn_andnot : ∀ a, a < 8 → ∀ b, b < 8 → bits .andNot .u64 ((2 ^ (b + 1) - 1 : Nat) : Int) ((2 ^ a - 1 : Nat) : Int) = ((spn a b 8 : Nat) : Int) := by decide +kernel
theorem spn_or : ∀ a, a < 8 → ∀ b, b < 8 → ∀ k, k < 8 → bits .or .u64 ((spn a b k : Nat) : Int) ((2 ^ k : Nat) : Int) = ((spn a b k + 2 ^ k : Nat) : Int) := by decide +kernel
theorem spn_stop : ∀ a, a < 8 → ∀ b, b < 8 → ∀ n, n < 8 → b ≤ n → spn a b (n + 1) = spn a b 8 := by decide +kernel
theorem spn_lt : ∀ a, a < 8 → ∀ b, b < 8 → ∀ k, k < 9 → spn a b k < 256 := by decide +kernel
theorem shard_at (ao : Option Addr) (l : List Nat) (cap cp x : Nat) (w : World) (hx : x < 18446744073709551616) (h : FRow w ao l cp) :
    Calls Try.prog 43 #[.slice ao l.length cap, .float .f64 x] w fun e w' => e = .returned (.int .i64 ((shard x l : Nat) : Int)) ∧ w' = w := by
  obtain ⟨h1, h2, h3, h4⟩ := h
  by_cases hl : l = []
  · subst hl; exact shard_nil ao cap x w
  · obtain ⟨b, off, rfl, hc⟩ := h4 hl; exact shard_some b off l cap x w hx (Nat.le_trans h1 h2) h3 hc
section
variable {w : World} {p : Nat} {l cl : List Nat} {nodes : Int} {ao : Option Addr} {cap cp : Nat}
set_option maxHeartbeats 400000 in
theorem pshard_any (h : PlanAt w p l nodes (.slice ao cl.length cap)) (hf : FRow w ao cl cp) (x : Nat) (hx : x < 18446744073709551616) : Calls Try.prog 25 #[.pointer (some ⟨p, 0, none⟩), .float .f64 x] w fun e w' => e = .returned (.int .i64 ((shard x cl : Nat) : Int)) ∧ w' = w := by
  have c2 := h.c2
  have k := shard_at ao cl cap cp x w hx hf
  have HK : Hid (Calls _ _ _ _ _) := k
  clear h k hf
  go_enter Try.func25, Try.ntmps25
  go_wp2_with fail
  refine HK.out.mono ?_
  rintro e w9 ⟨rfl, hw⟩
  subst w9
  go_wp2
  go_ret
  exact ⟨rfl, rfl⟩
theorem PlanAt.drewN {cv : Value} (h : PlanAt w p l nodes cv) (q : Nat) : PlanAt (w.drewN q) p l nodes cv := h.fr ((Fr.refl _ _).drewN q)
theorem FRow.drewN (h : FRow w ao cl cp) (q : Nat) : FRow (w.drewN q) ao cl cp := h.fr ((Fr.refl _ _).drewN q)
set_option maxRecDepth 100000 in
set_option maxHeartbeats 2000000 in
theorem span_any (h : PlanAt w p l nodes (.slice ao cl.length cap)) (hf : FRow w ao cl cp) (hn : cl.length ≤ 7) (lb : Int) (x y : Nat) (hx : x < 18446744073709551616) (hy : y < 18446744073709551616) :
    Calls Try.prog 27 #[.pointer (some ⟨p, 0, none⟩), .agg #[.int .i64 lb, .float .f64 x, .float .f64 y]] w fun e w' => e = .returned (.int .u64 ((if Fl.rk y < Fl.rk x then 0 else spn (shard x cl) (shard y cl) 8 : Nat) : Int)) ∧ Fr (fun _ => False) w w' := by
  have f0 := (Fr.refl (fun _ => False) w).alloc (.cells #[.int .i64 lb, .float .f64 x, .float .f64 y] 47)
  have ha := shard_le x cl
  have hb := shard_le y cl
  have kx : ∀ q, Calls Try.prog 25 #[.pointer (some ⟨p, 0, none⟩), .float .f64 x] ((w.alloc (.cells #[.int .i64 lb, .float .f64 x, .float .f64 y] 47)).drewN q) _ := fun q => pshard_any ((h.fr f0).drewN q) ((hf.fr f0).drewN q) x hx
  have ky : ∀ q, Calls Try.prog 25 #[.pointer (some ⟨p, 0, none⟩), .float .f64 y] ((w.alloc (.cells #[.int .i64 lb, .float .f64 x, .float .f64 y] 47)).drewN q) _ := fun q => pshard_any ((h.fr f0).drewN q) ((hf.fr f0).drewN q) y hy
  have kl := less_any y x (w.alloc (.cells #[.int .i64 lb, .float .f64 x, .float .f64 y] 47)) hy hx
  generalize shard x cl = a at *
  generalize shard y cl = b at *
  have ka : ∀ q, Calls Try.prog 42 #[.int .i64 (a : Int)] ((w.alloc (.cells #[.int .i64 lb, .float .f64 x, .float .f64 y] 47)).drewN q) _ := fun q => ahead_small a (by omega) _
  have kb : ∀ q, Calls Try.prog 42 #[.int .i64 ((b + 1 : Nat) : Int)] ((w.alloc (.cells #[.int .i64 lb, .float .f64 x, .float .f64 y] 47)).drewN q) _ := fun q => ahead_small (b + 1) (by omega) _
  have hand := spn_andnot a (by omega) b (by omega)
  obtain ⟨A, HA⟩ : ∃ A : Nat, Hid ((2 ^ (b + 1) - 1 : Nat) = A) := ⟨_, rfl⟩
  obtain ⟨B, HB⟩ : ∃ B : Nat, Hid ((2 ^ a - 1 : Nat) = B) := ⟨_, rfl⟩
  rw [HA.out, HB.out] at hand
  rw [HB.out] at ka
  rw [HA.out] at kb
  obtain ⟨sp, Hsp⟩ : ∃ s, Hid (spn a b 8 = s) := ⟨_, rfl⟩
  rw [Hsp.out] at hand ⊢
  have eb : (b : Int) + 1 = ((b + 1 : Nat) : Int) := by omega
  have hb7 : b ≤ 7 := by omega
  obtain ⟨b1, Hb1⟩ : ∃ b1, Hid (b + 1 = b1) := ⟨_, rfl⟩
  rw [Hb1.out] at kb eb
  have HKX : Hid (∀ (q z r : Nat), ((z = x ∧ r = a) ∨ (z = y ∧ r = b)) → Calls Try.prog 25 #[.pointer (some ⟨p, 0, none⟩), .float .f64 z] ((w.alloc (.cells #[.int .i64 lb, .float .f64 x, .float .f64 y] 47)).drewN q) fun e w' => e = .returned (.int .i64 (r : Int)) ∧ w' = (w.alloc (.cells #[.int .i64 lb, .float .f64 x, .float .f64 y] 47)).drewN q) := fun q z r h => by
    rcases h with ⟨rfl, rfl⟩ | ⟨rfl, rfl⟩
    · exact kx q
    · exact ky q
  have HKA : Hid (∀ (q i r : Nat), ((i = a ∧ r = B) ∨ (i = b1 ∧ r = A)) → Calls Try.prog 42 #[.int .i64 (i : Int)] ((w.alloc (.cells #[.int .i64 lb, .float .f64 x, .float .f64 y] 47)).drewN q) fun e w' => e = .returned (.int .u64 (r : Int)) ∧ w' = (w.alloc (.cells #[.int .i64 lb, .float .f64 x, .float .f64 y] 47)).drewN q) := fun q i r h => by
    rcases h with ⟨rfl, rfl⟩ | ⟨rfl, rfl⟩
    · exact ka q
    · exact kb q
  clear h hf kx ky ka kb
  by_cases hl : Fl.rk y < Fl.rk x
  · rw [decide_eq_true hl] at kl
    rw [if_pos hl]
    clear hl
    go_enter Try.func27, Try.ntmps27
    go_wp2_with fail
    refine kl.mono ?_
    rintro e w9 ⟨rfl, hw⟩
    subst w9
    go_wp2
    go_ret
    exact ⟨rfl, f0⟩
  · rw [decide_eq_false hl] at kl
    rw [if_neg hl]
    clear hl
    go_enter Try.func27, Try.ntmps27
    go_wp2_with fail
    refine kl.mono ?_
    rintro e w9 ⟨rfl, hw⟩
    subst w9
    go_wp2_with fail
    go_quiet (first | (go_at_call 25; refine Calls.quiet_of_same (HKX.out _ _ _ (by first | exact Or.inl ⟨rfl, rfl⟩ | exact Or.inr ⟨rfl, rfl⟩))) | (go_at_call 42; refine Calls.quiet_of_same (HKA.out _ _ _ (by first | exact Or.inl ⟨rfl, rfl⟩ | exact Or.inr ⟨rfl, rfl⟩))))
    go_wp2
    go_ret
    exact ⟨rfl, f0.drewN _⟩
end
end Go.Proofs.Ytjbkmflbhlnbpaa
