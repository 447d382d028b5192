/- The program's log: its cells, and what it answers without a loop. -/
import Derived.Test.YtkkpdnholnkeoabEnt
namespace Go.Proofs.Ytkkpdnholnkeoab
open Go.RowKit

/-- A LOG at block gb. -/
structure Lg (w : World) (gb : Nat) (D : Nat → Prop) (base term voters : Nat) (es : List En) (v : Value) : Prop where
  c0 : w.cell? ⟨gb, 0, none⟩ = some (.int .u64 (base : Int))
  c1 : w.cell? ⟨gb, 1, none⟩ = some (.int .u64 (term : Int))
  c2 : w.cell? ⟨gb, 2, none⟩ = some (.int .u64 (voters : Int))
  c3 : w.cell? ⟨gb, 3, none⟩ = some v
  z0 : w.frozen? ⟨gb, 0, none⟩ = false
  z1 : w.frozen? ⟨gb, 1, none⟩ = false
  z2 : w.frozen? ⟨gb, 2, none⟩ = false
  z3 : w.frozen? ⟨gb, 3, none⟩ = false
  own : OwnE w D v es
  apart : ¬ D gb
  b0 : base < 18446744073709551616
  b1 : term < 18446744073709551616
  b2 : voters < 18446744073709551616
section
variable {w w1 : World} {gb : Nat} {D : Nat → Prop} {base term voters : Nat} {es : List En} {v : Value}
theorem Lg.lt (h : Lg w gb D base term voters es v) : gb < w.heap.size := World.block_lt_of_cell? _ _ h.c0
theorem Lg.fr {T : Nat → Prop} (h : Lg w gb D base term voters es v) (f : Fr T w w1) (hb : ¬ T gb) (hs : ∀ k, D k → ¬ T k) : Lg w1 gb D base term voters es v :=
  ⟨f.cell h.c0 hb, f.cell h.c1 hb, f.cell h.c2 hb, f.cell h.c3 hb, (f.frozenEq h.lt hb).trans h.z0, (f.frozenEq h.lt hb).trans h.z1, (f.frozenEq h.lt hb).trans h.z2, (f.frozenEq h.lt hb).trans h.z3, h.own.fr f hs, h.apart, h.b0, h.b1, h.b2⟩
theorem Fr.drewN {S : Nat → Prop} {w w1 : World} (h : Fr S w w1) (n : Nat) : Fr S w (w1.drewN n) := ⟨h.os, h.tape, h.output, h.size, h.block⟩
theorem Lg.drewN (h : Lg w gb D base term voters es v) (n : Nat) : Lg (w.drewN n) gb D base term voters es v := h.fr ((Fr.refl (fun _ => False) w).drewN n) (by simp) (by simp)

set_option maxHeartbeats 400000 in
theorem base_any (h : Lg w gb D base term voters es v) : Calls Try.prog 28 #[.pointer (some ⟨gb, 0, none⟩)] w fun e w' => e = .returned (.int .u64 (base : Int)) ∧ w' = w := by
  have c0 := h.c0
  clear h
  go_enter Try.func28, Try.ntmps28
  go_wp2
  go_ret
  exact ⟨rfl, rfl⟩
set_option maxHeartbeats 400000 in
theorem last_any (h : Lg w gb D base term voters es v) (hb : base + es.length < 18446744073709551616) : Calls Try.prog 19 #[.pointer (some ⟨gb, 0, none⟩)] w fun e w' => e = .returned (.int .u64 ((base + es.length : Nat) : Int)) ∧ ∃ n, w' = w.drewN n := by
  have c0 := h.c0
  have c3 := h.c3
  obtain ⟨ao, cap, rfl, hl⟩ := h.own.form
  have b0 := h.b0
  clear h
  go_enter Try.func19, Try.ntmps19
  go_wp2_with fail
  go_quiet (fail)
  go_wp2
  go_ret
  exact ⟨ret_int (by omega), _, rfl⟩
set_option maxHeartbeats 400000 in
theorem place_low (h : Lg w gb D base term voters es v) (i : Nat) (hi : i ≤ base) : Calls Try.prog 39 #[.pointer (some ⟨gb, 0, none⟩), .int .u64 (i : Int)] w fun e w' => e = .returned (.tuple #[.int .i64 0, .bool false]) ∧ ∃ n, w' = w.drewN n := by
  have c0 := h.c0
  clear h
  go_enter Try.func39, Try.ntmps39
  go_wp2
  go_ret2
  exact ⟨rfl, 0, rfl⟩
set_option maxHeartbeats 400000 in
theorem place_high (h : Lg w gb D base term voters es v) (hb : base + es.length < 18446744073709551616) (i : Nat) (hi : base + es.length < i) : Calls Try.prog 39 #[.pointer (some ⟨gb, 0, none⟩), .int .u64 (i : Int)] w fun e w' => e = .returned (.tuple #[.int .i64 0, .bool false]) ∧ ∃ n, w' = w.drewN n := by
  have c0 := h.c0
  have K : Hid (Calls _ _ _ _ _) := last_any h hb
  have hi2 : ¬ i ≤ base := by omega
  obtain ⟨z, Hz⟩ : ∃ z, Hid (base + es.length = z) := ⟨_, rfl⟩
  rw [Hz.out] at K hi
  clear h
  go_enter Try.func39, Try.ntmps39
  go_wp2_with fail
  refine K.out.mono ?_
  rintro e w1 ⟨rfl, n, rfl⟩
  go_wp2
  go_ret2
  exact ⟨rfl, n, rfl⟩
set_option maxHeartbeats 400000 in
theorem place_in (h : Lg w gb D base term voters es v) (hb : base + es.length < 18446744073709551616) (m : Nat) (hm : m < es.length) (i : Nat) (hi : i = base + 1 + m) : Calls Try.prog 39 #[.pointer (some ⟨gb, 0, none⟩), .int .u64 (i : Int)] w fun e w' => e = .returned (.tuple #[.int .i64 (m : Int), .bool true]) ∧ ∃ n, w' = w.drewN n := by
  have K : Hid (Calls _ _ _ _ _) := last_any h hb
  have hi1 : i ≤ base + es.length := by omega
  have hi2 : ¬ i ≤ base := by omega
  have hl : es.length ≤ 9223372036854775807 := by obtain ⟨_, _, _, hl, _⟩ := h.own.form; exact hl
  have c0 := h.c0
  have c0' : ∀ n, (w.drewN n).cell? ⟨gb, 0, none⟩ = some (.int .u64 (base : Int)) := fun n => c0
  obtain ⟨z, Hz⟩ : ∃ z, Hid (base + es.length = z) := ⟨_, rfl⟩
  rw [Hz.out] at K hi1
  have HI : Hid (i = base + 1 + m) := hi
  have e1 : (i : Int) - (base : Int) - 1 = (m : Int) := by omega
  have e2 : (i : Int) - (base : Int) = (m : Int) + 1 := by omega
  have hm2 : m ≤ 9223372036854775806 := by omega
  clear h hb hi hm hl
  go_enter Try.func39, Try.ntmps39
  go_wp2_with fail
  refine K.out.mono ?_
  rintro e w1 ⟨rfl, n, rfl⟩
  have c1 := c0' n
  go_wp2
  go_ret2
  exact ⟨by simp, n, rfl⟩
end
end Go.Proofs.Ytkkpdnholnkeoab
