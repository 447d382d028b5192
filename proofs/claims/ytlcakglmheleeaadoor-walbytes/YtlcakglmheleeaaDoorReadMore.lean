/- The program's reader: counts, bytes, truths, its end, and how one is made. -/
import Derived.Test.YtlcakglmheleeaaDoorReadNum
namespace Go.Proofs.YtlcakglmheleeaaDoor
open Go.RowKit

theorem count_nil (w : World) (most : Int) (_hi : most ≤ 9223372036854775807) : Calls Tryd.prog 45 #[.pointer none, .int .i64 most] w fun e w' => e = .returned (.int .i64 0) ∧ w' = w := by
  by_cases hm : most < 0
  · go_enter Tryd.func45, Tryd.ntmps45
    go_wp2_with fail
    refine (rnum_nil w 4).mono ?_
    rintro e w1 ⟨rfl, hw1⟩
    subst w1
    go_wp2
    go_end0
    go_wp2
    go_ret
    exact ⟨rfl, rfl⟩
  · obtain ⟨m, rfl⟩ := Int.eq_ofNat_of_zero_le (show 0 ≤ most by omega)
    go_enter Tryd.func45, Tryd.ntmps45
    go_wp2_with fail
    refine (rnum_nil w 4).mono ?_
    rintro e w1 ⟨rfl, hw1⟩
    subst w1
    go_wp2
    go_ret
    exact ⟨rfl, rfl⟩
/-- too few bytes. -/
theorem count_short (w : World) (rb : Nat) (ao : Option Addr) (l : List Nat) (cap : Nat) (bad : Bool) (most : Int) (_hi : most ≤ 9223372036854775807) (h : Rd w rb ao l cap bad) (hl : l.length < 4) : Calls Tryd.prog 45 #[.pointer (some ⟨rb, 0, none⟩), .int .i64 most] w fun e w' =>
    e = .returned (.int .i64 0) ∧ Rd w' rb none [] 0 true ∧ Fr (fun k => k = rb) w w' := by
  by_cases hm : most < 0
  · go_enter Tryd.func45, Tryd.ntmps45
    go_wp2_with fail
    refine (rnum_bad w rb ao l cap bad 4 h (.inr (by omega))).mono ?_
    rintro e w1 ⟨rfl, h1, h2⟩
    go_wp2_with fail
    refine (fail_any w1 rb none [] 0 true h1).mono ?_
    rintro e w2 ⟨rfl, h3, h4⟩
    go_wp2
    go_ret
    exact ⟨rfl, h3, h2.trans h4⟩
  · obtain ⟨m, rfl⟩ := Int.eq_ofNat_of_zero_le (show 0 ≤ most by omega)
    go_enter Tryd.func45, Tryd.ntmps45
    go_wp2_with fail
    refine (rnum_bad w rb ao l cap bad 4 h (.inr (by omega))).mono ?_
    rintro e w1 ⟨rfl, h1, h2⟩
    go_wp2
    go_ret
    exact ⟨rfl, h1, h2⟩
theorem num4_lt {w : World} {rb : Nat} {ao : Option Addr} {l : List Nat} {cap : Nat} {bad : Bool} (h : Rd w rb ao l cap bad) (n : Nat) (hl : n ≤ l.length) : Crc.num (l.take n) < 256 ^ n := by
  have := Crc.num_lt (l.take n) (fun x hx => h.row.2.2.1 x (List.mem_of_mem_take hx))
  rwa [show (l.take n).length = n by simp; omega] at this
/-- more than may be. -/
theorem count_much (w : World) (rb : Nat) (ao : Option Addr) (l : List Nat) (cap : Nat) (most : Int) (h : Rd w rb ao l cap false) (hl : 4 ≤ l.length) (_hi : most ≤ 9223372036854775807) (hm : most < 0 ∨ most < (Crc.num (l.take 4) : Int)) : Calls Tryd.prog 45 #[.pointer (some ⟨rb, 0, none⟩), .int .i64 most] w fun e w' =>
    e = .returned (.int .i64 0) ∧ Rd w' rb none [] 0 true ∧ Fr (fun k => k = rb) w w' := by
  have hlt := num4_lt h 4 hl
  have hnum := rnum_ok w rb ao l cap 4 h hl (by omega)
  generalize Crc.num (l.take 4) = q at *
  by_cases hz : most < 0
  · clear hm
    go_enter Tryd.func45, Tryd.ntmps45
    go_wp2_with fail
    refine hnum.mono ?_
    rintro e w1 ⟨rfl, a1, h1, h2, h3⟩
    go_wp2_with fail
    refine (fail_any w1 rb _ _ _ _ h1).mono ?_
    rintro e w2 ⟨rfl, h4, h5⟩
    go_wp2
    go_ret
    exact ⟨rfl, h4, h2.trans h5⟩
  · have hm2 : most < (q : Int) := by omega
    clear hm
    obtain ⟨m, rfl⟩ := Int.eq_ofNat_of_zero_le (show 0 ≤ most by omega)
    go_enter Tryd.func45, Tryd.ntmps45
    go_wp2_with fail
    refine hnum.mono ?_
    rintro e w1 ⟨rfl, a1, h1, h2, h3⟩
    go_wp2_with fail
    refine (fail_any w1 rb _ _ _ _ h1).mono ?_
    rintro e w2 ⟨rfl, h4, h5⟩
    go_wp2
    go_ret
    exact ⟨rfl, h4, h2.trans h5⟩
theorem count_ok (w : World) (rb : Nat) (ao : Option Addr) (l : List Nat) (cap : Nat) (m : Nat) (h : Rd w rb ao l cap false) (hl : 4 ≤ l.length) (_hi : m ≤ 9223372036854775807) (hm : Crc.num (l.take 4) ≤ m) : Calls Tryd.prog 45 #[.pointer (some ⟨rb, 0, none⟩), .int .i64 (m : Int)] w fun e w' =>
    e = .returned (.int .i64 (Crc.num (l.take 4) : Int)) ∧ ∃ a1, Rd w' rb a1 (l.drop 4) (cap - 4) false ∧ Fr (fun k => k = rb) w w' ∧ ∀ a, a1 = some a → ∃ a0, ao = some a0 ∧ a.block = a0.block := by
  have hlt := num4_lt h 4 hl
  have hnum := rnum_ok w rb ao l cap 4 h hl (by omega)
  generalize Crc.num (l.take 4) = q at *
  go_enter Tryd.func45, Tryd.ntmps45
  go_wp2_with fail
  refine hnum.mono ?_
  rintro e w1 ⟨rfl, a1, h1, h2, h3⟩
  go_wp2
  go_ret
  exact ⟨rfl, a1, h1, h2, h3⟩

theorem bytes_nil (w : World) (most : Int) (hi : most ≤ 9223372036854775807) : Calls Tryd.prog 65 #[.pointer none, .int .i64 most] w fun e w' => ∃ a1, e = .returned (.slice a1 0 0) ∧ Fresh w w' a1 [] ∧ Fr (fun _ => False) w w' := by
  go_enter Tryd.func65, Tryd.ntmps65
  go_wp2_with fail
  refine (count_nil w most hi).mono ?_
  rintro e w1 ⟨rfl, hw1⟩
  subst w1
  go_wp2_with fail
  refine (take_nilr w 0).mono ?_
  rintro e w1 ⟨rfl, hw1⟩
  subst w1
  go_wp2_with fail
  refine (own_any none [] 0 w (row_nil w) (by simp)).mono ?_
  rintro e w1 ⟨a1, rfl, h1, h2⟩
  go_wp2
  go_ret
  exact ⟨a1, rfl, h1, h2⟩
/-- a length that is none. -/
theorem bytes_bad (w : World) (rb : Nat) (ao : Option Addr) (l : List Nat) (cap : Nat) (bad : Bool) (most : Int) (h : Rd w rb ao l cap bad) (hi : most ≤ 9223372036854775807) (hb : l.length < 4 ∨ (bad = false ∧ 4 ≤ l.length ∧ (most < 0 ∨ most < (Crc.num (l.take 4) : Int)))) : Calls Tryd.prog 65 #[.pointer (some ⟨rb, 0, none⟩), .int .i64 most] w fun e w' =>
    ∃ a1, e = .returned (.slice a1 0 0) ∧ Fresh w w' a1 [] ∧ Rd w' rb none [] 0 true ∧ Fr (fun k => k = rb) w w' := by
  have hc : Calls Tryd.prog 45 #[.pointer (some ⟨rb, 0, none⟩), .int .i64 most] w fun e w' => e = .returned (.int .i64 0) ∧ Rd w' rb none [] 0 true ∧ Fr (fun k => k = rb) w w' := by
    rcases hb with hb | ⟨rfl, hl, hb⟩
    · exact count_short w rb ao l cap bad most hi h hb
    · exact count_much w rb ao l cap most h hl hi hb
  clear hb
  go_enter Tryd.func65, Tryd.ntmps65
  go_wp2_with fail
  refine hc.mono ?_
  rintro e w1 ⟨rfl, h1, h2⟩
  go_wp2_with fail
  refine (take_none w1 rb none [] 0 h1).mono ?_
  rintro e w2 ⟨rfl, hw2⟩
  subst w2
  go_wp2_with fail
  refine (own_any none [] 0 w1 (row_nil w1) (by simp)).mono ?_
  rintro e w2 ⟨a1, rfl, h3, h4⟩
  go_wp2
  go_ret
  exact ⟨a1, rfl, ⟨h3.1, fun a ha => by have := h3.2 a ha; have hs := h2.size; exact ⟨by omega, this.2⟩⟩, h1.fr h4 (by simp) (by simp), h2.trans (h4.mono (fun _ _ h => h.elim))⟩
end Go.Proofs.YtlcakglmheleeaaDoor
